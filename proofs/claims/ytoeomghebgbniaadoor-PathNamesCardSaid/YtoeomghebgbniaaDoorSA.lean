/- Words of 32 bits as the walk spells them, and plain facts on them. No conditions. -/
import Derived.Test.YtoeomghebgbniaaDoorProg
import Derived.WalkKit
import Derived.WalkSpells
import Derived.WalkLawsBesides
namespace Go.Proofs.YtoeomghebgbniaaDoor.Sha
open Go.RowKit

theorem hid {p : Prop} (h : p) : Hid p := h
/-- A word's number. -/
def u (x : BitVec 32) : Int := (x.toNat : Int)
def rotR (x : BitVec 32) (n : Nat) : BitVec 32 := x.rotateRight n
def shR (x : BitVec 32) (n : Nat) : BitVec 32 := x >>> n
theorem u_nonneg (x : BitVec 32) : 0 ≤ u x := by unfold u; omega
theorem u_lt (x : BitVec 32) : u x < 4294967296 := by have := x.isLt; unfold u; omega
theorem u_inj {x y : BitVec 32} (h : u x = u y) : x = y := by
  unfold u at h; exact BitVec.eq_of_toNat_eq (by omega)
theorem wrap32 (x : Int) : IntKind.u32.wrap x = x % 4294967296 := by
  simp [IntKind.wrap, IntKind.signed, IntKind.bits]
theorem nat32 (v : BitVec 32) : ((v.toNat : Int) % 4294967296) = v.toNat := by have := v.isLt; omega
theorem xor32 (x y : BitVec 32) : bits .xor .u32 (u x) (u y) = u (x ^^^ y) := by
  unfold bits u; rw [wrap32]; simp only [BitVec.ofInt_natCast, BitVec.ofNat_toNat, IntKind.bits, BitVec.setWidth_eq]; exact nat32 _
theorem and32 (x y : BitVec 32) : bits .and .u32 (u x) (u y) = u (x &&& y) := by
  unfold bits u; rw [wrap32]; simp only [BitVec.ofInt_natCast, BitVec.ofNat_toNat, IntKind.bits, BitVec.setWidth_eq]; exact nat32 _
theorem or32 (x y : BitVec 32) : bits .or .u32 (u x) (u y) = u (x ||| y) := by
  unfold bits u; rw [wrap32]; simp only [BitVec.ofInt_natCast, BitVec.ofNat_toNat, IntKind.bits, BitVec.setWidth_eq]; exact nat32 _
theorem add32 (x y : BitVec 32) : (u x + u y) % 4294967296 = u (x + y) := by
  unfold u; rw [BitVec.toNat_add]; omega
theorem shl32 (x : BitVec 32) (n : Nat) : u x * 2 ^ n % 4294967296 = u (x <<< n) := by
  simp [u, BitVec.toNat_shiftLeft, Nat.shiftLeft_eq]
theorem shr32 (x : BitVec 32) (n : Nat) : u x / 2 ^ n = u (shR x n) := by
  simp [u, shR, BitVec.toNat_ushiftRight, Nat.shiftRight_eq_div_pow]
theorem rot32 (x : BitVec 32) (n : Nat) (h : n ≤ 31) : x <<< (32 - n) ||| shR x n = rotR x n := by
  unfold rotR shR
  rw [BitVec.rotateRight_def, Nat.mod_eq_of_lt (by omega), BitVec.or_comm]
theorem not32 (x : BitVec 32) : bits .xor .u32 4294967295 (u x) = u (~~~x) := by
  have h : (4294967295 : Int) = u (BitVec.allOnes 32) := rfl
  rw [h, xor32, BitVec.allOnes_xor]

set_option maxHeartbeats 400000 in
theorem rot_any (x : BitVec 32) (n : Nat) (h1 : 1 ≤ n) (h2 : n ≤ 31) (w : World) :
    Calls Tryd.prog 83 #[.int .u32 (u x), .int .i64 (-(n : Int))] w fun e w' => e = .returned (.int .u32 (u (rotR x n))) ∧ w = w' := by
  have hb : bits BinOp.and IntKind.u64 (IntKind.u64.wrap (-(n : Int))) 31 = ((32 - n : Nat) : Int) := by
    have : ∀ n : Fin 32, 1 ≤ n.val → bits BinOp.and IntKind.u64 (IntKind.u64.wrap (-(n.val : Int))) 31 = ((32 - n.val : Nat) : Int) := by decide
    exact this ⟨n, by omega⟩ h1
  have hc : IntKind.u64.wrap (32 - ((32 - n : Nat) : Int)) = (n : Int) := by
    have : ∀ n : Fin 32, 1 ≤ n.val → IntKind.u64.wrap (32 - ((32 - n.val : Nat) : Int)) = (n.val : Int) := by decide
    exact this ⟨n, by omega⟩ h1
  go_enter Tryd.func83, Tryd.ntmps83
  go_wp2
  go_ret
  exact ⟨by rw [shl32, shr32, or32, rot32 _ _ h2]; rfl, rfl⟩
set_option maxHeartbeats 400000 in
theorem right_any (x : BitVec 32) (n : Nat) (h1 : 1 ≤ n) (h2 : n ≤ 31) (w : World) :
    Calls Tryd.prog 73 #[.int .u32 (u x), .int .i64 (n : Int)] w fun e w' => e = .returned (.int .u32 (u (rotR x n))) ∧ w = w' := by
  go_enter Tryd.func73, Tryd.ntmps73
  go_wp2_with (go_at_call 83; refine (rot_any _ _ h1 h2 _).mono ?_; rintro e w' ⟨rfl, rfl⟩)
  go_ret
  exact ⟨rfl, rfl⟩
theorem right_c (x : BitVec 32) (c : Int) (h : 1 ≤ c ∧ c ≤ 31) (w : World) :
    Calls Tryd.prog 73 #[.int .u32 (u x), .int .i64 c] w fun e w' => e = .returned (.int .u32 (u (rotR x c.toNat))) ∧ w = w' := by
  obtain ⟨n, rfl⟩ := Int.eq_ofNat_of_zero_le (a := c) (by omega)
  exact right_any x n (by omega) (by omega) w
theorem right_s (x : BitVec 32) (c : Int) (h : 1 ≤ c ∧ c ≤ 31) (w : World) :
    Calls Tryd.prog 73 #[.int .u32 (u x), .int .i64 c] w fun e w' => e = .returned (.int .u32 (u (rotR x c.toNat))) ∧ w' = w :=
  (right_c x c h w).mono fun _ _ ⟨h1, h2⟩ => ⟨h1, h2.symm⟩
end Go.Proofs.YtoeomghebgbniaaDoor.Sha
