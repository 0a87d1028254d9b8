/- sha.digit, sha.Of: the digest whose text a string is. No conditions but what every string meets. -/
import Derived.Test.YthhclcjocakdlaaDoorSN
namespace Go.Proofs.YthhclcjocakdlaaDoor.Sha
open Go.RowKit
/-- The value of a digit. -/
def dV (c : UInt8) : Option UInt8 :=
  if 48 ≤ c.toNat ∧ c.toNat ≤ 57 then some (UInt8.ofNat (c.toNat - 48)) else if 97 ≤ c.toNat ∧ c.toNat ≤ 102 then some (UInt8.ofNat (c.toNat - 87)) else none
def dB (c v : UInt8) : Prop := (48 ≤ c.toNat ∧ c.toNat ≤ 57 ∧ v.toNat + 48 = c.toNat) ∨ (97 ≤ c.toNat ∧ c.toNat ≤ 102 ∧ v.toNat + 87 = c.toNat)
theorem dV_some {c v : UInt8} (h : dV c = some v) : dB c v := by
  have hc := c.toNat_lt
  unfold dV at h
  split at h
  · obtain rfl := Option.some.inj h
    rename_i h1
    left; refine ⟨h1.1, h1.2, ?_⟩
    simp; omega
  · split at h
    · obtain rfl := Option.some.inj h
      rename_i h1
      right; refine ⟨h1.1, h1.2, ?_⟩
      simp; omega
    · cases h
theorem dV_none {c : UInt8} (h : dV c = none) : ¬ (48 ≤ c.toNat ∧ c.toNat ≤ 57) ∧ ¬ (97 ≤ c.toNat ∧ c.toNat ≤ 102) := by
  unfold dV at h
  split at h
  · cases h
  · split at h
    · cases h
    · exact ⟨by assumption, by assumption⟩
theorem ret_digit {x : Int} {v : UInt8} (h : x = b8 v) : Ending.returned (.tuple #[.int .u8 x, .bool true]) = .returned (.tuple #[.int .u8 (b8 v), .bool true]) := by rw [h]
set_option maxHeartbeats 400000 in
theorem digit_some (c v : UInt8) (h : dV c = some v) (w : World) : Calls Tryd.prog 80 #[.int .u8 (b8 c)] w fun e w' => e = .returned (.tuple #[.int .u8 (b8 v), .bool true]) ∧ w = w' := by
  have hv := b8_lt v
  have hv0 := b8_nonneg v
  rcases dV_some h with ⟨h1, h2, h3⟩ | ⟨h1, h2, h3⟩
  · have g1 : (48 : Int) ≤ b8 c := by unfold b8; omega
    have g2 : b8 c ≤ 57 := by unfold b8; omega
    have g3 : Hid (b8 c - 48 = b8 v) := by show _ = _; unfold b8; omega
    clear h h1 h2 h3
    go_enter Tryd.func80, Tryd.ntmps80
    go_wp2
    go_ret2
    exact ⟨ret_digit (by have := g3.out; omega), rfl⟩
  · have g1 : (97 : Int) ≤ b8 c := by unfold b8; omega
    have g2 : b8 c ≤ 102 := by unfold b8; omega
    have g3 : Hid (b8 c - 87 = b8 v) := by show _ = _; unfold b8; omega
    have g4 : (48 : Int) ≤ b8 c := by omega
    have g5 : ¬ b8 c ≤ 57 := by omega
    clear h h1 h2 h3
    go_enter Tryd.func80, Tryd.ntmps80
    go_wp2
    go_ret2
    exact ⟨ret_digit (by have := g3.out; omega), rfl⟩
set_option maxHeartbeats 400000 in
theorem digit_none (c : UInt8) (h : dV c = none) (w : World) : Calls Tryd.prog 80 #[.int .u8 (b8 c)] w fun e w' => e = .returned (.tuple #[.int .u8 0, .bool false]) ∧ w = w' := by
  obtain ⟨h1, h2⟩ := dV_none h
  have h3 : Hid (¬ (48 ≤ b8 c ∧ b8 c ≤ 57)) := by show ¬ _; unfold b8; omega
  have h4 : Hid (¬ (97 ≤ b8 c ∧ b8 c ≤ 102)) := by show ¬ _; unfold b8; omega
  clear h h1 h2
  by_cases g1 : (48 : Int) ≤ b8 c <;> by_cases g2 : b8 c ≤ 57 <;> by_cases g3 : (97 : Int) ≤ b8 c <;> by_cases g4 : b8 c ≤ 102 <;> first | (exfalso; have := h3.out; have := h4.out; omega) | skip
  all_goals
    go_enter Tryd.func80, Tryd.ntmps80
    go_wp2
    go_ret2
    exact ⟨rfl, rfl⟩
/-- The first k bytes that a text says, the others 0; none, if one of its first 2 k bytes is no digit. -/
def hexUp (l : List UInt8) : Nat → Option (List UInt8)
  | 0 => some (List.replicate 32 0)
  | k + 1 => match hexUp l k, dV (at8 l (2 * k)), dV (at8 l (2 * k + 1)) with
    | some h, some a, some b => some (h.set k (a * 16 + b))
    | _, _, _ => none
def ofL (l : List UInt8) : Option (List UInt8) := if l.length = 64 then hexUp l 32 else none
def hexV (o : Option (List UInt8)) : List UInt8 := o.getD (List.replicate 32 0)
theorem hexUp_none (l : List UInt8) (k d : Nat) (h : hexUp l k = none) : hexUp l (k + d) = none := by
  induction d with
  | zero => exact h
  | succ d ih => show hexUp l (k + d + 1) = none; simp only [hexUp, ih]
theorem hexUp_no1 {l : List UInt8} {k : Nat} (hk : k < 32) (h : dV (at8 l (2 * k)) = none) : hexUp l 32 = none := by
  have h1 : hexUp l (k + 1) = none := by simp only [hexUp, h]; cases hexUp l k <;> rfl
  have := hexUp_none l (k + 1) (31 - k) h1
  rwa [show k + 1 + (31 - k) = 32 by omega] at this
theorem hexUp_no2 {l : List UInt8} {k : Nat} (hk : k < 32) (h : dV (at8 l (2 * k + 1)) = none) : hexUp l 32 = none := by
  have h1 : hexUp l (k + 1) = none := by simp only [hexUp, h]; cases hexUp l k <;> cases dV (at8 l (2 * k)) <;> rfl
  have := hexUp_none l (k + 1) (31 - k) h1
  rwa [show k + 1 + (31 - k) = 32 by omega] at this
theorem hexUp_next {l h : List UInt8} {k : Nat} {a b : UInt8} (h0 : hexUp l k = some h) (ha : dV (at8 l (2 * k)) = some a) (hb : dV (at8 l (2 * k + 1)) = some b) :
    hexUp l (k + 1) = some (h.set k (a * 16 + b)) := by simp only [hexUp, h0, ha, hb]
theorem hexUp_len (l : List UInt8) (k : Nat) : ∀ h, hexUp l k = some h → h.length = 32 := by
  induction k with
  | zero => intro h e; obtain rfl := Option.some.inj e; simp
  | succ k ih =>
    intro h e
    simp only [hexUp] at e
    split at e
    · obtain rfl := Option.some.inj e
      rename_i h' _ _ hh _ _
      simp [ih h' hh]
    · cases e
theorem hexV_len (o : Option (List UInt8)) (h : ∀ x, o = some x → x.length = 32) : (hexV o).length = 32 := by
  cases o with
  | none => simp [hexV]
  | some x => exact h x rfl
theorem ofL_len (l : List UInt8) : (hexV (ofL l)).length = 32 := by
  refine hexV_len _ fun x hx => ?_
  unfold ofL at hx
  split at hx
  · exact hexUp_len l 32 x hx
  · cases hx
theorem or_byte {c a b : UInt8} {d : UInt8} (ha : dB c a) (hb : dB d b) : bits .or .u8 (b8 a * 16 % 256) (b8 b) = b8 (a * 16 + b) := by
  have h1 : a.toNat < 16 := by unfold dB at ha; omega
  have h2 : b.toNat < 16 := by unfold dB at hb; omega
  have h : ∀ x : Fin 16, ∀ y : Fin 16, bits .or .u8 (((x.val : Nat) : Int) * 16 % 256) ((y.val : Nat) : Int) = ((x.val * 16 + y.val : Nat) : Int) := by decide
  have := h ⟨a.toNat, h1⟩ ⟨b.toNat, h2⟩
  unfold b8
  rw [this]
  have e : (a * 16 + b).toNat = a.toNat * 16 + b.toNat := by
    simp [UInt8.toNat_add, UInt8.toNat_mul]; omega
  rw [e]
end Go.Proofs.YthhclcjocakdlaaDoor.Sha
