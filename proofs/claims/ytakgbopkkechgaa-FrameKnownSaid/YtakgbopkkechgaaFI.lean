/- frame.Put, and the document's Put: what each call does. Conditions: bytes in a row. -/
import Derived.Test.YtakgbopkkechgaaFH
namespace Go.Proofs.Ytakgbopkkechgaa
open Go.RowKit
def kindOk (kind : Int) : Bool := decide (1 ≤ kind) && decide (kind ≤ 9)
def putE (kind : Int) (body : List UInt8) : Int := if kindOk kind then (if 16384 < body.length then 3 else 0) else 2
def putL (kind : Int) (body : List UInt8) : List UInt8 := if kindOk kind then (if 16384 < body.length then [] else frL (UInt8.ofNat kind.toNat) body) else []
theorem kind_byte {kind : Int} (h : kindOk kind = true) : ∃ k : UInt8, kind = b8 k ∧ k = UInt8.ofNat kind.toNat ∧ okKind k := by
  simp only [kindOk, Bool.and_eq_true, decide_eq_true_eq] at h
  refine ⟨UInt8.ofNat kind.toNat, ?_, rfl, ?_⟩
  · rw [b8_ofNat]; omega
  · have e : (UInt8.ofNat kind.toNat).toNat = kind.toNat := by simp; omega
    unfold okKind; rw [e]; omega
theorem kind_back (k : UInt8) (h : okKind k) : kindOk (b8 k) = true ∧ UInt8.ofNat (b8 k).toNat = k := by
  obtain ⟨h1, h2⟩ := h
  refine ⟨?_, ?_⟩
  · have h : (1 : Int) ≤ b8 k ∧ b8 k ≤ 9 := by unfold b8; omega
    simp [kindOk, h]
  · simp [b8]
theorem put_back (k : UInt8) (body : List UInt8) (h : okKind k) (hb : body.length ≤ 16384) : putE (b8 k) body = 0 ∧ putL (b8 k) body = frL k body := by
  obtain ⟨h1, h2⟩ := kind_back k h
  simp only [putE, putL, h1, if_true, if_neg (show ¬ 16384 < body.length by omega), h2, and_self]
set_option maxRecDepth 100000 in
set_option maxHeartbeats 1000000 in
theorem fput_any (kind : Int) (v : Value) (body : List UInt8) (A : Option Addr) (cap bb off : Nat) (w : World) (h : Bytes w v body A cap bb off) :
    Calls Try.prog 11 #[.int .i64 kind, v] w fun e w' => ∃ v', e = .returned (.tuple #[v', .int .i64 (putE kind body)]) ∧ Fresh w.heap.size w' v' (putL kind body) ∧ Below w.heap.size w w' := by
  have e0 := h.form
  rcases hk : kindOk kind with _ | _
  · have E1 : Hid (putE kind body = 2 ∧ putL kind body = []) := by show _ ∧ _; simp [putE, putL, hk]
    rw [E1.out.1, E1.out.2]
    have hk' : kind < 1 ∨ 9 < kind := by
      simp only [kindOk, Bool.and_eq_false_iff, decide_eq_false_iff_not] at hk; omega
    subst e0
    clear h hk
    by_cases h1 : kind < 1
    · clear hk'
      go_enter Try.func11, Try.ntmps11
      go_wp2
      go_ret2
      exact ⟨_, rfl, World.ownsRow_nil _ _ _ _, Below.refl _ _⟩
    · have h9 : 9 < kind := by omega
      clear hk'
      go_enter Try.func11, Try.ntmps11
      go_wp2
      go_ret2
      exact ⟨_, rfl, World.ownsRow_nil _ _ _ _, Below.refl _ _⟩
  · have hk' : ¬ kind < 1 ∧ ¬ 9 < kind := by
      simp only [kindOk, Bool.and_eq_true, decide_eq_true_eq] at hk; omega
    obtain ⟨h1, h9⟩ := hk'
    by_cases hl : 16384 < body.length
    · have E1 : Hid (putE kind body = 3 ∧ putL kind body = []) := by show _ ∧ _; simp [putE, putL, hk, hl]
      rw [E1.out.1, E1.out.2]
      have hl' : (16384 : Int) < (body.length : Int) := by omega
      subst e0
      clear h hk hl
      go_enter Try.func11, Try.ntmps11
      go_wp2
      go_ret2
      exact ⟨_, rfl, World.ownsRow_nil _ _ _ _, Below.refl _ _⟩
    · obtain ⟨k, rfl, hkk, hok⟩ := kind_byte hk
      have E1 : Hid (putE (b8 k) body = 0 ∧ putL (b8 k) body = frL k body) := put_back k body hok (by omega)
      rw [E1.out.1, E1.out.2]
      have hl' : ¬ (16384 : Int) < (body.length : Int) := by omega
      have hp : 0 < w.heap.size := Nat.lt_of_le_of_lt (Nat.zero_le _) h.blk
      have HP := hid hp
      have HBY := hid h
      have C1 : Hid (Calls Try.prog 22 #[.slice none 0 0, .int .i64 4, .int .u64 ((body.length : Int) + 1)] w fun e w' => ∃ v', e = .returned v' ∧ Fresh w.heap.size w' v' (numL 4 (body.length + 1)) ∧ Below w.heap.size w w') :=
        put_any _ [] none 0 0 0 4 (body.length + 1) (by omega) (by simp) w (Bytes.nil w hp)
      have C2 : Hid (∀ (w1 : World) (v : Value), Below w.heap.size w w1 → Fresh w.heap.size w1 v (numL 4 (body.length + 1)) → Calls Try.prog 22 #[v, .int .i64 1, .int .u64 (b8 k)] w1 fun e w' => ∃ v', e = .returned v' ∧ Fresh w.heap.size w' v' (numL 4 (body.length + 1) ++ [k]) ∧ Below w.heap.size w w') := fun w1 v hb hf => by
        obtain ⟨A, cap, bb, h, _, _⟩ := hf.bytes (Nat.lt_of_lt_of_le hp hb.size)
        refine (put_any v _ A cap bb 0 1 k.toNat (by have := k.toNat_lt; omega) (by rw [num4_len]; omega) w1 h).mono ?_
        rintro e w' ⟨v', h1, h2, h3⟩
        rw [num1] at h2
        exact ⟨v', h1, h2.mono hb.size, hb.trans (h3.mono hb.size)⟩
      have wl : IntKind.u64.wrap ((body.length : Int) + 1) = (body.length : Int) + 1 := u64in (body.length + 1) (by omega)
      have wk : IntKind.u64.wrap (b8 k) = b8 k := u64in k.toNat (by have := k.toNat_lt; omega)
      have wi : wrap64 ((body.length : Int) + 1) = (body.length : Int) + 1 := by simp [wrap64]; omega
      have HL : Hid ([numL 4 (body.length + 1) ++ [k], body].flatten.length ≤ 100000) := by show _ ≤ _; simp [num4_len]; omega
      have HE : Hid ([numL 4 (body.length + 1) ++ [k], body].flatten = frL k body) := by show _ = _; simp [frL]
      subst e0
      obtain ⟨L, HLL⟩ : ∃ L, Hid (body.length = L) := ⟨_, rfl⟩
      clear h hk hl hkk hok hp
      go_enter Try.func11, Try.ntmps11
      go_wp2_with (first
        | (go_at_call 22; with_reducible refine C1.out.mono ?_; rintro e1 w1 ⟨v1, rfl, ho1, hb1⟩
           obtain ⟨A1, c1, b1, hy1, _, _⟩ := ho1.bytes (Nat.lt_of_lt_of_le HP.out hb1.size)
           obtain rfl := hy1.form
           have O1 := hid ho1
           have B1 := hid hb1
           clear ho1 hb1 hy1)
        | (go_at_call 22; with_reducible refine (C2.out _ _ B1.out O1.out).mono ?_; rintro e2 w2 ⟨v2, rfl, ho2, hb2⟩
           obtain ⟨A3, c3, b3, hy2, _, _⟩ := ho2.bytes (Nat.lt_of_lt_of_le HP.out hb2.size)
           obtain rfl := hy2.form
           have R2 := hid (rows_two hy2 (HBY.out.kept hb2 (Nat.le_refl _)))
           have B2 := hid hb2
           clear ho2 hb2 hy2)
        | (go_at_call 23; refine (concat_any w2.heap.size 2 2 _ rfl HL.out _ R2.out (by decide)).mono ?_; rintro e3 w3 ⟨v3, rfl, ho3, hb3⟩
           rw [HE.out] at ho3
           have O3 : Hid (Fresh w.heap.size w3 v3 (frL k body)) := Fresh.mono (xs := frL k body) ho3 (Nat.le_trans B2.out.size (by simp))
           have B3 : Hid (Below w.heap.size w w3) := (B2.out.alloc B2.out.size _).trans (hb3.mono (Nat.le_trans B2.out.size (by simp)))
           clear ho3 hb3))
      go_ret2
      exact ⟨_, rfl, O3.out, B3.out⟩
end Go.Proofs.Ytakgbopkkechgaa
