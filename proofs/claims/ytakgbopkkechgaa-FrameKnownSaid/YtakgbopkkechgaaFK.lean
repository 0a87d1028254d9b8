/- caravanref10.Put: what each call does. Conditions: bytes in a row. -/
import Derived.Test.YtakgbopkkechgaaFJ
namespace Go.Proofs.Ytakgbopkkechgaa
open Go.RowKit
set_option maxRecDepth 100000 in
set_option maxHeartbeats 1000000 in
theorem rput_any (kind : Int) (v : Value) (body : List UInt8) (A : Option Addr) (cap bb off : Nat) (w : World) (h : Bytes w v body A cap bb off) :
    Calls Try.prog 12 #[.int .i64 kind, v] w fun e w' => ∃ v', e = .returned (.tuple #[v', .int .i64 (putE kind body)]) ∧ Fresh w.heap.size w' v' (putL kind body) ∧ Below w.heap.size w w' := by
  have e0 := h.form
  rcases hk : kindOk kind with _ | _
  · have E1 : Hid (putE kind body = 2 ∧ putL kind body = []) := by show _ ∧ _; simp [putE, putL, hk]
    rw [E1.out.1, E1.out.2]
    have hk' : kind < 1 ∨ 9 < kind := by
      simp only [kindOk, Bool.and_eq_false_iff, decide_eq_false_iff_not] at hk; omega
    subst e0
    clear h hk
    by_cases h1 : kind < 1
    · clear hk'
      go_enter Try.func12, Try.ntmps12
      go_wp2
      go_ret2
      exact ⟨_, rfl, World.ownsRow_nil _ _ _ _, Below.refl _ _⟩
    · have h9 : 9 < kind := by omega
      clear hk'
      go_enter Try.func12, Try.ntmps12
      go_wp2
      go_ret2
      exact ⟨_, rfl, World.ownsRow_nil _ _ _ _, Below.refl _ _⟩
  · have hk' : ¬ kind < 1 ∧ ¬ 9 < kind := by
      simp only [kindOk, Bool.and_eq_true, decide_eq_true_eq] at hk; omega
    obtain ⟨h1, h9⟩ := hk'
    by_cases hl : 16384 < body.length
    · have E1 : Hid (putE kind body = 3 ∧ putL kind body = []) := by show _ ∧ _; simp [putE, putL, hk, hl]
      rw [E1.out.1, E1.out.2]
      have hl' : (16384 : Int) < (body.length : Int) := by omega
      subst e0
      clear h hk hl
      go_enter Try.func12, Try.ntmps12
      go_wp2
      go_ret2
      exact ⟨_, rfl, World.ownsRow_nil _ _ _ _, Below.refl _ _⟩
    · obtain ⟨k, rfl, hkk, hok⟩ := kind_byte hk
      have E1 : Hid (putE (b8 k) body = 0 ∧ putL (b8 k) body = frL k body) := put_back k body hok (by omega)
      rw [E1.out.1, E1.out.2]
      have hl' : ¬ (16384 : Int) < (body.length : Int) := by omega
      have HBY := hid h
      have C1 : Hid (Calls Try.prog 24 #[.int .i64 4, .int .u64 ((body.length : Int) + 1)] w fun e w' => ∃ v, e = .returned v ∧ w'.ownsRow w.heap.size 5 1 v 4 ((numL 4 (body.length + 1)).map V8) ∧ Below w.heap.size w w') := by
        have := rNum_any 4 (body.length + 1) (by omega) w
        rw [num4_len] at this
        exact this
      have wl : IntKind.u64.wrap ((body.length : Int) + 1) = (body.length : Int) + 1 := u64in (body.length + 1) (by omega)
      have wk : IntKind.u8.wrap (b8 k) = b8 k := by have := b8_lt k; have := b8_nonneg k; simp [IntKind.wrap, IntKind.signed, IntKind.bits]; omega
      have wi : wrap64 ((body.length : Int) + 1) = (body.length : Int) + 1 := by simp [wrap64]; omega
      have HLN : Hid (body.length ≤ 16384) := by show _ ≤ _; omega
      have HE : Hid ((numL 4 (body.length + 1)).map V8 ++ [k].map V8 ++ body.map V8 = (frL k body).map V8) := by show _ = _; simp [frL]
      have HF : Hid ((frL k body).length = 4 + 1 + body.length) := by show _ = _; rw [frL_len]; omega
      subst e0
      clear h hk hl hkk hok
      go_enter Try.func12, Try.ntmps12
      go_wp2_with (first
        | (go_at_call 24; refine C1.out.mono ?_; rintro e1 w1 ⟨v1, rfl, ho1, hb1⟩
           have O1 := hid ho1
           have B1 := hid hb1
           clear ho1 hb1)
        | (at_builtin; refine wpList_append_run (by rfl) _ _ 22 22 (by rfl) ?_
           obtain ⟨v2, w2, hr, ho, hg, _, _⟩ := append_bytes (w1.alloc (.cells #[.int .u8 (b8 k)] 5)) w.heap.size v1 4 _ (O1.out.alloc _) (lit_bytes w1 [k] _ 1 rfl rfl) (by simp) (by have := B1.out.size; simp; omega)
           refine ⟨v2, w2, hr, ?_⟩
           have O2 := hid ho
           have B2 : Hid (Below w.heap.size w w2) := (B1.out.alloc B1.out.size _).grown hg (by have := B1.out.size; simp; omega) (fun k hk => (O1.out.lt k hk).1)
           clear hr ho hg O1)
        | (at_builtin; refine wpList_append_run (by rfl) _ _ 22 22 (by rfl) ?_
           obtain ⟨v3, w3, hr, ho, hg, _, _⟩ := append_bytes w2 w.heap.size v2 _ _ O2.out (HBY.out.kept B2.out (Nat.le_refl _)) (by have := HLN.out; simp; omega) B2.out.size
           refine ⟨v3, w3, hr, ?_⟩
           have O3 := hid ho
           have B3 : Hid (Below w.heap.size w w3) := B2.out.grown hg B2.out.size (fun k hk => (O2.out.lt k hk).1)
           clear hr ho hg O2))
      go_ret2
      refine ⟨_, rfl, ?_, B3.out⟩
      have := O3.out
      rw [HE.out] at this
      rw [Fresh, HF.out]
      exact this
end Go.Proofs.Ytakgbopkkechgaa
