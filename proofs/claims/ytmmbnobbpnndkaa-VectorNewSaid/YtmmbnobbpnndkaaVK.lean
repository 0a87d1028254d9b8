/- The law VectorBumps: what its call does. Conditions: sixteen counters. -/
import Derived.Test.YtmmbnobbpnndkaaVJ
namespace Go.Proofs.Ytmmbnobbpnndkaa
open Go.RowKit
theorem bumpV_len (l : List (BitVec 32)) (hl : l.length = 16) (dev time : Int) : (bumpV l dev time).1.length = 16 := by
  unfold bumpV
  split
  · exact zero_len
  · split
    · exact zero_len
    · rw [List.length_set, hl]
/-- A row laid into a new block, behind a call. -/
theorem lay_vec (w w1 : World) (l : List (BitVec 32)) (hb : Hid (Below w.heap.size w w1)) : ∃ W2, (w1.alloc (.cells zeroA 24)).setRow w1.heap.size (vec l) = W2 ∧
    Hid (Below w.heap.size w W2) ∧ Hid (Has W2 w1.heap.size 24 (vec l)) ∧ Hid (Below w1.heap.size w1 W2) :=
  ⟨_, rfl, (hb.out.alloc hb.out.size _).rowK hb.out.size _, Has.row (Has.fresh w1 24 zeroA), ((Below.refl _ _).alloc (Nat.le_refl _) _).rowK (Nat.le_refl _) _⟩
theorem box_vec (w w1 : World) (l : List (BitVec 32)) (hb : Below (w.alloc (.cells (vec l) 24)).heap.size (w.alloc (.cells (vec l) 24)) w1) : Hid (Below w.heap.size w w1) ∧ Hid (Has w1 w.heap.size 24 (vec l)) :=
  ⟨((Below.refl _ _).alloc (Nat.le_refl _) _).trans (hb.mono (by simp)), (Has.fresh w 24 (vec l)).kept hb (by simp)⟩
theorem has_on {w w1 : World} {g : Nat} {t : TypeId} {cs : Array Value} (h : Hid (Has w g t cs)) (hb : Below w.heap.size w w1) : Hid (Has w1 g t cs) := Has.kept h.out hb (Has.inside h.out)
set_option maxRecDepth 100000 in
set_option maxHeartbeats 400000 in
theorem bumpsLaw_any (l : List (BitVec 32)) (hl : l.length = 16) (dev time : Int) (w : World) :
    Calls Try.prog 3 #[.agg (vec l), .int .i64 dev, .int .i64 time] w fun e w' => e = .returned (.bool true) ∧ Below w.heap.size w w' := by
  obtain ⟨r, hr⟩ : ∃ r, (bumpV l dev time).1 = r := ⟨_, rfl⟩
  obtain ⟨e0, he⟩ : ∃ e0, (bumpV l dev time).2 = e0 := ⟨_, rfl⟩
  have HR : Hid (r.length = 16) := by show _ = _; rw [← hr]; exact bumpV_len l hl dev time
  have CA : Hid (∀ w, Calls Try.prog 9 #[.agg (vec l), .int .i64 dev, .int .i64 time] w fun e w' => e = .returned (.tuple #[.agg (vec r), .int .i64 e0]) ∧ Below w.heap.size w w') := fun w => by rw [← hr, ← he]; exact bump_any l hl dev time w
  have CB : Hid (∀ w, Calls Try.prog 10 #[.agg (vec l), .int .i64 dev, .int .i64 time] w fun e w' => e = .returned (.tuple #[.agg (vec r), .int .i64 e0]) ∧ Below w.heap.size w w') := fun w => by rw [← hr, ← he]; exact rbump_any l hl dev time w
  have L0 := hid (load_vec (Has.fresh w 24 (vec l)) hl)
  have Y1 := size_vec r HR.out
  have Y2 := size_zero r HR.out
  have HSM := hid (sameV_refl r)
  have HL := hid hl
  clear hr he hl
  go_enter Try.func3, Try.ntmps3
  go_wp2_with (first
    | (refine wpList_load_g (by rfl) 24 (.tmp 3) rfl w.heap.size 0 rfl (vec l) L0.out ?_)
    | (go_at_call 9; refine (CA.out _).mono ?_; rintro ee w1 ⟨rfl, hb1⟩
       obtain ⟨B1, H1⟩ := box_vec w w1 l hb1
       clear hb1 L0)
    | (refine wpList_store_row rfl 24 (.tmp 7) (.tmp 16) rfl w1.heap.size (vec r) rfl rfl 24 zeroA (Has.fresh w1 24 zeroA) Y1.out Y2.out (vec_one _) ?_
       generalize hG : World.setRow _ _ _ = W3
       obtain ⟨V0, hG0, B2, A2, K2⟩ := lay_vec w w1 r B1
       obtain rfl : V0 = W3 := hG0.symm.trans hG
       have H2 := has_on H1 K2.out
       have L2 := hid (load_vec H2.out HL.out)
       clear hG hG0 B1 H1)
    | (refine wpList_load_g (by rfl) 24 (.tmp 3) rfl w.heap.size 0 rfl (vec l) L2.out ?_)
    | (go_at_call 10; refine (CB.out _).mono ?_; rintro ee w4 ⟨rfl, hb4⟩
       have B4 := two_le B2 hb4
       have A4 := has_on A2 hb4
       clear hb4 L2 H2 K2 A2)
    | (refine wpList_store_row rfl 24 (.tmp 9) (.tmp 23) rfl w4.heap.size (vec r) rfl rfl 24 zeroA (Has.fresh w4 24 zeroA) Y1.out Y2.out (vec_one _) ?_
       generalize hG : World.setRow _ _ _ = W5
       obtain ⟨V1, hG0, B5, A5, K5⟩ := lay_vec w w4 r B4
       obtain rfl : V1 = W5 := hG0.symm.trans hG
       have A6 := has_on A4 K5.out
       have L5 := hid (load_vec A5.out HR.out)
       have L6 := hid (load_vec A6.out HR.out)
       clear hG hG0)
    | (refine wpList_load_g (by rfl) 24 (.tmp 7) rfl w1.heap.size 0 rfl (vec r) L6.out ?_)
    | (refine wpList_load_g (by rfl) 24 (.tmp 9) rfl w4.heap.size 0 rfl (vec r) L5.out ?_)
    | (refine wpList_eql_vec (by rfl) (.tmp 25) (.tmp 26) rfl r r rfl rfl HR.out HR.out _ HSM.out ?_)
    | (go_at_call 11; refine (awake_any _).mono ?_; rintro ee w8 ⟨rfl, hb8⟩))
  go_ret
  exact ⟨rfl, (two_le B5 hb8).out⟩
end Go.Proofs.Ytmmbnobbpnndkaa
