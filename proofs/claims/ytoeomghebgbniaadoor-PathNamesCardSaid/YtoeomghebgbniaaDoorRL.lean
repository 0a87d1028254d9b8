/- The walk of the law PathNames: the names of temps and conflicts are the document's. Conditions: a world in which the listed variables lie. -/
import Derived.Test.YtoeomghebgbniaaDoorRB
import Derived.Test.YtoeomghebgbniaaDoorRC
import Derived.Test.YtoeomghebgbniaaDoorRT
import Derived.Test.YtoeomghebgbniaaDoorPV
namespace Go.Proofs.YtoeomghebgbniaaDoor
open Go.RowKit
theorem may_len {l : List UInt8} (h : mayB l = true) : l.length ≤ 160 := by
  unfold mayB goodB at h
  simp only [Bool.and_eq_true, decide_eq_true_eq] at h
  exact h.1.1
def tempV (l : List UInt8) : List UInt8 × Bool := if mayB l then (tempL l, true) else ([], false)
theorem temp_any (s : ByteArray) (w : World) (hG : Gr w) (hs : s.size ≤ 4000) :
    Calls Tryd.prog 5 #[.string s] w fun e w' => e = .returned (.tuple #[.string (ba (tempV (tl s)).1), .bool (tempV (tl s)).2]) ∧ Below w.heap.size w w' := by
  cases h : mayB (tl s) with
  | false => rw [tempV, h]; exact temp_no s h w hG.1 hs
  | true => rw [tempV, h]; exact temp_yes s h w hG (by have := may_len h; rw [tl_length] at this; omega)
theorem rtemp_any (s : ByteArray) (w : World) (hs : s.size ≤ 4000) :
    Calls Tryd.prog 6 #[.string s] w fun e w' => e = .returned (.tuple #[.string (ba (tempV (tl s)).1), .bool (tempV (tl s)).2]) ∧ Below w.heap.size w w' := by
  cases h : mayB (tl s) with
  | false => rw [tempV, h]; exact rtemp_no s h w hs
  | true => rw [tempV, h]; exact rtemp_yes s h w (by have := may_len h; rw [tl_length] at this; omega)
theorem okTB_yes {t y : Int} (h : okTB t y = true) : 0 ≤ t ∧ t ≤ 4294967295 ∧ 1 ≤ y ∧ y ≤ 16 := by
  simp only [okTB, Bool.and_eq_true, decide_eq_true_eq] at h
  exact ⟨h.1.1.1, h.1.1.2, h.1.2, h.2⟩
theorem conflict_any (s : ByteArray) (t y : Int) (w : World) (hG : Gr w) (hs : s.size ≤ 4000) :
    Calls Tryd.prog 7 #[.string s, .int .i64 t, .int .i64 y] w fun e w' => e = .returned (.tuple #[.string (ba (conflictV (tl s) t y).1), .bool (conflictV (tl s) t y).2]) ∧ Below w.heap.size w w' := by
  cases h : mayB (tl s) with
  | false => rw [conflictV, h]; exact conflict_no s t y h w hG.1 hs
  | true =>
    cases ho : okTB t y with
    | false => rw [conflictV, h, ho]; exact conflict_bad s t y h ho w hG.1 hs
    | true =>
      rw [conflictV, h, ho]
      obtain ⟨h1, h2, h3, h4⟩ := okTB_yes ho
      exact conflict_yes s t y h h1 h2 h3 h4 w hG.1 (by have := may_len h; rw [tl_length] at this; omega)
theorem rconflict_any (s : ByteArray) (t y : Int) (w : World) (hs : s.size ≤ 4000) :
    Calls Tryd.prog 8 #[.string s, .int .i64 t, .int .i64 y] w fun e w' => e = .returned (.tuple #[.string (ba (conflictV (tl s) t y).1), .bool (conflictV (tl s) t y).2]) ∧ Below w.heap.size w w' := by
  cases h : mayB (tl s) with
  | false => rw [conflictV, h]; exact rconflict_no s t y h w hs
  | true =>
    cases ho : okTB t y with
    | false => rw [conflictV, h, ho]; exact rconflict_bad s t y h ho w hs
    | true =>
      rw [conflictV, h, ho]
      obtain ⟨h1, h2, h3, h4⟩ := okTB_yes ho
      obtain ⟨t, rfl⟩ := Int.eq_ofNat_of_zero_le h1
      obtain ⟨y, rfl⟩ := Int.eq_ofNat_of_zero_le (a := y) (by omega)
      exact rconflict_yes s t y h (by omega) (by omega) (by omega) w (by have := may_len h; rw [tl_length] at this; omega)
set_option maxRecDepth 100000 in
set_option maxHeartbeats 1000000 in
theorem names_law (a0 : ByteArray) (t y : Int) (w : World) (hG : Gr w) (ha0 : a0.size ≤ maxLen) :
    Calls Tryd.prog 3 #[.string a0, .int .i64 t, .int .i64 y] w fun e w' => e = .returned (.bool true) ∧ Below w.heap.size w w' := by
  have HG := hid hG
  obtain ⟨s, HS⟩ : ∃ s, Hid (ba ((tl a0).take 400) = s) := ⟨_, rfl⟩
  have hs : s.size ≤ 4000 := by rw [← HS.out, ba_size, List.length_take]; omega
  have C0 : Hid (∀ W, Calls Tryd.prog 4 #[.string a0] W fun e w' => e = .returned (.string s) ∧ W = w') := by intro W; rw [← HS.out]; exact cut_str a0 W ha0
  obtain ⟨x, HX⟩ : ∃ x, Hid (ba (tempV (tl s)).1 = x) := ⟨_, rfl⟩
  obtain ⟨u, HU⟩ : ∃ x, Hid ((tempV (tl s)).2 = x) := ⟨_, rfl⟩
  obtain ⟨z, HZ⟩ : ∃ x, Hid (ba (conflictV (tl s) t y).1 = x) := ⟨_, rfl⟩
  obtain ⟨v, HV⟩ : ∃ x, Hid ((conflictV (tl s) t y).2 = x) := ⟨_, rfl⟩
  obtain ⟨m, HM⟩ : ∃ x, Hid (isTempB (tl s) = x) := ⟨_, rfl⟩
  obtain ⟨n, HN⟩ : ∃ x, Hid (isConfB (tl s) = x) := ⟨_, rfl⟩
  have C1 : Hid (∀ W, Gr W → Calls Tryd.prog 5 #[.string s] W fun e w' => e = .returned (.tuple #[.string x, .bool u]) ∧ Below W.heap.size W w') := by intro W h; rw [← HX.out, ← HU.out]; exact temp_any s W h hs
  have C2 : Hid (∀ W, Calls Tryd.prog 6 #[.string s] W fun e w' => e = .returned (.tuple #[.string x, .bool u]) ∧ Below W.heap.size W w') := by intro W; rw [← HX.out, ← HU.out]; exact rtemp_any s W hs
  have C3 : Hid (∀ W, Gr W → Calls Tryd.prog 7 #[.string s, .int .i64 t, .int .i64 y] W fun e w' => e = .returned (.tuple #[.string z, .bool v]) ∧ Below W.heap.size W w') := by intro W h; rw [← HZ.out, ← HV.out]; exact conflict_any s t y W h hs
  have C4 : Hid (∀ W, Calls Tryd.prog 8 #[.string s, .int .i64 t, .int .i64 y] W fun e w' => e = .returned (.tuple #[.string z, .bool v]) ∧ Below W.heap.size W w') := by intro W; rw [← HZ.out, ← HV.out]; exact rconflict_any s t y W hs
  have C5 : Hid (∀ W, Calls Tryd.prog 9 #[.string s] W fun e w' => e = .returned (.bool m) ∧ W = w') := by intro W; rw [← HM.out]; exact isTemp_any s W hs
  have C6 : Hid (∀ W, Calls Tryd.prog 10 #[.string s] W fun e w' => e = .returned (.bool m) ∧ Below W.heap.size W w') := by intro W; rw [← HM.out]; exact risTemp_any s W hs
  have C7 : Hid (∀ W, Calls Tryd.prog 11 #[.string s] W fun e w' => e = .returned (.bool n) ∧ Below W.heap.size W w') := by intro W; rw [← HN.out]; exact isConflict_any s W hs
  have C8 : Hid (∀ W, Calls Tryd.prog 12 #[.string s] W fun e w' => e = .returned (.bool n) ∧ Below W.heap.size W w') := by intro W; rw [← HN.out]; exact risConflict_any s W hs
  clear hG
  go_enter Tryd.func3, Tryd.ntmps3
  go_wp2_with fail
  refine (C0.out _).mono ?_; rintro e0 w0 ⟨rfl, rfl⟩
  go_wp2_with fail
  refine (C1.out _ HG.out).mono ?_; rintro e1 w1 ⟨rfl, hb1⟩; have B1 := hid hb1; clear hb1
  go_wp2_with fail
  refine (C2.out _).mono ?_; rintro e2 w2 ⟨rfl, hb2⟩; have B2 : Hid (Below w.heap.size w w2) := B1.out.trans (hb2.mono B1.out.size); clear hb2
  go_wp2_with fail
  refine (C3.out _ (HG.out.kept B2.out)).mono ?_; rintro e3 w3 ⟨rfl, hb3⟩; have B3 : Hid (Below w.heap.size w w3) := B2.out.trans (hb3.mono B2.out.size); clear hb3
  go_wp2_with fail
  refine (C4.out _).mono ?_; rintro e4 w4 ⟨rfl, hb4⟩; have B4 : Hid (Below w.heap.size w w4) := B3.out.trans (hb4.mono B3.out.size); clear hb4
  go_wp2_with fail
  refine (C5.out _).mono ?_; rintro e5 w5 ⟨rfl, rfl⟩
  go_wp2_with fail
  refine (C6.out _).mono ?_; rintro e6 w6 ⟨rfl, hb6⟩; have B6 : Hid (Below w.heap.size w w6) := B4.out.trans (hb6.mono B4.out.size); clear hb6
  go_wp2_with fail
  refine (C7.out _).mono ?_; rintro e7 w7 ⟨rfl, hb7⟩; have B7 : Hid (Below w.heap.size w w7) := B6.out.trans (hb7.mono B6.out.size); clear hb7
  go_wp2_with fail
  refine (C8.out _).mono ?_; rintro e8 w8 ⟨rfl, hb8⟩; have B8 : Hid (Below w.heap.size w w8) := B7.out.trans (hb8.mono B7.out.size); clear hb8
  go_wp2_with fail
  refine (works_any _ (HG.out.kept B8.out).1).mono ?_; rintro e9 w9 ⟨rfl, hb9⟩; have B9 : Hid (Below w.heap.size w w9) := B8.out.trans (hb9.mono B8.out.size); clear hb9
  go_wp2
  go_ret
  exact ⟨rfl, B9.out⟩
end Go.Proofs.YtoeomghebgbniaaDoor
