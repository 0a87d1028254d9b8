/- The walk of the law PathFits: temp and conflict names are paths of the same parent. Conditions: a world in which the listed variables lie. -/
import Derived.Test.YthhclcjocakdlaaDoorQC
namespace Go.Proofs.YthhclcjocakdlaaDoor
open Go.RowKit
set_option maxRecDepth 100000 in
set_option maxHeartbeats 2000000 in
theorem fits_no (a0 a : ByteArray) (t b : Int) (w : World) (hG : Gr w) (ha0 : a0.size ≤ maxLen) (hA : ba ((tl a0).take 400) = a) (h1 : 0 ≤ t) (h2 : t ≤ 4294967295) (p1 : 0 ≤ b) (p2 : b ≤ 255) (hm : mayB (tl a) = false) :
    Calls Tryd.prog 11 #[.string a0, .int .u32 t, .int .u8 b] w fun e w' => e = .returned (.bool true) ∧ Below w.heap.size w w' := by
  have HG := hid hG
  have ka := small_cut a0 a hA
  have CA : Hid (∀ W, Calls Tryd.prog 17 #[.string a0] W fun e w' => e = .returned (.string a) ∧ W = w') := by intro W; rw [← hA]; exact cut_str a0 W ha0
  have C1 : Hid (∀ W, Gd W → Calls Tryd.prog 36 #[.string a] W fun e w' => e = .returned (.tuple #[.string ⟨#[]⟩, .bool false]) ∧ Below W.heap.size W w') := fun W h => temp_no a hm W h (by omega)
  have C2 : Hid (∀ W, Gd W → Calls Tryd.prog 38 #[.string a, .int .i64 t, .int .i64 (1 + b % 16)] W fun e w' => e = .returned (.tuple #[.string ⟨#[]⟩, .bool false]) ∧ Below W.heap.size W w') := fun W h => conflict_no a t (1 + b % 16) hm W h (by omega)
  have C3 : Hid (∀ W, Gd W → Calls Tryd.prog 22 #[.string a] W fun e w' => e = .returned (.bool false) ∧ Below W.heap.size W w') := by
    intro W h; have := may_any a W h (by omega); rw [hm] at this; exact this
  clear hG hm hA
  go_enter Tryd.func11, Tryd.ntmps11
  go_wp2_with fail
  refine (CA.out _).mono ?_; rintro e1 w1 ⟨rfl, rfl⟩
  go_wp2_with fail
  refine (C1.out _ HG.out.1).mono ?_; rintro e2 w2 ⟨rfl, hb2⟩; have B2 := hid hb2; clear hb2
  go_wp2_with fail
  refine (C2.out _ (HG.out.1.kept B2.out)).mono ?_; rintro e3 w3 ⟨rfl, hb3⟩; have B3 : Hid (Below w.heap.size w w3) := B2.out.trans (hb3.mono B2.out.size); clear hb3
  go_wp2_with fail
  refine (C3.out _ (HG.out.1.kept B3.out)).mono ?_; rintro e4 w4 ⟨rfl, hb4⟩; have B4 : Hid (Below w.heap.size w w4) := B3.out.trans (hb4.mono B3.out.size); clear hb4
  go_wp2_with fail
  refine (works_any _ (HG.out.1.kept B4.out)).mono ?_; rintro e5 w5 ⟨rfl, hb5⟩; have B5 : Hid (Below w.heap.size w w5) := B4.out.trans (hb5.mono B4.out.size); clear hb5
  go_wp2
  go_ret
  exact ⟨rfl, B5.out⟩
theorem may_size {s : ByteArray} (h : mayB (tl s) = true) : s.size ≤ 160 := by
  have := (may_parts h).1; rw [tl_length] at this; exact this
set_option maxRecDepth 100000 in
set_option maxHeartbeats 2000000 in
theorem fits_yes (a0 a : ByteArray) (t b : Int) (w : World) (hG : Gr w) (ha0 : a0.size ≤ maxLen) (hA : ba ((tl a0).take 400) = a) (h1 : 0 ≤ t) (h2 : t ≤ 4294967295) (p1 : 0 ≤ b) (p2 : b ≤ 255) (hm : mayB (tl a) = true) :
    Calls Tryd.prog 11 #[.string a0, .int .u32 t, .int .u8 b] w fun e w' => e = .returned (.bool true) ∧ Below w.heap.size w w' := by
  have HG := hid hG
  have ka := may_size hm
  have CA : Hid (∀ W, Calls Tryd.prog 17 #[.string a0] W fun e w' => e = .returned (.string a) ∧ W = w') := by intro W; rw [← hA]; exact cut_str a0 W ha0
  have hnl : nameB (lastP (tl a)) = true := good_all (mayB_good hm) _ (lastP_mem (tl a))
  obtain ⟨n1, n2⟩ := tempPart_name (p := tl a) hnl
  obtain ⟨m1, m2, m3⟩ := beside_may hm n1
  have k1 := clash_name (t := t) (y := 1 + b % 16) hnl h1 h2 (by omega) (by omega)
  obtain ⟨q1, q2, q3⟩ := beside_may hm k1
  obtain ⟨x, hx⟩ : ∃ x, ba (aheadL (tl a)) = x := ⟨_, rfl⟩
  obtain ⟨u, hu⟩ : ∃ u, ba (tempL (tl a)) = u := ⟨_, rfl⟩
  obtain ⟨c, hc⟩ : ∃ c, ba (conflictL (tl a) t (1 + b % 16)) = c := ⟨_, rfl⟩
  obtain ⟨r, hr⟩ : ∃ r, ba (tempPart (lastP (tl a)) (tl a)) = r := ⟨_, rfl⟩
  have hr23 : r.size ≤ 23 := by rw [← hr, ba_size]; exact n2
  have mu : mayB (tl u) = true := by rw [← hu, tl_ba]; exact m1
  have mc : mayB (tl c) = true := by rw [← hc, tl_ba]; exact q1
  have su := may_size mu
  have sc := may_size mc
  have C1 : Hid (∀ W, Gr W → Calls Tryd.prog 36 #[.string a] W fun e w' => e = .returned (.tuple #[.string u, .bool true]) ∧ Below W.heap.size W w') := by intro W h; rw [← hu]; exact temp_yes a hm W h (by omega)
  have C2 : Hid (∀ W, Gd W → Calls Tryd.prog 38 #[.string a, .int .i64 t, .int .i64 (1 + b % 16)] W fun e w' => e = .returned (.tuple #[.string c, .bool true]) ∧ Below W.heap.size W w') := by
    intro W h; rw [← hc]; exact conflict_yes a t (1 + b % 16) hm h1 h2 (by omega) (by omega) W h (by omega)
  have C3 : Hid (∀ W, Gd W → Calls Tryd.prog 22 #[.string a] W fun e w' => e = .returned (.bool true) ∧ Below W.heap.size W w') := by
    intro W h; have := may_any a W h (by omega); rw [hm] at this; exact this
  have C4 : Hid (∀ W, Gd W → Calls Tryd.prog 28 #[.string a] W fun e w' => e = .returned (.tuple #[.string x, .bool true]) ∧ Below W.heap.size W w') := by
    intro W h; have := parent_any a W h (by omega); rw [findV_yes hm, hm] at this; rw [← hx]; exact this
  have C5 : Hid (∀ W, Gd W → Calls Tryd.prog 28 #[.string u] W fun e w' => e = .returned (.tuple #[.string x, .bool true]) ∧ Below W.heap.size W w') := by
    intro W h; have := parent_any u W h (by omega); rw [findV_yes mu, mu] at this; rw [← hx, ← m2]; rw [← hu, tl_ba] at this; rw [← hu]; exact this
  have C6 : Hid (∀ W, Gd W → Calls Tryd.prog 28 #[.string c] W fun e w' => e = .returned (.tuple #[.string x, .bool true]) ∧ Below W.heap.size W w') := by
    intro W h; have := parent_any c W h (by omega); rw [findV_yes mc, mc] at this; rw [← hx, ← q2]; rw [← hc, tl_ba] at this; rw [← hc]; exact this
  have C7 : Hid (∀ W, Calls Tryd.prog 40 #[.string u] W fun e w' => e = .returned (.bool true) ∧ W = w') := by
    intro W; have := isTemp_any u W (by omega)
    rw [isTempB, ← hu, tl_ba, tempL, m3, tempPart_is] at this; rw [← hu]; exact this
  have C8 : Hid (∀ W, Calls Tryd.prog 42 #[.string c] W fun e w' => e = .returned (.bool true) ∧ Below W.heap.size W w') := by
    intro W; have := isConflict_any c W (by omega)
    rw [isConfB, ← hc, tl_ba, conflictL, q3, clash_mark h1 h2 (by omega) (by omega)] at this; rw [← hc]; exact this
  have C9 : Hid (∀ W, Gd W → Calls Tryd.prog 30 #[.string u] W fun e w' => e = .returned (.string r) ∧ Below W.heap.size W w') := by
    intro W h; have := base_any u W h (by omega); rw [findV_yes mu] at this; rw [← hr, ← m3]; rw [← hu, tl_ba] at this; rw [← hu]; exact this
  clear hG hm hA hnl n1 n2 m1 m2 m3 k1 q1 q2 q3 hx hu hc hr mu mc
  go_enter Tryd.func11, Tryd.ntmps11
  go_wp2_with fail
  refine (CA.out _).mono ?_; rintro e1 w1 ⟨rfl, rfl⟩
  go_wp2_with fail
  refine (C1.out _ HG.out).mono ?_; rintro e2 w2 ⟨rfl, hb2⟩; have B2 := hid hb2; clear hb2
  go_wp2_with fail
  refine (C2.out _ (HG.out.1.kept B2.out)).mono ?_; rintro e3 w3 ⟨rfl, hb3⟩; have B3 : Hid (Below w.heap.size w w3) := B2.out.trans (hb3.mono B2.out.size); clear hb3
  go_wp2_with fail
  refine (C3.out _ (HG.out.1.kept B3.out)).mono ?_; rintro e4 w4 ⟨rfl, hb4⟩; have B4 : Hid (Below w.heap.size w w4) := B3.out.trans (hb4.mono B3.out.size); clear hb4
  go_wp2_with fail
  refine (C4.out _ (HG.out.1.kept B4.out)).mono ?_; rintro e5 w5 ⟨rfl, hb5⟩; have B5 : Hid (Below w.heap.size w w5) := B4.out.trans (hb5.mono B4.out.size); clear hb5
  go_wp2_with fail
  refine (C5.out _ (HG.out.1.kept B5.out)).mono ?_; rintro e6 w6 ⟨rfl, hb6⟩; have B6 : Hid (Below w.heap.size w w6) := B5.out.trans (hb6.mono B5.out.size); clear hb6
  go_wp2_with fail
  refine (C6.out _ (HG.out.1.kept B6.out)).mono ?_; rintro e7 w7 ⟨rfl, hb7⟩; have B7 : Hid (Below w.heap.size w w7) := B6.out.trans (hb7.mono B6.out.size); clear hb7
  go_wp2_with fail
  refine (C7.out _).mono ?_; rintro e8 w8 ⟨rfl, rfl⟩
  go_wp2_with fail
  refine (C8.out _).mono ?_; rintro e9 w9 ⟨rfl, hb9⟩; have B9 : Hid (Below w.heap.size w w9) := B7.out.trans (hb9.mono B7.out.size); clear hb9
  go_wp2_with fail
  refine (C9.out _ (HG.out.1.kept B9.out)).mono ?_; rintro e10 w10 ⟨rfl, hb10⟩; have B10 : Hid (Below w.heap.size w w10) := B9.out.trans (hb10.mono B9.out.size); clear hb10
  go_wp2_with fail
  refine (works_any _ (HG.out.1.kept B10.out)).mono ?_; rintro e11 w11 ⟨rfl, hb11⟩; have B11 : Hid (Below w.heap.size w w11) := B10.out.trans (hb11.mono B10.out.size); clear hb11
  go_wp2
  go_ret
  exact ⟨rfl, B11.out⟩
theorem fits_law (a0 : ByteArray) (t b : Int) (w : World) (hG : Gr w) (ha0 : a0.size ≤ maxLen) (h1 : 0 ≤ t) (h2 : t ≤ 4294967295) (p1 : 0 ≤ b) (p2 : b ≤ 255) :
    Calls Tryd.prog 11 #[.string a0, .int .u32 t, .int .u8 b] w fun e w' => e = .returned (.bool true) ∧ Below w.heap.size w w' := by
  cases hm : mayB (tl (ba ((tl a0).take 400))) with
  | false => exact fits_no a0 _ t b w hG ha0 rfl h1 h2 p1 p2 hm
  | true => exact fits_yes a0 _ t b w hG ha0 rfl h1 h2 p1 p2 hm
end Go.Proofs.YthhclcjocakdlaaDoor
