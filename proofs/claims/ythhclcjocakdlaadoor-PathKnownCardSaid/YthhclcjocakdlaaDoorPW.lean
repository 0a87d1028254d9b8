/- The walk of the law PathBack: a path is the path of its parts, and its last part in its parent. Conditions: a world in which the listed variables lie. -/
import Derived.Test.YthhclcjocakdlaaDoorPS
import Derived.Test.YthhclcjocakdlaaDoorPL
namespace Go.Proofs.YthhclcjocakdlaaDoor
open Go.RowKit
/-- A text has no slash, and is its one part; or stands apart at its last slash. -/
theorem split_last (l : List UInt8) : pieces l = [l] ∨ ∃ a b, l = a ++ 47 :: b ∧ pieces l = pieces a ++ [b] := by
  induction l with
  | nil => exact .inl rfl
  | cons c l ih =>
    by_cases hc : c = 47
    · subst hc
      rcases ih with h | ⟨a, b, h1, h2⟩
      · exact .inr ⟨[], l, rfl, by rw [show pieces (47 :: l) = [] :: pieces l by rw [pieces, if_pos rfl], h]; rfl⟩
      · exact .inr ⟨47 :: a, b, by rw [h1]; rfl, by rw [pieces, if_pos rfl, h2, pieces, if_pos rfl]; rfl⟩
    · rcases ih with h | ⟨a, b, h1, h2⟩
      · exact .inl (by rw [pieces, if_neg hc, h])
      · refine .inr ⟨c :: a, b, by rw [h1]; rfl, ?_⟩
        rw [pieces, if_neg hc, h2, pieces, if_neg hc]
        cases hp : pieces a with
        | nil => exact absurd hp (pieces_ne a)
        | cons p ps => rfl
theorem lastP_one {l : List UInt8} (h : pieces l = [l]) : lastP l = l := by
  have : ∀ (ps : List (List UInt8)) (hne : ps ≠ []), ps = [l] → ps.getLast hne = l := by rintro ps hne rfl; rfl
  exact this _ _ h
theorem lastP_two {l a b : List UInt8} (h : pieces l = pieces a ++ [b]) : lastP l = b := by
  have : ∀ (ps : List (List UInt8)) (hne : ps ≠ []), ps = pieces a ++ [b] → ps.getLast hne = b := by rintro ps hne rfl; simp
  exact this _ _ h
theorem aheadL_one {l : List UInt8} (h : pieces l = [l]) : aheadL l = [] := by rw [aheadL, lastP_one h]; simp
theorem aheadL_two {l a b : List UInt8} (h1 : l = a ++ 47 :: b) (h : pieces l = pieces a ++ [b]) : aheadL l = a := by
  rw [aheadL, lastP_two h, h1, List.length_append, List.length_cons, show a.length + (b.length + 1) - b.length - 1 = a.length by omega, List.take_left]
theorem join_pieces (n : Nat) : ∀ l : List UInt8, l.length ≤ n → joinL (pieces l) = l := by
  induction n with
  | zero => intro l h; obtain rfl := List.length_eq_zero_iff.1 (Nat.le_zero.1 h); rfl
  | succ n ih =>
    intro l h
    rcases split_last l with h1 | ⟨a, b, h1, h2⟩
    · rw [h1]; simp [joinL, Lib.join_one]
    · rw [h2, joinL_snoc, if_neg (pieces_ne a), ih a (by rw [h1] at h; simp at h; omega), ← h1]
theorem may_parts {l : List UInt8} (h : mayB l = true) : l.length ≤ 160 ∧ (pieces l).length ≤ 6 ∧ (pieces l).all nameB = true ∧ (aheadL l).length ≤ 111 := by
  unfold mayB goodB at h
  simp only [Bool.and_eq_true, decide_eq_true_eq] at h
  exact ⟨h.1.1, h.1.2.1, h.1.2.2, h.2⟩
theorem may_of {l : List UInt8} (h1 : l.length ≤ 160) (h2 : (pieces l).length ≤ 6) (h3 : (pieces l).all nameB = true) (h4 : (aheadL l).length ≤ 111) : mayB l = true := by
  unfold mayB goodB
  simp only [Bool.and_eq_true, decide_eq_true_eq]
  exact ⟨⟨h1, h2, h3⟩, h4⟩
theorem joinV_pieces {l : List UInt8} (h : mayB l = true) : joinV (pieces l) = (l, true) := by
  obtain ⟨_, h2, h3, _⟩ := may_parts h
  rw [joinV, join_pieces _ l (Nat.le_refl _), h, h3, decide_eq_true h2]; rfl
/-- A path of one part, or what stands apart at its last slash: its parent is a path, within which it lies. -/
theorem may_split {l : List UInt8} (h : mayB l = true) : (aheadL l = [] ∧ lastP l = l ∧ (pieces l).length = 1) ∨ (aheadL l ≠ [] ∧ l = aheadL l ++ 47 :: lastP l ∧ mayB (aheadL l) = true ∧ withinB l (aheadL l) = true) := by
  obtain ⟨h1, h2, h3, h4⟩ := may_parts h
  rcases split_last l with e | ⟨a, b, e1, e2⟩
  · exact .inl ⟨aheadL_one e, lastP_one e, by rw [e]; rfl⟩
  · right
    have ha := aheadL_two e1 e2
    have hb := lastP_two e2
    rw [e2, List.all_append] at h3
    simp only [Bool.and_eq_true] at h3
    have hne : a ≠ [] := by
      rintro rfl
      have := h3.1
      simp [pieces, nameB, headB] at this
    rw [ha] at h4 ⊢
    have hm : mayB a = true := may_of (by omega) (by rw [e2, List.length_append] at h2; omega) h3.1 (Nat.le_trans (aheadL_len a) h4)
    exact ⟨hne, by rw [hb]; exact e1, hm, withinB_mk h hm ⟨b, e1⟩⟩
theorem low_pos {w w2 : World} (hG : Gd w) (hb : Below w.heap.size w w2) : 0 < w2.heap.size := by
  have h1 := hG.2.2
  have h2 := hb.size
  have h3 : decide (0 < Tryd.prog.low) = true := by kernel_rfl
  have h3 := of_decide_eq_true h3
  omega
theorem piece_small {l x : List UInt8} (h : l.length ≤ 400) (hx : x ∈ pieces l) : x.length ≤ 400 := Nat.le_trans (pieces_len _ l (Nat.le_refl _) x hx) h
set_option maxRecDepth 100000 in
set_option maxHeartbeats 2000000 in
theorem back_no (a0 a : ByteArray) (w : World) (hG : Gd w) (ha0 : a0.size ≤ maxLen) (hA : ba ((tl a0).take 400) = a) (hm : mayB (tl a) = false) :
    Calls Tryd.prog 8 #[.string a0] w fun e w' => e = .returned (.bool true) ∧ Below w.heap.size w w' := by
  have HG := hid hG
  have ka := small_cut a0 a hA
  have CA : Hid (∀ W, Calls Tryd.prog 17 #[.string a0] W fun e w' => e = .returned (.string a) ∧ W = w') := by intro W; rw [← hA]; exact cut_str a0 W ha0
  have C1 := hid (parts_any a w hG (by omega))
  have HL : Hid (partsL (tl a) = []) := by show _ = _; rw [partsL, hm]; rfl
  have C2 : Hid (∀ W, Gd W → Calls Tryd.prog 28 #[.string a] W fun e w' => e = .returned (.tuple #[.string ⟨#[]⟩, .bool false]) ∧ Below W.heap.size W w') := by
    intro W h; have := parent_any a W h (by omega); rw [findV_no hm, hm] at this; exact this
  have C3 : Hid (∀ W, Gd W → Calls Tryd.prog 30 #[.string a] W fun e w' => e = .returned (.string ⟨#[]⟩) ∧ Below W.heap.size W w') := by
    intro W h; have := base_any a W h (by omega); rw [findV_no hm] at this; exact this
  have C4 : Hid (∀ W, Gd W → Calls Tryd.prog 22 #[.string a] W fun e w' => e = .returned (.bool false) ∧ Below W.heap.size W w') := by
    intro W h; have := may_any a W h (by omega); rw [hm] at this; exact this
  clear hG hm hA
  go_enter Tryd.func8, Tryd.ntmps8
  go_wp2_with fail
  refine (CA.out _).mono ?_; rintro e1 w1 ⟨rfl, rfl⟩
  go_wp2_with fail
  refine C1.out.mono ?_
  rintro e2 w2 ⟨v, rfl, ho, hb2⟩
  rw [HL.out] at ho
  have HP : Hid (0 < w2.heap.size) := low_pos HG.out hb2
  obtain ⟨A, g, c, rfl, hS⟩ := sl_of_own (xs := []) ho HP.out
  have B2 := hid hb2
  clear ho hb2 hS
  go_wp2_with fail
  refine (C2.out _ (HG.out.kept B2.out)).mono ?_; rintro e3 w3 ⟨rfl, hb3⟩; have B3 : Hid (Below w.heap.size w w3) := B2.out.trans (hb3.mono B2.out.size); clear hb3
  go_wp2_with fail
  refine (C3.out _ (HG.out.kept B3.out)).mono ?_; rintro e4 w4 ⟨rfl, hb4⟩; have B4 : Hid (Below w.heap.size w w4) := B3.out.trans (hb4.mono B3.out.size); clear hb4
  go_wp2_with fail
  refine (C4.out _ (HG.out.kept B4.out)).mono ?_; rintro e5 w5 ⟨rfl, hb5⟩; have B5 : Hid (Below w.heap.size w w5) := B4.out.trans (hb5.mono B4.out.size); clear hb5
  go_wp2_with fail
  refine (works_any _ (HG.out.kept B5.out)).mono ?_; rintro e6 w6 ⟨rfl, hb6⟩; have B6 : Hid (Below w.heap.size w w6) := B5.out.trans (hb6.mono B5.out.size); clear hb6
  go_wp2
  go_ret
  exact ⟨rfl, B6.out⟩
set_option maxRecDepth 100000 in
set_option maxHeartbeats 2000000 in
theorem back_yes (a0 a : ByteArray) (w : World) (hG : Gd w) (ha0 : a0.size ≤ maxLen) (hA : ba ((tl a0).take 400) = a) (hm : mayB (tl a) = true) :
    Calls Tryd.prog 8 #[.string a0] w fun e w' => e = .returned (.bool true) ∧ Below w.heap.size w w' := by
  have HG := hid hG
  have ka := small_cut a0 a hA
  have CA : Hid (∀ W, Calls Tryd.prog 17 #[.string a0] W fun e w' => e = .returned (.string a) ∧ W = w') := by intro W; rw [← hA]; exact cut_str a0 W ha0
  have C1 := hid (parts_any a w hG (by omega))
  have HL : Hid (partsL (tl a) = pieces (tl a)) := by show _ = _; rw [partsL, hm]; rfl
  obtain ⟨x, hx⟩ : ∃ x, ba (aheadL (tl a)) = x := ⟨_, rfl⟩
  obtain ⟨y, hy⟩ : ∃ y, ba (lastP (tl a)) = y := ⟨_, rfl⟩
  have hxs : x.size ≤ 400 := by rw [← hx, ba_size]; have := aheadL_len (tl a); rw [tl_length] at this; omega
  have hys : y.size ≤ 400 := by rw [← hy, ba_size]; have := pieces_len _ (tl a) (Nat.le_refl _) _ (lastP_mem (tl a)); rw [tl_length] at this; omega
  have C2 : Hid (∀ W, Gd W → Calls Tryd.prog 28 #[.string a] W fun e w' => e = .returned (.tuple #[.string x, .bool true]) ∧ Below W.heap.size W w') := by
    intro W h; have := parent_any a W h (by omega); rw [findV_yes hm, hm] at this; rw [← hx]; exact this
  have C3 : Hid (∀ W, Gd W → Calls Tryd.prog 30 #[.string a] W fun e w' => e = .returned (.string y) ∧ Below W.heap.size W w') := by
    intro W h; have := base_any a W h (by omega); rw [findV_yes hm] at this; rw [← hy]; exact this
  have C4 : Hid (∀ W, Gd W → Calls Tryd.prog 22 #[.string a] W fun e w' => e = .returned (.bool true) ∧ Below W.heap.size W w') := by
    intro W h; have := may_any a W h (by omega); rw [hm] at this; exact this
  obtain ⟨n, HN⟩ : ∃ n, Hid ((pieces (tl a)).length = n + 1) := ⟨(pieces (tl a)).length - 1, by
    show _ = _; have := List.length_pos_iff.2 (pieces_ne (tl a)); omega⟩
  have hn6 : n ≤ 5 := by have := (may_parts hm).2.1; rw [HN.out] at this; omega
  have C5 : Hid (∀ W A g c, Gd W → Sl W A (pieces (tl a)) g c → Calls Tryd.prog 18 #[.slice A (n + 1) c] W fun e w' => e = .returned (.tuple #[.string a, .bool true]) ∧ Below W.heap.size W w') := by
    intro W A g c h hS
    have := join_any A (pieces (tl a)) (n + 1) g c W h hS HN.out (fun z hz => piece_small (by rw [tl_length]; exact ka) hz) (by omega)
    rw [joinV_pieces hm, ba_tl] at this; exact this
  have C6 : Hid (∀ W, Calls Tryd.prog 20 #[.string y] W fun e w' => e = .returned (.bool true) ∧ W = w') := by
    intro W; have := name_any y W (by omega)
    rw [← hy, tl_ba, good_all (mayB_good hm) _ (lastP_mem (tl a)), hy] at this; exact this
  have HY : Hid (∀ W A g c, Sl W A (pieces (tl a)) g c → A = some ⟨g, 0, none⟩ ∧ W.cell? ⟨g, n, none⟩ = some (.string y)) := by
    intro W A g c hS
    refine ⟨hS.src (by rw [HN.out]; omega), ?_⟩
    have := hS.at_ n (by rw [HN.out]; omega)
    rw [this, S9, ← hy, ← lastP_getD, HN.out]; rfl
  rcases may_split hm with ⟨e1, e2, e3⟩ | ⟨e1, e2, e3, e4⟩
  · have f1 : x.toList = [] := by rw [toList_tl, ← hx, tl_ba, e1]
    have f2 : (y.toList == a.toList) = true := by rw [toList_tl, toList_tl, ← hy, tl_ba, e2]; simp
    obtain rfl : n = 0 := by have := HN.out; rw [e3] at this; omega
    clear hG hm hA e1 e2 e3 hx hy
    go_enter Tryd.func8, Tryd.ntmps8
    go_wp2_with fail
    refine (CA.out _).mono ?_; rintro e1 w1 ⟨rfl, rfl⟩
    go_wp2_with fail
    refine C1.out.mono ?_
    rintro e2 w2 ⟨v, rfl, ho, hb2⟩
    rw [HL.out] at ho
    have HP : Hid (0 < w2.heap.size) := low_pos HG.out hb2
    obtain ⟨A, g, c, rfl, hS⟩ := sl_of_own ho HP.out
    have B2 := hid hb2
    obtain ⟨rfl, _⟩ := HY.out _ _ _ _ hS
    have S2 := hid hS
    clear ho hb2 hS
    rw [HN.out]
    go_wp2_with fail
    refine (C2.out _ (HG.out.kept B2.out)).mono ?_; rintro e3 w3 ⟨rfl, hb3⟩; have B3 : Hid (Below w.heap.size w w3) := B2.out.trans (hb3.mono B2.out.size); have S3 := hid (S2.out.kept hb3); clear hb3
    go_wp2_with fail
    refine (C3.out _ (HG.out.kept B3.out)).mono ?_; rintro e4 w4 ⟨rfl, hb4⟩; have B4 : Hid (Below w.heap.size w w4) := B3.out.trans (hb4.mono B3.out.size); have S4 := hid (S3.out.kept hb4); clear hb4
    go_wp2_with fail
    refine (C4.out _ (HG.out.kept B4.out)).mono ?_; rintro e5 w5 ⟨rfl, hb5⟩; have B5 : Hid (Below w.heap.size w w5) := B4.out.trans (hb5.mono B4.out.size); have S5 := hid (S4.out.kept hb5); clear hb5
    go_wp2_with fail
    refine (C5.out _ _ _ _ (HG.out.kept B5.out) S5.out).mono ?_; rintro e6 w6 ⟨rfl, hb6⟩; have B6 : Hid (Below w.heap.size w w6) := B5.out.trans (hb6.mono B5.out.size); have S6 := hid (S5.out.kept hb6); clear hb6
    have c6 := (HY.out _ _ _ _ S6.out).2
    go_wp2_with fail
    refine (C6.out _).mono ?_; rintro e7 w7 ⟨rfl, rfl⟩
    go_wp2_with fail
    refine (works_any _ (HG.out.kept B6.out)).mono ?_; rintro e9 w9 ⟨rfl, hb9⟩; have B9 : Hid (Below w.heap.size w w9) := B6.out.trans (hb9.mono B6.out.size); clear hb9
    go_wp2
    go_ret
    exact ⟨rfl, B9.out⟩
  · have f1 : ¬ x.toList = [] := by rw [toList_tl, ← hx, tl_ba]; exact e1
    have f1' : x.toList.isEmpty = false := by simpa using f1
    have f2 : (x ++ ⟨#[47]⟩ ++ y).toList = a.toList := by
      rw [toList_tl, toList_tl, ba_append, ba_append, ← hx, ← hy]
      simp only [tl_ba]
      conv => rhs; rw [e2]
      simp [tl]
    have f3 : ((x ++ ⟨#[47]⟩ ++ y).toList == a.toList) = true := by rw [f2]; simp
    have HF := hid f2
    have C7 : Hid (∀ W, Gd W → Calls Tryd.prog 22 #[.string x] W fun e w' => e = .returned (.bool true) ∧ Below W.heap.size W w') := by
      intro W h; have := may_any x W h (by omega); rw [← hx, tl_ba, e3, hx] at this; exact this
    have C8 : Hid (∀ W, Gd W → Calls Tryd.prog 32 #[.string a, .string x] W fun e w' => e = .returned (.bool true) ∧ Below W.heap.size W w') := by
      intro W h; have := within_any a x W h (by omega) (by omega); rw [← hx, tl_ba, e4, hx] at this; exact this
    clear hG hm hA e1 e2 e3 e4 hx hy f2
    go_enter Tryd.func8, Tryd.ntmps8
    go_wp2_with fail
    refine (CA.out _).mono ?_; rintro e1 w1 ⟨rfl, rfl⟩
    go_wp2_with fail
    refine C1.out.mono ?_
    rintro e2 w2 ⟨v, rfl, ho, hb2⟩
    rw [HL.out] at ho
    have HP : Hid (0 < w2.heap.size) := low_pos HG.out hb2
    obtain ⟨A, g, c, rfl, hS⟩ := sl_of_own ho HP.out
    have B2 := hid hb2
    obtain ⟨rfl, _⟩ := HY.out _ _ _ _ hS
    have S2 := hid hS
    clear ho hb2 hS
    rw [HN.out]
    go_wp2_with fail
    refine (C2.out _ (HG.out.kept B2.out)).mono ?_; rintro e3 w3 ⟨rfl, hb3⟩; have B3 : Hid (Below w.heap.size w w3) := B2.out.trans (hb3.mono B2.out.size); have S3 := hid (S2.out.kept hb3); clear hb3
    go_wp2_with fail
    refine (C3.out _ (HG.out.kept B3.out)).mono ?_; rintro e4 w4 ⟨rfl, hb4⟩; have B4 : Hid (Below w.heap.size w w4) := B3.out.trans (hb4.mono B3.out.size); have S4 := hid (S3.out.kept hb4); clear hb4
    go_wp2_with fail
    refine (C4.out _ (HG.out.kept B4.out)).mono ?_; rintro e5 w5 ⟨rfl, hb5⟩; have B5 : Hid (Below w.heap.size w w5) := B4.out.trans (hb5.mono B4.out.size); have S5 := hid (S4.out.kept hb5); clear hb5
    go_wp2_with fail
    refine (C5.out _ _ _ _ (HG.out.kept B5.out) S5.out).mono ?_; rintro e6 w6 ⟨rfl, hb6⟩; have B6 : Hid (Below w.heap.size w w6) := B5.out.trans (hb6.mono B5.out.size); have S6 := hid (S5.out.kept hb6); clear hb6
    have c6 := (HY.out _ _ _ _ S6.out).2
    go_wp2_with fail
    refine (C6.out _).mono ?_; rintro e7 w7 ⟨rfl, rfl⟩
    go_wp2_with fail
    refine (C7.out _ (HG.out.kept B6.out)).mono ?_; rintro e7 w7 ⟨rfl, hb7⟩; have B7 : Hid (Below w.heap.size w w7) := B6.out.trans (hb7.mono B6.out.size); clear hb7
    go_wp2_with fail
    refine (C8.out _ (HG.out.kept B7.out)).mono ?_; rintro e8 w8 ⟨rfl, hb8⟩; have B8 : Hid (Below w.heap.size w w8) := B7.out.trans (hb8.mono B7.out.size); clear hb8
    go_wp2_with fail
    refine (works_any _ (HG.out.kept B8.out)).mono ?_; rintro e9 w9 ⟨rfl, hb9⟩; have B9 : Hid (Below w.heap.size w w9) := B8.out.trans (hb9.mono B8.out.size); clear hb9
    go_wp2
    go_ret
    exact ⟨rfl, B9.out⟩
theorem back_any (a0 : ByteArray) (w : World) (hG : Gd w) (ha0 : a0.size ≤ maxLen) :
    Calls Tryd.prog 8 #[.string a0] w fun e w' => e = .returned (.bool true) ∧ Below w.heap.size w w' := by
  cases hm : mayB (tl (ba ((tl a0).take 400))) with
  | false => exact back_no a0 _ w hG ha0 rfl hm
  | true => exact back_yes a0 _ w hG ha0 rfl hm
end Go.Proofs.YthhclcjocakdlaaDoor
