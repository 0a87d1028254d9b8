/- The document's Parent, Base, Within (caravanref02), and the walk of the law PathParents. Conditions: a world in which the listed variables lie. -/
import Derived.Test.YthhclcjocakdlaaDoorPO
import Derived.Test.YthhclcjocakdlaaDoorPJ
namespace Go.Proofs.YthhclcjocakdlaaDoor
open Go.RowKit
theorem rmay_v (s : ByteArray) (v : Bool) (h : Hid (mayB (tl s) = v)) (w : World) (hs : s.size ≤ 4000) :
    Calls Tryd.prog 23 #[.string s] w fun e w' => e = .returned (.bool v) ∧ Below w.heap.size w w' := by
  rw [← h.out]; exact rmay_any s w hs
set_option maxRecDepth 100000 in
set_option maxHeartbeats 400000 in
theorem rparent_any (s : ByteArray) (w : World) (hs : s.size ≤ 4000) :
    Calls Tryd.prog 29 #[.string s] w fun e w' => e = .returned (.tuple #[.string (ba (findV (tl s)).1), .bool (mayB (tl s))]) ∧ Below w.heap.size w w' := by
  cases hm : mayB (tl s) with
  | false =>
    have HM := hid hm
    have HF := hid (findV_no hm)
    clear hm
    go_enter Tryd.func29, Tryd.ntmps29
    go_wp2_with (go_at_call 23; refine (rmay_v s false HM _ hs).mono ?_; rintro e1 w1 ⟨rfl, hb1⟩; have B1 := hid hb1; clear hb1)
    go_ret2
    exact ⟨by rw [HF.out]; rfl, B1.out⟩
  | true =>
    have HM := hid hm
    have HF := hid (findV_yes hm)
    clear hm
    go_enter Tryd.func29, Tryd.ntmps29
    go_wp2_with (first
      | (go_at_call 23; refine (rmay_v s true HM _ hs).mono ?_; rintro e1 w1 ⟨rfl, hb1⟩; have B1 := hid hb1; clear hb1)
      | (go_at_call 60; refine (rahead_any s _ hs).mono ?_; rintro e2 w2 ⟨rfl, hb2⟩; have B2 : Hid (Below w.heap.size w w2) := B1.out.trans (hb2.mono B1.out.size); clear hb2))
    go_ret2
    exact ⟨by rw [HF.out]; rfl, B2.out⟩
set_option maxRecDepth 100000 in
set_option maxHeartbeats 400000 in
theorem rbase_any (s : ByteArray) (w : World) (hs : s.size ≤ 4000) :
    Calls Tryd.prog 31 #[.string s] w fun e w' => e = .returned (.string (ba (findV (tl s)).2)) ∧ Below w.heap.size w w' := by
  cases hm : mayB (tl s) with
  | false =>
    have HM := hid hm
    have HF := hid (findV_no hm)
    clear hm
    go_enter Tryd.func31, Tryd.ntmps31
    go_wp2_with (go_at_call 23; refine (rmay_v s false HM _ hs).mono ?_; rintro e1 w1 ⟨rfl, hb1⟩; have B1 := hid hb1; clear hb1)
    go_ret
    exact ⟨by rw [HF.out]; rfl, B1.out⟩
  | true =>
    have HM := hid hm
    have HF := hid (findV_yes hm)
    clear hm
    go_enter Tryd.func31, Tryd.ntmps31
    go_wp2_with (first
      | (go_at_call 23; refine (rmay_v s true HM _ hs).mono ?_; rintro e1 w1 ⟨rfl, hb1⟩; have B1 := hid hb1; clear hb1)
      | (go_at_call 63; refine (rlast_any s _ hs).mono ?_; rintro e2 w2 ⟨rfl, hb2⟩; have B2 : Hid (Below w.heap.size w w2) := B1.out.trans (hb2.mono B1.out.size); clear hb2))
    go_ret
    exact ⟨by rw [HF.out]; rfl, B2.out⟩
theorem prefix_iff (d p : List UInt8) : (d ++ [47]).isPrefixOf p = true ↔ d.length < p.length ∧ p.take d.length = d ∧ at8 p d.length = 47 := by
  constructor
  · intro h
    obtain ⟨r, hr⟩ := List.isPrefixOf_iff_prefix.1 h
    subst hr
    refine ⟨by simp, by simp, ?_⟩
    simp [at8, List.getD]
  · rintro ⟨h1, h2, h3⟩
    apply List.isPrefixOf_iff_prefix.2
    refine ⟨p.drop (d.length + 1), ?_⟩
    have e : at8 p d.length = p[d.length] := by simp [at8, List.getD, List.getElem?_eq_getElem h1]
    rw [e] at h3
    conv => rhs; rw [← List.take_append_drop d.length p, h2, List.drop_eq_getElem_cons h1, h3]
    simp
set_option maxRecDepth 100000 in
set_option maxHeartbeats 1000000 in
theorem rwithin_any (p d : ByteArray) (w : World) (hp : p.size ≤ 4000) (hd : d.size ≤ 4000) :
    Calls Tryd.prog 33 #[.string p, .string d] w fun e w' => e = .returned (.bool (withinB (tl p) (tl d))) ∧ Below w.heap.size w w' := by
  cases h1 : mayB (tl p) with
  | false =>
    have H1 := hid h1
    have HV : Hid (withinB (tl p) (tl d) = false) := by show _ = _; rw [withinB, h1]; split <;> rfl
    clear h1
    go_enter Tryd.func33, Tryd.ntmps33
    go_wp2_with fail
    refine (rmay_v p false H1 _ hp).mono ?_; rintro e1 w1 ⟨rfl, hb1⟩; have B1 := hid hb1; clear hb1
    go_wp2
    go_ret
    exact ⟨ret_bool HV.out.symm, B1.out⟩
  | true =>
    have H1 := hid h1
    by_cases h0 : d.toList = []
    · have h0' : (!d.toList.isEmpty) = false := by simp [h0]
      have HV : Hid (withinB (tl p) (tl d) = true) := by show _ = _; rw [withinB, if_pos (by rw [← toList_tl, h0]), h1]
      clear h1
      go_enter Tryd.func33, Tryd.ntmps33
      go_wp2_with fail
      refine (rmay_v p true H1 _ hp).mono ?_; rintro e1 w1 ⟨rfl, hb1⟩; have B1 := hid hb1; clear hb1
      go_wp2
      go_ret
      exact ⟨ret_bool HV.out.symm, B1.out⟩
    · have h0' : (!d.toList.isEmpty) = true := by simp [h0]
      have h0'' : d.toList.isEmpty = false := by simp [h0]
      have hd0 : tl d ≠ [] := by rw [← toList_tl]; exact h0
      cases h2 : mayB (tl d) with
      | false =>
        have H2 := hid h2
        have HV : Hid (withinB (tl p) (tl d) = false) := by show _ = _; rw [withinB, if_neg hd0, h1, h2]; rfl
        clear h1 h2
        go_enter Tryd.func33, Tryd.ntmps33
        go_wp2_with fail
        refine (rmay_v p true H1 _ hp).mono ?_; rintro e1 w1 ⟨rfl, hb1⟩; have B1 := hid hb1; clear hb1
        go_wp2_with fail
        refine (rmay_v d false H2 _ hd).mono ?_; rintro e2 w2 ⟨rfl, hb2⟩; have B2 : Hid (Below w.heap.size w w2) := B1.out.trans (hb2.mono B1.out.size); clear hb2
        go_wp2
        go_ret
        exact ⟨ret_bool HV.out.symm, B2.out⟩
      | true =>
        have H2 := hid h2
        have HW : withinB (tl p) (tl d) = (tl d ++ [47]).isPrefixOf (tl p) := by rw [withinB, if_neg hd0, h1, h2]; simp
        have HI := prefix_iff (tl d) (tl p)
        rw [tl_length, tl_length] at HI
        clear h1 h2 hd0
        by_cases c1 : d.size < p.size
        · have g1 : (d.size : Int) < (p.size : Int) := by omega
          have g1' : (d.size : Int) ≤ (p.size : Int) := by omega
          have HX : Hid ((p.extract 0 d.size).toList = (tl p).take d.size) := by show _ = _; rw [toList_tl, ba_take, tl_ba]
          by_cases c2 : (tl p).take d.size = tl d
          · have g2 : ((p.extract 0 d.size).toList == d.toList) = true := by rw [HX.out, c2, toList_tl]; simp
            have i1 := index_str p d.size c1
            by_cases c3 : b8 (at8 (tl p) d.size) = 47
            · have HV : Hid (withinB (tl p) (tl d) = true) := by show _ = _; rw [HW, HI]; exact ⟨c1, c2, b8_inj c3⟩
              have g3 : (b8 (at8 (tl p) d.size) == 47) = true := by simp [c3]
              clear HW HI c2 c3
              generalize at8 (tl p) d.size = x at i1 g3
              go_enter Tryd.func33, Tryd.ntmps33
              go_wp2_with fail
              refine (rmay_v p true H1 _ hp).mono ?_; rintro e1 w1 ⟨rfl, hb1⟩; have B1 := hid hb1; clear hb1
              go_wp2_with fail
              refine (rmay_v d true H2 _ hd).mono ?_; rintro e2 w2 ⟨rfl, hb2⟩; have B2 : Hid (Below w.heap.size w w2) := B1.out.trans (hb2.mono B1.out.size); clear hb2
              go_wp2
              go_ret
              exact ⟨ret_bool HV.out.symm, B2.out⟩
            · have HV : Hid (withinB (tl p) (tl d) = false) := by
                show _ = _; rw [HW, Bool.eq_false_iff]; intro h; have := (HI.1 h).2.2; exact c3 (by rw [this]; rfl)
              have g3 : (b8 (at8 (tl p) d.size) == 47) = false := by simp [c3]
              clear HW HI c2 c3
              generalize at8 (tl p) d.size = x at i1 g3
              go_enter Tryd.func33, Tryd.ntmps33
              go_wp2_with fail
              refine (rmay_v p true H1 _ hp).mono ?_; rintro e1 w1 ⟨rfl, hb1⟩; have B1 := hid hb1; clear hb1
              go_wp2_with fail
              refine (rmay_v d true H2 _ hd).mono ?_; rintro e2 w2 ⟨rfl, hb2⟩; have B2 : Hid (Below w.heap.size w w2) := B1.out.trans (hb2.mono B1.out.size); clear hb2
              go_wp2
              go_ret
              exact ⟨ret_bool HV.out.symm, B2.out⟩
          · have g2 : ((p.extract 0 d.size).toList == d.toList) = false := by rw [HX.out, toList_tl]; simp [c2]
            have HV : Hid (withinB (tl p) (tl d) = false) := by
              show _ = _; rw [HW, Bool.eq_false_iff]; intro h; exact c2 (HI.1 h).2.1
            clear HW HI c2
            go_enter Tryd.func33, Tryd.ntmps33
            go_wp2_with fail
            refine (rmay_v p true H1 _ hp).mono ?_; rintro e1 w1 ⟨rfl, hb1⟩; have B1 := hid hb1; clear hb1
            go_wp2_with fail
            refine (rmay_v d true H2 _ hd).mono ?_; rintro e2 w2 ⟨rfl, hb2⟩; have B2 : Hid (Below w.heap.size w w2) := B1.out.trans (hb2.mono B1.out.size); clear hb2
            go_wp2
            go_ret
            exact ⟨ret_bool HV.out.symm, B2.out⟩
        · have g1 : ¬ (d.size : Int) < (p.size : Int) := by omega
          have HV : Hid (withinB (tl p) (tl d) = false) := by
            show _ = _; rw [HW, Bool.eq_false_iff]; intro h; exact c1 (HI.1 h).1
          clear HW HI
          go_enter Tryd.func33, Tryd.ntmps33
          go_wp2_with fail
          refine (rmay_v p true H1 _ hp).mono ?_; rintro e1 w1 ⟨rfl, hb1⟩; have B1 := hid hb1; clear hb1
          go_wp2_with fail
          refine (rmay_v d true H2 _ hd).mono ?_; rintro e2 w2 ⟨rfl, hb2⟩; have B2 : Hid (Below w.heap.size w w2) := B1.out.trans (hb2.mono B1.out.size); clear hb2
          go_wp2
          go_ret
          exact ⟨ret_bool HV.out.symm, B2.out⟩
set_option maxRecDepth 100000 in
set_option maxHeartbeats 1000000 in
theorem parents_any (a0 b0 : ByteArray) (w : World) (hG : Gd w) (ha0 : a0.size ≤ maxLen) (hb0 : b0.size ≤ maxLen) :
    Calls Tryd.prog 5 #[.string a0, .string b0] w fun e w' => e = .returned (.bool true) ∧ Below w.heap.size w w' := by
  have HG := hid hG
  obtain ⟨a, HA⟩ : ∃ a, Hid (ba ((tl a0).take 400) = a) := ⟨_, rfl⟩
  obtain ⟨b, HB⟩ : ∃ b, Hid (ba ((tl b0).take 400) = b) := ⟨_, rfl⟩
  have ka := small_cut a0 a HA.out
  have kb := small_cut b0 b HB.out
  have CA : Hid (∀ W, Calls Tryd.prog 17 #[.string a0] W fun e w' => e = .returned (.string a) ∧ W = w') := by intro W; rw [← HA.out]; exact cut_str a0 W ha0
  have CB : Hid (∀ W, Calls Tryd.prog 17 #[.string b0] W fun e w' => e = .returned (.string b) ∧ W = w') := by intro W; rw [← HB.out]; exact cut_str b0 W hb0
  obtain ⟨x, hx⟩ : ∃ x, ba (findV (tl a)).1 = x := ⟨_, rfl⟩
  obtain ⟨y, hy⟩ : ∃ y, ba (findV (tl a)).2 = y := ⟨_, rfl⟩
  obtain ⟨m, hm⟩ : ∃ m, mayB (tl a) = m := ⟨_, rfl⟩
  obtain ⟨v, hv⟩ : ∃ v, withinB (tl a) (tl b) = v := ⟨_, rfl⟩
  have C1 : Hid (∀ W, Gd W → Calls Tryd.prog 28 #[.string a] W fun e w' => e = .returned (.tuple #[.string x, .bool m]) ∧ Below W.heap.size W w') := by intro W h; rw [← hx, ← hm]; exact parent_any a W h (by omega)
  have C2 : Hid (∀ W, Calls Tryd.prog 29 #[.string a] W fun e w' => e = .returned (.tuple #[.string x, .bool m]) ∧ Below W.heap.size W w') := by intro W; rw [← hx, ← hm]; exact rparent_any a W (by omega)
  have C3 : Hid (∀ W, Gd W → Calls Tryd.prog 30 #[.string a] W fun e w' => e = .returned (.string y) ∧ Below W.heap.size W w') := by intro W h; rw [← hy]; exact base_any a W h (by omega)
  have C4 : Hid (∀ W, Calls Tryd.prog 31 #[.string a] W fun e w' => e = .returned (.string y) ∧ Below W.heap.size W w') := by intro W; rw [← hy]; exact rbase_any a W (by omega)
  have C5 : Hid (∀ W, Gd W → Calls Tryd.prog 32 #[.string a, .string b] W fun e w' => e = .returned (.bool v) ∧ Below W.heap.size W w') := by intro W h; rw [← hv]; exact within_any a b W h (by omega) (by omega)
  have C6 : Hid (∀ W, Calls Tryd.prog 33 #[.string a, .string b] W fun e w' => e = .returned (.bool v) ∧ Below W.heap.size W w') := by intro W; rw [← hv]; exact rwithin_any a b W (by omega) (by omega)
  clear hG hx hy hm hv
  go_enter Tryd.func5, Tryd.ntmps5
  go_wp2_with fail
  refine (CA.out _).mono ?_; rintro e1 w1 ⟨rfl, rfl⟩
  go_wp2_with fail
  refine (CB.out _).mono ?_; rintro e2 w2 ⟨rfl, rfl⟩
  go_wp2_with fail
  refine (C1.out _ HG.out).mono ?_; rintro e3 w3 ⟨rfl, hb3⟩; have B3 := hid hb3; clear hb3
  go_wp2_with fail
  refine (C2.out _).mono ?_; rintro e4 w4 ⟨rfl, hb4⟩; have B4 : Hid (Below w.heap.size w w4) := B3.out.trans (hb4.mono B3.out.size); clear hb4
  go_wp2_with fail
  refine (C3.out _ (HG.out.kept B4.out)).mono ?_; rintro e5 w5 ⟨rfl, hb5⟩; have B5 : Hid (Below w.heap.size w w5) := B4.out.trans (hb5.mono B4.out.size); clear hb5
  go_wp2_with fail
  refine (C4.out _).mono ?_; rintro e6 w6 ⟨rfl, hb6⟩; have B6 : Hid (Below w.heap.size w w6) := B5.out.trans (hb6.mono B5.out.size); clear hb6
  go_wp2_with fail
  refine (C5.out _ (HG.out.kept B6.out)).mono ?_; rintro e7 w7 ⟨rfl, hb7⟩; have B7 : Hid (Below w.heap.size w w7) := B6.out.trans (hb7.mono B6.out.size); clear hb7
  go_wp2_with fail
  refine (C6.out _).mono ?_; rintro e8 w8 ⟨rfl, hb8⟩; have B8 : Hid (Below w.heap.size w w8) := B7.out.trans (hb8.mono B7.out.size); clear hb8
  go_wp2_with fail
  refine (works_any _ (HG.out.kept B8.out)).mono ?_; rintro e9 w9 ⟨rfl, hb9⟩; have B9 : Hid (Below w.heap.size w w9) := B8.out.trans (hb9.mono B8.out.size); clear hb9
  go_wp2
  go_ret
  exact ⟨rfl, B9.out⟩
end Go.Proofs.YthhclcjocakdlaaDoor
