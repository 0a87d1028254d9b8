/- The document's names and paths (caravanref02.Name, May, Parent, Base, Within). Conditions: at most 4000 bytes. -/
import Derived.Test.YtoeomghebgbniaaDoorPN
namespace Go.Proofs.YtoeomghebgbniaaDoor
open Go.RowKit
set_option maxRecDepth 100000 in
set_option maxHeartbeats 1000000 in
theorem rname_any (s : ByteArray) (w : World) (hs : s.size ≤ 140737488355328) :
    Calls Tryd.prog 42 #[.string s] w fun e w' => e = .returned (.bool (nameB (tl s))) ∧ w = w' := by
  have hc : Hid (s.toList = tl s) := toList_tl s
  have hz : Hid (s.size = (tl s).length) := (tl_length s).symm
  have hcase : (s.size = 0) ∨ (s.size ≠ 0 ∧ 48 < s.size) ∨ (s.size ≠ 0 ∧ s.size ≤ 48 ∧ s.toList = [46]) ∨ (s.size ≠ 0 ∧ s.size ≤ 48 ∧ s.toList ≠ [46] ∧ s.toList = [46, 46]) ∨ (s.size ≠ 0 ∧ s.size ≤ 48 ∧ s.toList ≠ [46] ∧ s.toList ≠ [46, 46]) := by
    by_cases h1 : s.size = 0
    · exact .inl h1
    · by_cases h2 : s.size ≤ 48
      · by_cases h3 : s.toList = [46]
        · exact .inr (.inr (.inl ⟨h1, h2, h3⟩))
        · by_cases h4 : s.toList = [46, 46]
          · exact .inr (.inr (.inr (.inl ⟨h1, h2, h3, h4⟩)))
          · exact .inr (.inr (.inr (.inr ⟨h1, h2, h3, h4⟩)))
      · exact .inr (.inl ⟨h1, by omega⟩)
  rcases hcase with h1 | ⟨h1, h2⟩ | ⟨h1, h2, h3⟩ | ⟨h1, h2, h3, h4⟩ | ⟨h1, h2, h3, h4⟩
  · have hn : Hid (nameB (tl s) = false) := by
      show _ = _
      have : tl s = [] := List.length_eq_zero_iff.1 (hz.out.symm.trans h1)
      rw [this]; rfl
    have g1 : ((s.size : Int) < 1) := by omega
    clear h1
    go_enter Tryd.func42, Tryd.ntmps42
    go_wp2
    go_ret
    exact ⟨ret_bool hn.out.symm, rfl⟩
  · have hn : Hid (nameB (tl s) = false) := by show _ = _; simp [nameB, headB, ← hz.out]; omega
    have g1 : ¬ ((s.size : Int) < 1) := by omega
    have g2 : (48 : Int) < (s.size : Int) := by omega
    clear h1 h2
    go_enter Tryd.func42, Tryd.ntmps42
    go_wp2
    go_ret
    exact ⟨ret_bool hn.out.symm, rfl⟩
  · have hn : Hid (nameB (tl s) = false) := by show _ = _; simp [nameB, headB, ← hc.out, h3]
    have g1 : ¬ ((s.size : Int) < 1) := by omega
    have g2 : ¬ (48 : Int) < (s.size : Int) := by omega
    have g3 : (s.toList == [46]) = true := by simp [h3]
    clear h1 h2 h3
    go_enter Tryd.func42, Tryd.ntmps42
    go_wp2
    go_ret
    exact ⟨ret_bool hn.out.symm, rfl⟩
  · have hn : Hid (nameB (tl s) = false) := by show _ = _; simp [nameB, headB, ← hc.out, h4]
    have g1 : ¬ ((s.size : Int) < 1) := by omega
    have g2 : ¬ (48 : Int) < (s.size : Int) := by omega
    have g3 : (s.toList == [46]) = false := by simp [h3]
    have g4 : (s.toList == [46, 46]) = true := by simp [h4]
    clear h1 h2 h3 h4
    go_enter Tryd.func42, Tryd.ntmps42
    go_wp2
    go_ret
    exact ⟨ret_bool hn.out.symm, rfl⟩
  · have hn : Hid (headB (tl s) = true) := by
      show _ = _
      have h0 : tl s ≠ [] := fun e => h1 (by rw [hz.out, e]; rfl)
      simp [headB, ← hc.out, h3, h4]; rw [hc.out, ← hz.out]; exact ⟨h0, h2⟩
    have g1 : ¬ ((s.size : Int) < 1) := by omega
    have g2 : ¬ (48 : Int) < (s.size : Int) := by omega
    have g3 : (s.toList == [46]) = false := by simp [h3]
    have g4 : (s.toList == [46, 46]) = false := by simp [h4]
    clear h1 h2 h3 h4
    go_enter Tryd.func42, Tryd.ntmps42
    go_wp2
    go_loopw [3] (fun i wr => ∃ k : Nat, k ≤ s.size ∧ i = .int .i64 (k : Int) ∧ Hid (((tl s).take k).all okB = true) ∧ w = wr)
      (fun i _ => s.size - (intOf i).toNat)
    case atStart => exact ⟨0, by omega, rfl, rfl, rfl⟩
    case round =>
      obtain ⟨k, hk, rfl, HA, rfl⟩ := hrel
      by_cases hlt : k < s.size
      · have i1 := index_str s k hlt
        have HY := hid (okB_at (tl s) k (by rw [tl_length]; exact hlt) HA.out)
        have HN := hid (okB_no (tl s) k (by rw [tl_length]; exact hlt))
        generalize at8 (tl s) k = x at i1 HY HN
        have b1 := b8_nonneg x
        have b2 := b8_lt x
        by_cases c1 : b8 x < 32
        · have HO : Hid (okB x = false) := by show _ = _; simp [okB, c1]
          have t1 : decide (b8 x < 32) = true := by simp [c1]
          clear c1
          go_wp2
          go_ret
          exact ⟨ret_bool (HN.out HO.out).symm, rfl⟩
        · have t1 : decide (b8 x < 32) = false := by simp [c1]
          by_cases c2 : b8 x = 127
          · have HO : Hid (okB x = false) := by show _ = _; simp [okB, c2]
            have t2 : (b8 x == 127) = true := by simp [c2]
            clear c1 c2
            go_wp2
            go_ret
            exact ⟨ret_bool (HN.out HO.out).symm, rfl⟩
          · have t2 : (b8 x == 127) = false := by simp [c2]
            by_cases c3 : b8 x = 47
            · have HO : Hid (okB x = false) := by show _ = _; simp [okB, c3]
              have t3 : (b8 x == 47) = true := by simp [c3]
              clear c1 c2 c3
              go_wp2
              go_ret
              exact ⟨ret_bool (HN.out HO.out).symm, rfl⟩
            · have t3 : (b8 x == 47) = false := by simp [c3]
              have HO : Hid (okB x = true) := by show _ = _; simp [okB, c1, c2, c3]
              clear c1 c2 c3
              go_wp2
              go_roundw
              case rel => exact ⟨k + 1, by omega, by go_num, HY.out HO.out, trivial⟩
              case measure => simp [intOf]; omega
      · have HK : Hid (k = s.size) := by show _ = _; omega
        go_wp2
        go_ret
        refine ⟨ret_bool ?_, rfl⟩
        have ha := HA.out
        rw [List.take_of_length_le (by rw [tl_length, HK.out]; exact Nat.le_refl _)] at ha
        simp [nameB, hn.out, ha]
theorem all_at {xs : List (List UInt8)} {k : Nat} (h : k < xs.length) (ha : (xs.take k).all nameB = true) (hk : nameB (xs.getD k []) = true) : (xs.take (k + 1)).all nameB = true := by
  rw [List.take_succ_eq_append_getElem h, List.all_append, ha]
  simp only [List.getD, List.getElem?_eq_getElem h, Option.getD_some] at hk
  simp [hk]
theorem all_no {xs : List (List UInt8)} {k : Nat} (h : k < xs.length) (hk : nameB (xs.getD k []) = false) : xs.all nameB = false := by
  simp only [List.getD, List.getElem?_eq_getElem h, Option.getD_some] at hk
  rw [List.all_eq_false]; exact ⟨_, List.getElem_mem h, by simp [hk]⟩
set_option maxRecDepth 100000 in
set_option maxHeartbeats 1000000 in
theorem rmay_any (s : ByteArray) (w : World) (hs : s.size ≤ 4000) :
    Calls Tryd.prog 19 #[.string s] w fun e w' => e = .returned (.bool (mayB (tl s))) ∧ Below w.heap.size w w' := by
  have H := hid (rpieces_any s w hs)
  obtain ⟨n, HN⟩ : ∃ n, Hid ((pieces (tl s)).length = n) := ⟨_, rfl⟩
  have hn : n ≤ 4001 := by have := pieces_count _ (tl s) (Nat.le_refl _); rw [HN.out, tl_length] at this; omega
  obtain ⟨a, HA⟩ : ∃ a, Hid (ba (aheadL (tl s)) = a) := ⟨_, rfl⟩
  have HC : Hid (∀ W, Calls Tryd.prog 24 #[.string s] W fun e w' => e = .returned (.string a) ∧ Below W.heap.size W w') := by intro W; rw [← HA.out]; exact rahead_any s W hs
  have HS : Hid ((aheadL (tl s)).length = a.size) := by show _ = _; rw [← HA.out, ba_size]
  have HL : Hid ((tl s).length = s.size) := tl_length s
  have HT : Hid (∀ i, i < n → ((pieces (tl s)).getD i []).length ≤ 4000) := by
    intro i hi
    have hm : (pieces (tl s)).getD i [] ∈ pieces (tl s) := by
      rw [← HN.out] at hi
      simp [List.getD, List.getElem?_eq_getElem hi]
    have := pieces_len _ (tl s) (Nat.le_refl _) _ hm
    rw [HL.out] at this; omega
  by_cases h1 : s.size ≤ 160
  · have g1 : ¬ (160 : Int) < (s.size : Int) := by omega
    by_cases h2 : a.size ≤ 111
    · have g2 : ¬ (111 : Int) < (a.size : Int) := by omega
      by_cases h3 : n ≤ 6
      · have g3 : ¬ (6 : Int) < (n : Int) := by omega
        have HV : Hid (mayB (tl s) = (pieces (tl s)).all nameB) := by
          show _ = _
          rw [mayB, goodB, HL.out, HS.out, HN.out, decide_eq_true h1, decide_eq_true h2, decide_eq_true h3]; simp
        clear h1 h2 h3
        go_enter Tryd.func19, Tryd.ntmps19
        go_wp2_with fail
        refine H.out.mono ?_
        rintro e1 w1 ⟨v, rfl, ho, hb⟩
        obtain ⟨g, c, hs1, hg⟩ := strs_of_own ho (pieces_ne (tl s))
        have B1 := hid hb
        have hv := hs1.form
        rw [HN.out] at hv
        have S1 := hid hs1
        clear ho hb hs1 hg
        subst hv
        go_wp2_with fail
        refine (HC.out _).mono ?_; rintro e2 w2 ⟨rfl, hb2⟩
        have S2 := hid (S1.out.kept hb2 (Nat.le_refl _))
        have B2 : Hid (Below w.heap.size w w2) := B1.out.trans (hb2.mono B1.out.size)
        clear hb2
        go_wp2
        go_loopw [4] (fun i wr => ∃ k : Nat, k ≤ n ∧ i = .int .i64 (k : Int) ∧ Hid (((pieces (tl s)).take k).all nameB = true) ∧ w2 = wr)
          (fun i _ => n - (intOf i).toNat)
        case atStart => exact ⟨0, by omega, rfl, rfl, rfl⟩
        case round =>
          obtain ⟨k, hk, rfl, HA2, rfl⟩ := hrel
          by_cases hlt : k < n
          · have hc : w2.cell? ⟨g, k, none⟩ = some (.string (ba ((pieces (tl s)).getD k []))) := S2.out.at_ k (by rw [HN.out]; exact hlt)
            have hx := HT.out k hlt
            have HY := hid (all_at (xs := pieces (tl s)) (k := k) (by rw [HN.out]; exact hlt) HA2.out)
            have HNo := hid (all_no (xs := pieces (tl s)) (k := k) (by rw [HN.out]; exact hlt))
            generalize (pieces (tl s)).getD k [] = x at hc hx HY HNo
            cases hb : nameB x with
            | true =>
              have HM : Hid (∀ W, Calls Tryd.prog 42 #[.string (ba x)] W fun e w' => e = .returned (.bool true) ∧ W = w') := by
                intro W; have := rname_any (ba x) W (by rw [ba_size]; omega); rw [tl_ba, hb] at this; exact this
              have HY2 := hid (HY.out hb)
              clear HY HNo hb hx
              go_wp2_with fail
              refine (HM.out _).mono ?_; rintro e3 w3 ⟨rfl, rfl⟩
              go_wp2
              go_roundw
              case rel => exact ⟨k + 1, by omega, by go_num, HY2.out, trivial⟩
              case measure => simp [intOf]; omega
            | false =>
              have HM : Hid (∀ W, Calls Tryd.prog 42 #[.string (ba x)] W fun e w' => e = .returned (.bool false) ∧ W = w') := by
                intro W; have := rname_any (ba x) W (by rw [ba_size]; omega); rw [tl_ba, hb] at this; exact this
              have HY2 := hid (HNo.out hb)
              clear HY HNo hb hx
              go_wp2_with fail
              refine (HM.out _).mono ?_; rintro e3 w3 ⟨rfl, rfl⟩
              go_wp2
              go_ret
              exact ⟨ret_bool (by rw [HV.out, HY2.out]), B2.out⟩
          · have HK : Hid (k = n) := by show _ = _; omega
            go_wp2
            go_ret
            refine ⟨ret_bool ?_, B2.out⟩
            have ha := HA2.out
            rw [List.take_of_length_le (by rw [HN.out, HK.out]; exact Nat.le_refl _)] at ha
            rw [HV.out, ha]
      · have g3 : (6 : Int) < (n : Int) := by omega
        have HV : Hid (mayB (tl s) = false) := by
          show _ = _
          rw [mayB, goodB, HN.out, decide_eq_false h3]; simp
        clear h1 h2 h3
        go_enter Tryd.func19, Tryd.ntmps19
        go_wp2_with fail
        refine H.out.mono ?_
        rintro e1 w1 ⟨v, rfl, ho, hb⟩
        obtain ⟨g, c, hs1, hg⟩ := strs_of_own ho (pieces_ne (tl s))
        have B1 := hid hb
        have hv := hs1.form
        rw [HN.out] at hv
        clear ho hb hs1 hg
        subst hv
        go_wp2_with fail
        refine (HC.out _).mono ?_; rintro e2 w2 ⟨rfl, hb2⟩
        have B2 : Hid (Below w.heap.size w w2) := B1.out.trans (hb2.mono B1.out.size)
        clear hb2
        go_wp2
        go_ret
        exact ⟨ret_bool HV.out.symm, B2.out⟩
    · have g2 : (111 : Int) < (a.size : Int) := by omega
      have HV : Hid (mayB (tl s) = false) := by
        show _ = _
        rw [mayB, HS.out, decide_eq_false h2]; simp
      clear h1 h2
      go_enter Tryd.func19, Tryd.ntmps19
      go_wp2_with fail
      refine H.out.mono ?_
      rintro e1 w1 ⟨v, rfl, ho, hb⟩
      obtain ⟨g, c, hs1, hg⟩ := strs_of_own ho (pieces_ne (tl s))
      have B1 := hid hb
      have hv := hs1.form
      rw [HN.out] at hv
      clear ho hb hs1 hg
      subst hv
      go_wp2_with fail
      refine (HC.out _).mono ?_; rintro e2 w2 ⟨rfl, hb2⟩
      have B2 : Hid (Below w.heap.size w w2) := B1.out.trans (hb2.mono B1.out.size)
      clear hb2
      go_wp2
      go_ret
      exact ⟨ret_bool HV.out.symm, B2.out⟩
  · have g1 : (160 : Int) < (s.size : Int) := by omega
    have HV : Hid (mayB (tl s) = false) := by
      show _ = _
      rw [mayB, HL.out, decide_eq_false h1]; simp
    clear h1
    go_enter Tryd.func19, Tryd.ntmps19
    go_wp2_with fail
    refine H.out.mono ?_
    rintro e1 w1 ⟨v, rfl, ho, hb⟩
    obtain ⟨g, c, hs1, hg⟩ := strs_of_own ho (pieces_ne (tl s))
    have B1 := hid hb
    have hv := hs1.form
    rw [HN.out] at hv
    clear ho hb hs1 hg
    subst hv
    go_wp2
    go_ret
    exact ⟨ret_bool HV.out.symm, B1.out⟩
end Go.Proofs.YtoeomghebgbniaaDoor
