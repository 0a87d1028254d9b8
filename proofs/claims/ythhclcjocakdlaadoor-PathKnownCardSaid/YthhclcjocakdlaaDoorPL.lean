/- The law PathBehind's walk: what lies within a directory stands right behind it. Conditions: a world in which the listed variables lie. -/
import Derived.Test.YthhclcjocakdlaaDoorPJ
namespace Go.Proofs.YthhclcjocakdlaaDoor
open Go.RowKit
theorem cmpL_within (d r : List UInt8) : cmpL d (d ++ 47 :: r) = -1 := by
  induction d with
  | nil => rfl
  | cons x d ih => rw [List.cons_append, cmpL, if_pos rfl, ih]
theorem cmpL_between (d q r : List UInt8) (h1 : cmpL d q = -1) (h2 : cmpL q (d ++ 47 :: r) = -1) : ∃ r', q = d ++ 47 :: r' := by
  induction d generalizing q with
  | nil =>
    cases q with
    | nil => simp [cmpL] at h1
    | cons y q =>
      rw [List.nil_append, cmpL] at h2
      split at h2
      · rename_i e; exact ⟨q, by rw [e]; rfl⟩
      · have : rk 47 = 0 := rfl
        split at h2
        · omega
        · simp at h2
  | cons x d ih =>
    cases q with
    | nil => simp [cmpL] at h1
    | cons y q =>
      rw [cmpL] at h1
      rw [List.cons_append, cmpL] at h2
      by_cases h : x = y
      · subst h
        rw [if_pos rfl] at h1 h2
        obtain ⟨r', rfl⟩ := ih q h1 h2
        exact ⟨r', rfl⟩
      · rw [if_neg h] at h1
        rw [if_neg (Ne.symm h)] at h2
        have l1 : rk x < rk y := by split at h1; assumption; simp at h1
        have l2 : rk y < rk x := by split at h2; assumption; simp at h2
        omega
theorem prefix_split {d p : List UInt8} (h : (d ++ [47]).isPrefixOf p = true) : ∃ r, p = d ++ 47 :: r := by
  obtain ⟨r, hr⟩ := List.isPrefixOf_iff_prefix.1 h
  exact ⟨r, by rw [← hr]; simp⟩
theorem prefix_join (d r : List UInt8) : (d ++ [47]).isPrefixOf (d ++ 47 :: r) = true :=
  List.isPrefixOf_iff_prefix.2 ⟨r, by simp⟩
theorem mayB_nil : mayB [] = false := by decide +kernel
theorem withinB_yes {p d : List UInt8} (hd : mayB d = true) (h : withinB p d = true) : ∃ r, p = d ++ 47 :: r := by
  have h0 : d ≠ [] := by rintro rfl; rw [mayB_nil] at hd; cases hd
  rw [withinB, if_neg h0] at h
  simp only [Bool.and_eq_true] at h
  exact prefix_split h.2
theorem withinB_mk {p d : List UInt8} (hp : mayB p = true) (hd : mayB d = true) (h : ∃ r, p = d ++ 47 :: r) : withinB p d = true := by
  have h0 : d ≠ [] := by rintro rfl; rw [mayB_nil] at hd; cases hd
  obtain ⟨r, hr⟩ := h
  rw [withinB, if_neg h0, hp, hd, hr, prefix_join]; rfl
set_option maxRecDepth 100000 in
set_option maxHeartbeats 2000000 in
theorem behind_any (a0 b0 c0 : ByteArray) (w : World) (hG : Gd w) (ha0 : a0.size ≤ maxLen) (hb0 : b0.size ≤ maxLen) (hc0 : c0.size ≤ maxLen) :
    Calls Tryd.prog 10 #[.string a0, .string b0, .string c0] w fun e w' => e = .returned (.bool true) ∧ Below w.heap.size w w' := by
  have HG := hid hG
  obtain ⟨a, HA⟩ : ∃ a, Hid (ba ((tl a0).take 400) = a) := ⟨_, rfl⟩
  obtain ⟨b, HB⟩ : ∃ b, Hid (ba ((tl b0).take 400) = b) := ⟨_, rfl⟩
  obtain ⟨c, HC⟩ : ∃ c, Hid (ba ((tl c0).take 400) = c) := ⟨_, rfl⟩
  have ka := small_cut a0 a HA.out
  have kb := small_cut b0 b HB.out
  have kc := small_cut c0 c HC.out
  have CA : Hid (∀ W, Calls Tryd.prog 17 #[.string a0] W fun e w' => e = .returned (.string a) ∧ W = w') := by intro W; rw [← HA.out]; exact cut_str a0 W ha0
  have CB : Hid (∀ W, Calls Tryd.prog 17 #[.string b0] W fun e w' => e = .returned (.string b) ∧ W = w') := by intro W; rw [← HB.out]; exact cut_str b0 W hb0
  have CC : Hid (∀ W, Calls Tryd.prog 17 #[.string c0] W fun e w' => e = .returned (.string c) ∧ W = w') := by intro W; rw [← HC.out]; exact cut_str c0 W hc0
  have M : Hid (∀ W, Gd W → ∀ v, mayB (tl a) = v → Calls Tryd.prog 22 #[.string a] W fun e w' => e = .returned (.bool v) ∧ Below W.heap.size W w') := by
    rintro W h v rfl; exact may_any a W h (by omega)
  have I : Hid (∀ W, Gd W → ∀ v, withinB (tl b) (tl a) = v → Calls Tryd.prog 32 #[.string b, .string a] W fun e w' => e = .returned (.bool v) ∧ Below W.heap.size W w') := by
    rintro W h v rfl; exact within_any b a W h (by omega) (by omega)
  have Q : Hid (∀ W, Gd W → ∀ v, mayB (tl c) = v → Calls Tryd.prog 22 #[.string c] W fun e w' => e = .returned (.bool v) ∧ Below W.heap.size W w') := by
    rintro W h v rfl; exact may_any c W h (by omega)
  have J : Hid (∀ W, Gd W → ∀ v, withinB (tl c) (tl a) = v → Calls Tryd.prog 32 #[.string c, .string a] W fun e w' => e = .returned (.bool v) ∧ Below W.heap.size W w') := by
    rintro W h v rfl; exact within_any c a W h (by omega) (by omega)
  have R : Hid (∀ W, ∀ v, cmpL (tl a) (tl b) = v → Calls Tryd.prog 34 #[.string a, .string b] W fun e w' => e = .returned (.int .i64 v) ∧ Below W.heap.size W w') := by
    rintro W v rfl; exact cmp_any a b W (by omega) (by omega)
  have T : Hid (∀ W, ∀ v, cmpL (tl a) (tl c) = v → Calls Tryd.prog 34 #[.string a, .string c] W fun e w' => e = .returned (.int .i64 v) ∧ Below W.heap.size W w') := by
    rintro W v rfl; exact cmp_any a c W (by omega) (by omega)
  have U : Hid (∀ W, ∀ v, cmpL (tl c) (tl b) = v → Calls Tryd.prog 34 #[.string c, .string b] W fun e w' => e = .returned (.int .i64 v) ∧ Below W.heap.size W w') := by
    rintro W v rfl; exact cmp_any c b W (by omega) (by omega)
  clear hG
  cases h1 : mayB (tl a) with
  | false =>
    have H1 := hid h1
    clear h1
    go_enter Tryd.func10, Tryd.ntmps10
    go_wp2_with fail
    refine (CA.out _).mono ?_; rintro e1 w1 ⟨rfl, rfl⟩
    go_wp2_with fail
    refine (CB.out _).mono ?_; rintro e2 w2 ⟨rfl, rfl⟩
    go_wp2_with fail
    refine (CC.out _).mono ?_; rintro e3 w3 ⟨rfl, rfl⟩
    go_wp2_with fail
    refine (M.out _ HG.out _ H1.out).mono ?_; rintro e4 w4 ⟨rfl, hb4⟩; have B4 := hid hb4; clear hb4
    go_wp2_with fail
    refine (works_any _ (HG.out.kept B4.out)).mono ?_; rintro ew ww ⟨rfl, hbw⟩; have BW : Hid (Below w.heap.size w ww) := B4.out.trans (hbw.mono B4.out.size); clear hbw
    go_wp2
    go_ret
    exact ⟨rfl, BW.out⟩
  | true =>
    have H1 := hid h1
    cases h2 : withinB (tl b) (tl a) with
    | false =>
      have H2 := hid h2
      clear h1 h2
      go_enter Tryd.func10, Tryd.ntmps10
      go_wp2_with fail
      refine (CA.out _).mono ?_; rintro e1 w1 ⟨rfl, rfl⟩
      go_wp2_with fail
      refine (CB.out _).mono ?_; rintro e2 w2 ⟨rfl, rfl⟩
      go_wp2_with fail
      refine (CC.out _).mono ?_; rintro e3 w3 ⟨rfl, rfl⟩
      go_wp2_with fail
      refine (M.out _ HG.out _ H1.out).mono ?_; rintro e4 w4 ⟨rfl, hb4⟩; have B4 := hid hb4; clear hb4
      go_wp2_with fail
      refine (I.out _ (HG.out.kept B4.out) _ H2.out).mono ?_; rintro e5 w5 ⟨rfl, hb5⟩; have B5 : Hid (Below w.heap.size w w5) := B4.out.trans (hb5.mono B4.out.size); clear hb5
      go_wp2_with fail
      refine (works_any _ (HG.out.kept B5.out)).mono ?_; rintro ew ww ⟨rfl, hbw⟩; have BW : Hid (Below w.heap.size w ww) := B5.out.trans (hbw.mono B5.out.size); clear hbw
      go_wp2
      go_ret
      exact ⟨rfl, BW.out⟩
    | true =>
      have H2 := hid h2
      have H4 : Hid (cmpL (tl a) (tl b) = -1) := by
        obtain ⟨r, hr⟩ := withinB_yes h1 h2; rw [hr]; exact cmpL_within _ _
      cases h3 : mayB (tl c) with
      | false =>
        have H3 := hid h3
        clear h1 h2 h3
        go_enter Tryd.func10, Tryd.ntmps10
        go_wp2_with fail
        refine (CA.out _).mono ?_; rintro e1 w1 ⟨rfl, rfl⟩
        go_wp2_with fail
        refine (CB.out _).mono ?_; rintro e2 w2 ⟨rfl, rfl⟩
        go_wp2_with fail
        refine (CC.out _).mono ?_; rintro e3 w3 ⟨rfl, rfl⟩
        go_wp2_with fail
        refine (M.out _ HG.out _ H1.out).mono ?_; rintro e4 w4 ⟨rfl, hb4⟩; have B4 := hid hb4; clear hb4
        go_wp2_with fail
        refine (I.out _ (HG.out.kept B4.out) _ H2.out).mono ?_; rintro e5 w5 ⟨rfl, hb5⟩; have B5 : Hid (Below w.heap.size w w5) := B4.out.trans (hb5.mono B4.out.size); clear hb5
        go_wp2_with fail
        refine (Q.out _ (HG.out.kept B5.out) _ H3.out).mono ?_; rintro e6 w6 ⟨rfl, hb6⟩; have B6 : Hid (Below w.heap.size w w6) := B5.out.trans (hb6.mono B5.out.size); clear hb6
        go_wp2_with fail
        refine (works_any _ (HG.out.kept B6.out)).mono ?_; rintro ew ww ⟨rfl, hbw⟩; have BW : Hid (Below w.heap.size w ww) := B6.out.trans (hbw.mono B6.out.size); clear hbw
        go_wp2
        go_ret
        exact ⟨rfl, BW.out⟩
      | true =>
        have H3 := hid h3
        obtain ⟨x, hx⟩ : ∃ x, cmpL (tl a) (tl c) = x := ⟨_, rfl⟩
        obtain ⟨y, hy⟩ : ∃ y, cmpL (tl c) (tl b) = y := ⟨_, rfl⟩
        have HX := hid hx
        have HY := hid hy
        have vx : x = -1 ∨ x = 0 ∨ x = 1 := by rw [← hx]; exact cmpL_vals _ _
        have vy : y = -1 ∨ y = 0 ∨ y = 1 := by rw [← hy]; exact cmpL_vals _ _
        have H5 : Hid (x = -1 → y = -1 → withinB (tl c) (tl a) = true) := by
          intro e1 e2
          obtain ⟨r, hr⟩ := withinB_yes h1 h2
          exact withinB_mk h3 h1 (cmpL_between (tl a) (tl c) r (hx.trans e1) (by rw [← hr]; exact hy.trans e2))
        clear h1 h2 h3 hx hy
        have key : (x = -1 ∧ y = -1) ∨ (x = -1 ∧ 0 ≤ y) ∨ 0 ≤ x := by omega
        clear vx vy
        rcases key with ⟨rfl, rfl⟩ | ⟨rfl, hy0⟩ | hx0
        · have H6 := hid (H5.out rfl rfl)
          clear H5
          go_enter Tryd.func10, Tryd.ntmps10
          go_wp2_with fail
          refine (CA.out _).mono ?_; rintro e1 w1 ⟨rfl, rfl⟩
          go_wp2_with fail
          refine (CB.out _).mono ?_; rintro e2 w2 ⟨rfl, rfl⟩
          go_wp2_with fail
          refine (CC.out _).mono ?_; rintro e3 w3 ⟨rfl, rfl⟩
          go_wp2_with fail
          refine (M.out _ HG.out _ H1.out).mono ?_; rintro e4 w4 ⟨rfl, hb4⟩; have B4 := hid hb4; clear hb4
          go_wp2_with fail
          refine (I.out _ (HG.out.kept B4.out) _ H2.out).mono ?_; rintro e5 w5 ⟨rfl, hb5⟩; have B5 : Hid (Below w.heap.size w w5) := B4.out.trans (hb5.mono B4.out.size); clear hb5
          go_wp2_with fail
          refine (Q.out _ (HG.out.kept B5.out) _ H3.out).mono ?_; rintro e6 w6 ⟨rfl, hb6⟩; have B6 : Hid (Below w.heap.size w w6) := B5.out.trans (hb6.mono B5.out.size); clear hb6
          go_wp2_with fail
          refine (R.out _ _ H4.out).mono ?_; rintro e7 w7 ⟨rfl, hb7⟩; have B7 : Hid (Below w.heap.size w w7) := B6.out.trans (hb7.mono B6.out.size); clear hb7
          go_wp2_with fail
          refine (T.out _ _ HX.out).mono ?_; rintro e8 w8 ⟨rfl, hb8⟩; have B8 : Hid (Below w.heap.size w w8) := B7.out.trans (hb8.mono B7.out.size); clear hb8
          go_wp2_with fail
          refine (U.out _ _ HY.out).mono ?_; rintro e9 w9 ⟨rfl, hb9⟩; have B9 : Hid (Below w.heap.size w w9) := B8.out.trans (hb9.mono B8.out.size); clear hb9
          go_wp2_with fail
          refine (J.out _ (HG.out.kept B9.out) _ H6.out).mono ?_; rintro e10 w10 ⟨rfl, hb10⟩; have B10 : Hid (Below w.heap.size w w10) := B9.out.trans (hb10.mono B9.out.size); clear hb10
          go_wp2_with fail
          refine (works_any _ (HG.out.kept B10.out)).mono ?_; rintro ew ww ⟨rfl, hbw⟩; have BW : Hid (Below w.heap.size w ww) := B10.out.trans (hbw.mono B10.out.size); clear hbw
          go_wp2
          go_ret
          exact ⟨rfl, BW.out⟩
        · have hy1 : ¬ y < 0 := by omega
          clear H5
          go_enter Tryd.func10, Tryd.ntmps10
          go_wp2_with fail
          refine (CA.out _).mono ?_; rintro e1 w1 ⟨rfl, rfl⟩
          go_wp2_with fail
          refine (CB.out _).mono ?_; rintro e2 w2 ⟨rfl, rfl⟩
          go_wp2_with fail
          refine (CC.out _).mono ?_; rintro e3 w3 ⟨rfl, rfl⟩
          go_wp2_with fail
          refine (M.out _ HG.out _ H1.out).mono ?_; rintro e4 w4 ⟨rfl, hb4⟩; have B4 := hid hb4; clear hb4
          go_wp2_with fail
          refine (I.out _ (HG.out.kept B4.out) _ H2.out).mono ?_; rintro e5 w5 ⟨rfl, hb5⟩; have B5 : Hid (Below w.heap.size w w5) := B4.out.trans (hb5.mono B4.out.size); clear hb5
          go_wp2_with fail
          refine (Q.out _ (HG.out.kept B5.out) _ H3.out).mono ?_; rintro e6 w6 ⟨rfl, hb6⟩; have B6 : Hid (Below w.heap.size w w6) := B5.out.trans (hb6.mono B5.out.size); clear hb6
          go_wp2_with fail
          refine (R.out _ _ H4.out).mono ?_; rintro e7 w7 ⟨rfl, hb7⟩; have B7 : Hid (Below w.heap.size w w7) := B6.out.trans (hb7.mono B6.out.size); clear hb7
          go_wp2_with fail
          refine (T.out _ _ HX.out).mono ?_; rintro e8 w8 ⟨rfl, hb8⟩; have B8 : Hid (Below w.heap.size w w8) := B7.out.trans (hb8.mono B7.out.size); clear hb8
          go_wp2_with fail
          refine (U.out _ _ HY.out).mono ?_; rintro e9 w9 ⟨rfl, hb9⟩; have B9 : Hid (Below w.heap.size w w9) := B8.out.trans (hb9.mono B8.out.size); clear hb9
          go_wp2_with fail
          refine (works_any _ (HG.out.kept B9.out)).mono ?_; rintro ew ww ⟨rfl, hbw⟩; have BW : Hid (Below w.heap.size w ww) := B9.out.trans (hbw.mono B9.out.size); clear hbw
          go_wp2
          go_ret
          exact ⟨rfl, BW.out⟩
        · have hx1 : ¬ x < 0 := by omega
          clear H5
          go_enter Tryd.func10, Tryd.ntmps10
          go_wp2_with fail
          refine (CA.out _).mono ?_; rintro e1 w1 ⟨rfl, rfl⟩
          go_wp2_with fail
          refine (CB.out _).mono ?_; rintro e2 w2 ⟨rfl, rfl⟩
          go_wp2_with fail
          refine (CC.out _).mono ?_; rintro e3 w3 ⟨rfl, rfl⟩
          go_wp2_with fail
          refine (M.out _ HG.out _ H1.out).mono ?_; rintro e4 w4 ⟨rfl, hb4⟩; have B4 := hid hb4; clear hb4
          go_wp2_with fail
          refine (I.out _ (HG.out.kept B4.out) _ H2.out).mono ?_; rintro e5 w5 ⟨rfl, hb5⟩; have B5 : Hid (Below w.heap.size w w5) := B4.out.trans (hb5.mono B4.out.size); clear hb5
          go_wp2_with fail
          refine (Q.out _ (HG.out.kept B5.out) _ H3.out).mono ?_; rintro e6 w6 ⟨rfl, hb6⟩; have B6 : Hid (Below w.heap.size w w6) := B5.out.trans (hb6.mono B5.out.size); clear hb6
          go_wp2_with fail
          refine (R.out _ _ H4.out).mono ?_; rintro e7 w7 ⟨rfl, hb7⟩; have B7 : Hid (Below w.heap.size w w7) := B6.out.trans (hb7.mono B6.out.size); clear hb7
          go_wp2_with fail
          refine (T.out _ _ HX.out).mono ?_; rintro e8 w8 ⟨rfl, hb8⟩; have B8 : Hid (Below w.heap.size w w8) := B7.out.trans (hb8.mono B7.out.size); clear hb8
          go_wp2_with fail
          refine (works_any _ (HG.out.kept B8.out)).mono ?_; rintro ew ww ⟨rfl, hbw⟩; have BW : Hid (Below w.heap.size w ww) := B8.out.trans (hbw.mono B8.out.size); clear hbw
          go_wp2
          go_ret
          exact ⟨rfl, BW.out⟩
end Go.Proofs.YthhclcjocakdlaaDoor
