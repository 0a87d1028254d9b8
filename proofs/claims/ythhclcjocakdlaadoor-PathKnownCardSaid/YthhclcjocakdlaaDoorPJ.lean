/- The walk of the law PathOrder: the order of texts is one. Conditions: a world in which the listed variables lie, texts of at most 2^47 bytes. -/
import Derived.Test.YthhclcjocakdlaaDoorPI
namespace Go.Proofs.YthhclcjocakdlaaDoor
open Go.RowKit
theorem cmpL_vals (a b : List UInt8) : cmpL a b = -1 ∨ cmpL a b = 0 ∨ cmpL a b = 1 := by
  fun_induction cmpL a b <;> simp_all
theorem rk_inj {x y : UInt8} (h : rk x = rk y) : x = y := by
  unfold rk at h
  split at h <;> split at h
  · simp_all
  · omega
  · omega
  · exact UInt8.toNat_inj.1 (by omega)
theorem cmpL_self (a : List UInt8) : cmpL a a = 0 := by
  induction a with
  | nil => rfl
  | cons x a ih => rw [cmpL, if_pos rfl, ih]
theorem cmpL_neg (a b : List UInt8) : cmpL b a = -cmpL a b := by
  induction a generalizing b with
  | nil => cases b <;> simp [cmpL]
  | cons x a ih =>
    cases b with
    | nil => simp [cmpL]
    | cons y b =>
      rw [cmpL, cmpL]
      by_cases h : x = y
      · subst h; rw [if_pos rfl, if_pos rfl, ih]
      · rw [if_neg h, if_neg (Ne.symm h)]
        have : rk x ≠ rk y := fun e => h (rk_inj e)
        split <;> split <;> first | omega | rfl
theorem cmpL_zero (a b : List UInt8) : cmpL a b = 0 ↔ a = b := by
  constructor
  · intro h
    induction a generalizing b with
    | nil => cases b <;> simp [cmpL] at h ⊢
    | cons x a ih =>
      cases b with
      | nil => simp [cmpL] at h
      | cons y b =>
        rw [cmpL] at h
        split at h
        · rename_i e; rw [e, ih b h]
        · split at h <;> simp at h
  · rintro rfl; exact cmpL_self a
theorem cmpL_trans (a b c : List UInt8) (h1 : cmpL a b = -1) (h2 : cmpL b c = -1) : cmpL a c = -1 := by
  induction a generalizing b c with
  | nil =>
    cases c with
    | nil => cases b <;> simp [cmpL] at h1 h2
    | cons z c => rfl
  | cons x a ih =>
    cases b with
    | nil => simp [cmpL] at h1
    | cons y b =>
      cases c with
      | nil => simp [cmpL] at h2
      | cons z c =>
        rw [cmpL] at h1 h2 ⊢
        by_cases h : x = y
        · subst h
          rw [if_pos rfl] at h1
          by_cases h' : x = z
          · subst h'; rw [if_pos rfl] at h2 ⊢; exact ih b c h1 h2
          · rw [if_neg h'] at h2 ⊢; exact h2
        · rw [if_neg h] at h1
          by_cases h' : y = z
          · subst h'; rw [if_neg h]; exact h1
          · rw [if_neg h'] at h2
            have l1 : rk x < rk y := by split at h1; assumption; simp at h1
            have l2 : rk y < rk z := by split at h2; assumption; simp at h2
            have hne : x ≠ z := by rintro rfl; omega
            rw [if_neg hne, if_pos (by omega)]
theorem small_cut (s a : ByteArray) (h : ba ((tl s).take 400) = a) : a.size ≤ 400 := by rw [← h, ba_size, List.length_take]; omega
set_option maxRecDepth 100000 in
set_option maxHeartbeats 2000000 in
theorem order_any (a0 b0 c0 : ByteArray) (w : World) (hG : Gd w) (ha0 : a0.size ≤ maxLen) (hb0 : b0.size ≤ maxLen) (hc0 : c0.size ≤ maxLen) :
    Calls Tryd.prog 9 #[.string a0, .string b0, .string c0] w fun e w' => e = .returned (.bool true) ∧ Below w.heap.size w w' := by
  have HG := hid hG
  obtain ⟨a, HA⟩ : ∃ a, Hid (ba ((tl a0).take 400) = a) := ⟨_, rfl⟩
  obtain ⟨b, HB⟩ : ∃ b, Hid (ba ((tl b0).take 400) = b) := ⟨_, rfl⟩
  obtain ⟨c, HC⟩ : ∃ c, Hid (ba ((tl c0).take 400) = c) := ⟨_, rfl⟩
  have ka := small_cut a0 a HA.out
  have kb := small_cut b0 b HB.out
  have kc := small_cut c0 c HC.out
  have CA : Hid (∀ W, Calls Tryd.prog 17 #[.string a0] W fun e w' => e = .returned (.string a) ∧ W = w') := by intro W; rw [← HA.out]; exact cut_str a0 W ha0
  have CB : Hid (∀ W, Calls Tryd.prog 17 #[.string b0] W fun e w' => e = .returned (.string b) ∧ W = w') := by intro W; rw [← HB.out]; exact cut_str b0 W hb0
  have CC : Hid (∀ W, Calls Tryd.prog 17 #[.string c0] W fun e w' => e = .returned (.string c) ∧ W = w') := by intro W; rw [← HC.out]; exact cut_str c0 W hc0
  obtain ⟨x, hx⟩ : ∃ x, cmpL (tl a) (tl b) = x := ⟨_, rfl⟩
  obtain ⟨y, hy⟩ : ∃ y, cmpL (tl b) (tl c) = y := ⟨_, rfl⟩
  obtain ⟨z, hz⟩ : ∃ z, cmpL (tl a) (tl c) = z := ⟨_, rfl⟩
  have X : Hid (∀ W, Calls Tryd.prog 34 #[.string a, .string b] W fun e w' => e = .returned (.int .i64 x) ∧ Below W.heap.size W w') := by intro W; rw [← hx]; exact cmp_any a b W (by omega) (by omega)
  have Y : Hid (∀ W, Calls Tryd.prog 34 #[.string b, .string c] W fun e w' => e = .returned (.int .i64 y) ∧ Below W.heap.size W w') := by intro W; rw [← hy]; exact cmp_any b c W (by omega) (by omega)
  have Z : Hid (∀ W, Calls Tryd.prog 34 #[.string a, .string c] W fun e w' => e = .returned (.int .i64 z) ∧ Below W.heap.size W w') := by intro W; rw [← hz]; exact cmp_any a c W (by omega) (by omega)
  have V : Hid (∀ W, Calls Tryd.prog 34 #[.string b, .string a] W fun e w' => e = .returned (.int .i64 (-x)) ∧ Below W.heap.size W w') := by intro W; rw [← hx, ← cmpL_neg]; exact cmp_any b a W (by omega) (by omega)
  have vx : x = -1 ∨ x = 0 ∨ x = 1 := by rw [← hx]; exact cmpL_vals _ _
  have vy : y = -1 ∨ y = 0 ∨ y = 1 := by rw [← hy]; exact cmpL_vals _ _
  have vz : z = -1 ∨ z = 0 ∨ z = 1 := by rw [← hz]; exact cmpL_vals _ _
  have t1 : x = -1 → y = -1 → z = -1 := fun h1 h2 => by rw [← hz]; exact cmpL_trans _ _ _ (hx.trans h1) (hy.trans h2)
  have t2 : x = 0 → y = z := fun h1 => by
    have : tl a = tl b := (cmpL_zero _ _).1 (hx.trans h1)
    rw [← hy, ← hz, this]
  have t3 : (a.toList == b.toList) = decide (x = 0) := by
    rw [toList_tl, toList_tl]
    by_cases h : x = 0
    · rw [decide_eq_true h]; exact beq_iff_eq.2 ((cmpL_zero _ _).1 (hx.trans h))
    · rw [decide_eq_false h]; exact beq_eq_false_iff_ne.2 (fun e => h (hx.symm.trans ((cmpL_zero _ _).2 e)))
  clear hG hx hy hz
  have key : (x = -1 ∧ y = -1 ∧ z = -1) ∨ (x = -1 ∧ (y = 0 ∨ y = 1)) ∨ (x = 0 ∧ y = z) ∨ x = 1 := by omega
  clear t1 t2 vx
  rcases key with ⟨rfl, rfl, rfl⟩ | ⟨rfl, hy⟩ | ⟨rfl, rfl⟩ | rfl
  · have t4 : (a.toList == b.toList) = false := t3
    clear t3 vy vz
    go_enter Tryd.func9, Tryd.ntmps9
    go_wp2_with fail
    refine (CA.out _).mono ?_; rintro e1 w1 ⟨rfl, rfl⟩
    go_wp2_with fail
    refine (CB.out _).mono ?_; rintro e2 w2 ⟨rfl, rfl⟩
    go_wp2_with fail
    refine (CC.out _).mono ?_; rintro e3 w3 ⟨rfl, rfl⟩
    go_wp2_with fail
    refine (X.out _).mono ?_; rintro e4 w4 ⟨rfl, hb4⟩; have B4 := hid hb4; clear hb4
    go_wp2_with fail
    refine (Y.out _).mono ?_; rintro e5 w5 ⟨rfl, hb5⟩; have B5 : Hid (Below w.heap.size w w5) := B4.out.trans (hb5.mono B4.out.size); clear hb5
    go_wp2_with fail
    refine (Z.out _).mono ?_; rintro e6 w6 ⟨rfl, hb6⟩; have B6 : Hid (Below w.heap.size w w6) := B5.out.trans (hb6.mono B5.out.size); clear hb6
    go_wp2_with fail
    refine (V.out _).mono ?_; rintro e7 w7 ⟨rfl, hb7⟩; have B7 : Hid (Below w.heap.size w w7) := B6.out.trans (hb7.mono B6.out.size); clear hb7
    go_wp2_with fail
    refine (works_any _ (HG.out.kept B7.out)).mono ?_; rintro e8 w8 ⟨rfl, hb8⟩; have B8 : Hid (Below w.heap.size w w8) := B7.out.trans (hb8.mono B7.out.size); clear hb8
    go_wp2
    go_ret
    exact ⟨rfl, B8.out⟩
  · have t4 : (a.toList == b.toList) = false := t3
    have t5 : ¬ y < 0 := by omega
    clear t3 vy vz hy
    go_enter Tryd.func9, Tryd.ntmps9
    go_wp2_with fail
    refine (CA.out _).mono ?_; rintro e1 w1 ⟨rfl, rfl⟩
    go_wp2_with fail
    refine (CB.out _).mono ?_; rintro e2 w2 ⟨rfl, rfl⟩
    go_wp2_with fail
    refine (CC.out _).mono ?_; rintro e3 w3 ⟨rfl, rfl⟩
    go_wp2_with fail
    refine (X.out _).mono ?_; rintro e4 w4 ⟨rfl, hb4⟩; have B4 := hid hb4; clear hb4
    go_wp2_with fail
    refine (Y.out _).mono ?_; rintro e5 w5 ⟨rfl, hb5⟩; have B5 : Hid (Below w.heap.size w w5) := B4.out.trans (hb5.mono B4.out.size); clear hb5
    go_wp2_with fail
    refine (Z.out _).mono ?_; rintro e6 w6 ⟨rfl, hb6⟩; have B6 : Hid (Below w.heap.size w w6) := B5.out.trans (hb6.mono B5.out.size); clear hb6
    go_wp2_with fail
    refine (V.out _).mono ?_; rintro e7 w7 ⟨rfl, hb7⟩; have B7 : Hid (Below w.heap.size w w7) := B6.out.trans (hb7.mono B6.out.size); clear hb7
    go_wp2_with fail
    refine (works_any _ (HG.out.kept B7.out)).mono ?_; rintro e8 w8 ⟨rfl, hb8⟩; have B8 : Hid (Below w.heap.size w w8) := B7.out.trans (hb8.mono B7.out.size); clear hb8
    go_wp2
    go_ret
    exact ⟨rfl, B8.out⟩
  · have t4 : (a.toList == b.toList) = true := t3
    clear t3 vy vz
    go_enter Tryd.func9, Tryd.ntmps9
    go_wp2_with fail
    refine (CA.out _).mono ?_; rintro e1 w1 ⟨rfl, rfl⟩
    go_wp2_with fail
    refine (CB.out _).mono ?_; rintro e2 w2 ⟨rfl, rfl⟩
    go_wp2_with fail
    refine (CC.out _).mono ?_; rintro e3 w3 ⟨rfl, rfl⟩
    go_wp2_with fail
    refine (X.out _).mono ?_; rintro e4 w4 ⟨rfl, hb4⟩; have B4 := hid hb4; clear hb4
    go_wp2_with fail
    refine (Y.out _).mono ?_; rintro e5 w5 ⟨rfl, hb5⟩; have B5 : Hid (Below w.heap.size w w5) := B4.out.trans (hb5.mono B4.out.size); clear hb5
    go_wp2_with fail
    refine (Z.out _).mono ?_; rintro e6 w6 ⟨rfl, hb6⟩; have B6 : Hid (Below w.heap.size w w6) := B5.out.trans (hb6.mono B5.out.size); clear hb6
    go_wp2_with fail
    refine (V.out _).mono ?_; rintro e7 w7 ⟨rfl, hb7⟩; have B7 : Hid (Below w.heap.size w w7) := B6.out.trans (hb7.mono B6.out.size); clear hb7
    go_wp2_with fail
    refine (works_any _ (HG.out.kept B7.out)).mono ?_; rintro e8 w8 ⟨rfl, hb8⟩; have B8 : Hid (Below w.heap.size w w8) := B7.out.trans (hb8.mono B7.out.size); clear hb8
    go_wp2
    go_ret
    exact ⟨rfl, B8.out⟩
  · have t4 : (a.toList == b.toList) = false := t3
    clear t3 vy vz
    go_enter Tryd.func9, Tryd.ntmps9
    go_wp2_with fail
    refine (CA.out _).mono ?_; rintro e1 w1 ⟨rfl, rfl⟩
    go_wp2_with fail
    refine (CB.out _).mono ?_; rintro e2 w2 ⟨rfl, rfl⟩
    go_wp2_with fail
    refine (CC.out _).mono ?_; rintro e3 w3 ⟨rfl, rfl⟩
    go_wp2_with fail
    refine (X.out _).mono ?_; rintro e4 w4 ⟨rfl, hb4⟩; have B4 := hid hb4; clear hb4
    go_wp2_with fail
    refine (Y.out _).mono ?_; rintro e5 w5 ⟨rfl, hb5⟩; have B5 : Hid (Below w.heap.size w w5) := B4.out.trans (hb5.mono B4.out.size); clear hb5
    go_wp2_with fail
    refine (Z.out _).mono ?_; rintro e6 w6 ⟨rfl, hb6⟩; have B6 : Hid (Below w.heap.size w w6) := B5.out.trans (hb6.mono B5.out.size); clear hb6
    go_wp2_with fail
    refine (V.out _).mono ?_; rintro e7 w7 ⟨rfl, hb7⟩; have B7 : Hid (Below w.heap.size w w7) := B6.out.trans (hb7.mono B6.out.size); clear hb7
    go_wp2_with fail
    refine (works_any _ (HG.out.kept B7.out)).mono ?_; rintro e8 w8 ⟨rfl, hb8⟩; have B8 : Hid (Below w.heap.size w w8) := B7.out.trans (hb8.mono B7.out.size); clear hb8
    go_wp2
    go_ret
    exact ⟨rfl, B8.out⟩
end Go.Proofs.YthhclcjocakdlaaDoor
