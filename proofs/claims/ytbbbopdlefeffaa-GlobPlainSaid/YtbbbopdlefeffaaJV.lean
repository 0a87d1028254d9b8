/- The law GlobMarks: its walk. No conditions. -/
import Derived.Test.YtbbbopdlefeffaaJO
namespace Go.Proofs.Ytbbbopdlefeffaa.Glob
open Go.RowKit
theorem bits8 : ∀ m k c : Fin 8, (m.val &&& c.val = 0 → k.val &&& c.val = 0 → (m.val ||| k.val) &&& c.val = 0) ∧ (m.val ||| k.val) ||| c.val = (m.val ||| c.val) ||| k.val := by decide +kernel
theorem sub8 : ∀ m c k : Fin 8, m.val ||| c.val = m.val → m.val &&& k.val = 0 → k.val &&& c.val = 0 := by decide +kernel
theorem mono8 : ∀ m a b : Fin 8, m.val ||| (a.val ||| b.val) = m.val → m.val ||| a.val = m.val ∧ m.val ||| b.val = m.val := by decide +kernel
theorem self8 : ∀ m : Fin 8, m.val ||| m.val = m.val := by decide +kernel
theorem marksF_mono (n : Nat) : ∀ m s k t, m < 8 → marksF n m s = some (k, t) → k ||| m = k := by
  induction n with
  | zero =>
    intro m s k t hm h
    simp only [marksF, Option.some.injEq, Prod.mk.injEq] at h
    obtain ⟨rfl, _⟩ := h
    exact self8 ⟨m, hm⟩
  | succ n ih =>
    intro m s k t hm h
    have hc := cutM_le s
    unfold marksF at h
    split at h
    · simp only [Option.some.injEq, Prod.mk.injEq] at h
      obtain ⟨rfl, _⟩ := h
      exact self8 ⟨m, hm⟩
    · split at h
      · cases h
      · have hk := marksF_lt _ _ _ _ _ (or8 m _ hm hc).2 h
        exact (mono8 ⟨k, hk⟩ ⟨m, hm⟩ ⟨_, hc⟩ (ih _ _ _ _ (or8 m _ hm hc).2 h)).1
theorem marksF_more (n : Nat) (j : Nat) (hj : j < 8) : ∀ m s k t, m < 8 → marksF n m s = some (k, t) → k &&& j = 0 → marksF n (m ||| j) s = some (k ||| j, t) := by
  induction n with
  | zero =>
    intro m s k t hm h h0
    simp only [marksF, Option.some.injEq, Prod.mk.injEq] at h ⊢
    obtain ⟨rfl, rfl⟩ := h
    exact ⟨rfl, rfl⟩
  | succ n ih =>
    intro m s k t hm h h0
    have hc := cutM_le s
    unfold marksF at h ⊢
    split at h
    · rename_i hz
      rw [if_pos hz]
      simp only [Option.some.injEq, Prod.mk.injEq] at h ⊢
      obtain ⟨rfl, rfl⟩ := h
      exact ⟨rfl, rfl⟩
    · rename_i hz
      rw [if_neg hz]
      split at h
      · cases h
      · rename_i hd
        have hd : m &&& (cutM s).1 = 0 := by simpa using hd
        have ho := (or8 m _ hm hc).2
        have hk := marksF_lt _ _ _ _ _ ho h
        have hmo := marksF_mono _ _ _ _ _ ho h
        have hkc := (mono8 ⟨k, hk⟩ ⟨m, hm⟩ ⟨_, hc⟩ hmo).2
        have hjc := sub8 ⟨k, hk⟩ ⟨_, hc⟩ ⟨j, hj⟩ hkc h0
        have hb := bits8 ⟨m, hm⟩ ⟨j, hj⟩ ⟨_, hc⟩
        simp only at hb hjc
        rw [if_neg (by simpa using hb.1 hd hjc), hb.2]
        exact ih _ _ _ _ ho h h0
/-- A mark more ahead of a pattern's text that has it not. -/
theorem parse_mark (u s : By) (j : Nat) (hj : j < 8) (hj0 : j ≠ 0) (hu : cutM (u ++ s) = (j, s)) (p : Pt) (h : parseL s = some p) (h0 : p.m &&& j = 0) : parseL (u ++ s) = some ⟨p.m ||| j, p.rooted, p.els⟩ := by
  unfold parseL at h
  cases hm : marks 0 s with
  | none => rw [hm] at h; cases h
  | some y =>
    obtain ⟨m, t⟩ := y
    rw [hm] at h
    have hk : m &&& j = 0 := by
      simp only at h
      split at h
      · cases h
      · simp only [Option.some.injEq] at h; subst h; exact h0
    have e : marks 0 (u ++ s) = some (m ||| j, t) := by
      rw [marks_eq, hu]
      simp only [hj0, if_false, Nat.zero_and, ne_eq, not_true_eq_false]
      exact marksF_more _ j hj 0 s m t (by omega) hm hk
    unfold parseL
    rw [e]
    simp only at h ⊢
    split at h
    · cases h
    · rename_i l hl
      simp only [Option.some.injEq] at h ⊢
      subst h; rfl
theorem fold8 : ∀ m : Fin 8, ((m.val ||| 1) &&& 2 != 0) = (m.val &&& 2 != 0) ∧ ((m.val ||| 4) &&& 2 != 0) = (m.val &&& 2 != 0) := by decide +kernel
theorem mark_one (s path : By) (p : Pt) (hl : s.length ≤ 120) (h : parseL s = some p) (hm : p.m < 8) (h0 : (p.m &&& 1 != 0) = false) : perr (33 :: s) = 0 ∧ ofB (33 :: s) path = mB p.rooted p.hs path := by
  have e := parse_mark [33] s 1 (by omega) (by omega) (by simp [cutM, pre, List.isPrefixOf]) p h (by simpa using h0)
  have l : ¬ 128 < ([33] ++ s).length := by simp; omega
  refine ⟨by show perr ([33] ++ s) = 0; unfold perr; rw [if_neg l, e], ?_⟩
  show ofB ([33] ++ s) path = _
  rw [ofB_yes l e]
  unfold Pt.hs Pt.folded
  rw [(fold8 ⟨p.m, hm⟩).1]
theorem mark_del (s path : By) (p : Pt) (hl : s.length ≤ 120) (h : parseL s = some p) (hm : p.m < 8) (h0 : (p.m &&& 4 != 0) = false) : perr (40 :: 63 :: 100 :: 41 :: s) = 0 ∧ ofB (40 :: 63 :: 100 :: 41 :: s) path = mB p.rooted p.hs path := by
  have e := parse_mark [40, 63, 100, 41] s 4 (by omega) (by omega) (by simp [cutM, pre, List.isPrefixOf]) p h (by simpa using h0)
  have l : ¬ 128 < ([40, 63, 100, 41] ++ s).length := by simp; omega
  refine ⟨by show perr ([40, 63, 100, 41] ++ s) = 0; unfold perr; rw [if_neg l, e], ?_⟩
  show ofB ([40, 63, 100, 41] ++ s) path = _
  rw [ofB_yes l e]
  unfold Pt.hs Pt.folded
  rw [(fold8 ⟨p.m, hm⟩).2]
theorem ba_app (a b : By) : ba a ++ ba b = ba (a ++ b) := by
  apply ByteArray.ext; simp [ba]
set_option maxRecDepth 100000 in
set_option maxHeartbeats 1000000 in
theorem marks_any (s path : By) (w : World) : Calls Try.prog 8 #[.string (ba s), .string (ba path)] w fun e w' => e = .returned (.bool true) ∧ Below w.heap.size w w' := by
  have HP := hid (parse_any s w)
  have z := ba_size s
  go_enter Try.func8, Try.ntmps8
  go_wp2_with (fail)
  refine HP.out.mono ?_
  rintro e1 w1 ⟨h1, hb1⟩
  have HB := hid hb1
  clear hb1
  rcases parse_cases h1 with ⟨k, hk, hpe, rfl⟩ | ⟨p, g, hl, hpl, hpe, rfl, hpat⟩
  · have hk0 : (k != 0) = true := by simp [hk]
    clear h1 hk hpe
    go_wp2_with (go_at_call 11; refine (awake_any _).mono ?_; rintro e2 w2 ⟨rfl, hb2⟩)
    go_ret
    exact ⟨rfl, HB.out.thenG hb2⟩
  · by_cases h120 : 120 < s.length
    · have g1 : (120 : Int) < (s.length : Int) := by omega
      clear h1 hl hpl hpe hpat
      go_wp2_with (go_at_call 11; refine (awake_any _).mono ?_; rintro e2 w2 ⟨rfl, hb2⟩)
      go_ret
      exact ⟨rfl, HB.out.thenG hb2⟩
    · have g1 : ¬ ((120 : Int) < (s.length : Int)) := by omega
      have hm8 : p.m < 8 := by obtain ⟨_, _, _, _, _, h⟩ := hpat; exact h
      have M1 := fun h => mark_one s path p (by omega) hpl hm8 h
      have M4 := fun h => mark_del s path p (by omega) hpl hm8 h
      have HPAT := hid hpat
      have CN : Hid (∀ W, Below w1.heap.size w1 W → Calls Try.prog 12 #[.pointer (some ⟨g, 0, none⟩)] W fun e w' => e = .returned (.bool (p.m &&& 1 != 0)) ∧ W = w') := fun W hW => Negated_yes (HPAT.out.stays hW)
      have CD : Hid (∀ W, Below w1.heap.size w1 W → Calls Try.prog 13 #[.pointer (some ⟨g, 0, none⟩)] W fun e w' => e = .returned (.bool (p.m &&& 4 != 0)) ∧ W = w') := fun W hW => Deletable_yes (HPAT.out.stays hW)
      have CM : Hid (∀ W, Below w1.heap.size w1 W → Calls Try.prog 17 #[.pointer (some ⟨g, 0, none⟩), .string (ba path)] W fun e w' => e = .returned (.bool (mB p.rooted p.hs path)) ∧ Below W.heap.size W w') := fun W hW => match_any g s p path W (HPAT.out.stays hW)
      have C1 : Hid ((p.m &&& 1 != 0) = false → ∀ W, Calls Try.prog 24 #[.string (ba (33 :: s)), .string (ba path), .bool (mB p.rooted p.hs path)] W fun e w' => e = .returned (.bool true) ∧ Below W.heap.size W w') := fun h W => by
        have := of2_any (33 :: s) path (mB p.rooted p.hs path) W
        rw [(M1 h).1, (M1 h).2] at this
        simpa using this
      have C4 : Hid ((p.m &&& 4 != 0) = false → ∀ W, Calls Try.prog 24 #[.string (ba (40 :: 63 :: 100 :: 41 :: s)), .string (ba path), .bool (mB p.rooted p.hs path)] W fun e w' => e = .returned (.bool true) ∧ Below W.heap.size W w') := fun h W => by
        have := of2_any (40 :: 63 :: 100 :: 41 :: s) path (mB p.rooted p.hs path) W
        rw [(M4 h).1, (M4 h).2] at this
        simpa using this
      have a1 : (⟨#[33]⟩ : ByteArray) ++ ba s = ba (33 :: s) := ba_app [33] s
      have a4 : (⟨#[40, 63, 100, 41]⟩ : ByteArray) ++ ba s = ba (40 :: 63 :: 100 :: 41 :: s) := ba_app [40, 63, 100, 41] s
      generalize mB p.rooted p.hs path = mb at CM C1 C4
      generalize (p.m &&& 1 != 0) = n1 at CN C1
      generalize (p.m &&& 4 != 0) = n4 at CD C4
      clear h1 hl hpl hpe hpat M1 M4 hm8
      have B0 : Hid (Below w1.heap.size w1 w1) := Below.refl _ _
      go_wp2_with (fail)
      refine (CN.out _ B0.out).mono ?_
      rintro e2 w2 ⟨rfl, rfl⟩
      cases n1 with
      | true =>
        go_wp2_with (fail)
        refine (CD.out _ B0.out).mono ?_
        rintro e2 w2 ⟨rfl, rfl⟩
        cases n4 with
        | true =>
          go_wp2_with (go_at_call 11; refine (awake_any _).mono ?_; rintro e2 w2 ⟨rfl, hb2⟩)
          go_ret
          exact ⟨rfl, HB.out.thenG hb2⟩
        | false =>
          have C4' := hid (C4.out rfl)
          clear C1 C4
          go_wp2_with (fail)
          refine (CM.out _ B0.out).mono ?_
          rintro e3 w3 ⟨rfl, hb3⟩
          go_wp2_with (fail)
          refine (C4'.out _).mono ?_
          rintro e4 w4 ⟨rfl, hb4⟩
          go_wp2_with (fail)
          refine (awake_any _).mono ?_
          rintro e5 w5 ⟨rfl, hb5⟩
          go_wp2
          go_ret
          exact ⟨rfl, ((HB.out.thenG hb3).thenG hb4).thenG hb5⟩
      | false =>
        have C1' := hid (C1.out rfl)
        clear C1
        go_wp2_with (fail)
        refine (CM.out _ B0.out).mono ?_
        rintro e3 w3 ⟨rfl, hb3⟩
        go_wp2_with (fail)
        refine (C1'.out _).mono ?_
        rintro e4 w4 ⟨rfl, hb4⟩
        have B4 : Hid (Below w1.heap.size w1 w4) := (B0.out.thenG hb3).thenG hb4
        clear hb3 hb4
        go_wp2_with (fail)
        refine (CD.out _ B4.out).mono ?_
        rintro e5 w5 ⟨rfl, rfl⟩
        cases n4 with
        | true =>
          go_wp2_with (fail)
          refine (awake_any _).mono ?_
          rintro e6 w6 ⟨rfl, hb6⟩
          go_wp2
          go_ret
          exact ⟨rfl, (HB.out.thenG B4.out).thenG hb6⟩
        | false =>
          have C4' := hid (C4.out rfl)
          clear C4
          go_wp2_with (fail)
          refine (CM.out _ B4.out).mono ?_
          rintro e6 w6 ⟨rfl, hb6⟩
          go_wp2_with (fail)
          refine (C4'.out _).mono ?_
          rintro e7 w7 ⟨rfl, hb7⟩
          go_wp2_with (fail)
          refine (awake_any _).mono ?_
          rintro e8 w8 ⟨rfl, hb8⟩
          go_wp2
          go_ret
          exact ⟨rfl, (((HB.out.thenG B4.out).thenG hb6).thenG hb7).thenG hb8⟩
theorem marks_law (s path : ByteArray) (w : World) : Calls Try.prog 8 #[.string s, .string path] w fun e w' => e = .returned (.bool true) ∧ Below w.heap.size w w' := by
  have := marks_any (tl s) (tl path) w
  rw [ba_tl, ba_tl] at this; exact this
end Go.Proofs.Ytbbbopdlefeffaa.Glob
