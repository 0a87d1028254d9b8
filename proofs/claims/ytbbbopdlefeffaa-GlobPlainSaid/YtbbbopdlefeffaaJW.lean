/- The law GlobWithin: its walk. Conditions: texts that a machine holds. -/
import Derived.Test.YtbbbopdlefeffaaJV
namespace Go.Proofs.Ytbbbopdlefeffaa.Glob
open Go.RowKit
theorem at8_app {a b : By} {i : Nat} (h : i < a.length) : at8 (a ++ b) i = at8 a i := by
  simp [at8, List.getD, List.getElem?_append_left h]
theorem at8_app_r {a b : By} {i : Nat} (h : a.length ≤ i) : at8 (a ++ b) i = at8 b (i - a.length) := by
  simp [at8, List.getD, List.getElem?_append_right h]
theorem seg_app {p q : By} {a b : Nat} (h : b ≤ p.length) : seg (p ++ q) a b = seg p a b := by
  unfold seg
  by_cases hab : a ≤ b
  · rw [List.drop_append_of_le_length (by omega), List.take_append_of_le_length (by rw [List.length_drop]; omega)]
  · rw [show b - a = 0 by omega]; rfl
theorem seg_shift (q p : By) (a b : Nat) : seg (q ++ p) (q.length + a) (q.length + b) = seg p a b := by
  unfold seg
  rw [List.drop_append, List.drop_of_length_le (by omega), List.nil_append]
  congr 1
  · omega
  · congr 1; omega
/-- What lies within what matches matches. -/
theorem mB_in (rooted : Bool) (hs : H) (path behind : By) (h : mB rooted hs path = true) (hl : (path ++ 47 :: behind).length ≤ 160) : mB rooted hs (path ++ 47 :: behind) = true := by
  obtain ⟨_, a, b, hab, hb, hst, he, hw⟩ := (mB_iff _ _ _).1 h
  refine (mB_iff _ _ _).2 ⟨hl, a, b, hab, by rw [List.length_append]; omega, ?_, ?_, ?_⟩
  · unfold startB at hst ⊢
    by_cases ha : a = 0
    · subst ha; rfl
    · rw [at8_app (by omega)]; exact hst
  · unfold endB at he ⊢
    by_cases hbl : b = path.length
    · subst hbl
      rw [at8_app_r (Nat.le_refl _)]
      simp [at8]
    · rw [at8_app (by omega)]
      have : (b == path.length) = false := by simp [hbl]
      rw [this, Bool.false_or] at he
      rw [he, Bool.or_true]
  · rw [seg_app hb]; exact hw
/-- A pattern that is not rooted matches within anything. -/
theorem mB_under (hs : H) (path ahead : By) (h : mB false hs path = true) (hl : (ahead ++ 47 :: path).length ≤ 160) : mB false hs (ahead ++ 47 :: path) = true := by
  obtain ⟨_, a, b, hab, hb, hst, he, hw⟩ := (mB_iff _ _ _).1 h
  have e : ahead ++ 47 :: path = (ahead ++ [47]) ++ path := by simp
  rw [e] at hl ⊢
  obtain ⟨q, hq⟩ : ∃ q, q = ahead ++ [47] := ⟨_, rfl⟩
  have hq47 : at8 q (q.length - 1) = 47 := by rw [hq, at8_app_r (by simp)]; simp [at8]
  have hq0 : 0 < q.length := by rw [hq]; simp
  rw [← hq] at hl ⊢
  clear hq e
  refine (mB_iff _ _ _).2 ⟨hl, q.length + a, q.length + b, by omega, by rw [List.length_append]; omega, ?_, ?_, ?_⟩
  · unfold startB at hst ⊢
    by_cases ha : a = 0
    · subst ha
      rw [Nat.add_zero, at8_app (by omega), hq47]; simp
    · have h1 : (a == 0) = false := by simp [ha]
      rw [h1, Bool.false_or] at hst
      rw [at8_app_r (by omega), show q.length + a - 1 - q.length = a - 1 by omega, hst, Bool.or_true]
  · unfold endB at he ⊢
    rw [at8_app_r (by omega), Nat.add_sub_cancel_left, List.length_append]
    rw [show (q.length + b == q.length + path.length) = (b == path.length) by rw [Bool.eq_iff_iff]; simp]
    exact he
  · rw [seg_shift]; exact hw
set_option maxRecDepth 100000 in
set_option maxHeartbeats 2000000 in
theorem within_law' (s path behind ahead : By) (w : World) (h1 : behind.length ≤ 140737488351232) (h2 : ahead.length ≤ 140737488351232) :
    Calls Try.prog 6 #[.string (ba s), .string (ba path), .string (ba behind), .string (ba ahead)] w fun e w' => e = .returned (.bool true) ∧ Below w.heap.size w w' := by
  have HP := hid (parse_any s w)
  have zp := ba_size path
  go_enter Try.func6, Try.ntmps6
  go_wp2_with (fail)
  refine HP.out.mono ?_
  rintro e1 w1 ⟨hp1, hb1⟩
  have HB := hid hb1
  clear hb1
  rcases parse_cases hp1 with ⟨k, hk, hpe, rfl⟩ | ⟨p, g, hl, hpl, hpe, rfl, hpat⟩
  · have hk0 : (k != 0) = true := by simp [hk]
    clear hp1 hk hpe
    go_wp2_with (go_at_call 11; refine (awake_any _).mono ?_; rintro e2 w2 ⟨rfl, hb2⟩)
    go_ret
    exact ⟨rfl, HB.out.thenG hb2⟩
  · have HPAT := hid hpat
    have CM : Hid (∀ W l, Below w1.heap.size w1 W → Calls Try.prog 17 #[.pointer (some ⟨g, 0, none⟩), .string (ba l)] W fun e w' => e = .returned (.bool (mB p.rooted p.hs l)) ∧ Below W.heap.size W w') := fun W l hW => match_any g s p l W (HPAT.out.stays hW)
    have CR : Hid (∀ W, Below w1.heap.size w1 W → Calls Try.prog 15 #[.pointer (some ⟨g, 0, none⟩)] W fun e w' => e = .returned (.bool p.rooted) ∧ W = w') := fun W hW => Rooted_yes (HPAT.out.stays hW)
    have B0 : Hid (Below w1.heap.size w1 w1) := Below.refl _ _
    have HI := fun h => mB_in p.rooted p.hs path behind h
    have HU : p.rooted = false → mB p.rooted p.hs path = true → (ahead ++ 47 :: path).length ≤ 160 → mB p.rooted p.hs (ahead ++ 47 :: path) = true := fun h => by rw [h]; exact fun h1 h2 => mB_under p.hs path ahead h1 h2
    have HLP := fun h => ((mB_iff p.rooted p.hs path).1 h).1
    obtain ⟨mp, hmp⟩ : ∃ mp, mB p.rooted p.hs path = mp := ⟨_, rfl⟩
    have C1 := hid (CM.out w1 path B0.out)
    rw [hmp] at HI HU HLP C1
    clear hp1 hl hpl hpe hpat hmp
    cases mp with
    | false =>
      clear HI HU HLP
      go_wp2_with (fail)
      refine C1.out.mono ?_
      rintro e2 w2 ⟨rfl, hb2⟩
      go_wp2_with (fail)
      refine (awake_any _).mono ?_
      rintro e3 w3 ⟨rfl, hb3⟩
      go_wp2
      go_ret
      exact ⟨rfl, (HB.out.thenG hb2).thenG hb3⟩
    | true =>
      have hlp := HLP rfl
      have HI' := hid (HI rfl)
      have HU' := hid (fun h => HU h rfl)
      have gl : (path.length : Int) ≤ 160 := by omega
      have gp0 : (0 : Int) ≤ (path.length : Int) := by omega
      have z1 := ba_size (path ++ [47])
      have z2 := ba_size (path ++ 47 :: behind)
      have z3 := ba_size (ahead ++ [47])
      have z4 := ba_size (ahead ++ 47 :: path)
      have zb := ba_size behind
      have za := ba_size ahead
      have a1 : ba path ++ (⟨#[47]⟩ : ByteArray) = ba (path ++ [47]) := ba_app path [47]
      have a2 : ba (path ++ [47]) ++ ba behind = ba (path ++ 47 :: behind) := by rw [ba_app]; simp
      have a3 : ba ahead ++ (⟨#[47]⟩ : ByteArray) = ba (ahead ++ [47]) := ba_app ahead [47]
      have a4 : ba (ahead ++ [47]) ++ ba path = ba (ahead ++ 47 :: path) := by rw [ba_app]; simp
      have CI : Hid (∀ W, Below w1.heap.size w1 W → path.length + (behind.length + 1) ≤ 160 → Calls Try.prog 17 #[.pointer (some ⟨g, 0, none⟩), .string (ba (path ++ 47 :: behind))] W fun e w' => e = .returned (.bool true) ∧ Below W.heap.size W w') := fun W hW hl => by
        have := CM.out W (path ++ 47 :: behind) hW
        rw [HI'.out (by simpa using hl)] at this; exact this
      have CU : Hid (p.rooted = false → ∀ W, Below w1.heap.size w1 W → ahead.length + (path.length + 1) ≤ 160 → Calls Try.prog 17 #[.pointer (some ⟨g, 0, none⟩), .string (ba (ahead ++ 47 :: path))] W fun e w' => e = .returned (.bool true) ∧ Below W.heap.size W w') := fun hr W hW hl => by
        have := CM.out W (ahead ++ 47 :: path) hW
        rw [HU'.out hr (by simpa using hl)] at this; exact this
      generalize p.rooted = rooted at CR CU
      clear HI HU HLP CM HI' HU'
      go_wp2_with (fail)
      refine C1.out.mono ?_
      rintro e2 w2 ⟨rfl, hb2⟩
      have B2 : Hid (Below w1.heap.size w1 w2) := B0.out.thenG hb2
      clear hb2
      by_cases gin : path.length + (behind.length + 1) ≤ 160
      · have gi : (path.length : Int) + ((behind.length : Int) + 1) ≤ 160 := by omega
        have CI' := hid (CI.out w2 B2.out gin)
        clear gin CI
        go_wp2_with (fail)
        refine CI'.out.mono ?_
        rintro e3 w3 ⟨rfl, hb3⟩
        have B3 : Hid (Below w1.heap.size w1 w3) := B2.out.thenG hb3
        clear hb3
        go_wp2_with (fail)
        refine (CR.out _ B3.out).mono ?_
        rintro e4 w4 ⟨rfl, rfl⟩
        clear gi
        cases rooted with
        | true =>
          go_wp2_with (fail)
          refine (awake_any _).mono ?_
          rintro e5 w5 ⟨rfl, hb5⟩
          go_wp2
          go_ret
          exact ⟨rfl, (HB.out.thenG B3.out).thenG hb5⟩
        | false =>
          by_cases gun : ahead.length + (path.length + 1) ≤ 160
          · have gu : (ahead.length : Int) + ((path.length : Int) + 1) ≤ 160 := by omega
            have CU' := hid (CU.out rfl _ B3.out gun)
            clear gun CU
            go_wp2_with (fail)
            refine CU'.out.mono ?_
            rintro e5 w5 ⟨rfl, hb5⟩
            go_wp2_with (fail)
            refine (awake_any _).mono ?_
            rintro e6 w6 ⟨rfl, hb6⟩
            go_wp2
            go_ret
            exact ⟨rfl, ((HB.out.thenG B3.out).thenG hb5).thenG hb6⟩
          · have gu : ¬ ((ahead.length : Int) + ((path.length : Int) + 1) ≤ 160) := by omega
            clear gun CU
            go_wp2_with (fail)
            refine (awake_any _).mono ?_
            rintro e6 w6 ⟨rfl, hb6⟩
            go_wp2
            go_ret
            exact ⟨rfl, (HB.out.thenG B3.out).thenG hb6⟩
      · have gi : ¬ ((path.length : Int) + ((behind.length : Int) + 1) ≤ 160) := by omega
        clear gin CI
        go_wp2_with (fail)
        refine (CR.out _ B2.out).mono ?_
        rintro e4 w4 ⟨rfl, rfl⟩
        clear gi
        cases rooted with
        | true =>
          go_wp2_with (fail)
          refine (awake_any _).mono ?_
          rintro e5 w5 ⟨rfl, hb5⟩
          go_wp2
          go_ret
          exact ⟨rfl, (HB.out.thenG B2.out).thenG hb5⟩
        | false =>
          by_cases gun : ahead.length + (path.length + 1) ≤ 160
          · have gu : (ahead.length : Int) + ((path.length : Int) + 1) ≤ 160 := by omega
            have CU' := hid (CU.out rfl _ B2.out gun)
            clear gun CU
            go_wp2_with (fail)
            refine CU'.out.mono ?_
            rintro e5 w5 ⟨rfl, hb5⟩
            go_wp2_with (fail)
            refine (awake_any _).mono ?_
            rintro e6 w6 ⟨rfl, hb6⟩
            go_wp2
            go_ret
            exact ⟨rfl, ((HB.out.thenG B2.out).thenG hb5).thenG hb6⟩
          · have gu : ¬ ((ahead.length : Int) + ((path.length : Int) + 1) ≤ 160) := by omega
            clear gun CU
            go_wp2_with (fail)
            refine (awake_any _).mono ?_
            rintro e6 w6 ⟨rfl, hb6⟩
            go_wp2
            go_ret
            exact ⟨rfl, (HB.out.thenG B2.out).thenG hb6⟩
theorem within_law (s path behind ahead : ByteArray) (w : World) (h1 : behind.size ≤ 140737488351232) (h2 : ahead.size ≤ 140737488351232) : Calls Try.prog 6 #[.string s, .string path, .string behind, .string ahead] w fun e w' => e = .returned (.bool true) ∧ Below w.heap.size w w' := by
  have := within_law' (tl s) (tl path) (tl behind) (tl ahead) w (by rw [tl_length]; exact h1) (by rw [tl_length]; exact h2)
  rw [ba_tl, ba_tl, ba_tl, ba_tl] at this; exact this
end Go.Proofs.Ytbbbopdlefeffaa.Glob
