/- The law GlobPlain: its walk. No conditions. -/
import Derived.Test.YtbbbopdlefeffaaJY
namespace Go.Proofs.Ytbbbopdlefeffaa.Glob
open Go.RowKit
theorem zero_fold : ((0 : Nat) &&& 2 != 0) = false := by decide
theorem plain_hs (s : By) : (⟨0, true, s.map El.byt⟩ : Pt).hs = hsOf false (s.map El.byt) := by
  show hsOf ((0 : Nat) &&& 2 != 0) _ = _
  rw [zero_fold]
set_option maxRecDepth 100000 in
set_option maxHeartbeats 2000000 in
theorem gplain_any (s path : By) (w : World) : Calls Try.prog 7 #[.string (ba s), .string (ba path)] w fun e w' => e = .returned (.bool true) ∧ Below w.heap.size w w' := by
  have z1 := ba_size s
  have z2 := ba_size path
  by_cases h0 : s.length = 0
  · have g0 : ((s.length : Int) == 0) = true := by simp [h0]
    clear h0
    go_enter Try.func7, Try.ntmps7
    go_wp2_with (go_at_call 11; refine (awake_any _).mono ?_; rintro e2 w2 ⟨rfl, hb2⟩)
    go_ret
    exact ⟨rfl, hb2⟩
  · have g0 : ((s.length : Int) == 0) = false := by simp; intro h; exact h0 (by rw [h]; rfl)
    by_cases h60 : 60 < s.length
    · have g1 : (60 : Int) < (s.length : Int) := by omega
      clear h0
      go_enter Try.func7, Try.ntmps7
      go_wp2_with (go_at_call 11; refine (awake_any _).mono ?_; rintro e2 w2 ⟨rfl, hb2⟩)
      go_ret
      exact ⟨rfl, hb2⟩
    · have g1 : ¬ ((60 : Int) < (s.length : Int)) := by omega
      by_cases h160 : 160 < path.length
      · have g2 : (160 : Int) < (path.length : Int) := by omega
        clear h0
        go_enter Try.func7, Try.ntmps7
        go_wp2_with (go_at_call 11; refine (awake_any _).mono ?_; rintro e2 w2 ⟨rfl, hb2⟩)
        go_ret
        exact ⟨rfl, hb2⟩
      · have g2 : ¬ ((160 : Int) < (path.length : Int)) := by omega
        have CPL := hid (plain_any s w (by omega))
        have HPP := hid (parse_plain s (by rintro rfl; exact h0 rfl))
        have HPL : Hid (¬ 128 < (plainL s).length) := by show ¬ _; unfold plainL; have := esc_len s; simp; omega
        have HSS : Hid (mB true (hsOf false (s.map El.byt)) s = true) := by show _ = _; rw [mB_plain s s (by omega)]; simp
        have HSP := hid (mB_plain s path (by omega))
        have zs := toList_ba s
        have zp := toList_ba path
        have z3 := ba_size (s ++ [47])
        have a1 : ba s ++ (⟨#[47]⟩ : ByteArray) = ba (s ++ [47]) := ba_app s [47]
        clear h0 h60 h160
        go_enter Try.func7, Try.ntmps7
        go_wp2_with (fail)
        refine CPL.out.mono ?_
        rintro e1 w1 ⟨rfl, hb1⟩
        go_wp2_with (fail)
        refine (parse_any (plainL s) w1).mono ?_
        rintro e2 w2 ⟨hp2, hb2⟩
        have HB := hid (hb1.thenG hb2)
        clear hb1 hb2
        obtain ⟨g, rfl, hpat⟩ : ∃ g, e2 = .returned (.tuple #[.pointer (some ⟨g, 0, none⟩), .int .i64 0]) ∧ PatIs w2 g (plainL s) ⟨0, true, s.map El.byt⟩ := by
          unfold ParseIs at hp2
          rw [if_neg HPL.out, HPP.out] at hp2
          exact hp2
        have HPAT := hid hpat
        have CM : Hid (∀ W l, Below w2.heap.size w2 W → Calls Try.prog 17 #[.pointer (some ⟨g, 0, none⟩), .string (ba l)] W fun e w' => e = .returned (.bool (mB true (hsOf false (s.map El.byt)) l)) ∧ Below W.heap.size W w') := fun W l hW => by
          have := match_any g (plainL s) ⟨0, true, s.map El.byt⟩ l W (HPAT.out.stays hW)
          rw [plain_hs] at this; exact this
        have CR : Hid (∀ W, Below w2.heap.size w2 W → Calls Try.prog 15 #[.pointer (some ⟨g, 0, none⟩)] W fun e w' => e = .returned (.bool true) ∧ W = w') := fun W hW => Rooted_yes (HPAT.out.stays hW)
        have CF : Hid (∀ W, Below w2.heap.size w2 W → Calls Try.prog 14 #[.pointer (some ⟨g, 0, none⟩)] W fun e w' => e = .returned (.bool false) ∧ W = w') := fun W hW => by
          have := Folded_yes (HPAT.out.stays hW)
          simp only [zero_fold] at this; exact this
        have C1 := hid (CM.out w2 s (Below.refl _ _))
        rw [HSS.out] at C1
        have CPH : Hid (∀ W, Calls Try.prog 23 #[.string (ba path), .string (ba (s ++ [47]))] W fun e w' => e = .returned (.bool (pre (s ++ [47]) path)) ∧ W = w') := fun W => pre_any path (s ++ [47]) W
        have C2 : Hid (∀ W, Below w2.heap.size w2 W → Calls Try.prog 17 #[.pointer (some ⟨g, 0, none⟩), .string (ba path)] W fun e w' => e = .returned (.bool (decide (path = s) || pre (s ++ [47]) path)) ∧ Below W.heap.size W w') := fun W hW => HSP.out ▸ CM.out W path hW
        generalize pre (s ++ [47]) path = bp at CPH C2
        obtain ⟨bq, hbq⟩ : ∃ bq, (path == s) = bq := ⟨_, rfl⟩
        rw [show decide (path = s) = bq by rw [← hbq, Bool.eq_iff_iff]; simp] at C2
        clear hp2 hpat CM
        go_wp2_with (fail)
        refine C1.out.mono ?_
        rintro e3 w3 ⟨rfl, hb3⟩
        have B3 : Hid (Below w2.heap.size w2 w3) := hb3
        clear hb3
        go_wp2_with (fail)
        refine (CR.out _ B3.out).mono ?_
        rintro e4 w4 ⟨rfl, rfl⟩
        go_wp2_with (fail)
        refine (CF.out _ B3.out).mono ?_
        rintro e5 w5 ⟨rfl, rfl⟩
        cases bq with
        | true =>
          go_wp2_with (fail)
          refine (C2.out _ B3.out).mono ?_
          rintro e6 w6 ⟨rfl, hb6⟩
          go_wp2_with (fail)
          refine (awake_any _).mono ?_
          rintro e7 w7 ⟨rfl, hb7⟩
          go_wp2
          go_ret
          exact ⟨rfl, ((HB.out.thenG B3.out).thenG hb6).thenG hb7⟩
        | false =>
          go_wp2_with (fail)
          refine (CPH.out _).mono ?_
          rintro e6 w6 ⟨rfl, rfl⟩
          go_wp2_with (fail)
          refine (C2.out _ B3.out).mono ?_
          rintro e7 w7 ⟨rfl, hb7⟩
          have hbb : (bp == bp) = true := by simp
          go_wp2_with (fail)
          refine (awake_any _).mono ?_
          rintro e8 w8 ⟨rfl, hb8⟩
          go_wp2
          go_ret
          exact ⟨rfl, ((HB.out.thenG B3.out).thenG hb7).thenG hb8⟩
theorem gplain_law (s path : ByteArray) (w : World) : Calls Try.prog 7 #[.string s, .string path] w fun e w' => e = .returned (.bool true) ∧ Below w.heap.size w w' := by
  have := gplain_any (tl s) (tl path) w
  rw [ba_tl, ba_tl] at this; exact this
end Go.Proofs.Ytbbbopdlefeffaa.Glob
