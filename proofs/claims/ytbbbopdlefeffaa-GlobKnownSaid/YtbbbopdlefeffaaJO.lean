/- Glob: Match; of, of2, form, awake: what each call does. No conditions. -/
import Derived.Test.YtbbbopdlefeffaaJN
import Derived.Test.YtbbbopdlefeffaaJQ
namespace Go.Proofs.Ytbbbopdlefeffaa.Glob
open Go.RowKit
theorem match_any (g : Nat) (s : By) (p : Pt) (path : By) (w : World) (hp : PatIs w g s p) :
    Calls Try.prog 17 #[.pointer (some ⟨g, 0, none⟩), .string (ba path)] w fun e w' => e = .returned (.bool (mB p.rooted p.hs path)) ∧ Below w.heap.size w w' := by
  by_cases hl : 160 < path.length
  · exact match_long g s p path w hp hl
  · exact match_short g s p path w hp (by omega)
theorem match_no {v : Value} {w : World} (h : NoPat w v) (path : By) : Calls Try.prog 17 #[v, .string (ba path)] w fun e w' => e = .returned (.bool false) ∧ w = w' := by
  have hm := made_no h
  obtain ⟨A, rfl⟩ : ∃ A, v = .pointer A := by
    rcases h with rfl | ⟨g, rfl, _⟩
    · exact ⟨_, rfl⟩
    · exact ⟨_, rfl⟩
  clear h
  go_enter Try.func17, Try.ntmps17
  go_wp2_with (go_at_call 31; refine hm.mono ?_; rintro e1 w1 ⟨rfl, rfl⟩)
  go_ret
  exact ⟨rfl, rfl⟩
/-- What Parse answers, and the error's number. -/
def perr (s : By) : Int := if 128 < s.length then 3 else match parseL s with | none => 4 | some _ => 0
theorem parse_cases {s : By} {e : Ending} {w : World} (h : ParseIs s e w) : ((∃ k : Int, k ≠ 0 ∧ perr s = k ∧ e = .returned (.tuple #[.pointer none, .int .i64 k])) ∨ ∃ p g, ¬ 128 < s.length ∧ parseL s = some p ∧ perr s = 0 ∧ e = .returned (.tuple #[.pointer (some ⟨g, 0, none⟩), .int .i64 0]) ∧ PatIs w g s p) := by
  unfold ParseIs at h
  unfold perr
  by_cases hl : 128 < s.length
  · rw [if_pos hl] at h ⊢
    exact .inl ⟨3, by decide, rfl, h⟩
  · rw [if_neg hl] at h ⊢
    cases hp : parseL s with
    | none => rw [hp] at h; exact .inl ⟨4, by decide, rfl, h⟩
    | some p =>
      rw [hp] at h
      obtain ⟨g, h1, h2⟩ := h
      exact .inr ⟨p, g, hl, rfl, rfl, h1, h2⟩
/-- Does a path match a text, as a pattern? -/
def ofB (s path : By) : Bool := if 128 < s.length then false else match parseL s with | none => false | some p => mB p.rooted p.hs path
theorem ofB_no {s path : By} {k : Int} (h0 : k ≠ 0) (h : perr s = k) : ofB s path = false := by
  unfold perr at h; unfold ofB
  split
  · rfl
  · rename_i hl
    rw [if_neg hl] at h
    cases hp : parseL s with
    | none => rfl
    | some p => rw [hp] at h; exact absurd h.symm h0
theorem ofB_yes {s path : By} {p : Pt} (hl : ¬ 128 < s.length) (h : parseL s = some p) : ofB s path = mB p.rooted p.hs path := by
  unfold ofB; rw [if_neg hl, h]
set_option maxRecDepth 100000 in
theorem of_any (s path : By) (w : World) : Calls Try.prog 20 #[.string (ba s), .string (ba path)] w fun e w' => e = .returned (.bool (ofB s path)) ∧ Below w.heap.size w w' := by
  have HP := hid (parse_any s w)
  go_enter Try.func20, Try.ntmps20
  go_wp2_with (fail)
  refine HP.out.mono ?_
  rintro e1 w1 ⟨h1, hb1⟩
  have HB := hid hb1
  clear hb1
  rcases parse_cases h1 with ⟨k, hk, hpe, rfl⟩ | ⟨p, g, hl, hpl, hpe, rfl, hpat⟩
  · have hk0 : (k == 0) = false := by simp [hk]
    have HO := hid (ofB_no (path := path) hk hpe)
    clear h1 hk hpe
    go_wp2
    go_ret
    exact ⟨ret_bool HO.out.symm, HB.out⟩
  · have HO := hid (ofB_yes (path := path) hl hpl)
    have HM := hid (match_any g s p path w1 hpat)
    rw [← HO.out] at HM
    clear h1 hl hpl hpe hpat HO
    go_wp2_with (go_at_call 17; refine HM.out.mono ?_; rintro e2 w2 ⟨rfl, hb2⟩)
    go_ret
    exact ⟨rfl, HB.out.thenG hb2⟩
set_option maxRecDepth 100000 in
theorem of2_any (s path : By) (b : Bool) (w : World) : Calls Try.prog 24 #[.string (ba s), .string (ba path), .bool b] w fun e w' => e = .returned (.bool (decide (perr s = 0) && (ofB s path == b))) ∧ Below w.heap.size w w' := by
  have HP := hid (parse_any s w)
  go_enter Try.func24, Try.ntmps24
  go_wp2_with (fail)
  refine HP.out.mono ?_
  rintro e1 w1 ⟨h1, hb1⟩
  have HB := hid hb1
  clear hb1
  rcases parse_cases h1 with ⟨k, hk, hpe, rfl⟩ | ⟨p, g, hl, hpl, hpe, rfl, hpat⟩
  · have hk0 : (k == 0) = false := by simp [hk]
    have HO : Hid ((decide (perr s = 0) && (ofB s path == b)) = false) := by show _ = _; rw [decide_eq_false (by rw [hpe]; exact hk)]; rfl
    clear h1 hk hpe
    go_wp2
    go_ret
    exact ⟨ret_bool HO.out.symm, HB.out⟩
  · have HO : Hid ((decide (perr s = 0) && (ofB s path == b)) = (ofB s path == b)) := by show _ = _; rw [decide_eq_true hpe]; rfl
    have HM := hid (match_any g s p path w1 hpat)
    rw [← ofB_yes (path := path) hl hpl] at HM
    clear h1 hl hpl hpe hpat
    go_wp2_with (go_at_call 17; refine HM.out.mono ?_; rintro e2 w2 ⟨rfl, hb2⟩)
    go_ret
    exact ⟨ret_bool HO.out.symm, HB.out.thenG hb2⟩
set_option maxRecDepth 100000 in
theorem form_any (s : By) (w : World) : Calls Try.prog 21 #[.string (ba s)] w fun e w' => e = .returned (.bool (decide (perr s = 4))) ∧ Below w.heap.size w w' := by
  have HP := hid (parse_any s w)
  go_enter Try.func21, Try.ntmps21
  go_wp2_with (fail)
  refine HP.out.mono ?_
  rintro e1 w1 ⟨h1, hb1⟩
  have HB := hid hb1
  clear hb1
  rcases parse_cases h1 with ⟨k, hk, hpe, rfl⟩ | ⟨p, g, hl, hpl, hpe, rfl, hpat⟩
  · have HK := hid hpe
    clear h1 hk hpe
    go_wp2
    go_ret
    exact ⟨ret_bool (by rw [HK.out]; by_cases h : k = 4 <;> simp [h]), HB.out⟩
  · have HK := hid hpe
    clear h1 hl hpl hpe hpat
    go_wp2
    go_ret
    exact ⟨ret_bool (by rw [HK.out]; rfl), HB.out⟩
theorem aw1 : ofB [97, 42, 99] [120, 47, 97, 98, 99, 47, 121] = true := by decide +kernel
theorem aw2 : ofB [97, 42, 99] [97, 47, 99] = false := by decide +kernel
theorem aw3 : ofB [97, 42, 42, 99] [97, 47, 98, 47, 99] = true := by decide +kernel
theorem aw4 : ofB [47, 97, 42, 99] [120, 47, 97, 98, 99] = false := by decide +kernel
theorem aw5 : decide (perr [91, 93] = 4) = true := by decide +kernel
set_option maxRecDepth 100000 in
theorem awake_any (w : World) : Calls Try.prog 11 #[] w fun e w' => e = .returned (.bool true) ∧ Below w.heap.size w w' := by
  have C1 : Hid (∀ W, Calls Try.prog 20 #[.string ⟨#[97, 42, 99]⟩, .string ⟨#[120, 47, 97, 98, 99, 47, 121]⟩] W fun e w' => e = .returned (.bool true) ∧ Below W.heap.size W w') := fun W => aw1 ▸ of_any [97, 42, 99] [120, 47, 97, 98, 99, 47, 121] W
  have C2 : Hid (∀ W, Calls Try.prog 20 #[.string ⟨#[97, 42, 99]⟩, .string ⟨#[97, 47, 99]⟩] W fun e w' => e = .returned (.bool false) ∧ Below W.heap.size W w') := fun W => aw2 ▸ of_any [97, 42, 99] [97, 47, 99] W
  have C3 : Hid (∀ W, Calls Try.prog 20 #[.string ⟨#[97, 42, 42, 99]⟩, .string ⟨#[97, 47, 98, 47, 99]⟩] W fun e w' => e = .returned (.bool true) ∧ Below W.heap.size W w') := fun W => aw3 ▸ of_any [97, 42, 42, 99] [97, 47, 98, 47, 99] W
  have C4 : Hid (∀ W, Calls Try.prog 20 #[.string ⟨#[47, 97, 42, 99]⟩, .string ⟨#[120, 47, 97, 98, 99]⟩] W fun e w' => e = .returned (.bool false) ∧ Below W.heap.size W w') := fun W => aw4 ▸ of_any [47, 97, 42, 99] [120, 47, 97, 98, 99] W
  have C5 : Hid (∀ W, Calls Try.prog 21 #[.string ⟨#[91, 93]⟩] W fun e w' => e = .returned (.bool true) ∧ Below W.heap.size W w') := fun W => aw5 ▸ form_any [91, 93] W
  go_enter Try.func11, Try.ntmps11
  go_wp2_with (fail)
  refine (C1.out _).mono ?_
  rintro e1 w1 ⟨rfl, hb1⟩
  go_wp2_with (fail)
  refine (C2.out _).mono ?_
  rintro e2 w2 ⟨rfl, hb2⟩
  go_wp2_with (fail)
  refine (C3.out _).mono ?_
  rintro e3 w3 ⟨rfl, hb3⟩
  go_wp2_with (fail)
  refine (C4.out _).mono ?_
  rintro e4 w4 ⟨rfl, hb4⟩
  go_wp2_with (fail)
  refine (C5.out _).mono ?_
  rintro e5 w5 ⟨rfl, hb5⟩
  go_wp2
  go_ret
  exact ⟨rfl, (((hb1.thenG hb2).thenG hb3).thenG hb4).thenG hb5⟩
end Go.Proofs.Ytbbbopdlefeffaa.Glob
