/- Glob: Parse, and what a pattern says: what each call does. No conditions. -/
import Derived.Test.YtpipkgkfhbagmaaGreatDoorJI
namespace Go.Proofs.YtpipkgkfhbagmaaGreatDoor.Glob
open Go.RowKit
/-- Block g of w holds the pattern p, parsed of s. -/
def PatIs (w : World) (g : Nat) (s : By) (p : Pt) : Prop :=
  ∃ v, Has w g 84 #[.string (ba s), .int .i64 (p.m : Int), .bool p.rooted, v] ∧ Els 0 w v p.hs ∧ 0 < p.hs.length ∧ p.hs.length ≤ 128 ∧ p.m < 8
theorem PatIs.stays {w w' : World} {g : Nat} {s : By} {p : Pt} (h : PatIs w g s p) (hb : Below w.heap.size w w') : PatIs w' g s p := by
  obtain ⟨v, h1, h2, h3⟩ := h
  exact ⟨v, h1.stays hb, h2.stays hb, h3⟩
theorem PatIs.inside {w : World} {g : Nat} {s : By} {p : Pt} (h : PatIs w g s p) : g < w.heap.size := by
  obtain ⟨v, h1, _⟩ := h; exact h1.inside
/-- What Parse answers of a text. -/
def ParseIs (s : By) (e : Ending) (w' : World) : Prop :=
  if 128 < s.length then e = .returned (.tuple #[.pointer none, .int .i64 3])
  else match parseL s with
  | none => e = .returned (.tuple #[.pointer none, .int .i64 4])
  | some p => ∃ g, e = .returned (.tuple #[.pointer (some ⟨g, 0, none⟩), .int .i64 0]) ∧ PatIs w' g s p
theorem parse_marks {s : By} (h : marks 0 s = none) : parseL s = none := by unfold parseL; rw [h]
theorem parse_form {s t : By} {m : Nat} (h : marks 0 s = some (m, t)) : parseL s = match elems (cutP [47] t) [] with | none => none | some l => some ⟨m, pre [47] t, l⟩ := by unfold parseL; rw [h]; rfl
theorem marksF_lt (n : Nat) : ∀ m s k t, m < 8 → marksF n m s = some (k, t) → k < 8 := by
  induction n with
  | zero => intro m s k t hm h; simp only [marksF, Option.some.injEq, Prod.mk.injEq] at h; omega
  | succ n ih =>
    intro m s k t hm h
    unfold marksF at h
    split at h
    · simp only [Option.some.injEq, Prod.mk.injEq] at h; omega
    · split at h
      · cases h
      · exact ih _ _ _ _ (or8 m _ hm (cutM_le s)).2 h
theorem int_ne0 (a : Nat) : ((a : Int) != 0) = (a != 0) := by
  rw [Bool.eq_iff_iff]; simp
set_option maxRecDepth 100000 in
set_option maxHeartbeats 1000000 in
theorem parse_any (s : By) (w : World) : Calls Tryz.prog 34 #[.string (ba s)] w fun e w' => ParseIs s e w' ∧ Below w.heap.size w w' := by
  have z := ba_size s
  by_cases hl : 128 < s.length
  · have HP : Hid (∀ e w', e = Ending.returned (.tuple #[.pointer none, .int .i64 3]) → ParseIs s e w') := fun e w' h => by unfold ParseIs; rw [if_pos hl]; exact h
    have hi : (128 : Int) < (s.length : Int) := by omega
    clear hl
    go_enter Tryz.func34, Tryz.ntmps34
    go_wp2
    go_ret2
    exact ⟨HP.out _ _ rfl, Below.refl _ _⟩
  · have hi : ¬ ((128 : Int) < (s.length : Int)) := by omega
    have HL := hid hl
    have hm := cutMarks_any s
    cases hx : marks 0 s with
    | none =>
      have HP : Hid (∀ e w', e = Ending.returned (.tuple #[.pointer none, .int .i64 4]) → ParseIs s e w') := fun e w' h => by unfold ParseIs; rw [if_neg hl, parse_marks hx]; exact h
      rw [hx] at hm
      simp only [msV] at hm
      have hcp : ∀ W, Calls Tryz.prog 16 #[.string ⟨#[]⟩, .string ⟨#[47]⟩] W fun e w' => e = .returned (.tuple #[.string ⟨#[]⟩, .bool false]) ∧ W = w' := fun W => cut_any [] [47] W
      have hce : ∀ W, Calls Tryz.prog 60 #[.string ⟨#[]⟩, .bool false] W fun e w' => (∃ v, e = .returned (.tuple #[v, .bool false])) ∧ Below W.heap.size W w' := fun W => elems_any [] false W (by simp)
      have hb2 : Go.bits .and .i64 0 2 = 0 := by decide
      clear hl hx
      go_enter Tryz.func34, Tryz.ntmps34
      go_wp2_with (first
        | (go_at_call 59; refine (hm _).mono ?_; rintro e1 w1 ⟨⟨rfl, _⟩, n1, rfl⟩)
        | (go_at_call 16; refine (hcp _).mono ?_; rintro e2 w2 ⟨rfl, rfl⟩)
        | (go_at_call 60; refine (hce _).mono ?_; rintro e3 w3 ⟨⟨v, rfl⟩, hb3⟩))
      go_ret2
      exact ⟨HP.out _ _ rfl, ((Below.refl _ _).drewG n1).thenG hb3⟩
    | some y =>
      obtain ⟨m, t⟩ := y
      have hlt : t.length ≤ s.length := marksF_len _ _ _ _ _ hx
      have hpf := parse_form hx
      rw [hx] at hm
      simp only [msV] at hm
      have hcp : ∀ W, Calls Tryz.prog 16 #[.string (ba t), .string ⟨#[47]⟩] W fun e w' => e = .returned (.tuple #[.string (ba (cutP [47] t)), .bool (pre [47] t)]) ∧ W = w' := fun W => cut_any t [47] W
      have hul : (cutP [47] t).length ≤ 128 := by have := cutP_len [47] t; omega
      generalize cutP [47] t = u at hcp hul hpf
      generalize pre [47] t = b at hcp hpf
      have hm8 : m < 8 := marksF_lt _ _ _ _ _ (by omega) hx
      have hb2 : Go.bits .and .i64 (m : Int) 2 = ((m &&& 2 : Nat) : Int) := and8 m 2 hm8 (by omega)
      obtain ⟨fo, hfo⟩ : ∃ fo : Bool, (m &&& 2 != 0) = fo := ⟨_, rfl⟩
      have hne := int_ne0 (m &&& 2)
      rw [hfo] at hne
      have hce := elems_any u fo
      cases hy : elems u [] with
      | none =>
        have HP : Hid (∀ e w', e = Ending.returned (.tuple #[.pointer none, .int .i64 4]) → ParseIs s e w') := fun e w' h => by unfold ParseIs; rw [if_neg hl, hpf, hy]; exact h
        rw [hy] at hce
        simp only at hce
        generalize m &&& 2 = a at hb2 hne
        clear hl hx hpf hfo hy HL hlt hm8
        go_enter Tryz.func34, Tryz.ntmps34
        go_wp2_with (first
          | (go_at_call 59; refine (hm _).mono ?_; rintro e1 w1 ⟨⟨rfl, _⟩, n1, rfl⟩)
          | (go_at_call 16; refine (hcp _).mono ?_; rintro e2 w2 ⟨rfl, rfl⟩)
          | (go_at_call 60; refine (hce _ hul).mono ?_; rintro e3 w3 ⟨⟨v, rfl⟩, hb3⟩))
        go_ret2
        exact ⟨HP.out _ _ rfl, ((Below.refl _ _).drewG n1).thenG hb3⟩
      | some l =>
        have HP : Hid (∀ e w', (∃ g, e = Ending.returned (.tuple #[.pointer (some ⟨g, 0, none⟩), .int .i64 0]) ∧ PatIs w' g s ⟨m, b, l⟩) → ParseIs s e w') := fun e w' h => by unfold ParseIs; rw [if_neg hl, hpf, hy]; exact h
        have HFO : Hid ((⟨m, b, l⟩ : Pt).hs = hsOf fo l) := by show _ = _; unfold Pt.hs Pt.folded; rw [hfo]
        have HLL : Hid (0 < l.length ∧ l.length ≤ 128) := by
          have := elemsF_len _ _ _ _ hy
          simp at this
          exact ⟨this.2, by omega⟩
        have HM := hid hm8
        rw [hy] at hce
        simp only at hce
        generalize m &&& 2 = a at hb2 hne
        clear hl hx hpf hfo hy HL hlt hm8
        go_enter Tryz.func34, Tryz.ntmps34
        go_wp2_with (first
          | (go_at_call 59; refine (hm _).mono ?_; rintro e1 w1 ⟨⟨rfl, _⟩, n1, rfl⟩)
          | (go_at_call 16; refine (hcp _).mono ?_; rintro e2 w2 ⟨rfl, rfl⟩)
          | (go_at_call 60; refine (hce _ hul).mono ?_; rintro e3 w3 ⟨⟨v, rfl, he⟩, hb3⟩
             have HEL := hid he
             have HB3 : Hid (Below w.heap.size w w3) := ((Below.refl _ _).drewG n1).thenG hb3
             obtain ⟨A, c, rfl⟩ := he.form
             clear he hb3))
        go_ret2
        have B4 : Below w3.heap.size w3 (w3.alloc (.cells #[.string (ba s), .int .i64 (m : Int), .bool b, .slice A (hsOf fo l).length c] 84)) := (Below.refl _ _).alloc (Nat.le_refl _) _
        refine ⟨HP.out _ _ ⟨_, rfl, _, Has.fresh w3 84 _, ?_⟩, HB3.out.thenG B4⟩
        rw [HFO.out]
        refine ⟨(HEL.out.mono (Nat.zero_le _)).stays B4, ?_⟩
        rw [hsOf_len]
        exact ⟨HLL.out.1, HLL.out.2, HM.out⟩
end Go.Proofs.YtpipkgkfhbagmaaGreatDoor.Glob
