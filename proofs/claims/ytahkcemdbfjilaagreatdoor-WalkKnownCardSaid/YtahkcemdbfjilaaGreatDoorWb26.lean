/- Several texts in one. Conditions: those said at each. -/
import Derived.Test.YtahkcemdbfjilaaGreatDoorWb25
set_option linter.unusedSimpArgs false
set_option linter.unusedVariables false
set_option maxRecDepth 100000
namespace Go.Proofs.YtahkcemdbfjilaaGreatDoor.Glob
open Go.RowKit
def cmV (x : Nat × By) : Value := .tuple #[.int .i64 (x.1 : Int), .string (ba x.2)]
theorem cutMark_any (s : By) (w : World) : Calls Tryz.prog 183 #[.string (ba s)] w fun e w' => e = .returned (cmV (cutM s)) ∧ ∃ n, w' = w.drewN n := by
 have c1 : ∀ W, Calls Tryz.prog 75 #[.string (ba s), .string ⟨#[33]⟩] W fun e w' => e = .returned (.bool (pre [33] s)) ∧ W = w' := fun W => pre_any s [33] W
 have c2 : ∀ W, Calls Tryz.prog 75 #[.string (ba s), .string ⟨#[40, 63, 105, 41]⟩] W fun e w' => e = .returned (.bool (pre [40, 63, 105, 41] s)) ∧ W = w' := fun W => pre_any s [40, 63, 105, 41] W
 have c3 : ∀ W, Calls Tryz.prog 75 #[.string (ba s), .string ⟨#[40, 63, 100, 41]⟩] W fun e w' => e = .returned (.bool (pre [40, 63, 100, 41] s)) ∧ W = w' := fun W => pre_any s [40, 63, 100, 41] W
 have z := ba_size s
 have zd := ba_drop s 1
 have zd4 := ba_drop s 4
 have HC : Hid (cutM s = if pre [33] s then (1, s.drop 1) else if pre [40, 63, 105, 41] s then (2, s.drop 4) else if pre [40, 63, 100, 41] s then (4, s.drop 4) else (0, s)) := rfl
 have l1 := pre_len (p := [33]) (s := s)
 have l2 := pre_len (p := [40, 63, 105, 41]) (s := s)
 have l3 := pre_len (p := [40, 63, 100, 41]) (s := s)
 generalize s.drop 1 = u at zd HC
 generalize s.drop 4 = u4 at zd4 HC
 generalize cutM s = goal at HC
 generalize pre [33] s = b1 at c1 HC l1
 generalize pre [40, 63, 105, 41] s = b2 at c2 HC l2
 generalize pre [40, 63, 100, 41] s = b3 at c3 HC l3
 cases b1 with
 | true =>
  have hl : (1 : Int) ≤ (s.length : Int) := by have := l1 rfl; simp at this; omega
  clear l1 l2 l3
  go_enter Tryz.func183, Tryz.ntmps183
  go_wp2_with (fail)
  refine (c1 _).mono ?_
  rintro e1 w1 ⟨rfl, rfl⟩
  go_wp2
  go_quiet (fail)
  go_wp2
  go_ret2
  exact ⟨by rw [HC.out]; rfl, _, rfl⟩
 | false =>
  cases b2 with
  | true =>
   have hl : (4 : Int) ≤ (s.length : Int) := by have := l2 rfl; simp at this; omega
   clear l1 l2 l3
   go_enter Tryz.func183, Tryz.ntmps183
   go_wp2_with (fail)
   refine (c1 _).mono ?_
   rintro e1 w1 ⟨rfl, rfl⟩
   go_wp2_with (fail)
   refine (c2 _).mono ?_
   rintro e1 w1 ⟨rfl, rfl⟩
   go_wp2
   go_quiet (fail)
   go_wp2
   go_ret2
   exact ⟨by rw [HC.out]; rfl, _, rfl⟩
  | false =>
   cases b3 with
   | true =>
    have hl : (4 : Int) ≤ (s.length : Int) := by have := l3 rfl; simp at this; omega
    clear l1 l2 l3
    go_enter Tryz.func183, Tryz.ntmps183
    go_wp2_with (fail)
    refine (c1 _).mono ?_
    rintro e1 w1 ⟨rfl, rfl⟩
    go_wp2_with (fail)
    refine (c2 _).mono ?_
    rintro e1 w1 ⟨rfl, rfl⟩
    go_wp2_with (fail)
    refine (c3 _).mono ?_
    rintro e1 w1 ⟨rfl, rfl⟩
    go_wp2
    go_quiet (fail)
    go_wp2
    go_ret2
    exact ⟨by rw [HC.out]; rfl, _, rfl⟩
   | false =>
    clear l1 l2 l3
    go_enter Tryz.func183, Tryz.ntmps183
    go_wp2_with (fail)
    refine (c1 _).mono ?_
    rintro e1 w1 ⟨rfl, rfl⟩
    go_wp2_with (fail)
    refine (c2 _).mono ?_
    rintro e1 w1 ⟨rfl, rfl⟩
    go_wp2_with (fail)
    refine (c3 _).mono ?_
    rintro e1 w1 ⟨rfl, rfl⟩
    go_wp2
    go_ret2
    exact ⟨by rw [HC.out]; rfl, 0, rfl⟩
theorem cutM_le (s : By) : (cutM s).1 < 8 := by
 unfold cutM
 repeat' split
 all_goals simp
theorem and8 (m k : Nat) (hm : m < 8) (hk : k < 8) : Go.bits .and .i64 (m : Int) (k : Int) = ((m &&& k : Nat) : Int) := by
 have h : ∀ m k : Fin 8, Go.bits .and .i64 ((m.val : Nat) : Int) ((k.val : Nat) : Int) = ((m.val &&& k.val : Nat) : Int) := by decide +kernel
 exact h ⟨m, hm⟩ ⟨k, hk⟩
theorem or8 (m k : Nat) (hm : m < 8) (hk : k < 8) : Go.bits .or .i64 (m : Int) (k : Int) = ((m ||| k : Nat) : Int) ∧ m ||| k < 8 := by
 have h : ∀ m k : Fin 8, Go.bits .or .i64 ((m.val : Nat) : Int) ((k.val : Nat) : Int) = ((m.val ||| k.val : Nat) : Int) ∧ m.val ||| k.val < 8 := by decide +kernel
 exact h ⟨m, hm⟩ ⟨k, hk⟩
def msV (x : Option (Nat × By)) : Value := match x with
 | none => .tuple #[.int .i64 0, .string ⟨#[]⟩, .bool false]
 | some (m, r) => .tuple #[.int .i64 (m : Int), .string (ba r), .bool true]
set_option maxHeartbeats 1000000 in
theorem cutMarks_any (s : By) (w : World) : Calls Tryz.prog 146 #[.string (ba s)] w fun e w' => (e = .returned (msV (marks 0 s)) ∧ ∀ m r, marks 0 s = some (m, r) → m < 8) ∧ ∃ n, w' = w.drewN n := by
 obtain ⟨goal, HC⟩ : ∃ g, Hid (marks 0 s = g) := ⟨_, rfl⟩
 rw [HC.out]
 go_enter Tryz.func146, Tryz.ntmps146
 go_wp2
 go_loopw [0, 2] (fun s0 s2 wr => ∃ (t : By) (m : Nat) (n : Nat), s0 = .string (ba t) ∧ s2 = .int .i64 (m : Int) ∧ m < 8 ∧ Hid (marks 0 s = marks m t) ∧ wr = w.drewN n)
  (fun s0 _ _ => match s0 with | .string x => x.size | _ => 0)
 case atStart => exact ⟨s, 0, 0, rfl, rfl, by omega, rfl, rfl⟩
 case round =>
  obtain ⟨t, m, n, rfl, rfl, hm, HT, rfl⟩ := hrel
  have hk := cutM_le t
  have hc := cutMark_any t
  have HL := hid (cutM_len (s := t))
  have HE : Hid (goal = if (cutM t).1 = 0 then some (m, t) else if m &&& (cutM t).1 ≠ 0 then none else marks (m ||| (cutM t).1) (cutM t).2) := by
   show _ = _; rw [← HC.out, HT.out, marks_eq]
  obtain ⟨k, u, hku⟩ : ∃ k u, cutM t = (k, u) := ⟨_, _, rfl⟩
  rw [hku] at hk hc HL HE
  simp only [cmV] at hc
  simp only at hk HL HE
  have ha := and8 m k hm hk
  have ho := (or8 m k hm hk).1
  have ho2 := (or8 m k hm hk).2
  generalize m &&& k = a at ha HE
  have HE2 := HE
  clear hku HT HE
  by_cases h0 : k = 0
  · subst h0
    have HE3 : goal = some (m, t) := HE2.out
    clear ha ho HE2
    subst HE3
    go_wp2_with (go_at_call 183; refine (hc _).mono ?_; rintro e1 w1 ⟨rfl, n1, rfl⟩)
    refine bodyPost_ret (results_tmp3 rfl _ _ _) rfl ⟨⟨rfl, ?_⟩, _, rfl⟩
    intro m' r' h; cases h; exact hm
  · have hk0 : ((k : Int) == 0) = false := by simp; omega
    have hku : (cutM t).2.length < t.length ∨ True := .inr trivial
    by_cases hz : a = 0
    · subst hz
      have HE3 : Hid (goal = marks (m ||| k) u) := HE2.out.trans ((if_neg h0).trans (if_neg (by simp)))
      have hl := HL.out h0
      generalize m ||| k = mk at ho ho2 HE3
      clear h0 HE2
      go_wp2_with (go_at_call 183; refine (hc _).mono ?_; rintro e1 w1 ⟨rfl, n1, rfl⟩)
      refine ⟨⟨u, mk, _, rfl, rfl, ho2, HC.out.trans HE3.out, rfl⟩, ?_⟩
      simp [ba_size]; exact hl
    · have HE3 : goal = none := HE2.out.trans ((if_neg h0).trans (if_pos hz))
      have ha0 : ((a : Int) == 0) = false := by simp; omega
      have ha1 : ((a : Int) != 0) = true := by simp; omega
      clear h0 HE2 hz
      subst HE3
      go_wp2_with (go_at_call 183; refine (hc _).mono ?_; rintro e1 w1 ⟨rfl, n1, rfl⟩)
      refine bodyPost_ret (results_tmp3 rfl _ _ _) rfl ⟨⟨rfl, ?_⟩, _, rfl⟩
      intro m' r' h; cases h
end Go.Proofs.YtahkcemdbfjilaaGreatDoor.Glob
namespace Go.Proofs.YtahkcemdbfjilaaGreatDoor.Glob
open Go.RowKit
def PatIs (w : World) (g : Nat) (s : By) (p : Pt) : Prop :=
 ∃ v, Has w g 215 #[.string (ba s), .int .i64 (p.m : Int), .bool p.rooted, v] ∧ Els 0 w v p.hs ∧ 0 < p.hs.length ∧ p.hs.length ≤ 128 ∧ p.m < 8
theorem PatIs.stays {w w' : World} {g : Nat} {s : By} {p : Pt} (h : PatIs w g s p) (hb : Below w.heap.size w w') : PatIs w' g s p := by
 obtain ⟨v, h1, h2, h3⟩ := h
 exact ⟨v, h1.stays hb, h2.stays hb, h3⟩
def ParseIs (s : By) (e : Ending) (w' : World) : Prop :=
 if 128 < s.length then e = .returned (.tuple #[.pointer none, .int .i64 3])
 else match parseL s with
 | none => e = .returned (.tuple #[.pointer none, .int .i64 4])
 | some p => ∃ g, e = .returned (.tuple #[.pointer (some ⟨g, 0, none⟩), .int .i64 0]) ∧ PatIs w' g s p
theorem parse_marks {s : By} (h : marks 0 s = none) : parseL s = none := by unfold parseL; rw [h]
theorem parse_form {s t : By} {m : Nat} (h : marks 0 s = some (m, t)) : parseL s = match elems (cutP [47] t) [] with | none => none | some l => some ⟨m, pre [47] t, l⟩ := by unfold parseL; rw [h]; rfl
theorem marksF_lt (n : Nat) : ∀ m s k t, m < 8 → marksF n m s = some (k, t) → k < 8 := by
 induction n with
 | zero => intro m s k t hm h; simp only [marksF, Option.some.injEq, Prod.mk.injEq] at h; omega
 | succ n ih =>
  intro m s k t hm h
  unfold marksF at h
  split at h
  · simp only [Option.some.injEq, Prod.mk.injEq] at h; omega
  · split at h
    · cases h
    · exact ih _ _ _ _ (or8 m _ hm (cutM_le s)).2 h
theorem int_ne0 (a : Nat) : ((a : Int) != 0) = (a != 0) := by
 rw [Bool.eq_iff_iff]; simp
set_option maxHeartbeats 1000000 in
theorem parse_any (s : By) (w : World) : Calls Tryz.prog 93 #[.string (ba s)] w fun e w' => ParseIs s e w' ∧ Below w.heap.size w w' := by
 have z := ba_size s
 by_cases hl : 128 < s.length
 · have HP : Hid (∀ e w', e = Ending.returned (.tuple #[.pointer none, .int .i64 3]) → ParseIs s e w') := fun e w' h => by unfold ParseIs; rw [if_pos hl]; exact h
   have hi : (128 : Int) < (s.length : Int) := by omega
   clear hl
   go_enter Tryz.func93, Tryz.ntmps93
   go_wp2
   go_ret2
   exact ⟨HP.out _ _ rfl, Below.refl _ _⟩
 · have hi : ¬ ((128 : Int) < (s.length : Int)) := by omega
   have HL := hid hl
   have hm := cutMarks_any s
   cases hx : marks 0 s with
   | none =>
    have HP : Hid (∀ e w', e = Ending.returned (.tuple #[.pointer none, .int .i64 4]) → ParseIs s e w') := fun e w' h => by unfold ParseIs; rw [if_neg hl, parse_marks hx]; exact h
    rw [hx] at hm
    simp only [msV] at hm
    have hcp : ∀ W, Calls Tryz.prog 47 #[.string ⟨#[]⟩, .string ⟨#[47]⟩] W fun e w' => e = .returned (.tuple #[.string ⟨#[]⟩, .bool false]) ∧ W = w' := fun W => cut_any [] [47] W
    have hce : ∀ W, Calls Tryz.prog 147 #[.string ⟨#[]⟩, .bool false] W fun e w' => (∃ v, e = .returned (.tuple #[v, .bool false])) ∧ Below W.heap.size W w' := fun W => elems_any [] false W (by simp)
    have hb2 : Go.bits .and .i64 0 2 = 0 := by decide
    clear hl hx
    go_enter Tryz.func93, Tryz.ntmps93
    go_wp2_with (first
     | (go_at_call 146; refine (hm _).mono ?_; rintro e1 w1 ⟨⟨rfl, _⟩, n1, rfl⟩)
     | (go_at_call 47; refine (hcp _).mono ?_; rintro e2 w2 ⟨rfl, rfl⟩)
     | (go_at_call 147; refine (hce _).mono ?_; rintro e3 w3 ⟨⟨v, rfl⟩, hb3⟩))
    go_ret2
    exact ⟨HP.out _ _ rfl, ((Below.refl _ _).drewG n1).thenG hb3⟩
   | some y =>
    obtain ⟨m, t⟩ := y
    have hlt : t.length ≤ s.length := marksF_len _ _ _ _ _ hx
    have hpf := parse_form hx
    rw [hx] at hm
    simp only [msV] at hm
    have hcp : ∀ W, Calls Tryz.prog 47 #[.string (ba t), .string ⟨#[47]⟩] W fun e w' => e = .returned (.tuple #[.string (ba (cutP [47] t)), .bool (pre [47] t)]) ∧ W = w' := fun W => cut_any t [47] W
    have hul : (cutP [47] t).length ≤ 128 := by have := cutP_len [47] t; omega
    generalize cutP [47] t = u at hcp hul hpf
    generalize pre [47] t = b at hcp hpf
    have hm8 : m < 8 := marksF_lt _ _ _ _ _ (by omega) hx
    have hb2 : Go.bits .and .i64 (m : Int) 2 = ((m &&& 2 : Nat) : Int) := and8 m 2 hm8 (by omega)
    obtain ⟨fo, hfo⟩ : ∃ fo : Bool, (m &&& 2 != 0) = fo := ⟨_, rfl⟩
    have hne := int_ne0 (m &&& 2)
    rw [hfo] at hne
    have hce := elems_any u fo
    cases hy : elems u [] with
    | none =>
     have HP : Hid (∀ e w', e = Ending.returned (.tuple #[.pointer none, .int .i64 4]) → ParseIs s e w') := fun e w' h => by unfold ParseIs; rw [if_neg hl, hpf, hy]; exact h
     rw [hy] at hce
     simp only at hce
     generalize m &&& 2 = a at hb2 hne
     clear hl hx hpf hfo hy HL hlt hm8
     go_enter Tryz.func93, Tryz.ntmps93
     go_wp2_with (first
      | (go_at_call 146; refine (hm _).mono ?_; rintro e1 w1 ⟨⟨rfl, _⟩, n1, rfl⟩)
      | (go_at_call 47; refine (hcp _).mono ?_; rintro e2 w2 ⟨rfl, rfl⟩)
      | (go_at_call 147; refine (hce _ hul).mono ?_; rintro e3 w3 ⟨⟨v, rfl⟩, hb3⟩))
     go_ret2
     exact ⟨HP.out _ _ rfl, ((Below.refl _ _).drewG n1).thenG hb3⟩
    | some l =>
     have HP : Hid (∀ e w', (∃ g, e = Ending.returned (.tuple #[.pointer (some ⟨g, 0, none⟩), .int .i64 0]) ∧ PatIs w' g s ⟨m, b, l⟩) → ParseIs s e w') := fun e w' h => by unfold ParseIs; rw [if_neg hl, hpf, hy]; exact h
     have HFO : Hid ((⟨m, b, l⟩ : Pt).hs = hsOf fo l) := by show _ = _; unfold Pt.hs Pt.folded; rw [hfo]
     have HLL : Hid (0 < l.length ∧ l.length ≤ 128) := by
      have := elemsF_len _ _ _ _ hy
      simp at this
      exact ⟨this.2, by omega⟩
     have HM := hid hm8
     rw [hy] at hce
     simp only at hce
     generalize m &&& 2 = a at hb2 hne
     clear hl hx hpf hfo hy HL hlt hm8
     go_enter Tryz.func93, Tryz.ntmps93
     go_wp2_with (first
      | (go_at_call 146; refine (hm _).mono ?_; rintro e1 w1 ⟨⟨rfl, _⟩, n1, rfl⟩)
      | (go_at_call 47; refine (hcp _).mono ?_; rintro e2 w2 ⟨rfl, rfl⟩)
      | (go_at_call 147; refine (hce _ hul).mono ?_; rintro e3 w3 ⟨⟨v, rfl, he⟩, hb3⟩
         have HEL := hid he
         have HB3 : Hid (Below w.heap.size w w3) := ((Below.refl _ _).drewG n1).thenG hb3
         obtain ⟨A, c, rfl⟩ := he.form
         clear he hb3))
     go_ret2
     have B4 : Below w3.heap.size w3 (w3.alloc (.cells #[.string (ba s), .int .i64 (m : Int), .bool b, .slice A (hsOf fo l).length c] 215)) := (Below.refl _ _).alloc (Nat.le_refl _) _
     refine ⟨HP.out _ _ ⟨_, rfl, _, Has.fresh w3 215 _, ?_⟩, HB3.out.thenG B4⟩
     rw [HFO.out]
     refine ⟨(HEL.out.mono (Nat.zero_le _)).stays B4, ?_⟩
     rw [hsOf_len]
     exact ⟨HLL.out.1, HLL.out.2, HM.out⟩
end Go.Proofs.YtahkcemdbfjilaaGreatDoor.Glob
namespace Go.Proofs.YtahkcemdbfjilaaGreatDoor.Glob
open Go.RowKit
theorem PatIs.cells {w : World} {g : Nat} {s : By} {p : Pt} (h : PatIs w g s p) : ∃ A c n, 0 < n ∧ w.cell? ⟨g, 0, none⟩ = some (.string (ba s)) ∧ w.cell? ⟨g, 1, none⟩ = some (.int .i64 (p.m : Int)) ∧ w.cell? ⟨g, 2, none⟩ = some (.bool p.rooted) ∧ w.cell? ⟨g, 3, none⟩ = some (.slice A n c) ∧ n = p.hs.length ∧ p.m < 8 := by
 obtain ⟨v, h1, h2, h3, h4, h5⟩ := h
 obtain ⟨A, c, rfl⟩ := h2.form
 exact ⟨A, c, p.hs.length, h3, h1.at_ 0, h1.at_ 1, h1.at_ 2, h1.at_ 3, rfl, h5⟩
theorem made_yes {g : Nat} {s : By} {p : Pt} {w : World} (h : PatIs w g s p) : Calls Tryz.prog 192 #[.pointer (some ⟨g, 0, none⟩)] w fun e w' => e = .returned (.bool true) ∧ w = w' := by
 obtain ⟨A, c, n, hn, k0, k1, k2, k3, hn2, _⟩ := h.cells
 clear hn2
 clear h
 go_enter Tryz.func192, Tryz.ntmps192
 go_wp2
 go_ret
 exact ⟨rfl, rfl⟩
theorem has_yes {g : Nat} {s : By} {p : Pt} {w : World} (h : PatIs w g s p) (k : Nat) (hk : k < 8) : Calls Tryz.prog 195 #[.pointer (some ⟨g, 0, none⟩), .int .i64 (k : Int)] w fun e w' => e = .returned (.bool (p.m &&& k != 0)) ∧ w = w' := by
 have hm := made_yes h
 obtain ⟨A, c, n, hn, k0, k1, k2, k3, hn2, h8⟩ := h.cells
 clear hn2
 have hb2 := and8 p.m k h8 hk
 have hne := int_ne0 (p.m &&& k)
 generalize (p.m &&& k) = a at hb2 hne
 obtain ⟨b, hb⟩ : ∃ b, (a != 0) = b := ⟨_, rfl⟩
 rw [hb] at hne
 rw [hb]
 generalize p.m = m at k1 hb2
 clear h hb h8 k0 k2 k3
 go_enter Tryz.func195, Tryz.ntmps195
 go_wp2_with (go_at_call 192; refine hm.mono ?_; rintro e1 w1 ⟨rfl, rfl⟩)
 go_ret
 exact ⟨rfl, rfl⟩
theorem Negated_yes {g : Nat} {s : By} {p : Pt} {w : World} (h : PatIs w g s p) : Calls Tryz.prog 159 #[.pointer (some ⟨g, 0, none⟩)] w fun e w' => e = .returned (.bool (p.m &&& 1 != 0)) ∧ w = w' := by
 have hc : Calls Tryz.prog 195 #[.pointer (some ⟨g, 0, none⟩), .int .i64 1] w fun e w' => e = .returned (.bool (p.m &&& 1 != 0)) ∧ w = w' := has_yes h 1 (by omega)
 generalize (p.m &&& 1 != 0) = b at hc
 clear h
 go_enter Tryz.func159, Tryz.ntmps159
 go_wp2_with (go_at_call 195; refine hc.mono ?_; rintro e1 w1 ⟨rfl, rfl⟩)
 go_ret
 exact ⟨rfl, rfl⟩
theorem Deletable_yes {g : Nat} {s : By} {p : Pt} {w : World} (h : PatIs w g s p) : Calls Tryz.prog 160 #[.pointer (some ⟨g, 0, none⟩)] w fun e w' => e = .returned (.bool (p.m &&& 4 != 0)) ∧ w = w' := by
 have hc : Calls Tryz.prog 195 #[.pointer (some ⟨g, 0, none⟩), .int .i64 4] w fun e w' => e = .returned (.bool (p.m &&& 4 != 0)) ∧ w = w' := has_yes h 4 (by omega)
 generalize (p.m &&& 4 != 0) = b at hc
 clear h
 go_enter Tryz.func160, Tryz.ntmps160
 go_wp2_with (go_at_call 195; refine hc.mono ?_; rintro e1 w1 ⟨rfl, rfl⟩)
 go_ret
 exact ⟨rfl, rfl⟩
end Go.Proofs.YtahkcemdbfjilaaGreatDoor.Glob
namespace Go.Proofs.YtahkcemdbfjilaaGreatDoor.Glob
open Go.RowKit
theorem zcells : Tryz.zeroCells258 = plv (fun _ => false) := by kernel_rfl
theorem iPlaces (A : Pl) : (Tryz.prog.info? 258).map (·.size) = some (plv A).size := by rw [plv_size]; kernel_rfl
theorem PatIs.els {w : World} {g : Nat} {s : By} {p : Pt} (h : PatIs w g s p) : ∃ ge c, w.cell? ⟨g, 3, none⟩ = some (.slice (some ⟨ge, 0, none⟩) p.hs.length c) ∧ g < w.heap.size ∧ ge < w.heap.size ∧ p.hs.length ≤ 128 ∧ ∀ (k : Nat) x, p.hs[k]? = some x → ∃ f, w.cell? ⟨ge, k * 2, none⟩ = some f ∧ w.cell? ⟨ge, k * 2 + 1, none⟩ = some (.bool x.2) ∧ IsFn w f x.1 := by
 obtain ⟨v, h1, h2, h3, h4, h5⟩ := h
 obtain ⟨ge, c, rfl, _, hg, hk⟩ := h2.at_ h3
 exact ⟨ge, c, h1.at_ 3, h1.inside, hg, h4, hk⟩
def skB (hs : H) (A : Pl) (k : Nat) : Pl := fun j => if j ≤ k then skipA hs A j else A j
theorem skB_zero (hs : H) (A : Pl) : skB hs A 0 = A := by
 funext j; unfold skB
 split
 · rename_i h; obtain rfl := Nat.le_zero.1 h; rfl
 · rfl
theorem skB_at (hs : H) (A : Pl) (k : Nat) : skB hs A k k = skipA hs A k := by unfold skB; rw [if_pos (Nat.le_refl _)]
theorem skB_yes (hs : H) (A : Pl) (k : Nat) (h1 : skipA hs A k = true) (h2 : many hs k = true) : (fun j => skB hs A k j || j == k + 1) = skB hs A (k + 1) := by
 funext j; unfold skB
 by_cases h : j ≤ k
 · rw [if_pos h, if_pos (by omega)]
   have : (j == k + 1) = false := by simp; omega
   rw [this, Bool.or_false]
 · rw [if_neg h]
   by_cases e : j = k + 1
   · subst e; rw [if_pos (Nat.le_refl _), skipA, h1, h2]; simp
   · rw [if_neg (by omega)]; simp [e]
theorem skB_no (hs : H) (A : Pl) (k : Nat) (h : (skipA hs A k && many hs k) = false) : skB hs A k = skB hs A (k + 1) := by
 funext j; unfold skB
 by_cases h1 : j ≤ k
 · rw [if_pos h1, if_pos (by omega)]
 · rw [if_neg h1]
   by_cases e : j = k + 1
   · subst e; rw [if_pos (Nat.le_refl _), skipA, h, Bool.or_false]
   · rw [if_neg (by omega)]
theorem skip_past (hs : H) (A : Pl) (n : Nat) (hn : hs.length ≤ n) : ∀ j, n < j → skipA hs A j = A j := by
 intro j hj
 cases j with
 | zero => omega
 | succ j => rw [skipA, many_ge (by omega), Bool.and_false, Bool.or_false]
theorem skB_all (hs : H) (A : Pl) : skB hs A hs.length = skipA hs A := by
 funext j; unfold skB
 split
 · rfl
 · rw [skip_past hs A hs.length (Nat.le_refl _) j (by omega)]
theorem many_at {hs : H} {k : Nat} {x : (UInt8 → Bool) × Bool} (h : hs[k]? = some x) : many hs k = x.2 := by simp [many, List.getD, h]
theorem hold_at {hs : H} {k : Nat} {x : (UInt8 → Bool) × Bool} (h : hs[k]? = some x) (c : UInt8) : hold hs k c = x.1 c := by simp [hold, List.getD, h]
set_option maxHeartbeats 2000000 in
theorem skip_any (g : Nat) (s : By) (p : Pt) (A : Pl) (w : World) (hp : PatIs w g s p) :
 Calls Tryz.prog 193 #[.pointer (some ⟨g, 0, none⟩), .agg (plv A)] w fun e w' => e = .returned (.agg (plv (skipA p.hs A))) ∧ Below w.heap.size w w' := by
 obtain ⟨ge, c, k3, hg, hge, hn, hel⟩ := hp.els
 obtain ⟨W1, hW1⟩ : ∃ W1, w.alloc (.cells (plv A) 258) = W1 := ⟨_, rfl⟩
 obtain ⟨W2, hW2⟩ : ∃ W2, W1.alloc (.cells Tryz.zeroCells258 258) = W2 := ⟨_, rfl⟩
 have B1 : Below w.heap.size w W1 := hW1 ▸ (Below.refl _ _).alloc (Nat.le_refl _) _
 have s1 : W1.heap.size = w.heap.size + 1 := by rw [← hW1]; simp
 have B2 : Below w.heap.size w W2 := hW2 ▸ B1.alloc (by omega) _
 have H1 : Has W2 w.heap.size 258 (plv A) := hW2 ▸ (hW1 ▸ Has.fresh w 258 (plv A)).more _
 have H2 : Has W2 (w.heap.size + 1) 258 (plv (fun _ => false)) := hW2 ▸ zcells ▸ Has.fresh' W1 258 Tryz.zeroCells258 s1.symm
 have c3 : W2.cell? ⟨g, 3, none⟩ = some (.slice (some ⟨ge, 0, none⟩) p.hs.length c) := (B2.cell (p := ⟨g, 3, none⟩) hg).trans k3
 have HB2 := hid B2
 have HH1 := hid H1
 have HH2 := hid H2
 have HEL := hid hel
 generalize p.hs = hs at *
 clear hp hel H1 H2 B1 B2 k3
 go_enter Tryz.func193, Tryz.ntmps193
 go_wp2
 go_loopw [5, 6, 12] (fun _ _ i wr => ∃ k : Nat, i = .int .i64 (k : Int) ∧ k ≤ hs.length ∧ Hid (Has wr w.heap.size 258 (plv (skB hs A k))) ∧ Hid (Has wr (w.heap.size + 1) 258 (plv (fun _ => false))) ∧ Hid (Below w.heap.size w wr))
  (fun _ _ i _ => hs.length - (intOf i).toNat)
 case atStart => exact ⟨0, rfl, Nat.zero_le _, by rw [skB_zero]; exact HH1, HH2, HB2⟩
 case round =>
  obtain ⟨k, rfl, hk, J1, J2, J3⟩ := hrel
  by_cases hlt : k < hs.length
  · obtain ⟨x, hx⟩ : ∃ x, hs[k]? = some x := ⟨hs[k], List.getElem?_eq_getElem hlt⟩
    obtain ⟨f, c0, c1, hf⟩ := HEL.out k x hx
    obtain ⟨kf, lf, rfl⟩ := hf.form
    have c0' := (J3.out.cell (p := ⟨ge, k * 2, none⟩) hge).trans c0
    have c1' := (J3.out.cell (p := ⟨ge, k * 2 + 1, none⟩) hge).trans c1
    obtain ⟨Wa, hWa⟩ : ∃ Wa, wr.alloc (.cells #[.func (.func kf) #[] lf, .bool false] 249) = Wa := ⟨_, rfl⟩
    obtain ⟨W3, hW3⟩ : ∃ W3, Wa.setCell ⟨wr.heap.size, 1, none⟩ (.bool x.2) = W3 := ⟨_, rfl⟩
    have hle := J3.out.size
    have hin := J2.out.inside
    have I4a : Has Wa wr.heap.size 249 #[.func (.func kf) #[] lf, .bool false] := hWa ▸ Has.fresh _ _ _
    have I1 : Hid (Has W3 w.heap.size 258 (plv (skB hs A k))) := hW3 ▸ (hWa ▸ J1.out.more _ : Has Wa w.heap.size 258 (plv (skB hs A k))).other (by simp; omega) _
    have I2 : Hid (Has W3 (w.heap.size + 1) 258 (plv (fun _ => false))) := hW3 ▸ (hWa ▸ J2.out.more _ : Has Wa (w.heap.size + 1) 258 (plv (fun _ => false))).other (by simp; omega) _
    have I3 : Hid (Below w.heap.size w W3) := hW3 ▸ (hWa ▸ J3.out.alloc hle _ : Below w.heap.size w Wa).setCell hle _
    have I4 : Has W3 wr.heap.size 249 #[.func (.func kf) #[] lf, .bool x.2] := hW3 ▸ I4a.put 1 _
    have ka := I4a.at_ 1
    have fa := I4a.free 1
    have q1 := I4.at_ 1
    have q0 : W3.cell? ⟨w.heap.size, k, none⟩ = some (.bool (skipA hs A k)) := (I1.out.at_ k).trans ((plv_get _ k (by omega)).trans (by rw [skB_at]))
    have q2 : W3.cell? ⟨w.heap.size, k + 1, none⟩ = some (.bool (skB hs A k (k + 1))) := (I1.out.at_ (k + 1)).trans (plv_get _ (k + 1) (by omega))
    have f2 := I1.out.free (k + 1)
    have hmx := many_at hx
    obtain ⟨m, hm⟩ : ∃ m, x.2 = m := ⟨_, rfl⟩
    rw [hm] at hmx q1 hW3 c1'
    obtain ⟨b, hb⟩ : ∃ b, skipA hs A k = b := ⟨_, rfl⟩
    rw [hb] at q0
    generalize skB hs A k (k + 1) = b2 at q2
    clear c0 c1 hf I4 hm hx
    cases b with
    | false =>
     have HN : Hid (skB hs A k = skB hs A (k + 1)) := skB_no hs A k (by rw [hb]; rfl)
     clear hb hmx
     go_wp2
     exact ⟨⟨k + 1, by go_num, by omega, HN.out ▸ I1, I2, I3⟩, by simp [intOf]; omega⟩
    | true =>
     cases m with
     | false =>
      have HN : Hid (skB hs A k = skB hs A (k + 1)) := skB_no hs A k (by rw [hmx, Bool.and_false])
      clear hb hmx
      go_wp2
      exact ⟨⟨k + 1, by go_num, by omega, HN.out ▸ I1, I2, I3⟩, by simp [intOf]; omega⟩
     | true =>
      have HN : Hid ((fun j => skB hs A k j || j == k + 1) = skB hs A (k + 1)) := skB_yes hs A k hb hmx
      clear hb hmx
      go_wp2
      refine ⟨⟨k + 1, by go_num, by omega, ?_, I2.out.other (by simp) _, I3.out.setCell (Nat.le_refl _) _⟩, by simp [intOf]; omega⟩
      have := I1.out.put (k + 1) (.bool true)
      rw [plv_set, HN.out] at this
      exact this
  · have hk2 : k = hs.length := by omega
    have J4 : Hid (Has wr w.heap.size 258 (plv (skipA hs A))) := by have := J1.out; rw [hk2, skB_all] at this; exact this
    clear J1 hk2
    go_wp2_with (first
     | (refine wpList_load_row rfl 258 _ rfl w.heap.size rfl 258 _ (0, 0) _ J4.out Tryz.underlying258 rfl (iPlaces _) ?_)
     | (refine wpList_store_row rfl 258 (.tmp 4) (.tmp 28) rfl (w.heap.size + 1) (plv (skipA hs A)) rfl rfl 258 _ J2.out (iPlaces _) (by rw [plv_size, plv_size]) (plv_one _) ?_))
    refine bodyPost_ret (results_cell_row rfl _ _ (w.heap.size + 1) 258 (plv (skipA hs A)) (0, 0) _ rfl J2.out.row Tryz.underlying258 rfl (iPlaces _)) rfl ⟨rfl, J3.out.rowG (by omega) _⟩
end Go.Proofs.YtahkcemdbfjilaaGreatDoor.Glob
namespace Go.Proofs.YtahkcemdbfjilaaGreatDoor.Glob
open Go.RowKit
def nB (hs : H) (A : Pl) (c : UInt8) (i : Nat) : Pl := fun k => (decide (k < i) && many hs k && A k && hold hs k c) || (decide (0 < k ∧ k ≤ i) && !many hs (k - 1) && A (k - 1) && hold hs (k - 1) c)
theorem nB_zero (hs : H) (A : Pl) (c : UInt8) : nB hs A c 0 = fun _ => false := by
 funext k; unfold nB
 have e1 : decide (k < 0) = false := decide_eq_false (by omega)
 have e2 : decide (0 < k ∧ k ≤ 0) = false := decide_eq_false (by omega)
 rw [e1, e2]; rfl
theorem nB_all (hs : H) (A : Pl) (c : UInt8) : nB hs A c hs.length = stepA hs A c := rfl
theorem nB_other (hs : H) (A : Pl) (c : UInt8) (k j : Nat) (h1 : j ≠ k) (h2 : j ≠ k + 1) : nB hs A c (k + 1) j = nB hs A c k j := by
 unfold nB
 have e1 : decide (j < k + 1) = decide (j < k) := by rw [decide_eq_decide]; omega
 have e2 : decide (0 < j ∧ j ≤ k + 1) = decide (0 < j ∧ j ≤ k) := by rw [decide_eq_decide]; omega
 rw [e1, e2]
theorem nB_k (hs : H) (A : Pl) (c : UInt8) (k : Nat) : nB hs A c (k + 1) k = (nB hs A c k k || (many hs k && A k && hold hs k c)) := by
 unfold nB
 have e1 : decide (k < k + 1) = true := decide_eq_true (by omega)
 have e2 : decide (k < k) = false := decide_eq_false (by omega)
 have e3 : decide (0 < k ∧ k ≤ k + 1) = decide (0 < k ∧ k ≤ k) := by rw [decide_eq_decide]; omega
 rw [e1, e2, e3]
 simp only [Bool.true_and, Bool.false_and, Bool.false_or]
 rw [Bool.or_comm]
theorem nB_k1 (hs : H) (A : Pl) (c : UInt8) (k : Nat) : nB hs A c (k + 1) (k + 1) = (nB hs A c k (k + 1) || (!many hs k && A k && hold hs k c)) := by
 unfold nB
 have e1 : decide (k + 1 < k + 1) = false := decide_eq_false (by omega)
 have e2 : decide (k + 1 < k) = false := decide_eq_false (by omega)
 have e3 : decide (0 < k + 1 ∧ k + 1 ≤ k + 1) = true := decide_eq_true (by omega)
 have e4 : decide (0 < k + 1 ∧ k + 1 ≤ k) = false := decide_eq_false (by omega)
 rw [e1, e2, e3, e4]
 simp
theorem nB_no (hs : H) (A : Pl) (c : UInt8) (k : Nat) (h : (A k && hold hs k c) = false) : nB hs A c k = nB hs A c (k + 1) := by
 funext j
 by_cases h1 : j = k
 · subst h1; rw [nB_k, Bool.and_assoc, h]; simp
 · by_cases h2 : j = k + 1
   · subst h2; rw [nB_k1, Bool.and_assoc, h]; simp
   · rw [nB_other _ _ _ _ _ h1 h2]
theorem nB_many (hs : H) (A : Pl) (c : UInt8) (k : Nat) (ha : A k = true) (hh : hold hs k c = true) (hm : many hs k = true) : (fun j => nB hs A c k j || j == k) = nB hs A c (k + 1) := by
 funext j
 by_cases h1 : j = k
 · subst h1; rw [nB_k, ha, hh, hm]; simp
 · have e : (j == k) = false := by simp [h1]
   rw [e, Bool.or_false]
   by_cases h2 : j = k + 1
   · subst h2; rw [nB_k1, hm]; simp
   · rw [nB_other _ _ _ _ _ h1 h2]
theorem nB_one (hs : H) (A : Pl) (c : UInt8) (k : Nat) (ha : A k = true) (hh : hold hs k c = true) (hm : many hs k = false) : (fun j => nB hs A c k j || j == k + 1) = nB hs A c (k + 1) := by
 funext j
 by_cases h2 : j = k + 1
 · subst h2; rw [nB_k1, ha, hh, hm]; simp
 · have e : (j == k + 1) = false := by simp [h2]
   rw [e, Bool.or_false]
   by_cases h1 : j = k
   · subst h1; rw [nB_k, hm]; simp
   · rw [nB_other _ _ _ _ _ h1 h2]
theorem iZ : Hid ((Tryz.prog.info? 258).map (·.size) = some Tryz.zeroCells258.size) := by show _ = _; kernel_rfl
theorem zOne : Hid (Tryz.zeroCells258.all (·.oneCell') = true) := by show _ = _; kernel_rfl
set_option maxHeartbeats 4000000 in
theorem step_any (g : Nat) (s : By) (p : Pt) (A : Pl) (c : UInt8) (w : World) (hp : PatIs w g s p) :
 Calls Tryz.prog 194 #[.pointer (some ⟨g, 0, none⟩), .agg (plv A), .int .u8 (b8 c)] w fun e w' => e = .returned (.agg (plv (stepA p.hs A c))) ∧ Below w.heap.size w w' := by
 obtain ⟨ge, cp, k3, hg, hge, hn, hel⟩ := hp.els
 obtain ⟨W1, hW1⟩ : ∃ W1, w.alloc (.cells (plv A) 258) = W1 := ⟨_, rfl⟩
 obtain ⟨W2, hW2⟩ : ∃ W2, W1.alloc (.cells Tryz.zeroCells258 258) = W2 := ⟨_, rfl⟩
 obtain ⟨W5, hW5⟩ : ∃ W5, W2.alloc (.cells Tryz.zeroCells258 258) = W5 := ⟨_, rfl⟩
 have B1 : Below w.heap.size w W1 := hW1 ▸ (Below.refl _ _).alloc (Nat.le_refl _) _
 have s1 : W1.heap.size = w.heap.size + 1 := by rw [← hW1]; simp
 have B2 : Below w.heap.size w W2 := hW2 ▸ B1.alloc (by omega) _
 have s2 : W2.heap.size = w.heap.size + 1 + 1 := by rw [← hW2]; simp [s1]
 have B5 : Below w.heap.size w W5 := hW5 ▸ B2.alloc (by omega) _
 have H1 : Has W5 w.heap.size 258 (plv A) := hW5 ▸ (hW2 ▸ (hW1 ▸ Has.fresh w 258 (plv A)).more _ : Has W2 w.heap.size 258 (plv A)).more _
 have H2 : Has W5 (w.heap.size + 1) 258 (plv (fun _ => false)) := hW5 ▸ (hW2 ▸ zcells ▸ Has.fresh' W1 258 Tryz.zeroCells258 s1.symm : Has W2 (w.heap.size + 1) 258 (plv (fun _ => false))).more _
 have H5 : Has W5 (w.heap.size + 1 + 1) 258 (plv (fun _ => false)) := hW5 ▸ zcells ▸ Has.fresh' W2 258 Tryz.zeroCells258 s2.symm
 have c3 : W5.cell? ⟨g, 3, none⟩ = some (.slice (some ⟨ge, 0, none⟩) p.hs.length cp) := (B5.cell (p := ⟨g, 3, none⟩) hg).trans k3
 have HZ : Hid (Has W5 (w.heap.size + 1 + 1) 258 Tryz.zeroCells258) := hW5 ▸ Has.fresh' W2 258 Tryz.zeroCells258 s2.symm
 obtain ⟨W6, hW6⟩ : ∃ W6, W5.setRow (w.heap.size + 1 + 1) Tryz.zeroCells258 = W6 := ⟨_, rfl⟩
 have HH1 : Hid (Has W6 w.heap.size 258 (plv A)) := hW6 ▸ H1.rowOther (by omega)
 have HH2 : Hid (Has W6 (w.heap.size + 1) 258 (plv (fun _ => false))) := hW6 ▸ H2.rowOther (by omega)
 have HH5 : Hid (Has W6 (w.heap.size + 1 + 1) 258 (plv (fun _ => false))) := hW6 ▸ zcells ▸ H5.row
 have HB5 : Hid (Below w.heap.size w W6) := hW6 ▸ B5.rowG (by omega) _
 have c36 : W6.cell? ⟨g, 3, none⟩ = some (.slice (some ⟨ge, 0, none⟩) p.hs.length cp) := (HB5.out.cell (p := ⟨g, 3, none⟩) hg).trans k3
 have HEL := hid hel
 generalize p.hs = hs at *
 clear hp hel H1 H2 H5 B1 B2 B5 k3 c3
 go_enter Tryz.func194, Tryz.ntmps194
 go_wp2_with (refine wpList_store_row rfl 258 (.tmp 7) (.tmp 10) rfl (w.heap.size + 1 + 1) Tryz.zeroCells258 rfl rfl 258 Tryz.zeroCells258 HZ.out iZ.out rfl zOne.out ?_)
 go_loopw [8, 9, 16] (fun _ _ i wr => ∃ k : Nat, i = .int .i64 (k : Int) ∧ k ≤ hs.length ∧ Hid (Has wr w.heap.size 258 (plv A)) ∧ Hid (Has wr (w.heap.size + 1) 258 (plv (fun _ => false))) ∧ Hid (Has wr (w.heap.size + 1 + 1) 258 (plv (nB hs A c k))) ∧ Hid (Below w.heap.size w wr))
  (fun _ _ i _ => hs.length - (intOf i).toNat)
 case atStart => exact ⟨0, rfl, Nat.zero_le _, HH1, HH2, by rw [nB_zero]; exact HH5, HB5⟩
 case round =>
  obtain ⟨k, rfl, hk, J1, J2, J5, J3⟩ := hrel
  by_cases hlt : k < hs.length
  · obtain ⟨x, hx⟩ : ∃ x, hs[k]? = some x := ⟨hs[k], List.getElem?_eq_getElem hlt⟩
    obtain ⟨f, c0, c1, hf⟩ := HEL.out k x hx
    obtain ⟨kf, lf, rfl, ek, hkc⟩ := hf
    have c0' := (J3.out.cell (p := ⟨ge, k * 2, none⟩) hge).trans c0
    have c1' := (J3.out.cell (p := ⟨ge, k * 2 + 1, none⟩) hge).trans c1
    obtain ⟨Wa, hWa⟩ : ∃ Wa, wr.alloc (.cells #[.func (.func kf) #[] lf, .bool false] 249) = Wa := ⟨_, rfl⟩
    obtain ⟨W3, hW3⟩ : ∃ W3, Wa.setCell ⟨wr.heap.size, 1, none⟩ (.bool x.2) = W3 := ⟨_, rfl⟩
    have hle := J3.out.size
    have hin := J5.out.inside
    have I4a : Has Wa wr.heap.size 249 #[.func (.func kf) #[] lf, .bool false] := hWa ▸ Has.fresh _ _ _
    have I1 : Hid (Has W3 w.heap.size 258 (plv A)) := hW3 ▸ (hWa ▸ J1.out.more _ : Has Wa w.heap.size 258 (plv A)).other (by simp; omega) _
    have I2 : Hid (Has W3 (w.heap.size + 1) 258 (plv (fun _ => false))) := hW3 ▸ (hWa ▸ J2.out.more _ : Has Wa (w.heap.size + 1) 258 (plv (fun _ => false))).other (by simp; omega) _
    have I5 : Hid (Has W3 (w.heap.size + 1 + 1) 258 (plv (nB hs A c k))) := hW3 ▸ (hWa ▸ J5.out.more _ : Has Wa (w.heap.size + 1 + 1) 258 (plv (nB hs A c k))).other (by simp; omega) _
    have I3 : Hid (Below w.heap.size w W3) := hW3 ▸ (hWa ▸ J3.out.alloc hle _ : Below w.heap.size w Wa).setCell hle _
    have I4 : Hid (Has W3 wr.heap.size 249 #[.func (.func kf) #[] lf, .bool x.2]) := hW3 ▸ I4a.put 1 _
    have ka := I4a.at_ 1
    have fa := I4a.free 1
    have q0 : W3.cell? ⟨w.heap.size, k, none⟩ = some (.bool (A k)) := (I1.out.at_ k).trans (plv_get _ k (by omega))
    have k4 := I4.out.at_ 0
    have CF := hid (hkc W3 c (Gx.of_below I3.out))
    have hmx := many_at hx
    have hhx := hold_at hx c
    obtain ⟨m, hm⟩ : ∃ m, x.2 = m := ⟨_, rfl⟩
    rw [hm] at hmx I4 hW3 c1' k4
    obtain ⟨h, hh⟩ : ∃ h, x.1 c = h := ⟨_, rfl⟩
    rw [hh] at hhx CF
    obtain ⟨b, hb⟩ : ∃ b, A k = b := ⟨_, rfl⟩
    rw [hb] at q0
    clear c0 c1 hkc I4a hm hx hh
    cases b with
    | false =>
     have HN : Hid (nB hs A c k = nB hs A c (k + 1)) := nB_no hs A c k (by rw [hb]; rfl)
     clear hb hmx hhx
     go_wp2
     exact ⟨⟨k + 1, by go_num, by omega, I1, I2, HN.out ▸ I5, I3⟩, by simp [intOf]; omega⟩
    | true =>
     cases h with
     | false =>
      have HN : Hid (nB hs A c k = nB hs A c (k + 1)) := nB_no hs A c k (by rw [hhx, Bool.and_false])
      clear hb hmx hhx
      go_wp2_with (go_at_fn kf; refine CF.out.mono ?_; rintro e1 w1 ⟨rfl, hb1⟩)
      exact ⟨⟨k + 1, by go_num, by omega, I1.out.stays hb1, I2.out.stays hb1, HN.out ▸ I5.out.stays hb1, I3.out.thenG hb1⟩, by simp [intOf]; omega⟩
     | true =>
      cases m with
      | true =>
       have HN : Hid ((fun j => nB hs A c k j || j == k) = nB hs A c (k + 1)) := nB_many hs A c k hb hhx hmx
       clear hb hmx hhx
       go_wp2_with (go_at_fn kf; refine CF.out.mono ?_; rintro e1 w1 ⟨rfl, hb1⟩
                    have K4 := (I4.out.stays hb1).at_ 1
                    have K5 := hid (I5.out.stays hb1)
                    have q5 : w1.cell? ⟨w.heap.size + 1 + 1, k, none⟩ = some (.bool (nB hs A c k k)) := (K5.out.at_ k).trans (plv_get _ k (by omega))
                    have f5 := K5.out.free k
                    generalize nB hs A c k k = bb at q5)
       refine ⟨⟨k + 1, by go_num, by omega, (I1.out.stays hb1).other (by simp; omega) _, (I2.out.stays hb1).other (by simp) _, ?_, (I3.out.thenG hb1).setCell (by simp; omega) _⟩, by simp [intOf]; omega⟩
       have := K5.out.put k (.bool true)
       rw [plv_set, HN.out] at this
       exact this
      | false =>
       have HN : Hid ((fun j => nB hs A c k j || j == k + 1) = nB hs A c (k + 1)) := nB_one hs A c k hb hhx hmx
       clear hb hmx hhx
       go_wp2_with (go_at_fn kf; refine CF.out.mono ?_; rintro e1 w1 ⟨rfl, hb1⟩
                    have K4 := (I4.out.stays hb1).at_ 1
                    have K5 := hid (I5.out.stays hb1)
                    have q5 : w1.cell? ⟨w.heap.size + 1 + 1, k + 1, none⟩ = some (.bool (nB hs A c k (k + 1))) := (K5.out.at_ (k + 1)).trans (plv_get _ (k + 1) (by omega))
                    have f5 := K5.out.free (k + 1)
                    generalize nB hs A c k (k + 1) = bb at q5)
       refine ⟨⟨k + 1, by go_num, by omega, (I1.out.stays hb1).other (by simp; omega) _, (I2.out.stays hb1).other (by simp) _, ?_, (I3.out.thenG hb1).setCell (by simp; omega) _⟩, by simp [intOf]; omega⟩
       have := K5.out.put (k + 1) (.bool true)
       rw [plv_set, HN.out] at this
       exact this
  · have hk2 : k = hs.length := by omega
    have J4 : Hid (Has wr (w.heap.size + 1 + 1) 258 (plv (stepA hs A c))) := by have := J5.out; rw [hk2, nB_all] at this; exact this
    clear J5 hk2
    go_wp2_with (first
     | (refine wpList_load_row rfl 258 _ rfl (w.heap.size + 1 + 1) rfl 258 _ (0, 0) _ J4.out Tryz.underlying258 rfl (iPlaces _) ?_)
     | (refine wpList_store_row rfl 258 (.tmp 6) (.tmp 42) rfl (w.heap.size + 1) (plv (stepA hs A c)) rfl rfl 258 _ J2.out (iPlaces _) (by rw [plv_size, plv_size]) (plv_one _) ?_))
    refine bodyPost_ret (results_cell_row rfl _ _ (w.heap.size + 1) 258 (plv (stepA hs A c)) (0, 0) _ rfl J2.out.row Tryz.underlying258 rfl (iPlaces _)) rfl ⟨rfl, J3.out.rowG (by omega) _⟩
end Go.Proofs.YtahkcemdbfjilaaGreatDoor.Glob
