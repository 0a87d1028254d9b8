/- Glob: cutMark, cutMarks, Parse: what each call does. No conditions. -/
import Derived.Test.YtpipkgkfhbagmaaGreatDoorJH
namespace Go.Proofs.YtpipkgkfhbagmaaGreatDoor.Glob
open Go.RowKit
def cmV (x : Nat × By) : Value := .tuple #[.int .i64 (x.1 : Int), .string (ba x.2)]
set_option maxRecDepth 100000 in
theorem cutMark_any (s : By) (w : World) : Calls Tryz.prog 74 #[.string (ba s)] w fun e w' => e = .returned (cmV (cutM s)) ∧ ∃ n, w' = w.drewN n := by
  have c1 : ∀ W, Calls Tryz.prog 32 #[.string (ba s), .string ⟨#[33]⟩] W fun e w' => e = .returned (.bool (pre [33] s)) ∧ W = w' := fun W => pre_any s [33] W
  have c2 : ∀ W, Calls Tryz.prog 32 #[.string (ba s), .string ⟨#[40, 63, 105, 41]⟩] W fun e w' => e = .returned (.bool (pre [40, 63, 105, 41] s)) ∧ W = w' := fun W => pre_any s [40, 63, 105, 41] W
  have c3 : ∀ W, Calls Tryz.prog 32 #[.string (ba s), .string ⟨#[40, 63, 100, 41]⟩] W fun e w' => e = .returned (.bool (pre [40, 63, 100, 41] s)) ∧ W = w' := fun W => pre_any s [40, 63, 100, 41] W
  have z := ba_size s
  have zd := ba_drop s 1
  have zd4 := ba_drop s 4
  have HC : Hid (cutM s = if pre [33] s then (1, s.drop 1) else if pre [40, 63, 105, 41] s then (2, s.drop 4) else if pre [40, 63, 100, 41] s then (4, s.drop 4) else (0, s)) := rfl
  have l1 := pre_len (p := [33]) (s := s)
  have l2 := pre_len (p := [40, 63, 105, 41]) (s := s)
  have l3 := pre_len (p := [40, 63, 100, 41]) (s := s)
  generalize s.drop 1 = u at zd HC
  generalize s.drop 4 = u4 at zd4 HC
  generalize cutM s = goal at HC
  generalize pre [33] s = b1 at c1 HC l1
  generalize pre [40, 63, 105, 41] s = b2 at c2 HC l2
  generalize pre [40, 63, 100, 41] s = b3 at c3 HC l3
  cases b1 with
  | true =>
    have hl : (1 : Int) ≤ (s.length : Int) := by have := l1 rfl; simp at this; omega
    clear l1 l2 l3
    go_enter Tryz.func74, Tryz.ntmps74
    go_wp2_with (fail)
    refine (c1 _).mono ?_
    rintro e1 w1 ⟨rfl, rfl⟩
    go_wp2
    go_quiet (fail)
    go_wp2
    go_ret2
    exact ⟨by rw [HC.out]; rfl, _, rfl⟩
  | false =>
    cases b2 with
    | true =>
      have hl : (4 : Int) ≤ (s.length : Int) := by have := l2 rfl; simp at this; omega
      clear l1 l2 l3
      go_enter Tryz.func74, Tryz.ntmps74
      go_wp2_with (fail)
      refine (c1 _).mono ?_
      rintro e1 w1 ⟨rfl, rfl⟩
      go_wp2_with (fail)
      refine (c2 _).mono ?_
      rintro e1 w1 ⟨rfl, rfl⟩
      go_wp2
      go_quiet (fail)
      go_wp2
      go_ret2
      exact ⟨by rw [HC.out]; rfl, _, rfl⟩
    | false =>
      cases b3 with
      | true =>
        have hl : (4 : Int) ≤ (s.length : Int) := by have := l3 rfl; simp at this; omega
        clear l1 l2 l3
        go_enter Tryz.func74, Tryz.ntmps74
        go_wp2_with (fail)
        refine (c1 _).mono ?_
        rintro e1 w1 ⟨rfl, rfl⟩
        go_wp2_with (fail)
        refine (c2 _).mono ?_
        rintro e1 w1 ⟨rfl, rfl⟩
        go_wp2_with (fail)
        refine (c3 _).mono ?_
        rintro e1 w1 ⟨rfl, rfl⟩
        go_wp2
        go_quiet (fail)
        go_wp2
        go_ret2
        exact ⟨by rw [HC.out]; rfl, _, rfl⟩
      | false =>
        clear l1 l2 l3
        go_enter Tryz.func74, Tryz.ntmps74
        go_wp2_with (fail)
        refine (c1 _).mono ?_
        rintro e1 w1 ⟨rfl, rfl⟩
        go_wp2_with (fail)
        refine (c2 _).mono ?_
        rintro e1 w1 ⟨rfl, rfl⟩
        go_wp2_with (fail)
        refine (c3 _).mono ?_
        rintro e1 w1 ⟨rfl, rfl⟩
        go_wp2
        go_ret2
        exact ⟨by rw [HC.out]; rfl, 0, rfl⟩
theorem cutM_le (s : By) : (cutM s).1 < 8 := by
  unfold cutM
  repeat' split
  all_goals simp
theorem and8 (m k : Nat) (hm : m < 8) (hk : k < 8) : Go.bits .and .i64 (m : Int) (k : Int) = ((m &&& k : Nat) : Int) := by
  have h : ∀ m k : Fin 8, Go.bits .and .i64 ((m.val : Nat) : Int) ((k.val : Nat) : Int) = ((m.val &&& k.val : Nat) : Int) := by decide +kernel
  exact h ⟨m, hm⟩ ⟨k, hk⟩
theorem or8 (m k : Nat) (hm : m < 8) (hk : k < 8) : Go.bits .or .i64 (m : Int) (k : Int) = ((m ||| k : Nat) : Int) ∧ m ||| k < 8 := by
  have h : ∀ m k : Fin 8, Go.bits .or .i64 ((m.val : Nat) : Int) ((k.val : Nat) : Int) = ((m.val ||| k.val : Nat) : Int) ∧ m.val ||| k.val < 8 := by decide +kernel
  exact h ⟨m, hm⟩ ⟨k, hk⟩
def msV (x : Option (Nat × By)) : Value := match x with
  | none => .tuple #[.int .i64 0, .string ⟨#[]⟩, .bool false]
  | some (m, r) => .tuple #[.int .i64 (m : Int), .string (ba r), .bool true]
set_option maxRecDepth 100000 in
set_option maxHeartbeats 1000000 in
theorem cutMarks_any (s : By) (w : World) : Calls Tryz.prog 59 #[.string (ba s)] w fun e w' => (e = .returned (msV (marks 0 s)) ∧ ∀ m r, marks 0 s = some (m, r) → m < 8) ∧ ∃ n, w' = w.drewN n := by
  obtain ⟨goal, HC⟩ : ∃ g, Hid (marks 0 s = g) := ⟨_, rfl⟩
  rw [HC.out]
  go_enter Tryz.func59, Tryz.ntmps59
  go_wp2
  go_loopw [0, 2] (fun s0 s2 wr => ∃ (t : By) (m : Nat) (n : Nat), s0 = .string (ba t) ∧ s2 = .int .i64 (m : Int) ∧ m < 8 ∧ Hid (marks 0 s = marks m t) ∧ wr = w.drewN n)
    (fun s0 _ _ => match s0 with | .string x => x.size | _ => 0)
  case atStart => exact ⟨s, 0, 0, rfl, rfl, by omega, rfl, rfl⟩
  case round =>
    obtain ⟨t, m, n, rfl, rfl, hm, HT, rfl⟩ := hrel
    have hk := cutM_le t
    have hc := cutMark_any t
    have HL := hid (cutM_len (s := t))
    have HE : Hid (goal = if (cutM t).1 = 0 then some (m, t) else if m &&& (cutM t).1 ≠ 0 then none else marks (m ||| (cutM t).1) (cutM t).2) := by
      show _ = _; rw [← HC.out, HT.out, marks_eq]
    obtain ⟨k, u, hku⟩ : ∃ k u, cutM t = (k, u) := ⟨_, _, rfl⟩
    rw [hku] at hk hc HL HE
    simp only [cmV] at hc
    simp only at hk HL HE
    have ha := and8 m k hm hk
    have ho := (or8 m k hm hk).1
    have ho2 := (or8 m k hm hk).2
    generalize m &&& k = a at ha HE
    have HE2 := HE
    clear hku HT HE
    by_cases h0 : k = 0
    · subst h0
      have HE3 : goal = some (m, t) := HE2.out
      clear ha ho HE2
      subst HE3
      go_wp2_with (go_at_call 74; refine (hc _).mono ?_; rintro e1 w1 ⟨rfl, n1, rfl⟩)
      refine bodyPost_ret (results_tmp3 rfl _ _ _) rfl ⟨⟨rfl, ?_⟩, _, rfl⟩
      intro m' r' h; cases h; exact hm
    · have hk0 : ((k : Int) == 0) = false := by simp; omega
      have hku : (cutM t).2.length < t.length ∨ True := .inr trivial
      by_cases hz : a = 0
      · subst hz
        have HE3 : Hid (goal = marks (m ||| k) u) := HE2.out.trans ((if_neg h0).trans (if_neg (by simp)))
        have hl := HL.out h0
        generalize m ||| k = mk at ho ho2 HE3
        clear h0 HE2
        go_wp2_with (go_at_call 74; refine (hc _).mono ?_; rintro e1 w1 ⟨rfl, n1, rfl⟩)
        refine ⟨⟨u, mk, _, rfl, rfl, ho2, HC.out.trans HE3.out, rfl⟩, ?_⟩
        simp [ba_size]; exact hl
      · have HE3 : goal = none := HE2.out.trans ((if_neg h0).trans (if_pos hz))
        have ha0 : ((a : Int) == 0) = false := by simp; omega
        have ha1 : ((a : Int) != 0) = true := by simp; omega
        clear h0 HE2 hz
        subst HE3
        go_wp2_with (go_at_call 74; refine (hc _).mono ?_; rintro e1 w1 ⟨rfl, n1, rfl⟩)
        refine bodyPost_ret (results_tmp3 rfl _ _ _) rfl ⟨⟨rfl, ?_⟩, _, rfl⟩
        intro m' r' h; cases h
end Go.Proofs.YtpipkgkfhbagmaaGreatDoor.Glob
