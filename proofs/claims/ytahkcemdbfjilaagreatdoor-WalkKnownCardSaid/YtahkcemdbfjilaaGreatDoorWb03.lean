/- Several texts in one. Conditions: those said at each. -/
import Derived.Test.YtahkcemdbfjilaaGreatDoorWb02
set_option linter.unusedSimpArgs false
set_option linter.unusedVariables false
set_option maxRecDepth 100000
namespace Go.Proofs.YtahkcemdbfjilaaGreatDoor
open Go.RowKit
theorem find_no (s : ByteArray) (h : mayB (tl s) = false) (w : World) (hG : Gd w) (hs : s.size ≤ 4000) :
 Calls Tryz.prog 74 #[.string s] w fun e w' => e = .returned (.agg #[.string ⟨#[]⟩, .string ⟨#[]⟩]) ∧ Below w.heap.size w w' := by
 have := find_any s w hG hs
 rw [findV_no h] at this; exact this
theorem find_yes (s a b : ByteArray) (h : Hid (mayB (tl s) = true ∧ ba (aheadL (tl s)) = a ∧ ba (lastP (tl s)) = b)) (w : World) (hG : Gd w) (hs : s.size ≤ 4000) :
 Calls Tryz.prog 74 #[.string s] w fun e w' => e = .returned (.agg #[.string a, .string b]) ∧ Below w.heap.size w w' := by
 have := find_any s w hG hs
 rw [findV_yes h.out.1, plc, h.out.2.1, h.out.2.2] at this; exact this
theorem last_ne {s b : ByteArray} (h : mayB (tl s) = true) (hb : ba (lastP (tl s)) = b) : ¬ b.toList = [] := by
 rw [toList_tl, ← hb, tl_ba]; exact mayB_last h
set_option maxHeartbeats 400000 in
theorem may_any (s : ByteArray) (w : World) (hG : Gd w) (hs : s.size ≤ 4000) :
 Calls Tryz.prog 99 #[.string s] w fun e w' => e = .returned (.bool (mayB (tl s))) ∧ Below w.heap.size w w' := by
 have HG := hid hG
 clear hG
 cases hm : mayB (tl s) with
 | false =>
  have HM := hid hm
  clear hm
  go_enter Tryz.func99, Tryz.ntmps99
  go_wp2_with (go_at_call 74; refine (find_no s HM.out _ HG.out hs).mono ?_; rintro e1 w1 ⟨rfl, hb1⟩; have B1 := hid hb1; clear hb1)
  go_ret
  exact ⟨rfl, B1.out⟩
 | true =>
  obtain ⟨a, b, HV⟩ : ∃ a b, Hid (mayB (tl s) = true ∧ ba (aheadL (tl s)) = a ∧ ba (lastP (tl s)) = b) := ⟨_, _, hm, rfl, rfl⟩
  have hb : ¬ b.toList = [] := last_ne hm HV.out.2.2
  clear hm
  by_cases ha : a.toList = []
  all_goals
   go_enter Tryz.func99, Tryz.ntmps99
   go_wp2_with (go_at_call 74; refine (find_yes s a b HV _ HG.out hs).mono ?_; rintro e1 w1 ⟨rfl, hb1⟩; have B1 := hid hb1; clear hb1)
   go_ret
   exact ⟨rfl, B1.out⟩
set_option maxHeartbeats 400000 in
theorem parent_any (s : ByteArray) (w : World) (hG : Gd w) (hs : s.size ≤ 4000) :
 Calls Tryz.prog 31 #[.string s] w fun e w' => e = .returned (.tuple #[.string (ba (findV (tl s)).1), .bool (mayB (tl s))]) ∧ Below w.heap.size w w' := by
 have HG := hid hG
 clear hG
 cases hm : mayB (tl s) with
 | false =>
  have HM := hid hm
  have HF := hid (findV_no hm)
  clear hm
  go_enter Tryz.func31, Tryz.ntmps31
  go_wp2_with (go_at_call 74; refine (find_no s HM.out _ HG.out hs).mono ?_; rintro e1 w1 ⟨rfl, hb1⟩; have B1 := hid hb1; clear hb1)
  go_quiet (fail)
  go_wp2
  go_ret2
  exact ⟨by rw [HF.out]; rfl, (B1.out.alloc B1.out.size _).drewN' _⟩
 | true =>
  obtain ⟨a, b, HV⟩ : ∃ a b, Hid (mayB (tl s) = true ∧ ba (aheadL (tl s)) = a ∧ ba (lastP (tl s)) = b) := ⟨_, _, hm, rfl, rfl⟩
  have hb : ¬ b.toList = [] := last_ne hm HV.out.2.2
  have HF := hid (findV_yes hm)
  clear hm
  by_cases ha : a.toList = []
  all_goals
   go_enter Tryz.func31, Tryz.ntmps31
   go_wp2_with (go_at_call 74; refine (find_yes s a b HV _ HG.out hs).mono ?_; rintro e1 w1 ⟨rfl, hb1⟩; have B1 := hid hb1; clear hb1)
   go_quiet (fail)
   go_wp2
   go_ret2
   exact ⟨by rw [HF.out]; simp only [HV.out.2.1]; rfl, (B1.out.alloc B1.out.size _).drewN' _⟩
def withinB (p d : List UInt8) : Bool := if d = [] then mayB p else mayB p && mayB d && (d ++ [47]).isPrefixOf p
theorem hasPrefix_s (s p : ByteArray) (w : World) : Calls Tryz.prog 75 #[.string s, .string p] w fun e w' => e = .returned (.bool (Lib.hasPrefix (tl s) (tl p))) ∧ w = w' :=
 (Tryz.strings_HasPrefix s p w).mono fun _ _ ⟨a, b⟩ => ⟨a, b.symm⟩
set_option maxHeartbeats 400000 in
theorem within_any (p d : ByteArray) (w : World) (hG : Gd w) (hp : p.size ≤ 4000) (hd : d.size ≤ 4000) :
 Calls Tryz.prog 51 #[.string p, .string d] w fun e w' => e = .returned (.bool (withinB (tl p) (tl d))) ∧ Below w.heap.size w w' := by
 have HG := hid hG
 clear hG
 by_cases h0 : d.toList = []
 · have HW : Hid (withinB (tl p) (tl d) = mayB (tl p)) := by show _ = _; rw [withinB, if_pos (by rw [← toList_tl, h0])]
   go_enter Tryz.func51, Tryz.ntmps51
   go_wp2_with (go_at_call 99; refine (may_any p _ HG.out hp).mono ?_; rintro e1 w1 ⟨rfl, hb1⟩; have B1 := hid hb1; clear hb1)
   go_ret
   exact ⟨by rw [HW.out]; rfl, B1.out⟩
 · have h0' : d.toList.isEmpty = false := by simpa using h0
   have HW : Hid (withinB (tl p) (tl d) = (mayB (tl p) && mayB (tl d) && (tl d ++ [47]).isPrefixOf (tl p))) := by show _ = _; rw [withinB, if_neg (by rw [← toList_tl]; exact h0)]
   cases h1 : mayB (tl p) with
   | false =>
    have M1 : Hid (∀ W, Gd W → Calls Tryz.prog 99 #[.string p] W fun e w' => e = .returned (.bool false) ∧ Below W.heap.size W w') := by
     intro W h; rw [← h1]; exact may_any p W h hp
    have H1 := hid h1
    clear h1
    go_enter Tryz.func51, Tryz.ntmps51
    go_wp2_with (go_at_call 99; refine (M1.out _ HG.out).mono ?_; rintro e1 w1 ⟨rfl, hb1⟩; have B1 := hid hb1; clear hb1)
    go_ret
    exact ⟨by rw [HW.out, H1.out]; rfl, B1.out⟩
   | true =>
    have M1 : Hid (∀ W, Gd W → Calls Tryz.prog 99 #[.string p] W fun e w' => e = .returned (.bool true) ∧ Below W.heap.size W w') := by
     intro W h; rw [← h1]; exact may_any p W h hp
    have H1 := hid h1
    clear h1
    cases h2 : mayB (tl d) with
    | false =>
     have M2 : Hid (∀ W, Gd W → Calls Tryz.prog 99 #[.string d] W fun e w' => e = .returned (.bool false) ∧ Below W.heap.size W w') := by
      intro W h; rw [← h2]; exact may_any d W h hd
     have H2 := hid h2
     clear h2
     go_enter Tryz.func51, Tryz.ntmps51
     go_wp2_with fail
     refine (M1.out _ HG.out).mono ?_; rintro e1 w1 ⟨rfl, hb1⟩; have B1 := hid hb1; clear hb1
     go_wp2_with fail
     refine (M2.out _ (HG.out.kept B1.out)).mono ?_; rintro e2 w2 ⟨rfl, hb2⟩; have B2 : Hid (Below w.heap.size w w2) := B1.out.trans (hb2.mono B1.out.size); clear hb2
     go_wp2
     go_ret
     exact ⟨by rw [HW.out, H1.out, H2.out]; rfl, B2.out⟩
    | true =>
     have M2 : Hid (∀ W, Gd W → Calls Tryz.prog 99 #[.string d] W fun e w' => e = .returned (.bool true) ∧ Below W.heap.size W w') := by
      intro W h; rw [← h2]; exact may_any d W h hd
     have H2 := hid h2
     clear h2
     go_enter Tryz.func51, Tryz.ntmps51
     go_wp2_with fail
     refine (M1.out _ HG.out).mono ?_; rintro e1 w1 ⟨rfl, hb1⟩; have B1 := hid hb1; clear hb1
     go_wp2_with fail
     refine (M2.out _ (HG.out.kept B1.out)).mono ?_; rintro e2 w2 ⟨rfl, hb2⟩; have B2 : Hid (Below w.heap.size w w2) := B1.out.trans (hb2.mono B1.out.size); clear hb2
     go_wp2_with fail
     refine (hasPrefix_s p _ _).mono ?_; rintro e3 w3 ⟨rfl, rfl⟩
     go_wp2
     go_ret
     refine ⟨?_, B2.out⟩
     rw [HW.out, H1.out, H2.out]
     rfl
end Go.Proofs.YtahkcemdbfjilaaGreatDoor
namespace Go.Proofs.YtahkcemdbfjilaaGreatDoor
open Go.RowKit
theorem aheadL_len (l : List UInt8) : (aheadL l).length ≤ l.length := by rw [aheadL, List.length_take]; omega
theorem cmpL_vals (a b : List UInt8) : cmpL a b = -1 ∨ cmpL a b = 0 ∨ cmpL a b = 1 := by
 fun_induction cmpL a b <;> simp_all
theorem rk_inj {x y : UInt8} (h : rk x = rk y) : x = y := by
 unfold rk at h
 split at h <;> split at h
 · simp_all
 · omega
 · omega
 · exact UInt8.toNat_inj.1 (by omega)
theorem cmpL_self (a : List UInt8) : cmpL a a = 0 := by
 induction a with
 | nil => rfl
 | cons x a ih => rw [cmpL, if_pos rfl, ih]
theorem cmpL_neg (a b : List UInt8) : cmpL b a = -cmpL a b := by
 induction a generalizing b with
 | nil => cases b <;> simp [cmpL]
 | cons x a ih =>
  cases b with
  | nil => simp [cmpL]
  | cons y b =>
   rw [cmpL, cmpL]
   by_cases h : x = y
   · subst h; rw [if_pos rfl, if_pos rfl, ih]
   · rw [if_neg h, if_neg (Ne.symm h)]
     have : rk x ≠ rk y := fun e => h (rk_inj e)
     split <;> split <;> first | omega | rfl
theorem cmpL_zero (a b : List UInt8) : cmpL a b = 0 ↔ a = b := by
 constructor
 · intro h
   induction a generalizing b with
   | nil => cases b <;> simp [cmpL] at h ⊢
   | cons x a ih =>
    cases b with
    | nil => simp [cmpL] at h
    | cons y b =>
     rw [cmpL] at h
     split at h
     · rename_i e; rw [e, ih b h]
     · split at h <;> simp at h
 · rintro rfl; exact cmpL_self a
theorem cmpL_trans (a b c : List UInt8) (h1 : cmpL a b = -1) (h2 : cmpL b c = -1) : cmpL a c = -1 := by
 induction a generalizing b c with
 | nil =>
  cases c with
  | nil => cases b <;> simp [cmpL] at h1 h2
  | cons z c => rfl
 | cons x a ih =>
  cases b with
  | nil => simp [cmpL] at h1
  | cons y b =>
   cases c with
   | nil => simp [cmpL] at h2
   | cons z c =>
    rw [cmpL] at h1 h2 ⊢
    by_cases h : x = y
    · subst h
      rw [if_pos rfl] at h1
      by_cases h' : x = z
      · subst h'; rw [if_pos rfl] at h2 ⊢; exact ih b c h1 h2
      · rw [if_neg h'] at h2 ⊢; exact h2
    · rw [if_neg h] at h1
      by_cases h' : y = z
      · subst h'; rw [if_neg h]; exact h1
      · rw [if_neg h'] at h2
        have l1 : rk x < rk y := by split at h1; assumption; simp at h1
        have l2 : rk y < rk z := by split at h2; assumption; simp at h2
        have hne : x ≠ z := by rintro rfl; omega
        rw [if_neg hne, if_pos (by omega)]
end Go.Proofs.YtahkcemdbfjilaaGreatDoor
namespace Go.Proofs.YtahkcemdbfjilaaGreatDoor
open Go.RowKit
theorem cmpL_within (d r : List UInt8) : cmpL d (d ++ 47 :: r) = -1 := by
 induction d with
 | nil => rfl
 | cons x d ih => rw [List.cons_append, cmpL, if_pos rfl, ih]
theorem cmpL_between (d q r : List UInt8) (h1 : cmpL d q = -1) (h2 : cmpL q (d ++ 47 :: r) = -1) : ∃ r', q = d ++ 47 :: r' := by
 induction d generalizing q with
 | nil =>
  cases q with
  | nil => simp [cmpL] at h1
  | cons y q =>
   rw [List.nil_append, cmpL] at h2
   split at h2
   · rename_i e; exact ⟨q, by rw [e]; rfl⟩
   · have : rk 47 = 0 := rfl
     split at h2
     · omega
     · simp at h2
 | cons x d ih =>
  cases q with
  | nil => simp [cmpL] at h1
  | cons y q =>
   rw [cmpL] at h1
   rw [List.cons_append, cmpL] at h2
   by_cases h : x = y
   · subst h
     rw [if_pos rfl] at h1 h2
     obtain ⟨r', rfl⟩ := ih q h1 h2
     exact ⟨r', rfl⟩
   · rw [if_neg h] at h1
     rw [if_neg (Ne.symm h)] at h2
     have l1 : rk x < rk y := by split at h1; assumption; simp at h1
     have l2 : rk y < rk x := by split at h2; assumption; simp at h2
     omega
theorem prefix_split {d p : List UInt8} (h : (d ++ [47]).isPrefixOf p = true) : ∃ r, p = d ++ 47 :: r := by
 obtain ⟨r, hr⟩ := List.isPrefixOf_iff_prefix.1 h
 exact ⟨r, by rw [← hr]; simp⟩
theorem prefix_join (d r : List UInt8) : (d ++ [47]).isPrefixOf (d ++ 47 :: r) = true :=
 List.isPrefixOf_iff_prefix.2 ⟨r, by simp⟩
theorem mayB_nil : mayB [] = false := by decide +kernel
theorem withinB_yes {p d : List UInt8} (hd : mayB d = true) (h : withinB p d = true) : ∃ r, p = d ++ 47 :: r := by
 have h0 : d ≠ [] := by rintro rfl; rw [mayB_nil] at hd; cases hd
 rw [withinB, if_neg h0] at h
 simp only [Bool.and_eq_true] at h
 exact prefix_split h.2
theorem withinB_mk {p d : List UInt8} (hp : mayB p = true) (hd : mayB d = true) (h : ∃ r, p = d ++ 47 :: r) : withinB p d = true := by
 have h0 : d ≠ [] := by rintro rfl; rw [mayB_nil] at hd; cases hd
 obtain ⟨r, hr⟩ := h
 rw [withinB, if_neg h0, hp, hd, hr, prefix_join]; rfl
end Go.Proofs.YtahkcemdbfjilaaGreatDoor
namespace Go.Proofs.YtahkcemdbfjilaaGreatDoor
open Go.RowKit
theorem split_last (l : List UInt8) : pieces l = [l] ∨ ∃ a b, l = a ++ 47 :: b ∧ pieces l = pieces a ++ [b] := by
 induction l with
 | nil => exact .inl rfl
 | cons c l ih =>
  by_cases hc : c = 47
  · subst hc
    rcases ih with h | ⟨a, b, h1, h2⟩
    · exact .inr ⟨[], l, rfl, by rw [show pieces (47 :: l) = [] :: pieces l by rw [pieces, if_pos rfl], h]; rfl⟩
    · exact .inr ⟨47 :: a, b, by rw [h1]; rfl, by rw [pieces, if_pos rfl, h2, pieces, if_pos rfl]; rfl⟩
  · rcases ih with h | ⟨a, b, h1, h2⟩
    · exact .inl (by rw [pieces, if_neg hc, h])
    · refine .inr ⟨c :: a, b, by rw [h1]; rfl, ?_⟩
      rw [pieces, if_neg hc, h2, pieces, if_neg hc]
      cases hp : pieces a with
      | nil => exact absurd hp (pieces_ne a)
      | cons p ps => rfl
theorem lastP_one {l : List UInt8} (h : pieces l = [l]) : lastP l = l := by
 have : ∀ (ps : List (List UInt8)) (hne : ps ≠ []), ps = [l] → ps.getLast hne = l := by rintro ps hne rfl; rfl
 exact this _ _ h
theorem lastP_two {l a b : List UInt8} (h : pieces l = pieces a ++ [b]) : lastP l = b := by
 have : ∀ (ps : List (List UInt8)) (hne : ps ≠ []), ps = pieces a ++ [b] → ps.getLast hne = b := by rintro ps hne rfl; simp
 exact this _ _ h
theorem aheadL_one {l : List UInt8} (h : pieces l = [l]) : aheadL l = [] := by rw [aheadL, lastP_one h]; simp
theorem aheadL_two {l a b : List UInt8} (h1 : l = a ++ 47 :: b) (h : pieces l = pieces a ++ [b]) : aheadL l = a := by
 rw [aheadL, lastP_two h, h1, List.length_append, List.length_cons, show a.length + (b.length + 1) - b.length - 1 = a.length by omega, List.take_left]
theorem may_parts {l : List UInt8} (h : mayB l = true) : l.length ≤ 160 ∧ (pieces l).length ≤ 6 ∧ (pieces l).all nameB = true ∧ (aheadL l).length ≤ 111 := by
 unfold mayB goodB at h
 simp only [Bool.and_eq_true, decide_eq_true_eq] at h
 exact ⟨h.1.1, h.1.2.1, h.1.2.2, h.2⟩
theorem may_of {l : List UInt8} (h1 : l.length ≤ 160) (h2 : (pieces l).length ≤ 6) (h3 : (pieces l).all nameB = true) (h4 : (aheadL l).length ≤ 111) : mayB l = true := by
 unfold mayB goodB
 simp only [Bool.and_eq_true, decide_eq_true_eq]
 exact ⟨⟨h1, h2, h3⟩, h4⟩
theorem may_split {l : List UInt8} (h : mayB l = true) : (aheadL l = [] ∧ lastP l = l ∧ (pieces l).length = 1) ∨ (aheadL l ≠ [] ∧ l = aheadL l ++ 47 :: lastP l ∧ mayB (aheadL l) = true ∧ withinB l (aheadL l) = true) := by
 obtain ⟨h1, h2, h3, h4⟩ := may_parts h
 rcases split_last l with e | ⟨a, b, e1, e2⟩
 · exact .inl ⟨aheadL_one e, lastP_one e, by rw [e]; rfl⟩
 · right
   have ha := aheadL_two e1 e2
   have hb := lastP_two e2
   rw [e2, List.all_append] at h3
   simp only [Bool.and_eq_true] at h3
   have hne : a ≠ [] := by
    rintro rfl
    have := h3.1
    simp [pieces, nameB, headB] at this
   rw [ha] at h4 ⊢
   have hm : mayB a = true := may_of (by omega) (by rw [e2, List.length_append] at h2; omega) h3.1 (Nat.le_trans (aheadL_len a) h4)
   exact ⟨hne, by rw [hb]; exact e1, hm, withinB_mk h hm ⟨b, e1⟩⟩
end Go.Proofs.YtahkcemdbfjilaaGreatDoor
namespace Go.Proofs.YtahkcemdbfjilaaGreatDoor
abbrev By := List UInt8
structure Nd where
 kind : Int
 data : By
 target : By
 time : Int
abbrev Tr := List (By × Nd)
def look : Tr → By → Option Nd
 | [], _ => none
 | (q, n) :: L, p => if q = p then some n else look L p
def del (L : Tr) (p : By) : Tr := L.filter fun x => decide (x.1 ≠ p)
def ins (p : By) (n : Nd) : Tr → Tr
 | [] => [(p, n)]
 | (q, m) :: L => if cmpL p q ≤ 0 then (p, n) :: del ((q, m) :: L) p else (q, m) :: ins p n L
def useN (n : Nd) : Nat := 64 + n.data.length
def usedL : Tr → Nat
 | [] => 0
 | (_, n) :: L => useN n + usedL L
def useP (L : Tr) (p : By) : Nat := match look L p with | some n => useN n | none => 0
def Srt (L : Tr) : Prop := L.Pairwise fun a b => cmpL a.1 b.1 = -1
theorem look_none {L : Tr} {p : By} : look L p = none ↔ ∀ x ∈ L, x.1 ≠ p := by
 induction L with
 | nil => simp [look]
 | cons a L ih =>
  obtain ⟨q, n⟩ := a
  rw [look]
  by_cases h : q = p
  · simp [h]
  · rw [if_neg h, ih]; simp [h]
theorem look_mem {L : Tr} {p : By} {n : Nd} (h : look L p = some n) : (p, n) ∈ L := by
 induction L with
 | nil => cases h
 | cons a L ih =>
  obtain ⟨q, m⟩ := a
  rw [look] at h
  split at h
  · rename_i e; obtain rfl := e; cases h; exact List.mem_cons_self
  · exact List.mem_cons_of_mem _ (ih h)
theorem cmpL_ne {a b : By} (h : cmpL a b = -1) : a ≠ b := by rintro rfl; rw [cmpL_self] at h; cases h
theorem mem_look {L : Tr} (hs : Srt L) {p : By} {n : Nd} (h : (p, n) ∈ L) : look L p = some n := by
 induction L with
 | nil => cases h
 | cons a L ih =>
  obtain ⟨q, m⟩ := a
  rw [look]
  obtain ⟨h1, h2⟩ := List.pairwise_cons.1 hs
  rcases List.mem_cons.1 h with e | e
  · injection e with e1 e2; rw [if_pos e1.symm, e2]
  · rw [if_neg (cmpL_ne (h1 _ e)), ih h2 e]
theorem look_del (L : Tr) (p q : By) : look (del L p) q = if q = p then none else look L q := by
 induction L with
 | nil => simp [del, look]
 | cons a L ih =>
  obtain ⟨x, m⟩ := a
  unfold del at ih ⊢
  by_cases h : x = p
  · rw [List.filter_cons, if_neg (by simp [h]), ih, look]
    by_cases e : q = p
    · rw [if_pos e, if_pos e]
    · rw [if_neg e, if_neg e, if_neg (by rw [h]; exact fun k => e k.symm)]
  · rw [List.filter_cons, if_pos (by simp [h]), look, look, ih]
    by_cases e : x = q
    · rw [if_pos e, if_pos e, if_neg (by rw [← e]; exact h)]
    · rw [if_neg e, if_neg e]
theorem look_ins (p : By) (n : Nd) (L : Tr) (q : By) : look (ins p n L) q = if q = p then some n else look L q := by
 induction L with
 | nil => simp only [ins, look, eq_comm]
 | cons a L ih =>
  obtain ⟨x, m⟩ := a
  rw [ins]
  by_cases h : cmpL p x ≤ 0
  · rw [if_pos h, look, look_del]
    by_cases e : q = p
    · rw [if_pos e.symm, if_pos e]
    · rw [if_neg (fun k => e k.symm), if_neg e, if_neg e]
  · rw [if_neg h, look, ih, look]
    have hne : x ≠ p := by rintro rfl; rw [cmpL_self] at h; exact h (Int.le_refl 0)
    by_cases e : x = q
    · rw [if_pos e, if_pos e, if_neg (by rw [← e]; exact hne)]
    · rw [if_neg e, if_neg e]
theorem srt_del {L : Tr} (h : Srt L) (p : By) : Srt (del L p) := h.filter _
theorem mem_ins {p : By} {n : Nd} {L : Tr} {x : By × Nd} (h : x ∈ ins p n L) : x = (p, n) ∨ x ∈ L := by
 induction L with
 | nil => rw [ins] at h; simp at h; exact .inl h
 | cons a L ih =>
  obtain ⟨q, m⟩ := a
  rw [ins] at h
  split at h
  · rcases List.mem_cons.1 h with e | e
    · exact .inl e
    · exact .inr (List.mem_filter.1 e).1
  · rcases List.mem_cons.1 h with e | e
    · exact .inr (by rw [e]; exact List.mem_cons_self)
    · rcases ih e with e | e
      · exact .inl e
      · exact .inr (List.mem_cons_of_mem _ e)
theorem srt_ins {L : Tr} (h : Srt L) (p : By) (n : Nd) : Srt (ins p n L) := by
 induction L with
 | nil => exact List.pairwise_singleton _ _
 | cons a L ih =>
  obtain ⟨q, m⟩ := a
  obtain ⟨h1, h2⟩ := List.pairwise_cons.1 h
  rw [ins]
  split
  · rename_i hc
    refine List.pairwise_cons.2 ⟨?_, srt_del h p⟩
    intro x hx
    obtain ⟨hm, hne⟩ := List.mem_filter.1 hx
    have hne : x.1 ≠ p := by simpa using hne
    have hpq : cmpL p q = -1 ∨ p = q := by
     rcases cmpL_vals p q with e | e | e
     · exact .inl e
     · exact .inr ((cmpL_zero _ _).1 e)
     · omega
    rcases List.mem_cons.1 hm with e | e
    · rcases hpq with k | k
      · rw [e]; exact k
      · exact absurd (by rw [e, k]) hne
    · rcases hpq with k | k
      · exact cmpL_trans _ _ _ k (h1 _ e)
      · rw [k]; exact h1 _ e
  · rename_i hc
    refine List.pairwise_cons.2 ⟨?_, ih h2⟩
    intro x hx
    rcases mem_ins hx with e | e
    · rw [e]
      have := cmpL_neg p q
      rcases cmpL_vals p q with k | k | k <;> (show cmpL q p = -1) <;> omega
    · exact h1 _ e
theorem head_least {q : By} {m : Nd} {L : Tr} (h : Srt ((q, m) :: L)) {p : By} {n : Nd} (hp : look ((q, m) :: L) p = some n) : p = q ∨ cmpL q p = -1 := by
 rcases List.mem_cons.1 (look_mem hp) with e | e
 · injection e with e1 _; exact .inl e1
 · exact .inr ((List.pairwise_cons.1 h).1 _ e)
theorem tree_ext {L K : Tr} (hl : Srt L) (hk : Srt K) (h : ∀ p, look L p = look K p) : L = K := by
 induction L generalizing K with
 | nil =>
  cases K with
  | nil => rfl
  | cons b K => obtain ⟨r, m⟩ := b; have := h r; rw [look, look, if_pos rfl] at this; cases this
 | cons a L ih =>
  obtain ⟨q, n⟩ := a
  cases K with
  | nil => have := h q; rw [look, look, if_pos rfl] at this; cases this
  | cons b K =>
   obtain ⟨r, m⟩ := b
   have e1 : look ((r, m) :: K) q = some n := by rw [← h, look, if_pos rfl]
   have e2 : look ((q, n) :: L) r = some m := by rw [h, look, if_pos rfl]
   have hqr : q = r := by
    rcases head_least hk e1 with e | e
    · exact e
    · rcases head_least hl e2 with k | k
      · exact k.symm
      · have := cmpL_neg q r; rw [e, k] at this; cases this
   subst hqr
   rw [look, if_pos rfl] at e1
   injection e1 with e1
   subst e1
   obtain ⟨l1, l2⟩ := List.pairwise_cons.1 hl
   obtain ⟨k1, k2⟩ := List.pairwise_cons.1 hk
   rw [ih l2 k2 (fun p => by
    have hp := h p
    rw [look, look] at hp
    by_cases e : q = p
    · subst e
      rw [look_none.2 (fun x hx => (cmpL_ne (l1 x hx)).symm), look_none.2 (fun x hx => (cmpL_ne (k1 x hx)).symm)]
    · rw [if_neg e, if_neg e] at hp; exact hp)]
theorem del_same {L : Tr} {p : By} (h : look L p = none) : del L p = L := by
 unfold del
 rw [List.filter_eq_self]
 intro x hx
 simpa using look_none.1 h x hx
theorem used_del {L : Tr} (h : Srt L) (p : By) : usedL (del L p) + useP L p = usedL L := by
 induction L with
 | nil => rfl
 | cons a L ih =>
  obtain ⟨q, n⟩ := a
  obtain ⟨h1, h2⟩ := List.pairwise_cons.1 h
  have ih := ih h2
  by_cases e : q = p
  · subst e
    have hn : look L q = none := look_none.2 (fun x hx => (cmpL_ne (h1 x hx)).symm)
    have : del ((q, n) :: L) q = L := by
     show List.filter _ _ = _
     rw [List.filter_cons, if_neg (by simp)]; exact del_same hn
    rw [this, usedL, useP, look, if_pos rfl]; simp only; omega
  · have h3 : del ((q, n) :: L) p = (q, n) :: del L p := by
     show List.filter _ _ = _
     rw [List.filter_cons, if_pos (by simpa using e)]; rfl
    have h4 : useP ((q, n) :: L) p = useP L p := by rw [useP, useP, look, if_neg e]
    rw [h3, h4, usedL, usedL]; omega
theorem used_ins {L : Tr} (h : Srt L) (p : By) (n : Nd) : usedL (ins p n L) + useP L p = usedL L + useN n := by
 induction L with
 | nil => simp [ins, usedL, useP, look]
 | cons a L ih =>
  obtain ⟨q, m⟩ := a
  obtain ⟨h1, h2⟩ := List.pairwise_cons.1 h
  have ih := ih h2
  rw [ins]
  split
  · have := used_del h p
    rw [usedL]; omega
  · rename_i hc
    have e : q ≠ p := by rintro rfl; rw [cmpL_self] at hc; exact hc (Int.le_refl 0)
    have h4 : useP ((q, m) :: L) p = useP L p := by rw [useP, useP, look, if_neg e]
    rw [h4, usedL, usedL]; omega
theorem useP_le {L : Tr} (h : Srt L) (p : By) : useP L p ≤ usedL L := by have := used_del h p; omega
theorem len_del {L : Tr} (h : Srt L) (p : By) : (del L p).length = if (look L p).isSome then L.length - 1 else L.length := by
 induction L with
 | nil => rfl
 | cons a L ih =>
  obtain ⟨q, n⟩ := a
  obtain ⟨h1, h2⟩ := List.pairwise_cons.1 h
  have ih := ih h2
  by_cases e : q = p
  · subst e
    have hn : look L q = none := look_none.2 (fun x hx => (cmpL_ne (h1 x hx)).symm)
    have : del ((q, n) :: L) q = L := by
     show List.filter _ _ = _
     rw [List.filter_cons, if_neg (by simp)]; exact del_same hn
    rw [this, look, if_pos rfl]; simp
  · have h3 : del ((q, n) :: L) p = (q, n) :: del L p := by
     show List.filter _ _ = _
     rw [List.filter_cons, if_pos (by simpa using e)]; rfl
    rw [h3, look, if_neg e, List.length_cons, ih]
    cases hl : look L p with
    | none => simp
    | some m =>
     have : 0 < L.length := List.length_pos_of_mem (look_mem hl)
     simp; omega
theorem len_ins {L : Tr} (h : Srt L) (p : By) (n : Nd) : (ins p n L).length = if (look L p).isSome then L.length else L.length + 1 := by
 induction L with
 | nil => rfl
 | cons a L ih =>
  obtain ⟨q, m⟩ := a
  obtain ⟨h1, h2⟩ := List.pairwise_cons.1 h
  have ih := ih h2
  rw [ins]
  split
  · have := len_del h p
    rw [List.length_cons, this]
    split
    · rw [List.length_cons]; omega
    · rfl
  · rename_i hc
    have e : q ≠ p := by rintro rfl; rw [cmpL_self] at hc; exact hc (Int.le_refl 0)
    rw [look, if_neg e, List.length_cons, ih]
    split <;> simp
theorem used_len {L : Tr} : 64 * L.length ≤ usedL L := by
 induction L with
 | nil => exact Nat.le_refl 0
 | cons a L ih => obtain ⟨q, m⟩ := a; rw [usedL, List.length_cons, useN]; omega
end Go.Proofs.YtahkcemdbfjilaaGreatDoor
