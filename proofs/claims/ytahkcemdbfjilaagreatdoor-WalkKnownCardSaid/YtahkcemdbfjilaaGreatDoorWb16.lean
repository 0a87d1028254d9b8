/- Several texts in one. Conditions: those said at each. -/
import Derived.Deep.LoopGhost
import Derived.Test.YtahkcemdbfjilaaGreatDoorWb15
import Derived.Test.YtahkcemdbfjilaaGreatDoorWb14
import Derived.Test.YtahkcemdbfjilaaGreatDoorWb10
import Derived.Laws.Rows
import Derived.Laws.Tables
import Derived.Laws.EntriesVeiled
import Derived.Laws.DeepStrings4
import Derived.RegionTactic
set_option linter.unusedSimpArgs false
set_option linter.unusedVariables false
set_option maxRecDepth 100000
namespace Go.Proofs.YtahkcemdbfjilaaGreatDoor
open Go.RowKit
theorem ret_str {a b : ByteArray} (h : a = b) : Ending.returned (.string a) = .returned (.string b) := by rw [h]
theorem pieces_snoc (a b : List UInt8) (h : ∀ c ∈ b, c ≠ 47) : pieces (a ++ 47 :: b) = pieces a ++ [b] := by
 induction a with
 | nil => rw [List.nil_append, show pieces (47 :: b) = [] :: pieces b by rw [pieces, if_pos rfl], Rf.pieces_no b h]; rfl
 | cons c a ih =>
  rw [List.cons_append]
  by_cases hc : c = 47
  · subst hc
    rw [show pieces (47 :: (a ++ 47 :: b)) = [] :: pieces (a ++ 47 :: b) by rw [pieces, if_pos rfl], ih, show pieces (47 :: a) = [] :: pieces a by rw [pieces, if_pos rfl]]; rfl
  · rw [pieces, if_neg hc, ih, pieces, if_neg hc]
    cases hp : pieces a with
    | nil => exact absurd hp (pieces_ne a)
    | cons p ps => rfl
theorem data_at (s : ByteArray) (j : Nat) (h : j < s.size) : s.data[j]! = at8 (tl s) j := by
 have h2 : j < s.data.size := h
 have h3 : j < (tl s).length := by rw [tl_length]; exact h
 rw [getElem!_pos s.data j h2]
 rw [at8, List.getD, List.getElem?_eq_getElem h3]; rfl
theorem last_spec (s : ByteArray) : (Lib.lastIndexByte s 47 = -1 ∧ lastP (tl s) = tl s) ∨ ∃ i : Nat, i < s.size ∧ Lib.lastIndexByte s 47 = i ∧ lastP (tl s) = (tl s).drop (i + 1) := by
 have hno : ∀ (k : Nat), (∀ j, k ≤ j → j < s.size → ((s.data[j]!).toNat : Int) ≠ 47) → ∀ c ∈ (tl s).drop k, c ≠ 47 := by
  intro k hk c hc hc7
  obtain ⟨j, hj, rfl⟩ := List.mem_iff_getElem.1 hc
  rw [List.length_drop, tl_length] at hj
  have := hk (k + j) (by omega) (by omega)
  rw [data_at s (k + j) (by omega)] at this
  rw [List.getElem_drop] at hc7
  apply this
  have e : at8 (tl s) (k + j) = 47 := by
   rw [← hc7, at8, List.getD, List.getElem?_eq_getElem (by rw [tl_length]; omega)]; rfl
  rw [e]; rfl
 rcases Lib.lastIndexByte_spec s 47 with ⟨h, hn⟩ | ⟨i, hi, h, h7, hn⟩
 · exact .inl ⟨h, lastP_one (Rf.pieces_no _ (fun c hc => hno 0 (fun j _ hj => hn j hj) c (by simpa using hc)))⟩
 · refine .inr ⟨i, hi, h, ?_⟩
   have hl : i < (tl s).length := by rw [tl_length]; exact hi
   have e7 : (tl s)[i] = 47 := by
    rw [data_at s i hi] at h7
    have : at8 (tl s) i = 47 := UInt8.toNat_inj.1 (by show _ = 47; omega)
    rw [← this, at8, List.getD, List.getElem?_eq_getElem hl]; rfl
   have hs : tl s = (tl s).take i ++ 47 :: (tl s).drop (i + 1) := by
    conv => lhs; rw [← List.take_append_drop i (tl s), List.drop_eq_getElem_cons hl, e7]
   have hp := pieces_snoc ((tl s).take i) ((tl s).drop (i + 1)) (hno (i + 1) (fun j h1 h2 => hn j (by omega) h2))
   rw [← hs] at hp
   exact lastP_two hp
theorem lastIdx_any (s : ByteArray) (w : World) (hs : s.size ≤ 4000) :
 Calls Tryz.prog 125 #[.string s, .int .u8 47] w fun e w' => e = .returned (.int .i64 (Lib.lastIndexByte s 47)) ∧ w = w' :=
 (Tryz.strings_LastIndexByte s 47 (by omega) w).mono fun _ _ ⟨a, b⟩ => ⟨a, b.symm⟩
set_option maxHeartbeats 400000 in
theorem last_any (s : ByteArray) (w : World) (hs : s.size ≤ 4000) :
 Calls Tryz.prog 76 #[.string s] w fun e w' => e = .returned (.string (ba (lastP (tl s)))) ∧ w = w' := by
 have HC := hid (fun W => lastIdx_any s W hs)
 rcases last_spec s with ⟨h1, h2⟩ | ⟨i, hi, h1, h2⟩
 · have HV : Hid (ba (lastP (tl s)) = s) := by show _ = _; rw [h2, ba_tl]
   rw [h1] at HC
   clear h1 h2
   go_enter Tryz.func76, Tryz.ntmps76
   go_wp2_with (go_at_call 125; refine (HC.out _).mono ?_; rintro e1 w1 ⟨rfl, rfl⟩)
   go_ret
   exact ⟨ret_str (by rw [HV.out]), rfl⟩
 · have HV : Hid (ba (lastP (tl s)) = s.extract (i + 1) s.size) := by show _ = _; rw [h2, ba_drop]
   have hi2 : ((i + 1 : Nat) : Int) ≤ (s.size : Int) := by omega
   rw [h1] at HC
   clear h1 h2
   go_enter Tryz.func76, Tryz.ntmps76
   go_wp2_with (go_at_call 125; refine (HC.out _).mono ?_; rintro e1 w1 ⟨rfl, rfl⟩)
   go_ret
   exact ⟨ret_str (by rw [HV.out]), rfl⟩
def isTempB (l : List UInt8) : Bool := [126, 116, 126].isPrefixOf (lastP l)
set_option maxHeartbeats 400000 in
theorem isTemp_any (s : ByteArray) (w : World) (hs : s.size ≤ 4000) :
 Calls Tryz.prog 33 #[.string s] w fun e w' => e = .returned (.bool (isTempB (tl s))) ∧ w = w' := by
 obtain ⟨r, HR⟩ : ∃ r, Hid (ba (lastP (tl s)) = r) := ⟨_, rfl⟩
 have HC : Hid (∀ W, Calls Tryz.prog 76 #[.string s] W fun e w' => e = .returned (.string r) ∧ W = w') := by intro W; rw [← HR.out]; exact last_any s W hs
 go_enter Tryz.func33, Tryz.ntmps33
 go_wp2_with fail
 refine (HC.out _).mono ?_; rintro e1 w1 ⟨rfl, rfl⟩
 go_wp2_with fail
 refine (hasPrefix_s r _ _).mono ?_; rintro e2 w2 ⟨rfl, rfl⟩
 go_wp2
 go_ret
 exact ⟨ret_bool (by rw [isTempB, ← HR.out]; rfl), rfl⟩
end Go.Proofs.YtahkcemdbfjilaaGreatDoor
namespace Go.Proofs.YtahkcemdbfjilaaGreatDoor
def inL (L : Tr) (root : By) : Tr := L.filterMap fun x => if (root ++ [47]).isPrefixOf x.1 then some (x.1.drop (root.length + 1), x.2) else none
theorem pre_form {d q : By} : (d ++ [47]).isPrefixOf q = true ↔ q = d ++ 47 :: q.drop (d.length + 1) := by
 constructor
 · intro h
   obtain ⟨s, hs⟩ := List.isPrefixOf_iff_prefix.1 h
   have e : q = d ++ 47 :: s := by rw [← hs]; simp
   have e2 : (d ++ 47 :: s).drop (d.length + 1) = s := by
    rw [show d ++ 47 :: s = (d ++ [47]) ++ s by simp]
    exact List.drop_left' (by simp)
   rw [e, e2]
 · intro h
   rw [h]; exact prefix_join _ _
theorem drop_behind (d s : By) : (d ++ 47 :: s).drop (d.length + 1) = s := by
 rw [show d ++ 47 :: s = (d ++ [47]) ++ s by simp]
 exact List.drop_left' (by simp)
theorem inL_cons (q : By) (n : Nd) (L : Tr) (root : By) : inL ((q, n) :: L) root = if (root ++ [47]).isPrefixOf q then (q.drop (root.length + 1), n) :: inL L root else inL L root := by
 unfold inL
 rw [List.filterMap_cons]
 by_cases h : (root ++ [47]).isPrefixOf q = true
 · simp only [h, if_true]
 · simp only [h]; simp
theorem look_in (L : Tr) (root p : By) : look (inL L root) p = look L (root ++ 47 :: p) := by
 induction L with
 | nil => rfl
 | cons a L ih =>
  obtain ⟨q, n⟩ := a
  rw [inL_cons, look]
  by_cases h : (root ++ [47]).isPrefixOf q = true
  · have e := pre_form.1 h
    rw [if_pos h, look, ih]
    by_cases k : q.drop (root.length + 1) = p
    · rw [if_pos k, if_pos (by rw [e, k])]
    · rw [if_neg k, if_neg]
      intro e2
      rw [e2, drop_behind] at k
      exact k rfl
  · rw [if_neg h, ih, if_neg]
    rintro rfl
    exact h (prefix_join _ _)
theorem cmpL_left (d a b : By) : cmpL (d ++ a) (d ++ b) = cmpL a b := by
 induction d with
 | nil => rfl
 | cons c d ih => rw [List.cons_append, List.cons_append, cmpL, if_pos rfl, ih]
theorem mem_in {L : Tr} {root : By} {x : By × Nd} : x ∈ inL L root ↔ (root ++ 47 :: x.1, x.2) ∈ L := by
 unfold inL
 rw [List.mem_filterMap]
 constructor
 · rintro ⟨y, hy, h⟩
   split at h
   · rename_i hp
     injection h with h
     have e := pre_form.1 hp
     rw [← h]; rw [← e]; exact hy
   · cases h
 · intro h
   refine ⟨_, h, ?_⟩
   rw [if_pos (prefix_join _ _)]
   simp only [drop_behind]
theorem srt_in {L : Tr} (h : Srt L) (root : By) : Srt (inL L root) := by
 induction L with
 | nil => exact List.Pairwise.nil
 | cons a L ih =>
  obtain ⟨q, n⟩ := a
  obtain ⟨h1, h2⟩ := List.pairwise_cons.1 h
  rw [inL_cons]
  split
  · rename_i hp
    refine List.pairwise_cons.2 ⟨fun y hy => ?_, ih h2⟩
    have := h1 _ (mem_in.1 hy)
    rw [pre_form.1 hp] at this
    simp only at this
    rw [cmpL_left, cmpL, if_pos rfl] at this
    exact this
  · exact ih h2
theorem used_in (L : Tr) (root : By) : usedL (inL L root) ≤ usedL L := by
 induction L with
 | nil => exact Nat.le_refl _
 | cons a L ih =>
  obtain ⟨q, n⟩ := a
  rw [inL_cons]
  split
  · rw [usedL, usedL]; omega
  · rw [usedL]; omega
theorem len_in (L : Tr) (root : By) : (inL L root).length ≤ L.length := List.length_filterMap_le _ _
theorem pieces_join (d r : By) : pieces (d ++ 47 :: r) = pieces d ++ pieces r := by
 induction d with
 | nil => show pieces (47 :: r) = [] :: pieces r; rw [pieces, if_pos rfl]
 | cons c d ih =>
  rw [List.cons_append, pieces, pieces, ih]
  by_cases hc : c = 47
  · rw [if_pos hc, if_pos hc]; rfl
  · rw [if_neg hc, if_neg hc]
    cases h : pieces d with
    | nil => exact absurd h (pieces_ne d)
    | cons x xs => rfl
theorem pieces_lone (r : By) (h : 47 ∉ r) : pieces r = [r] := by
 induction r with
 | nil => rfl
 | cons c r ih =>
  rw [pieces, if_neg (by rintro rfl; exact h List.mem_cons_self), ih (fun k => h (List.mem_cons_of_mem _ k))]
theorem may_tail {d r : By} (h : mayB (d ++ 47 :: r) = true) : mayB r = true := by
 obtain ⟨h1, h2, h3, h4⟩ := may_parts h
 rw [List.length_append, List.length_cons] at h1
 rw [pieces_join, List.length_append] at h2
 rw [pieces_join, List.all_append] at h3
 simp only [Bool.and_eq_true] at h3
 refine may_of (by omega) (by omega) h3.2 ?_
 rw [ahead_behind] at h4
 split at h4
 · rw [List.length_append, List.length_cons] at h4; omega
 · rename_i hm
   rw [aheadL_one (pieces_lone r hm)]; exact Nat.zero_le _
theorem in_wft {room : Nat} {L : Tr} (h : WFT room L) (root : By) : WFT room (inL L root) where
 srt := srt_in h.srt root
 may p hp := by rw [look_in] at hp; exact may_tail (h.may _ hp)
 kind p n hp := by rw [look_in] at hp; exact h.kind _ n hp
 par p hp := by
  rw [look_in] at hp
  have k := h.par _ hp
  rw [ahead_behind] at k
  unfold kindP
  by_cases hm : 47 ∈ p
  · rw [if_pos hm] at k
    unfold kindP at k
    rw [if_neg (by simp)] at k
    rw [look_in]
    split
    · rfl
    · exact k
  · rw [aheadL_one (pieces_lone p hm), if_pos rfl]
 used := Nat.le_trans (used_in L root) h.used
def DG (L : Tr) : Prop := ∀ p n, look L p = some n → n.kind ≠ 1 → n.data = []
theorem DG.nil : DG [] := fun p n h => by cases h
theorem DG.inR {L : Tr} (h : DG L) (root : By) : DG (inL L root) := fun p n hp => by rw [look_in] at hp; exact h _ n hp
theorem DG.ins {L : Tr} (h : DG L) (p : By) {n : Nd} (hn : n.kind ≠ 1 → n.data = []) : DG (ins p n L) := by
 intro q m hq hk
 rw [look_ins] at hq
 split at hq
 · injection hq with hq; subst hq; exact hn hk
 · exact h q m hq hk
theorem DG.put {L : Tr} (h : DG L) (room : Nat) (p : By) {n : Nd} (hn : n.kind ≠ 1 → n.data = []) : DG (putE room L p n).2 := by
 unfold putE; split
 · exact h.ins p hn
 · exact h
theorem DG.add {L : Tr} (h : DG L) (room : Nat) (p : By) {n : Nd} (hn : n.kind ≠ 1 → n.data = []) : DG (addE room L p n).2 := by
 unfold addE; split
 · split
   · exact h
   · exact h.put room p hn
 · exact h
structure Fnd where
 items : Tr
 temps : List By
 ign : List By
 bad : List By
def badN (n : Nd) : Bool := decide (4096 < n.data.length)
def skipB (over p : By) : Bool := !decide (over = []) && withinB p over
def stepW (ig : By → Bool) (s : Fnd × By) (x : By × Nd) : Fnd × By :=
 if skipB s.2 x.1 then s
 else if isTempB x.1 then (⟨s.1.items, s.1.temps ++ [x.1], s.1.ign, s.1.bad⟩, x.1)
 else if ig x.1 then (⟨s.1.items, s.1.temps, s.1.ign ++ [x.1], s.1.bad⟩, x.1)
 else if badN x.2 then (⟨s.1.items, s.1.temps, s.1.ign, s.1.bad ++ [x.1]⟩, s.2)
 else (⟨s.1.items ++ [x], s.1.temps, s.1.ign, s.1.bad⟩, s.2)
def walkS (ig : By → Bool) (l : Tr) : Fnd × By := l.foldl (stepW ig) (⟨[], [], [], []⟩, [])
def walkF (ig : By → Bool) (l : Tr) : Fnd := (walkS ig l).1
theorem walkS_snoc (ig : By → Bool) (l : Tr) (x : By × Nd) : walkS ig (l ++ [x]) = stepW ig (walkS ig l) x := by
 unfold walkS; rw [List.foldl_append]; rfl
def whyB (ig : By → Bool) (x : By × Nd) : Nat := if isTempB x.1 then 1 else if ig x.1 then 2 else if badN x.2 then 3 else 0
def overB (ig : By → Bool) (l : Tr) (p : By) : Bool := l.any fun q => withinB p q.1 && decide (whyB ig q ≠ 0)
def partF (ig : By → Bool) (l k : Tr) (y : Nat) : Tr := k.filter fun x => !overB ig l x.1 && decide (whyB ig x = y)
def fndF (ig : By → Bool) (l k : Tr) : Fnd := ⟨partF ig l k 0, (partF ig l k 1).map (·.1), (partF ig l k 2).map (·.1), (partF ig l k 3).map (·.1)⟩
theorem within_trans {a b c : By} (ha : mayB a = true) (hc : mayB c = true) (hb : mayB b = true) (h1 : withinB a b = true) (h2 : withinB b c = true) : withinB a c = true := by
 obtain ⟨r, rfl⟩ := withinB_yes hb h1
 obtain ⟨s, rfl⟩ := withinB_yes hc h2
 exact withinB_mk ha hc ⟨s ++ 47 :: r, by simp⟩
theorem partF_snoc (ig : By → Bool) (l k : Tr) (x : By × Nd) (y : Nat) : partF ig l (k ++ [x]) y = partF ig l k y ++ (if (!overB ig l x.1 && decide (whyB ig x = y)) = true then [x] else []) := by
 unfold partF
 rw [List.filter_append]
 congr 1
 rw [List.filter_cons, List.filter_nil]
section
variable {room : Nat} {l : Tr} (hW : WFT room l) (hD : DG l) (ig : By → Bool)
include hW
theorem mem_may {x : By × Nd} (hx : x ∈ l) : mayB x.1 = true := hW.may _ (by rw [mem_look hW.srt hx]; rfl)
theorem over_ahead {pre rest : Tr} {x : By × Nd} (he : l = pre ++ x :: rest) : overB ig l x.1 = pre.any fun q => withinB x.1 q.1 && decide (whyB ig q ≠ 0) := by
 have hx := mem_may hW (x := x) (by rw [he]; simp)
 have hno : ∀ q ∈ x :: rest, withinB x.1 q.1 = false := by
  intro q hq
  cases hw : withinB x.1 q.1 with
  | false => rfl
  | true =>
   exfalso
   have hqm := mem_may hW (x := q) (by rw [he]; exact List.mem_append_right _ hq)
   obtain ⟨r, hr⟩ := withinB_yes hqm hw
   have h1 : cmpL q.1 x.1 = -1 := by rw [hr]; exact cmpL_within _ _
   rcases List.mem_cons.1 hq with e | e
   · rw [e, cmpL_self] at h1; cases h1
   · have hs := hW.srt
     rw [he] at hs
     have h2 := (List.pairwise_cons.1 (List.pairwise_append.1 hs).2.1).1 q e
     rw [cmpL_neg, h2] at h1; cases h1
 unfold overB
 conv => lhs; rw [he]
 rw [List.any_append]
 have : (x :: rest).any (fun q => withinB x.1 q.1 && decide (whyB ig q ≠ 0)) = false := by
  rw [List.any_eq_false]
  intro q hq
  rw [hno q hq]; simp
 rw [this, Bool.or_false]
include hD
theorem bad_file {x y : By × Nd} (hx : x ∈ l) (hy : y ∈ l) (hb : badN x.2 = true) : withinB y.1 x.1 = false := by
 cases hw : withinB y.1 x.1 with
 | false => rfl
 | true =>
  exfalso
  have hxm := mem_may hW hx
  obtain ⟨r, hr⟩ := withinB_yes hxm hw
  have ly := mem_look hW.srt hy
  rw [hr] at ly
  have hk := hW.anc x.1 _ r (Nat.le_refl _) (by rw [ly]; rfl)
  have lx := mem_look hW.srt hx
  unfold kindP at hk
  rw [if_neg (may_ne hxm), lx] at hk
  have := hD _ _ lx (by simp only at hk; omega)
  unfold badN at hb
  rw [this] at hb
  simp at hb
structure Keep (pre rest : Tr) (s : Fnd × By) : Prop where
 f : s.1 = fndF ig l pre
 o : s.2 = [] ∨ ∃ q ∈ pre, q.1 = s.2
 k : ∀ x ∈ rest, (pre.any fun q => withinB x.1 q.1 && decide (whyB ig q ≠ 0)) = skipB s.2 x.1
theorem keep_step {pre rest : Tr} {x : By × Nd} (he : l = pre ++ x :: rest) {s : Fnd × By} (h : Keep (l := l) ig pre (x :: rest) s) : Keep (l := l) ig (pre ++ [x]) rest (stepW ig s x) := by
 obtain ⟨f, over⟩ := s
 obtain ⟨hf, ho, hk⟩ := h
 simp only at hf ho hk
 have hx : x ∈ l := by rw [he]; simp
 have hxm := mem_may hW hx
 have hov : overB ig l x.1 = skipB over x.1 := (over_ahead hW ig he).trans (hk x List.mem_cons_self)
 have hany : ∀ y : By × Nd, ((pre ++ [x]).any fun q => withinB y.1 q.1 && decide (whyB ig q ≠ 0)) = ((pre.any fun q => withinB y.1 q.1 && decide (whyB ig q ≠ 0)) || (withinB y.1 x.1 && decide (whyB ig x ≠ 0))) := fun y => by
  rw [List.any_append]; simp
 have hrl : ∀ y ∈ rest, y ∈ l := fun y hy => by rw [he]; simp [hy]
 have hF : fndF ig l (pre ++ [x]) = ⟨f.items ++ (if (!overB ig l x.1 && decide (whyB ig x = 0)) = true then [x] else []), f.temps ++ (if (!overB ig l x.1 && decide (whyB ig x = 1)) = true then [x] else []).map (·.1),
  f.ign ++ (if (!overB ig l x.1 && decide (whyB ig x = 2)) = true then [x] else []).map (·.1), f.bad ++ (if (!overB ig l x.1 && decide (whyB ig x = 3)) = true then [x] else []).map (·.1)⟩ := by
  rw [hf]
  unfold fndF
  simp only [partF_snoc, List.map_append]
 have hom : ∀ {o : By}, (o = [] ∨ ∃ q ∈ pre, q.1 = o) → o = [] ∨ ∃ q ∈ pre ++ [x], q.1 = o := by
  rintro o (e | ⟨q, hq, e⟩)
  · exact .inl e
  · exact .inr ⟨q, List.mem_append_left _ hq, e⟩
 unfold stepW
 simp only
 cases hs : skipB over x.1 with
 | true =>
  rw [if_pos rfl]
  rw [hs] at hov
  refine ⟨?_, hom ho, fun y hy => ?_⟩
  · rw [hF, hov]; simp
  · rw [hany, hk y (List.mem_cons_of_mem _ hy)]
    cases hw : withinB y.1 x.1 with
    | false => simp
    | true =>
     have : skipB over y.1 = true := by
      unfold skipB at hs ⊢
      simp only [Bool.and_eq_true, Bool.not_eq_true', decide_eq_false_iff_not] at hs ⊢
      rcases ho with e | ⟨q, hq, e⟩
      · exact absurd e hs.1
      · have hom2 : mayB over = true := by rw [← e]; exact mem_may hW (by rw [he]; exact List.mem_append_left _ hq)
        exact ⟨hs.1, within_trans (mem_may hW (hrl y hy)) hom2 hxm hw hs.2⟩
     rw [this]; simp
 | false =>
  rw [hs] at hov
  rw [if_neg (by simp)]
  -- a path that is passed over now, and is no bad file, is what was passed over last
  have hnew : whyB ig x ≠ 0 → ∀ y ∈ rest, ((pre ++ [x]).any fun q => withinB y.1 q.1 && decide (whyB ig q ≠ 0)) = skipB x.1 y.1 := by
   intro hw0 y hy
   rw [hany, hk y (List.mem_cons_of_mem _ hy)]
   have e1 : skipB x.1 y.1 = withinB y.1 x.1 := by
    unfold skipB; rw [decide_eq_false (may_ne hxm)]; rfl
   rw [e1, decide_eq_true hw0, Bool.and_true]
   cases hsk : skipB over y.1 with
   | false => rfl
   | true =>
    exfalso
    unfold skipB at hsk hs
    simp only [Bool.and_eq_true, Bool.not_eq_true', decide_eq_false_iff_not] at hsk
    rw [decide_eq_false hsk.1] at hs
    simp only [Bool.not_false, Bool.true_and] at hs
    rcases ho with e | ⟨q, hq, e⟩
    · exact hsk.1 e
    · have hom2 : mayB over = true := by rw [← e]; exact mem_may hW (by rw [he]; exact List.mem_append_left _ hq)
      obtain ⟨r, hr⟩ := withinB_yes hom2 hsk.2
      have hsl := hW.srt
      rw [he] at hsl
      have c1 : cmpL over x.1 = -1 := by rw [← e]; exact (List.pairwise_append.1 hsl).2.2 q hq x List.mem_cons_self
      have c2 : cmpL x.1 y.1 = -1 := (List.pairwise_cons.1 (List.pairwise_append.1 hsl).2.1).1 y hy
      rw [hr] at c2
      have := withinB_mk hxm hom2 (cmpL_between over x.1 r c1 c2)
      rw [this] at hs; cases hs
  have hsame : (∀ y ∈ rest, (withinB y.1 x.1 && decide (whyB ig x ≠ 0)) = false) → ∀ y ∈ rest, ((pre ++ [x]).any fun q => withinB y.1 q.1 && decide (whyB ig q ≠ 0)) = skipB over y.1 := by
   intro hz y hy
   rw [hany, hk y (List.mem_cons_of_mem _ hy), hz y hy, Bool.or_false]
  by_cases ht : isTempB x.1 = true
  · have hy1 : whyB ig x = 1 := by unfold whyB; rw [if_pos ht]
    rw [if_pos ht]
    refine ⟨?_, .inr ⟨x, List.mem_append_right _ List.mem_cons_self, rfl⟩, hnew (by omega)⟩
    rw [hF, hov, hy1]; simp
  · rw [if_neg ht]
    by_cases hi : ig x.1 = true
    · have hy2 : whyB ig x = 2 := by unfold whyB; rw [if_neg ht, if_pos hi]
      rw [if_pos hi]
      refine ⟨?_, .inr ⟨x, List.mem_append_right _ List.mem_cons_self, rfl⟩, hnew (by omega)⟩
      rw [hF, hov, hy2]; simp
    · rw [if_neg hi]
      by_cases hb : badN x.2 = true
      · have hy3 : whyB ig x = 3 := by unfold whyB; rw [if_neg ht, if_neg hi, if_pos hb]
        rw [if_pos hb]
        refine ⟨?_, hom ho, hsame fun y hy => ?_⟩
        · rw [hF, hov, hy3]; simp
        · rw [bad_file hW hD hx (hrl y hy) hb, Bool.false_and]
      · have hy0 : whyB ig x = 0 := by unfold whyB; rw [if_neg ht, if_neg hi, if_neg hb]
        rw [if_neg hb]
        refine ⟨?_, hom ho, hsame fun y hy => ?_⟩
        · rw [hF, hov, hy0]; simp
        · rw [hy0]; simp
theorem keep_all : ∀ (rest pre : Tr), l = pre ++ rest → ∀ s, Keep (l := l) ig pre rest s → (rest.foldl (stepW ig) s).1 = fndF ig l l
 | [], pre, he, s, h => by
  have := h.f
  rw [show pre = l by rw [he]; simp] at this
  exact this
 | x :: rest, pre, he, s, h => by
  rw [List.foldl_cons]
  exact keep_all rest (pre ++ [x]) (by rw [he]; simp) _ (keep_step hW hD ig he h)
theorem walk_is : walkF ig l = fndF ig l l := by
 unfold walkF walkS
 exact keep_all hW hD ig l [] rfl _ ⟨rfl, .inl rfl, fun y _ => by simp [skipB]⟩
end
end Go.Proofs.YtahkcemdbfjilaaGreatDoor
namespace Go.Proofs.YtahkcemdbfjilaaGreatDoor
open Go.RowKit Go.Maps
theorem since_do (M : Mo) (y : Eff) : (doM M y).2.since.length ≤ M.since.length + 1 := by
 unfold doM; split
 · exact Nat.le_succ _
 · split
   · simp
   · exact Nat.le_succ _
end Go.Proofs.YtahkcemdbfjilaaGreatDoor
namespace Go.Proofs.YtahkcemdbfjilaaGreatDoor
open Go.RowKit Go.Maps
theorem step_append_run {P : Program} {ops : Array Oper} {o : Oper} {a : Act} {w : World} {K : Act → World → Prop} {Q : Exit → Act → World → Prop} {E : Prop}
 (hw : Region.wanted o (yielded ops a.tmps) = true) (s x : Operand) (t tn : TypeId) (ho : o.op = .call { callee := .builtin .append, args := #[s, x], argTypes := #[t, tn] })
 (vs vx : Value) (hs : a.eval s = vs) (hx : a.eval x = vx) {v' : Value} {w' : World} (hr : (Builtin.append_ #[t, tn] o.type #[vs, vx]).run P w = .ok v' w') (h : K (a.put o.dst v') w') :
 if Region.wanted o (yielded ops a.tmps) = true then Oper.wp P o a w K Q else E := by
 rw [if_pos hw]
 unfold Oper.wp execOp
 simp only [ho, hs, hx, resolve, invoke, builtin, Sem.run_bind, Sem.run_pure, Result.andThen_ok, List.map_toArray, List.map_cons, List.map_nil, hr]
 exact h
theorem rem_nat (a b : Nat) : (a : Int).tmod (b : Int) = ((a % b : Nat) : Int) := by
 rw [Int.tmod_eq_emod_of_nonneg (by omega)]; rfl
theorem yields_loadA {ops : Array Oper} {S : World → Prop} {o : Oper} {a : Act} (hw : Region.wanted o (yielded ops a.tmps) = true) (ty : TypeId) (x : Operand) (ho : o.op = .load ty x) (g off : Nat) (hx : a.eval x = .pointer (some ⟨g, off, none⟩)) (cs : Array Value)
 (hS : ∀ w, S w → (loadVar ty ⟨g, off, none⟩).run Tryz.prog w = .ok (.agg cs) w) : YieldsIf Tryz.prog ops S o (.agg cs) a :=
 .inl ⟨hw, fun w hw' => by
  unfold execOp
  simp only [ho, hx, Instr.loadAt, Instr.sureAddr, Sem.run_bind, Sem.run_pure, Result.andThen_ok, hS w hw']⟩
theorem used_take {L : Tr} {k : Nat} (hk : k < L.length) : usedL (L.take (k + 1)) = usedL (L.take k) + useN L[k].2 := by
 induction L generalizing k with
 | nil => simp at hk
 | cons x L ih =>
  obtain ⟨p, n⟩ := x
  cases k with
  | zero => simp [usedL]
  | succ k =>
   have := ih (k := k) (by simpa using hk)
   simp only [List.take_succ_cons, usedL, List.getElem_cons_succ, this]; omega
theorem used_take_le (L : Tr) (k : Nat) : usedL (L.take k) ≤ usedL L := by
 induction L generalizing k with
 | nil => simp [usedL]
 | cons x L ih =>
  obtain ⟨p, n⟩ := x
  cases k with
  | zero => simp [usedL]
  | succ k => have := ih k; simp only [List.take_succ_cons, usedL]; omega
end Go.Proofs.YtahkcemdbfjilaaGreatDoor
namespace Go.RowKit
theorem Below.drewG {B : Nat} {a w : World} (h : Below B a w) (n : Nat) : Below B a (w.drewN n) := ⟨h.os, h.tape, h.output, h.size, h.block⟩
theorem Below.rowG {B : Nat} {a w : World} (h : Below B a w) {g : Nat} (hg : B ≤ g) (cs : Array Value) : Below B a (w.setRow g cs) :=
 h.trans ⟨rfl, rfl, rfl, by simp, fun k hk => setRow_other w g k cs (by omega)⟩
theorem Below.thenG {a w w' : World} (h : Below a.heap.size a w) (h2 : Below w.heap.size w w') : Below a.heap.size a w' := h.trans (h2.mono h.size)
end Go.RowKit
namespace Go.Proofs.YtahkcemdbfjilaaGreatDoor.Glob
open Go.RowKit
theorem hid {p : Prop} (h : p) : Hid p := h
abbrev By := List UInt8
def b8 (x : UInt8) : Int := (x.toNat : Int)
theorem b8_inj {x y : UInt8} (h : b8 x = b8 y) : x = y := UInt8.toNat_inj.1 (by unfold b8 at h; omega)
theorem b8_eq (x y : UInt8) : (b8 x == b8 y) = (x == y) := by
 rw [Bool.eq_iff_iff]; simp only [beq_iff_eq]; exact ⟨b8_inj, fun h => by rw [h]⟩
abbrev tl (s : ByteArray) : By := s.data.toList
def ba (l : By) : ByteArray := ⟨l.toArray⟩
theorem tl_ba (l : By) : tl (ba l) = l := rfl
theorem tl_length (s : ByteArray) : (tl s).length = s.size := by simp [tl]
theorem ba_size (l : By) : (ba l).size = l.length := by rw [← tl_length]; rfl
theorem ba_inj {a b : By} (h : ba a = ba b) : a = b := by have := congrArg tl h; simpa [tl_ba] using this
theorem ba_take (s : By) (k : Nat) : (ba s).extract 0 k = ba (s.take k) := by
 apply ByteArray.ext; apply Array.ext'; simp [ba]
theorem ba_drop (s : By) (k : Nat) : (ba s).extract k s.length = ba (s.drop k) := by
 apply ByteArray.ext; apply Array.ext'; simp [ba]
 rw [List.take_of_length_le]; simp
def at8 (l : By) (i : Nat) : UInt8 := l.getD i 0
theorem index_str (s : By) (i : Nat) (h : i < s.length) (w : World) : (Instr.index 9 (.string (ba s)) (.int .i64 (i : Int))).run Tryz.prog w = .ok (.int .u8 (b8 (at8 s i))) w := by
 have hsz := ba_size s
 rw [run_index_string (P := Tryz.prog) w 9 (ba s) .i64 (i : Int) Tryz.underlying9, dif_pos ⟨by omega, by omega⟩]
 have : (ba s)[(i : Int).toNat]'(by rw [hsz]; simpa using h) = at8 s i := by
  have h2 : i < s.length := by simpa using h
  show (ba s)[i] = _
  simp only [at8, List.getD, List.getElem?_eq_getElem h2, Option.getD_some]
  rfl
 rw [this]; rfl
def Has (w : World) (g : Nat) (t : TypeId) (cs : Array Value) : Prop := w.heap[g]? = some (.cells cs t (0, 0))
section
variable {w w' : World} {g : Nat} {t : TypeId} {cs : Array Value}
theorem Has.inside (h : Has w g t cs) : g < w.heap.size := by
 unfold Has at h
 exact (Array.getElem?_eq_some_iff.1 h).1
theorem Has.at_ (h : Has w g t cs) (i : Nat) : w.cell? ⟨g, i, none⟩ = cs[i]? := cell_of_row w g i cs t (0, 0) h
theorem Has.free (h : Has w g t cs) (i : Nat) : w.frozen? ⟨g, i, none⟩ = false := by
 unfold Has at h
 simp [World.frozen?, h]
theorem Has.fresh (w : World) (t : TypeId) (cs : Array Value) : Has (w.alloc (.cells cs t)) w.heap.size t cs := heap_alloc_new w _
theorem Has.fresh' (w : World) (t : TypeId) (cs : Array Value) {g : Nat} (hg : g = w.heap.size) : Has (w.alloc (.cells cs t)) g t cs := by subst hg; exact Has.fresh w t cs
theorem Has.drawn (h : Has w g t cs) (n : Nat) : Has (w.drewN n) g t cs := h
theorem Has.more (h : Has w g t cs) (o : Obj) : Has (w.alloc o) g t cs := (Below.heap_alloc w o g h.inside).trans h
theorem Has.put (h : Has w g t cs) (i : Nat) (v : Value) : Has (w.setCell ⟨g, i, none⟩ v) g t (cs.setIfInBounds i v) := by
 unfold Has at h ⊢
 simp [World.setCell, Array.getElem?_modify, h]
theorem Has.other (h : Has w g t cs) {p : Addr} (hp : g ≠ p.block) (v : Value) : Has (w.setCell p v) g t cs := (Below.heap_setCell w p v g hp).trans h
theorem Has.kept {B : Nat} (h : Has w g t cs) (hb : Below B w w') (hg : g < B) : Has w' g t cs := (hb.block g hg).trans h
theorem Has.stays (h : Has w g t cs) (hb : Below w.heap.size w w') : Has w' g t cs := h.kept hb h.inside
theorem Has.row {cs' : Array Value} (h : Has w g t cs) : Has (w.setRow g cs') g t cs' := setRow_heap w g cs cs' t (0, 0) h
theorem Has.rowOther {g' : Nat} {cs' : Array Value} (h : Has w g t cs) (hg : g ≠ g') : Has (w.setRow g' cs') g t cs := (setRow_other w g' g cs' hg).trans h
end
theorem ret_bool {a b : Bool} (h : a = b) : Ending.returned (.bool a) = .returned (.bool b) := by rw [h]
end Go.Proofs.YtahkcemdbfjilaaGreatDoor.Glob
