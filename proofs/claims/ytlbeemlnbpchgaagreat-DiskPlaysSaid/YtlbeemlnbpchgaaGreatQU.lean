/- Several texts in one: TL, YS, YE. Conditions: those said at each. -/
import Derived.Test.YtlbeemlnbpchgaaGreatQK
import Derived.Test.YtlbeemlnbpchgaaGreatQO
import Derived.Laws.CopyOwn
import Derived.Test.YtlbeemlnbpchgaaGreatQP
import Derived.Deep.DeepCutAuto
/- Disk.List: the names in a directory, in the order of their bytes. Conditions: as at the disk; paths of at most 4000 bytes. -/
namespace Go.Proofs.YtlbeemlnbpchgaaGreat
open Go.RowKit Go.Maps Go.Lib Go.Sort
def flatB (r : By) : Bool := !decide (0 ≤ Lib.indexByte r 47)
theorem flat_iff (r : By) : flatB r = true ↔ 47 ∉ r := by
  unfold flatB
  have h : (0 ≤ Lib.indexByte r 47) ↔ 47 ∈ r := by
    induction r with
    | nil => simp [Lib.indexByte]
    | cons c r ih =>
      have hg := Lib.indexByte_ge r 47
      rw [Lib.indexByte]
      by_cases hc : c = 47
      · simp [hc]
      · have e1 : (c == 47) = false := by simpa using hc
        have e2 : ¬ 47 = c := fun e => hc e.symm
        rw [e1, List.mem_cons]
        by_cases hn : Lib.indexByte r 47 = -1
        · have h0 : ¬ 47 ∈ r := fun k => by have := ih.2 k; omega
          simp [hn, e2, h0]
        · have h0 : 47 ∈ r := ih.1 (by omega)
          have e3 : (Lib.indexByte r 47 == -1) = false := by simpa using hn
          simp [e3, h0]; omega
  simp [h]
def childL (L : Tr) (p : By) : List By := (innerL L p).filter flatB
def sortL (xs : List By) : List By := xs.mergeSort fun x y => decide (x ≤ y)
def listM (L : Tr) (p : By) : List By × Int := if (!decide (p = []) && !mayB p) = true then ([], 10) else if noDirE L p = 0 then (sortL (childL L p), 0) else ([], noDirE L p)
theorem sortL_perm {xs ys : List By} (h : xs.Perm ys) : sortL xs = sortL ys := by
  have tr : ∀ a b c : By, decide (a ≤ b) = true → decide (b ≤ c) = true → decide (a ≤ c) = true := fun a b c h1 h2 => by
    simp only [decide_eq_true_eq] at *; exact List.le_trans h1 h2
  have tot : ∀ a b : By, (decide (a ≤ b) || decide (b ≤ a)) = true := fun a b => by
    simp only [Bool.or_eq_true, decide_eq_true_eq]; exact List.le_total a b
  refine List.Perm.eq_of_pairwise (le := fun a b : By => decide (a ≤ b) = true) (fun a b _ _ h1 h2 => ?_) (List.pairwise_mergeSort tr tot xs) (List.pairwise_mergeSort tr tot ys) (((List.mergeSort_perm xs _).trans h).trans (List.mergeSort_perm ys _).symm)
  simp only [decide_eq_true_eq] at h1 h2
  exact List.le_antisymm h1 h2
/-- What List answers. -/
def ListP (w : World) (r : List By × Int) (e : Ending) (w' : World) : Prop := ∃ A c g, e = .returned (.tuple #[.slice A (r.1.length : Nat) c, .int .i64 r.2]) ∧ Names w' A g r.1 ∧ Below w.heap.size w w'
theorem ListP.none (w w' : World) (c : Int) (hb : Below w.heap.size w w') : ListP w ([], c) (.returned (.tuple #[.slice none 0 0, .int .i64 c])) w' :=
  ⟨Option.none, 0, 0, rfl, ⟨fun k => absurd k (by simp), fun i k => absurd k (by simp), fun k => absurd k (by simp)⟩, hb⟩
set_option maxRecDepth 100000 in
set_option maxHeartbeats 2000000 in
theorem dListC_any (r : By) (w : World) : Calls Tryz.prog 72 #[kS r] w fun e w' => e = .returned (.bool (!flatB r)) ∧ w' = w := by
  have C := hid (Tryz.strings_Contains_one (ba r) 47 w)
  have HF : Hid ((!flatB r) = decide (0 ≤ Lib.indexByte r 47)) := by show _ = _; unfold flatB; simp
  go_enter Tryz.func72, Tryz.ntmps72
  go_wp2_with fail
  refine C.out.mono ?_; rintro e1 w1 ⟨rfl, rfl⟩
  go_wp2
  go_ret
  exact ⟨by rw [HF.out]; rfl, rfl⟩
theorem putRow_below {α : Type} [Inhabited α] {enc : α → Value} {w0 w : World} {g q B : Nat} {d : Array α} (h : Below B w0 w) (hg : B ≤ g) : Below B w0 (putRow enc (Sort.ahead w q) g 0 d) := below_putRow (enc := enc) (q := q) (d := d) h hg
set_option maxRecDepth 100000 in
set_option maxHeartbeats 4000000 in
/-- slices.DeleteFunc at a row of the call's own. -/
theorem del_any {w0 w : World} {v : Value} {xs : List By} (hb : Below w0.heap.size w0 w) (h : w.ownsRow w0.heap.size 9 1 v xs.length (xs.map kS)) (hn : xs.length ≤ 100000) :
    Calls Tryz.prog 74 #[v, .func (.func 72) #[] #[]] w fun e w' => ∃ v', e = .returned v' ∧ w'.ownsRow w0.heap.size 9 1 v' (xs.filter flatB).length ((xs.filter flatB).map kS) ∧ Below w0.heap.size w0 w' := by
  by_cases hv : v = .slice none 0 0
  · subst hv
    have h0 : xs = [] := by
      rcases h.2 with ⟨_, k2⟩ | ⟨g, c, cur, k1, _⟩
      · exact List.length_eq_zero_iff.1 k2
      · cases k1
    subst h0
    have C := hid (Tryz.slices_IndexFunc_empty (α := By) none 0 (.func (.func 72) #[] #[]) w)
    have HB := hid hb
    have H := hid h
    clear hb h hn
    go_enter Tryz.func74, Tryz.ntmps74
    go_wp2_with fail
    refine C.out.mono ?_; rintro e1 w1 ⟨rfl, rfl⟩
    go_wp2
    go_ret
    exact ⟨_, rfl, H.out, HB.out⟩
  · obtain ⟨g, cap, rfl, g1, g2, g3, g4, g5, hH⟩ := holds_of_ownsRow (enc := kS) h hv
    have hsz : xs.toArray.size = xs.length := by simp
    have hgv : ∀ (W : World) (x : By), FnGives Tryz.prog 72 #[] #[kS x] (.bool (!flatB x)) W := fun W x => (dListC_any x W).mono fun e w' ⟨h1, h2⟩ => ⟨h1, 0, by rw [h2]; rfl⟩
    have := Tryz.slices_DeleteFunc kS (fun _ => rfl) (fun x => !flatB x) 72 #[] (enters_of Tryz.func72 (by kernel_rfl) rfl) ([] : By) (fun w => by kernel_rfl) g 0 cap xs.toArray w (fun W x _ => hgv W x) (fun _ _ _ x _ => hgv _ x) hH (by rw [hsz]; omega) (by rw [hsz]; omega)
    rw [hsz] at this
    simp only [Bool.not_not] at this
    refine this.mono ?_
    rintro e w' ⟨rfl, q, rfl⟩
    have hlen : ((xs.filter flatB) ++ List.replicate (xs.length - (xs.filter flatB).length) ([] : By)).length = xs.length := by
      have := List.length_filter_le flatB xs
      simp; omega
    refine ⟨_, rfl, ?_, putRow_below hb g1⟩
    have hr := ownsRow_putRow (enc := kS) (q := q) (k := (xs.filter flatB).length) (ys := (xs.filter flatB) ++ List.replicate (xs.length - (xs.filter flatB).length) ([] : By)) h hlen (List.length_filter_le _ _)
    rw [List.take_left] at hr
    exact hr
set_option maxRecDepth 100000 in
set_option maxHeartbeats 4000000 in
/-- slices.Sort at a row of the call's own. -/
theorem sortNames_any {w0 w : World} {v : Value} {xs : List By} (hb : Below w0.heap.size w0 w) (h : w.ownsRow w0.heap.size 9 1 v xs.length (xs.map kS)) (hn : xs.length ≤ 100000) :
    Calls Tryz.prog 76 #[v] w fun e w' => e = .returned (.tuple #[]) ∧ w'.ownsRow w0.heap.size 9 1 v (sortL xs).length ((sortL xs).map kS) ∧ Below w0.heap.size w0 w' := by
  by_cases hv : v = .slice none 0 0
  · subst hv
    have h0 : xs = [] := by
      rcases h.2 with ⟨_, k2⟩ | ⟨g, c, cur, k1, _⟩
      · exact List.length_eq_zero_iff.1 k2
      · cases k1
    subst h0
    refine (Tryz.slices_Sort_string_none none 0 w).mono ?_
    rintro e w' ⟨rfl, rfl⟩
    have e0 : sortL [] = [] := List.mergeSort_nil
    rw [e0]
    exact ⟨rfl, h, hb⟩
  · obtain ⟨g, cap, rfl, g1, g2, g3, g4, g5, hH⟩ := holds_of_ownsRow (enc := kS) h hv
    refine (Tryz.slices_Sort_string g 0 cap xs w hH g2 (by omega)).mono ?_
    rintro e w' ⟨rfl, n, os, rfl⟩
    have hml : (sortL xs).length = xs.length := List.length_mergeSort xs
    refine ⟨rfl, ?_, below_sorted (enc := encStr) hb g1 hb.size⟩
    have hr := ownsRow_putRow (enc := kS) (q := n) (k := xs.length) (ys := sortL xs) h hml (Nat.le_refl _)
    rw [List.take_of_length_le (Nat.le_of_eq hml)] at hr
    rw [hml]
    refine row_of hr fun g' hg' => ?_
    have eg : g = g' := by injection hg'
    subst eg
    show ((putRow encStr (Sort.ahead w n) g 0 _).heap ++ os)[g]? = _
    rw [Array.getElem?_append_left]
    · rfl
    have e : ∀ d : Array By, (putRow encStr (Sort.ahead w n) g 0 d).heap.size = w.heap.size := fun d => by simp [putRow, mapBlock, Sort.ahead]
    rw [e]; exact g2
section
variable {own : Nat → Prop} {w : World} {p : Nat} {M : Mo}
set_option maxRecDepth 100000 in
set_option maxHeartbeats 8000000 in
theorem dList_any (h : Dsk own w p M) (hG : Gd w) (s : By) (hs : s.length ≤ 4000) : Calls Tryz.prog 25 #[.pointer (some ⟨p, 0, none⟩), kS s] w fun e w' => ListP w (listM M.now s) e w' := by
  obtain ⟨m1, m2, sv, vs, h⟩ := h
  have C1 := hid (dmade_any (m1 := m1) (h.has.at_ 0))
  have hW := h.good.w1
  have hmay : ∀ q, (look M.now q).isSome → q.length ≤ 4000 := fun q hq => by have := (may_parts (hW.may q hq)).1; omega
  have CN : Hid (∀ W, Below w.heap.size w W → Calls Tryz.prog 71 #[.pointer (some ⟨p, 0, none⟩), kS s] W fun e w' => e = .returned (.int .i64 (noDirE M.now s)) ∧ Below W.heap.size W w') := fun W hb => by
    have := tnoDir_any (h.on hb).tr1 s hs
    exact this.mono fun e w' k => by first | exact k | exact ⟨k.1, by rw [← k.2]; exact Below.refl _ _⟩
  have CW : Hid (∀ W, Below w.heap.size w W → Calls Tryz.prog 75 #[.pointer (some ⟨p, 0, none⟩), kS s] W fun e w' => InPost W (innerL M.now s) e w') := fun W hb => twithin_any (h.on hb).tr1 hmay s hs
  have CM : Hid (∀ b, mayB s = b → Calls Tryz.prog 70 #[kS s] w fun e w' => e = .returned (.bool b) ∧ Below w.heap.size w w') := fun b hb => mayk_any s b hb w hG hs
  have HL : Hid ((innerL M.now s).length ≤ 100000) := by
    have h1 := inner_le M.now s
    have h2 := h.tr1.len
    show _ ≤ _; omega
  have HLM : Hid (listM M.now s = if (!decide (s = []) && !mayB s) = true then ([], 10) else if noDirE M.now s = 0 then (sortL (childL M.now s), 0) else ([], noDirE M.now s)) := rfl
  obtain ⟨c, HC⟩ : ∃ c, Hid (noDirE M.now s = c) := ⟨_, rfl⟩
  rw [HC.out] at CN HLM
  have B0 : Hid (Below w.heap.size w w) := Below.refl _ _
  clear h hW hmay hG
  -- behind the look at the path
  by_cases hs0 : s = []
  · have z1 : (ba s).toList = [] := by rw [toList_tl, tl_ba, hs0]
    have HLN : Hid (listM M.now s = if c = 0 then (sortL (childL M.now s), 0) else ([], c)) := by
      show _ = _; rw [HLM.out, if_neg (by simp [hs0])]
    clear hs0 HLM
    by_cases hc : c = 0
    · have HLO : Hid (listM M.now s = (sortL (childL M.now s), 0)) := by show _ = _; rw [HLN.out, if_pos hc]
      subst hc
      go_enter Tryz.func25, Tryz.ntmps25
      go_wp2_with fail
      refine C1.out.mono ?_; rintro e1 w1 ⟨rfl, rfl⟩
      go_wp2_with fail
      refine (CN.out _ B0.out).mono ?_; rintro e3 w3 ⟨rfl, hb3⟩
      have B3 : Hid (Below w.heap.size w w3) := B0.out.trans (hb3.mono B0.out.size)
      clear hb3
      go_wp2_with fail
      refine (CW.out _ B3.out).mono ?_; rintro e4 w4 ⟨v, xs, rfl, hp, hrow, hb4⟩
      have HP := hid hp
      have HR := hid hrow
      have HB4 := hid hb4
      have HXL : Hid (xs.length ≤ 100000) := by show _ ≤ _; rw [hp.length_eq]; exact HL.out
      clear hp hrow hb4
      go_wp2_with fail
      refine (del_any HB4.out HR.out HXL.out).mono ?_; rintro e5 w5 ⟨v', rfl, hrow5, hb5⟩
      have HR5 := hid hrow5
      have HB5 := hid hb5
      have HXF : Hid ((xs.filter flatB).length ≤ 100000) := Nat.le_trans (List.length_filter_le _ _) HXL.out
      clear hrow5 hb5
      go_wp2_with fail
      refine (sortNames_any HB5.out HR5.out HXF.out).mono ?_; rintro e6 w6 ⟨rfl, hrow6, hb6⟩
      have HSE : Hid (sortL (xs.filter flatB) = sortL (childL M.now s)) := sortL_perm (HP.out.filter _)
      rw [HSE.out] at hrow6
      have HR6 := hid hrow6
      have HB6 := hid hb6
      clear hrow6 hb6
      obtain ⟨A, cc, g, hv, hn⟩ := names_of_row HR6.out
      subst hv
      have HN := hid hn
      clear hn
      go_wp2
      go_ret2
      rw [HLO.out]
      exact ⟨A, cc, g, rfl, HN.out, B3.out.trans (HB6.out.mono B3.out.size)⟩
    · have HLO : Hid (listM M.now s = ([], c)) := by show _ = _; rw [HLN.out, if_neg hc]
      have q0 : (c == 0) = false := by simpa using hc
      have q1 : (c != 0) = true := by simpa using hc
      clear hc
      go_enter Tryz.func25, Tryz.ntmps25
      go_wp2_with fail
      refine C1.out.mono ?_; rintro e1 w1 ⟨rfl, rfl⟩
      go_wp2_with fail
      refine (CN.out _ B0.out).mono ?_; rintro e3 w3 ⟨rfl, hb3⟩
      have B3 := hid hb3
      clear hb3
      go_wp2
      go_ret2
      rw [HLO.out]
      exact ListP.none _ _ _ B3.out
  · have z1 : ¬ (ba s).toList = [] := by rw [toList_tl, tl_ba]; exact hs0
    have z2 : (ba s).toList.isEmpty = false := by simpa using z1
    cases hm : mayB s with
    | false =>
      have CMF := hid (CM.out false hm)
      have HLO : Hid (listM M.now s = ([], 10)) := by show _ = _; rw [HLM.out, if_pos (by simp [hs0, hm])]
      clear hs0 HLM hm
      go_enter Tryz.func25, Tryz.ntmps25
      go_wp2_with fail
      refine C1.out.mono ?_; rintro e1 w1 ⟨rfl, rfl⟩
      go_wp2_with fail
      refine CMF.out.mono ?_; rintro e2 w2 ⟨rfl, hb2⟩
      have B2 := hid hb2
      clear hb2
      go_wp2
      go_ret2
      rw [HLO.out]
      exact ListP.none _ _ _ B2.out
    | true =>
      have CMT := hid (CM.out true hm)
      have HLN : Hid (listM M.now s = if c = 0 then (sortL (childL M.now s), 0) else ([], c)) := by
        show _ = _; rw [HLM.out, if_neg (by simp [hm])]
      clear hs0 HLM hm
      by_cases hc : c = 0
      · have HLO : Hid (listM M.now s = (sortL (childL M.now s), 0)) := by show _ = _; rw [HLN.out, if_pos hc]
        subst hc
        go_enter Tryz.func25, Tryz.ntmps25
        go_wp2_with fail
        refine C1.out.mono ?_; rintro e1 w1 ⟨rfl, rfl⟩
        go_wp2_with fail
        refine CMT.out.mono ?_; rintro e2 w2 ⟨rfl, hb2⟩
        have B0 := hid hb2
        clear hb2
        go_wp2_with fail
        refine (CN.out _ B0.out).mono ?_; rintro e3 w3 ⟨rfl, hb3⟩
        have B3 : Hid (Below w.heap.size w w3) := B0.out.trans (hb3.mono B0.out.size)
        clear hb3
        go_wp2_with fail
        refine (CW.out _ B3.out).mono ?_; rintro e4 w4 ⟨v, xs, rfl, hp, hrow, hb4⟩
        have HP := hid hp
        have HR := hid hrow
        have HB4 := hid hb4
        have HXL : Hid (xs.length ≤ 100000) := by show _ ≤ _; rw [hp.length_eq]; exact HL.out
        clear hp hrow hb4
        go_wp2_with fail
        refine (del_any HB4.out HR.out HXL.out).mono ?_; rintro e5 w5 ⟨v', rfl, hrow5, hb5⟩
        have HR5 := hid hrow5
        have HB5 := hid hb5
        have HXF : Hid ((xs.filter flatB).length ≤ 100000) := Nat.le_trans (List.length_filter_le _ _) HXL.out
        clear hrow5 hb5
        go_wp2_with fail
        refine (sortNames_any HB5.out HR5.out HXF.out).mono ?_; rintro e6 w6 ⟨rfl, hrow6, hb6⟩
        have HSE : Hid (sortL (xs.filter flatB) = sortL (childL M.now s)) := sortL_perm (HP.out.filter _)
        rw [HSE.out] at hrow6
        have HR6 := hid hrow6
        have HB6 := hid hb6
        clear hrow6 hb6
        obtain ⟨A, cc, g, hv, hn⟩ := names_of_row HR6.out
        subst hv
        have HN := hid hn
        clear hn
        go_wp2
        go_ret2
        rw [HLO.out]
        exact ⟨A, cc, g, rfl, HN.out, B3.out.trans (HB6.out.mono B3.out.size)⟩
      · have HLO : Hid (listM M.now s = ([], c)) := by show _ = _; rw [HLN.out, if_neg hc]
        have q0 : (c == 0) = false := by simpa using hc
        have q1 : (c != 0) = true := by simpa using hc
        clear hc
        go_enter Tryz.func25, Tryz.ntmps25
        go_wp2_with fail
        refine C1.out.mono ?_; rintro e1 w1 ⟨rfl, rfl⟩
        go_wp2_with fail
        refine CMT.out.mono ?_; rintro e2 w2 ⟨rfl, hb2⟩
        have B2 := hid hb2
        clear hb2
        go_wp2_with fail
        refine (CN.out _ B2.out).mono ?_; rintro e3 w3 ⟨rfl, hb3⟩
        have B3 : Hid (Below w.heap.size w w3) := B2.out.trans (hb3.mono B2.out.size)
        clear hb3
        go_wp2
        go_ret2
        rw [HLO.out]
        exact ListP.none _ _ _ B3.out
end
end Go.Proofs.YtlbeemlnbpchgaaGreat
/- The names in a directory as the document takes them: plain facts; a row of texts into which one is put. No conditions but the ones said. -/
namespace Go.Proofs.YtlbeemlnbpchgaaGreat
open Go.RowKit Go.Maps
def nameR (p q : By) : By := if p = [] then q else q.drop (p.length + 1)
def childR (L : Tr) (p : By) : List By := (L.filter fun x => decide (aheadL x.1 = p)).map fun x => nameR p x.1
theorem childR_next {L : Tr} (p : By) {k : Nat} (hk : k < L.length) : childR (L.take (k + 1)) p = if aheadL (L.getD k at0).1 = p then childR (L.take k) p ++ [nameR p (L.getD k at0).1] else childR (L.take k) p := by
  rw [take_succD hk]
  unfold childR
  rw [List.filter_append, List.map_append]
  generalize L.getD k at0 = x
  by_cases h : aheadL x.1 = p
  · simp [h]
  · simp [h]
theorem name_no {l : By} (h : nameB l = true) : 47 ∉ l := by
  unfold nameB at h
  simp only [Bool.and_eq_true, List.all_eq_true] at h
  intro k
  have := h.2 47 k
  revert this; decide
theorem last_no {q : By} (h : mayB q = true) : 47 ∉ lastP q := name_no (good_all (mayB_good h) _ (lastP_mem q))
theorem child_one (q p : By) (hq : mayB q = true) : ((if (beginL p).isPrefixOf q then some (q.drop (beginL p).length) else none).filter flatB) = if decide (aheadL q = p) = true then some (nameR p q) else none := by
  have hlast := last_no hq
  by_cases hp : p = []
  · subst hp
    have e1 : beginL ([] : By) = [] := if_pos rfl
    rw [e1]
    have e2 : ([] : By).isPrefixOf q = true := by simp
    rw [if_pos e2]
    have e3 : nameR [] q = q := if_pos rfl
    rw [e3]
    show (some q).filter flatB = _
    rcases may_split hq with ⟨h1, h2, _⟩ | ⟨h1, h2, _⟩
    · have hf : flatB q = true := (flat_iff q).2 (by rw [h2] at hlast; exact hlast)
      rw [decide_eq_true h1]
      simp [Option.filter, hf]
    · have hf : flatB q = false := by
        rw [← Bool.not_eq_true, flat_iff]
        intro k; apply k; rw [h2]; simp
      rw [decide_eq_false h1]
      simp [Option.filter, hf]
  · have e1 : beginL p = p ++ [47] := if_neg hp
    have e3 : nameR p q = q.drop (p.length + 1) := if_neg hp
    rw [e1, e3]
    by_cases hpre : (p ++ [47]).isPrefixOf q = true
    · rw [if_pos hpre]
      obtain ⟨r, hr⟩ := List.isPrefixOf_iff_prefix.1 hpre
      have hr' : q = p ++ 47 :: r := by rw [← hr]; simp
      have e4 : q.drop (p ++ [47]).length = r := by rw [← hr]; simp
      have e5 : q.drop (p.length + 1) = r := by rw [← e4]; simp
      rw [e4, e5]
      have ha : aheadL q = if 47 ∈ r then p ++ 47 :: aheadL r else p := by rw [hr']; exact ahead_behind p r
      by_cases k : 47 ∈ r
      · rw [if_pos k] at ha
        have hn : ¬ aheadL q = p := by
          rw [ha]; intro e
          have := congrArg List.length e
          simp at this
        have hf : flatB r = false := by rw [← Bool.not_eq_true, flat_iff]; exact fun z => z k
        rw [decide_eq_false hn]
        simp [Option.filter, hf]
      · rw [if_neg k] at ha
        have hf : flatB r = true := (flat_iff r).2 k
        rw [decide_eq_true ha]
        simp [Option.filter, hf]
    · rw [if_neg hpre]
      have hn : ¬ aheadL q = p := by
        intro e
        rcases may_split hq with ⟨h1, _⟩ | ⟨h1, h2, _⟩
        · exact hp (by rw [← e, h1])
        · apply hpre
          rw [List.isPrefixOf_iff_prefix]
          exact ⟨lastP q, by rw [← e]; simp; exact h2.symm⟩
      rw [decide_eq_false hn]
      rfl
theorem fm_eq {α β : Type} (f : α → Option β) (q : β → Bool) (g : α → Bool) (h : α → β) : ∀ l : List α, (∀ x ∈ l, (f x).filter q = if g x = true then some (h x) else none) → (l.filterMap f).filter q = (l.filter g).map h
  | [], _ => rfl
  | x :: l, hx => by
    have ih := fm_eq f q g h l (fun y hy => hx y (List.mem_cons_of_mem _ hy))
    have h1 := hx x List.mem_cons_self
    cases hf : f x with
    | none =>
      rw [hf] at h1
      have hg : g x = false := by
        cases k : g x with
        | false => rfl
        | true => rw [k] at h1; simp [Option.filter] at h1
      rw [List.filterMap_cons_none hf, List.filter_cons_of_neg (by rw [hg]; simp)]
      exact ih
    | some y =>
      rw [hf] at h1
      rw [List.filterMap_cons_some hf]
      cases hq : q y with
      | true =>
        have h2 : (if g x = true then some (h x) else none) = some y := by rw [← h1]; simp [Option.filter, hq]
        cases k : g x with
        | false => rw [k] at h2; simp at h2
        | true =>
          rw [k] at h2; simp at h2
          rw [List.filter_cons_of_pos hq, List.filter_cons_of_pos k, List.map_cons, ih, h2]
      | false =>
        have h2 : (if g x = true then some (h x) else none) = none := by rw [← h1]; simp [Option.filter, hq]
        cases k : g x with
        | true => rw [k] at h2; simp at h2
        | false => rw [List.filter_cons_of_neg (by rw [hq]; simp), List.filter_cons_of_neg (by rw [k]; simp), ih]
theorem child_same {room : Nat} {L : Tr} (hW : WFT room L) {p : By} (hd : kindP L p = 2) : childR L p = childL L p := by
  unfold childL innerL
  rw [if_pos hd]
  unfold restsL childR
  refine (fm_eq _ flatB _ _ L (fun x hx => ?_)).symm
  exact child_one x.1 p (hW.may x.1 (by rw [mem_look hW.srt (show (x.1, x.2) ∈ L from hx)]; rfl))
theorem sort_tr : ∀ a b c : By, decide (a ≤ b) = true → decide (b ≤ c) = true → decide (a ≤ c) = true := fun a b c h1 h2 => by
  simp only [decide_eq_true_eq] at *; exact List.le_trans h1 h2
theorem sort_tot : ∀ a b : By, (decide (a ≤ b) || decide (b ≤ a)) = true := fun a b => by
  simp only [Bool.or_eq_true, decide_eq_true_eq]; exact List.le_total a b
/-- A text put where it belongs. -/
theorem sort_put {xs ys : List By} {x : By} {a : Nat} (hy : sortL xs = ys) (ha : a ≤ ys.length) (h1 : ∀ i, i < a → ys.getD i [] < x) (h2 : a < ys.length → ¬ ys.getD a [] < x) : sortL (xs ++ [x]) = ys.take a ++ x :: ys.drop a := by
  have hs : ys.Pairwise fun a b => decide (a ≤ b) = true := by rw [← hy]; exact List.pairwise_mergeSort sort_tr sort_tot xs
  have hperm : ys.Perm xs := by rw [← hy]; exact List.mergeSort_perm xs _
  have hge : ∀ z ∈ ys.drop a, decide (x ≤ z) = true := by
    by_cases k : a < ys.length
    · have e := List.drop_eq_getElem_cons k
      have h3 := h2 k
      have hsd : (ys.drop a).Pairwise fun a b => decide (a ≤ b) = true := hs.sublist (List.drop_sublist _ _)
      rw [e] at hsd
      have h4 : decide (x ≤ ys[a]) = true := by
        rw [List.getD, List.getElem?_eq_getElem k] at h3
        simpa using h3
      intro z hz
      rw [e] at hz
      rcases List.mem_cons.1 hz with e2 | e2
      · rw [e2]; exact h4
      · exact sort_tr _ _ _ h4 ((List.pairwise_cons.1 hsd).1 z e2)
    · intro z hz
      rw [List.drop_eq_nil_of_le (by omega)] at hz; cases hz
  have hle : ∀ u ∈ ys.take a, decide (u ≤ x) = true := by
    intro u hu
    obtain ⟨i, hi, rfl⟩ := List.getElem_of_mem hu
    rw [List.length_take] at hi
    have h3 := h1 i (by omega)
    rw [List.getD, List.getElem?_eq_getElem (by omega)] at h3
    rw [List.getElem_take]
    simp only [decide_eq_true_eq]
    exact List.le_of_lt h3
  have hpw : (ys.take a ++ x :: ys.drop a).Pairwise fun a b => decide (a ≤ b) = true := by
    refine List.pairwise_append.2 ⟨hs.sublist (List.take_sublist _ _), List.pairwise_cons.2 ⟨hge, hs.sublist (List.drop_sublist _ _)⟩, fun u hu v hv => ?_⟩
    rcases List.mem_cons.1 hv with e | e
    · rw [e]; exact hle u hu
    · exact sort_tr _ _ _ (hle u hu) (hge v e)
  have hp2 : (ys.take a ++ x :: ys.drop a).Perm (xs ++ [x]) := by
    refine (List.perm_middle (l₁ := ys.take a) (l₂ := ys.drop a)).trans ?_
    rw [List.take_append_drop]
    exact (hperm.cons x).trans (List.perm_append_singleton x xs).symm
  refine List.Perm.eq_of_pairwise (le := fun a b : By => decide (a ≤ b) = true) (fun a b _ _ k1 k2 => ?_) (List.pairwise_mergeSort sort_tr sort_tot _) hpw ((List.mergeSort_perm _ _).trans hp2.symm)
  simp only [decide_eq_true_eq] at k1 k2
  exact List.le_antisymm k1 k2
theorem infoStr9 : (Tryz.prog.info? 9).map (·.size) = some 1 := by kernel_rfl
/-- What stands from a place on, moved by one; that place written. -/
theorem row_shift {w : World} {B g m c a : Nat} {ys : List By} (h : w.ownsRow B 9 1 (.slice (some ⟨g, 0, none⟩) (m + 1) c) (m + 1) ((ys ++ [[]]).map kS)) (hm : ys.length = m) (ha : a ≤ m) (d : Option Addr) (hd : a < m → d = some ⟨g, a + 1, none⟩) (ty : TypeId) :
    ∃ n w1, (Builtin.copy_ #[49, 49] ty #[.slice d (m - a) (c - (a + 1)), .slice (some ⟨g, a, none⟩) (m + 1 - a) (c - a)]).run Tryz.prog w = .ok (goInt n) w1 ∧ w1.cell? ⟨g, a, none⟩ = some (kS ((ys ++ [[]]).getD a [])) ∧ w1.frozen? ⟨g, a, none⟩ = false ∧ w1.heap.size = w.heap.size ∧
      ∀ y, (w1.setCell ⟨g, a, none⟩ (kS y)).ownsRow B 9 1 (.slice (some ⟨g, 0, none⟩) (m + 1) c) (m + 1) ((ys.take a ++ y :: ys.drop a).map kS) ∧ Below B w (w1.setCell ⟨g, a, none⟩ (kS y)) := by
  rcases h.2 with ⟨k1, _⟩ | ⟨g', c', cur, k1, k2, k3, k4, k5, k6, k7⟩
  · cases k1
  · injection k1 with e1 _ e3
    injection e1 with e1; injection e1 with e1
    subst e1 e3
    have hcs : cur.toList.length = c := by simpa using k6
    rw [Nat.mul_one] at k7
    have hcur : cur.toList = (ys ++ [[]]).map kS ++ cur.toList.drop (m + 1) := by rw [← k7, List.take_append_drop]
    have hget : ∀ j, j < m + 1 → cur.toList[j]? = some (kS ((ys ++ [[]]).getD j [])) := fun j hj => by
      rw [hcur, List.getElem?_append_left (by simp; omega), List.getElem?_map, List.getD, List.getElem?_eq_getElem (by simp; omega)]; rfl
    have hcell : ∀ j, j < m + 1 → w.cell? ⟨g, j, none⟩ = some (kS ((ys ++ [[]]).getD j [])) := fun j hj => by
      rw [cell_of_row w g j cur 9 (0, 0) k3, ← Array.getElem?_toList]; exact hget j hj
    have hsz : g < w.heap.size := (Array.getElem?_eq_some_iff.1 k3).1
    by_cases hlt : a < m
    · have hd' := hd hlt
      subst hd'
      have hrun := run_copy_row (P := Tryz.prog) w 49 49 ty 9 g (a + 1) (m - a) (c - (a + 1)) ⟨g, a, none⟩ (m + 1 - a) (c - a) cur 9 ((ys.drop a).map kS) Tryz.underlying49 infoStr9 k3 (by rw [List.length_map, List.length_drop, hm]; show m - a = min (m + 1 - a) (m - a); omega)
        (fun j v hj => by
          have hjl : j < m - a := by
            have := (List.getElem?_eq_some_iff.1 hj).1
            rw [List.length_map, List.length_drop, hm] at this; exact this
          rw [add_at, hcell (a + j) (by omega), ← hj, List.getElem?_map, List.getElem?_drop, List.getD, List.getElem?_append_left (by omega), List.getElem?_eq_getElem (by omega)]; rfl)
        (by rw [List.length_map, List.length_drop, hm]; rw [← Array.length_toList, hcs]; omega) (fun v hv => by obtain ⟨z, _, rfl⟩ := List.mem_map.1 hv; rfl)
      have hnew : ∀ y, (((cur.toList.take (a + 1) ++ (ys.drop a).map kS ++ cur.toList.drop (a + 1 + ((ys.drop a).map kS).length)).set a (kS y))).take (m + 1) = (ys.take a ++ y :: ys.drop a).map kS := by
        intro y
        have e1 : cur.toList.take (a + 1) = (ys.take a).map kS ++ [kS ((ys ++ [[]]).getD a [])] := by
          rw [hcur, List.take_append_of_le_length (by simp; omega), ← List.map_take, List.take_append_of_le_length (by omega), List.take_succ_eq_append_getElem (by omega), List.map_append]
          rw [List.getD, List.getElem?_append_left (by omega), List.getElem?_eq_getElem (by omega)]; rfl
        rw [e1]
        have e2 : ((ys.take a).map kS).length = a := by rw [List.length_map, List.length_take]; omega
        simp only [List.append_assoc, List.singleton_append]
        rw [List.set_append_right _ _ (by rw [e2]; exact Nat.le_refl _), e2, Nat.sub_self]
        simp only [List.cons_append, List.nil_append, List.set_cons_zero]
        rw [List.map_append, List.map_cons]
        rw [← List.cons_append, ← List.append_assoc]
        rw [List.take_append_of_le_length (by simp; omega)]
        exact List.take_of_length_le (by simp; omega)
      refine ⟨_, _, hrun, ?_, ?_, ?_, fun y => ?_⟩
      · rw [cell_of_row _ g a _ 9 (0, 0) (setRow_heap w g cur _ 9 (0, 0) k3)]
        rw [← Array.getElem?_toList]
        show (cur.toList.take (a + 1) ++ (ys.drop a).map kS ++ _)[a]? = _
        rw [List.append_assoc, List.getElem?_append_left (by rw [List.length_take, hcs]; omega), List.getElem?_take, if_pos (by omega)]
        exact hget a (by omega)
      · simp [World.frozen?, setRow_heap w g cur _ 9 (0, 0) k3]
      · simp [World.setRow]
      · rw [setCell_eq_setRow _ g a _ 9 (0, 0) _ (setRow_heap w g cur _ 9 (0, 0) k3), setRow_setRow]
        refine ⟨⟨by simp; omega, .inr ⟨g, c, _, rfl, k2, setRow_heap w g cur _ 9 (0, 0) k3, k4, k5, ?_, ?_⟩⟩, below_setRow (Below.refl _ _) k2 _⟩
        · simp only [Array.size_setIfInBounds, List.size_toArray, List.length_append, List.length_take, List.length_map, List.length_drop, Array.length_toList]
          omega
        · rw [Nat.mul_one, Array.toList_setIfInBounds]
          exact hnew y
    · have hae : a = m := by omega
      subst hae
      have hrun := run_copy_none (P := Tryz.prog) w 49 49 ty 9 d (some ⟨g, a, none⟩) (a - a) (c - (a + 1)) (a + 1 - a) (c - a) Tryz.underlying49 infoStr9 (by show min (a + 1 - a) (a - a) = 0; omega)
      refine ⟨0, w, hrun, hcell a (by omega), by simp [World.frozen?, k3], rfl, fun y => ?_⟩
      rw [setCell_eq_setRow _ g a _ 9 (0, 0) _ k3]
      refine ⟨⟨by simp; omega, .inr ⟨g, c, _, rfl, k2, setRow_heap w g cur _ 9 (0, 0) k3, k4, k5, by simp [k6], ?_⟩⟩, below_setRow (Below.refl _ _) k2 _⟩
      rw [Nat.mul_one, Array.toList_setIfInBounds, hcur]
      rw [List.map_append, List.append_assoc, List.set_append_right _ _ (by simp [hm]), List.length_map, hm, Nat.sub_self]
      simp only [List.map_cons, List.map_nil, List.cons_append, List.nil_append, List.set_cons_zero]
      rw [List.take_of_length_le (Nat.le_of_eq hm), List.drop_eq_nil_of_le (Nat.le_of_eq hm)]
      rw [← List.singleton_append, ← List.append_assoc, List.take_append_of_le_length (by simp [hm])]
      rw [List.take_of_length_le (by simp [hm])]
      simp
end Go.Proofs.YtlbeemlnbpchgaaGreat
/- The document's trees: moved. Conditions: a tree whose paths may be; at most a hundred thousand nodes. -/
namespace Go.Proofs.YtlbeemlnbpchgaaGreat
open Go.RowKit Go.Maps
/-- What an effect answers: another tree, or an error. -/
def NextP (w : World) (room : Nat) (r : Int × Tr) (e : Ending) (w' : World) : Prop :=
  (r.1 = 0 ∧ ∃ o, e = .returned (.tuple #[.pointer (some ⟨o, 0, none⟩), .int .i64 0]) ∧ TreeF w.heap.size w' o r.2 room ∧ Below w.heap.size w w') ∨ (r.1 ≠ 0 ∧ e = .returned (.tuple #[.pointer none, .int .i64 r.1]) ∧ Below w.heap.size w w')
theorem NextP.bad {w w' : World} {room : Nat} {r : Int × Tr} {c : Int} (hr : r.1 = c) (hc : c ≠ 0) (hb : Below w.heap.size w w') : NextP w room r (.returned (.tuple #[.pointer none, .int .i64 c])) w' := by
  subst hr; exact .inr ⟨hc, rfl, hb⟩
theorem moves_le {a p : By} (ha : mayB a = true) (h : movesB a p = true) : a.length ≤ p.length := by
  unfold movesB at h
  simp only [Bool.or_eq_true, decide_eq_true_eq] at h
  rcases h with e | e
  · rw [e]; exact Nat.le_refl _
  · obtain ⟨r, e⟩ := withinB_yes ha e
    rw [e]; simp
theorem strike_next (a : By) (T L : Tr) (k : Nat) (hk : k < L.length) : strike a T (L.take (k + 1)) = if movesB a (L.getD k at0).1 then del (strike a T (L.take k)) (L.getD k at0).1 else strike a T (L.take k) := by
  rw [take_succD hk, strike_snoc]
theorem lay_next (a b : By) (T L : Tr) (k : Nat) (hk : k < L.length) : lay a b T (L.take (k + 1)) = if movesB a (L.getD k at0).1 then ins (toP a b (L.getD k at0).1) (L.getD k at0).2 (lay a b T (L.take k)) else lay a b T (L.take k) := by
  rw [take_succD hk, lay_snoc]
theorem ins_len_le (p : By) (n : Nd) (L : Tr) : (ins p n L).length ≤ L.length + 1 := by
  induction L with
  | nil => simp [ins]
  | cons x L ih =>
    obtain ⟨q, m⟩ := x
    rw [ins]
    split
    · have := del_len ((q, m) :: L) p
      rw [List.length_cons]; omega
    · rw [List.length_cons, List.length_cons]; omega
theorem strike_len (a : By) (xs : Tr) : ∀ T : Tr, (strike a T xs).length ≤ T.length := by
  induction xs with
  | nil => intro T; exact Nat.le_refl _
  | cons x xs ih =>
    intro T
    refine Nat.le_trans (ih _) ?_
    show (if movesB a x.1 then del T x.1 else T).length ≤ _
    split
    · exact del_len _ _
    · exact Nat.le_refl _
theorem lay_len (a b : By) (xs : Tr) : ∀ T : Tr, (lay a b T xs).length ≤ T.length + xs.length := by
  induction xs with
  | nil => intro T; exact Nat.le_refl _
  | cons x xs ih =>
    intro T
    have h := ih (if movesB a x.1 then ins (toP a b x.1) x.2 T else T)
    have h2 : (if movesB a x.1 then ins (toP a b x.1) x.2 T else T).length ≤ T.length + 1 := by
      split
      · exact ins_len_le _ _ _
      · omega
    show (lay a b (if movesB a x.1 then ins (toP a b x.1) x.2 T else T) xs).length ≤ _
    rw [List.length_cons]; omega
/-- All paths are short. -/
def Short (L : Tr) : Prop := ∀ x ∈ L, x.1.length ≤ 4000
theorem Short.del {L : Tr} (h : Short L) (p : By) : Short (del L p) := fun x hx => h x (List.mem_filter.1 hx).1
theorem Short.ins {L : Tr} (h : Short L) {p : By} (hp : p.length ≤ 4000) (n : Nd) : Short (ins p n L) := fun x hx => by
  rcases mem_ins hx with e | e
  · rw [e]; exact hp
  · exact h x e
theorem WFT.short {room : Nat} {L : Tr} (h : WFT room L) : Short L := fun x hx => by
  obtain ⟨p, n⟩ := x
  have := (may_parts (h.may p (by rw [mem_look h.srt hx]; rfl))).1
  show p.length ≤ 4000; omega
theorem Short.strike {a : By} (xs : Tr) : ∀ {T : Tr}, Short T → Short (strike a T xs) := by
  induction xs with
  | nil => intro T h; exact h
  | cons x xs ih =>
    intro T h
    refine ih (T := if movesB a x.1 then Go.Proofs.YtlbeemlnbpchgaaGreat.del T x.1 else T) ?_
    split
    · exact h.del _
    · exact h
/-- As far as it was looked, all that moves may be where it goes. -/
def farTo (L : Tr) (a b : By) (k : Nat) : Prop := ∀ x ∈ L.take k, movesB a x.1 = true → mayB (toP a b x.1) = true
theorem far_all {L : Tr} {a b : By} (h : farTo L a b L.length) : farR L a b = true := by
  unfold farR
  rw [List.all_eq_true]
  intro x hx
  cases hm : movesB a x.1 with
  | false => rfl
  | true => rw [h x (by rw [List.take_length]; exact hx) hm]; rfl
theorem far_not {L : Tr} {a b : By} {x : At} (hx : x ∈ L) (hm : movesB a x.1 = true) (hn : mayB (toP a b x.1) = false) : farR L a b = false := by
  rw [← Bool.not_eq_true]
  intro h
  unfold farR at h
  have := List.all_eq_true.1 h x hx
  rw [hm, hn] at this; cases this
theorem far_next {L : Tr} {a b : By} {k : Nat} (hk : k < L.length) (h : farTo L a b k) (hx : movesB a (L.getD k at0).1 = true → mayB (toP a b (L.getD k at0).1) = true) : farTo L a b (k + 1) := by
  intro x hm
  rw [take_succD hk] at hm
  rcases List.mem_append.1 hm with e | e
  · exact h x e
  · rw [List.mem_singleton] at e; rw [e]; exact hx
/-- As far as it was laid, what was laid is short. -/
theorem lay_short {L : Tr} {a b : By} (hf : farTo L a b L.length) {T : Tr} (hT : Short T) (k : Nat) : Short (lay a b T (L.take k)) := by
  have : ∀ (xs : Tr), (∀ x ∈ xs, movesB a x.1 = true → mayB (toP a b x.1) = true) → ∀ {T : Tr}, Short T → Short (lay a b T xs) := by
    intro xs
    induction xs with
    | nil => intro _ T h; exact h
    | cons x xs ih =>
      intro hx T h
      refine ih (fun y hy => hx y (List.mem_cons_of_mem _ hy)) (T := if movesB a x.1 then Go.Proofs.YtlbeemlnbpchgaaGreat.ins (toP a b x.1) x.2 T else T) ?_
      split
      · rename_i hm
        have := (may_parts (hx x List.mem_cons_self hm)).1
        exact h.ins (by omega) _
      · exact h
  exact this _ (fun x hx => hf x (by rw [List.take_length]; exact List.mem_of_mem_take hx)) hT
theorem ba_cut (s : By) (k : Nat) : (ba s).extract k s.length = ba (s.drop k) := by
  have := ba_drop (ba s) k
  rw [ba_size, tl_ba] at this; exact this
end Go.Proofs.YtlbeemlnbpchgaaGreat
