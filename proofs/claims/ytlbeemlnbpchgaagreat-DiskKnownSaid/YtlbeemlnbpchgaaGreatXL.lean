/- Disk.List: the names in a directory, in the order of their bytes. Conditions: as at the disk; paths of at most 4000 bytes. -/
import Derived.Test.YtlbeemlnbpchgaaGreatXK
namespace Go.Proofs.YtlbeemlnbpchgaaGreat
open Go.RowKit Go.Maps Go.Lib Go.Sort
def flatB (r : By) : Bool := !decide (0 ≤ Lib.indexByte r 47)
theorem flat_iff (r : By) : flatB r = true ↔ 47 ∉ r := by
  unfold flatB
  have h : (0 ≤ Lib.indexByte r 47) ↔ 47 ∈ r := by
    induction r with
    | nil => simp [Lib.indexByte]
    | cons c r ih =>
      have hg := Lib.indexByte_ge r 47
      rw [Lib.indexByte]
      by_cases hc : c = 47
      · simp [hc]
      · have e1 : (c == 47) = false := by simpa using hc
        have e2 : ¬ 47 = c := fun e => hc e.symm
        rw [e1, List.mem_cons]
        by_cases hn : Lib.indexByte r 47 = -1
        · have h0 : ¬ 47 ∈ r := fun k => by have := ih.2 k; omega
          simp [hn, e2, h0]
        · have h0 : 47 ∈ r := ih.1 (by omega)
          have e3 : (Lib.indexByte r 47 == -1) = false := by simpa using hn
          simp [e3, h0]; omega
  simp [h]
def childL (L : Tr) (p : By) : List By := (innerL L p).filter flatB
def sortL (xs : List By) : List By := xs.mergeSort fun x y => decide (x ≤ y)
def listM (L : Tr) (p : By) : List By × Int := if (!decide (p = []) && !mayB p) = true then ([], 10) else if noDirE L p = 0 then (sortL (childL L p), 0) else ([], noDirE L p)
theorem sortL_perm {xs ys : List By} (h : xs.Perm ys) : sortL xs = sortL ys := by
  have tr : ∀ a b c : By, decide (a ≤ b) = true → decide (b ≤ c) = true → decide (a ≤ c) = true := fun a b c h1 h2 => by
    simp only [decide_eq_true_eq] at *; exact List.le_trans h1 h2
  have tot : ∀ a b : By, (decide (a ≤ b) || decide (b ≤ a)) = true := fun a b => by
    simp only [Bool.or_eq_true, decide_eq_true_eq]; exact List.le_total a b
  refine List.Perm.eq_of_pairwise (le := fun a b : By => decide (a ≤ b) = true) (fun a b _ _ h1 h2 => ?_) (List.pairwise_mergeSort tr tot xs) (List.pairwise_mergeSort tr tot ys) (((List.mergeSort_perm xs _).trans h).trans (List.mergeSort_perm ys _).symm)
  simp only [decide_eq_true_eq] at h1 h2
  exact List.le_antisymm h1 h2
/-- What List answers. -/
def ListP (w : World) (r : List By × Int) (e : Ending) (w' : World) : Prop := ∃ A c g, e = .returned (.tuple #[.slice A (r.1.length : Nat) c, .int .i64 r.2]) ∧ Names w' A g r.1 ∧ Below w.heap.size w w'
theorem ListP.none (w w' : World) (c : Int) (hb : Below w.heap.size w w') : ListP w ([], c) (.returned (.tuple #[.slice none 0 0, .int .i64 c])) w' :=
  ⟨Option.none, 0, 0, rfl, ⟨fun k => absurd k (by simp), fun i k => absurd k (by simp), fun k => absurd k (by simp)⟩, hb⟩
set_option maxRecDepth 100000 in
set_option maxHeartbeats 2000000 in
theorem dListC_any (r : By) (w : World) : Calls Tryz.prog 72 #[kS r] w fun e w' => e = .returned (.bool (!flatB r)) ∧ w' = w := by
  have C := hid (Tryz.strings_Contains_one (ba r) 47 w)
  have HF : Hid ((!flatB r) = decide (0 ≤ Lib.indexByte r 47)) := by show _ = _; unfold flatB; simp
  go_enter Tryz.func72, Tryz.ntmps72
  go_wp2_with fail
  refine C.out.mono ?_; rintro e1 w1 ⟨rfl, rfl⟩
  go_wp2
  go_ret
  exact ⟨by rw [HF.out]; rfl, rfl⟩
theorem putRow_below {α : Type} [Inhabited α] {enc : α → Value} {w0 w : World} {g q B : Nat} {d : Array α} (h : Below B w0 w) (hg : B ≤ g) : Below B w0 (putRow enc (Sort.ahead w q) g 0 d) := below_putRow (enc := enc) (q := q) (d := d) h hg
set_option maxRecDepth 100000 in
set_option maxHeartbeats 4000000 in
/-- slices.DeleteFunc at a row of the call's own. -/
theorem del_any {w0 w : World} {v : Value} {xs : List By} (hb : Below w0.heap.size w0 w) (h : w.ownsRow w0.heap.size 9 1 v xs.length (xs.map kS)) (hn : xs.length ≤ 100000) :
    Calls Tryz.prog 74 #[v, .func (.func 72) #[] #[]] w fun e w' => ∃ v', e = .returned v' ∧ w'.ownsRow w0.heap.size 9 1 v' (xs.filter flatB).length ((xs.filter flatB).map kS) ∧ Below w0.heap.size w0 w' := by
  by_cases hv : v = .slice none 0 0
  · subst hv
    have h0 : xs = [] := by
      rcases h.2 with ⟨_, k2⟩ | ⟨g, c, cur, k1, _⟩
      · exact List.length_eq_zero_iff.1 k2
      · cases k1
    subst h0
    have C := hid (Tryz.slices_IndexFunc_empty (α := By) none 0 (.func (.func 72) #[] #[]) w)
    have HB := hid hb
    have H := hid h
    clear hb h hn
    go_enter Tryz.func74, Tryz.ntmps74
    go_wp2_with fail
    refine C.out.mono ?_; rintro e1 w1 ⟨rfl, rfl⟩
    go_wp2
    go_ret
    exact ⟨_, rfl, H.out, HB.out⟩
  · obtain ⟨g, cap, rfl, g1, g2, g3, g4, g5, hH⟩ := holds_of_ownsRow (enc := kS) h hv
    have hsz : xs.toArray.size = xs.length := by simp
    have hgv : ∀ (W : World) (x : By), FnGives Tryz.prog 72 #[] #[kS x] (.bool (!flatB x)) W := fun W x => (dListC_any x W).mono fun e w' ⟨h1, h2⟩ => ⟨h1, 0, by rw [h2]; rfl⟩
    have := Tryz.slices_DeleteFunc kS (fun _ => rfl) (fun x => !flatB x) 72 #[] (enters_of Tryz.func72 (by kernel_rfl) rfl) ([] : By) (fun w => by kernel_rfl) g 0 cap xs.toArray w (fun W x _ => hgv W x) (fun _ _ _ x _ => hgv _ x) hH (by rw [hsz]; omega) (by rw [hsz]; omega)
    rw [hsz] at this
    simp only [Bool.not_not] at this
    refine this.mono ?_
    rintro e w' ⟨rfl, q, rfl⟩
    have hlen : ((xs.filter flatB) ++ List.replicate (xs.length - (xs.filter flatB).length) ([] : By)).length = xs.length := by
      have := List.length_filter_le flatB xs
      simp; omega
    refine ⟨_, rfl, ?_, putRow_below hb g1⟩
    have hr := ownsRow_putRow (enc := kS) (q := q) (k := (xs.filter flatB).length) (ys := (xs.filter flatB) ++ List.replicate (xs.length - (xs.filter flatB).length) ([] : By)) h hlen (List.length_filter_le _ _)
    rw [List.take_left] at hr
    exact hr
set_option maxRecDepth 100000 in
set_option maxHeartbeats 4000000 in
/-- slices.Sort at a row of the call's own. -/
theorem sortNames_any {w0 w : World} {v : Value} {xs : List By} (hb : Below w0.heap.size w0 w) (h : w.ownsRow w0.heap.size 9 1 v xs.length (xs.map kS)) (hn : xs.length ≤ 100000) :
    Calls Tryz.prog 76 #[v] w fun e w' => e = .returned (.tuple #[]) ∧ w'.ownsRow w0.heap.size 9 1 v (sortL xs).length ((sortL xs).map kS) ∧ Below w0.heap.size w0 w' := by
  by_cases hv : v = .slice none 0 0
  · subst hv
    have h0 : xs = [] := by
      rcases h.2 with ⟨_, k2⟩ | ⟨g, c, cur, k1, _⟩
      · exact List.length_eq_zero_iff.1 k2
      · cases k1
    subst h0
    refine (Tryz.slices_Sort_string_none none 0 w).mono ?_
    rintro e w' ⟨rfl, rfl⟩
    have e0 : sortL [] = [] := List.mergeSort_nil
    rw [e0]
    exact ⟨rfl, h, hb⟩
  · obtain ⟨g, cap, rfl, g1, g2, g3, g4, g5, hH⟩ := holds_of_ownsRow (enc := kS) h hv
    refine (Tryz.slices_Sort_string g 0 cap xs w hH g2 (by omega)).mono ?_
    rintro e w' ⟨rfl, n, os, rfl⟩
    have hml : (sortL xs).length = xs.length := List.length_mergeSort xs
    refine ⟨rfl, ?_, below_sorted (enc := encStr) hb g1 hb.size⟩
    have hr := ownsRow_putRow (enc := kS) (q := n) (k := xs.length) (ys := sortL xs) h hml (Nat.le_refl _)
    rw [List.take_of_length_le (Nat.le_of_eq hml)] at hr
    rw [hml]
    refine row_of hr fun g' hg' => ?_
    have eg : g = g' := by injection hg'
    subst eg
    show ((putRow encStr (Sort.ahead w n) g 0 _).heap ++ os)[g]? = _
    rw [Array.getElem?_append_left]
    · rfl
    have e : ∀ d : Array By, (putRow encStr (Sort.ahead w n) g 0 d).heap.size = w.heap.size := fun d => by simp [putRow, mapBlock, Sort.ahead]
    rw [e]; exact g2
section
variable {own : Nat → Prop} {w : World} {p : Nat} {M : Mo}
set_option maxRecDepth 100000 in
set_option maxHeartbeats 8000000 in
theorem dList_any (h : Dsk own w p M) (hG : Gd w) (s : By) (hs : s.length ≤ 4000) : Calls Tryz.prog 25 #[.pointer (some ⟨p, 0, none⟩), kS s] w fun e w' => ListP w (listM M.now s) e w' := by
  obtain ⟨m1, m2, sv, vs, h⟩ := h
  have C1 := hid (dmade_any (m1 := m1) (h.has.at_ 0))
  have hW := h.good.w1
  have hmay : ∀ q, (look M.now q).isSome → q.length ≤ 4000 := fun q hq => by have := (may_parts (hW.may q hq)).1; omega
  have CN : Hid (∀ W, Below w.heap.size w W → Calls Tryz.prog 71 #[.pointer (some ⟨p, 0, none⟩), kS s] W fun e w' => e = .returned (.int .i64 (noDirE M.now s)) ∧ Below W.heap.size W w') := fun W hb => by
    have := tnoDir_any (h.on hb).tr1 s hs
    exact this.mono fun e w' k => by first | exact k | exact ⟨k.1, by rw [← k.2]; exact Below.refl _ _⟩
  have CW : Hid (∀ W, Below w.heap.size w W → Calls Tryz.prog 75 #[.pointer (some ⟨p, 0, none⟩), kS s] W fun e w' => InPost W (innerL M.now s) e w') := fun W hb => twithin_any (h.on hb).tr1 hmay s hs
  have CM : Hid (∀ b, mayB s = b → Calls Tryz.prog 70 #[kS s] w fun e w' => e = .returned (.bool b) ∧ Below w.heap.size w w') := fun b hb => mayk_any s b hb w hG hs
  have HL : Hid ((innerL M.now s).length ≤ 100000) := by
    have h1 := inner_le M.now s
    have h2 := h.tr1.len
    show _ ≤ _; omega
  have HLM : Hid (listM M.now s = if (!decide (s = []) && !mayB s) = true then ([], 10) else if noDirE M.now s = 0 then (sortL (childL M.now s), 0) else ([], noDirE M.now s)) := rfl
  obtain ⟨c, HC⟩ : ∃ c, Hid (noDirE M.now s = c) := ⟨_, rfl⟩
  rw [HC.out] at CN HLM
  have B0 : Hid (Below w.heap.size w w) := Below.refl _ _
  clear h hW hmay hG
  -- behind the look at the path
  by_cases hs0 : s = []
  · have z1 : (ba s).toList = [] := by rw [toList_tl, tl_ba, hs0]
    have HLN : Hid (listM M.now s = if c = 0 then (sortL (childL M.now s), 0) else ([], c)) := by
      show _ = _; rw [HLM.out, if_neg (by simp [hs0])]
    clear hs0 HLM
    by_cases hc : c = 0
    · have HLO : Hid (listM M.now s = (sortL (childL M.now s), 0)) := by show _ = _; rw [HLN.out, if_pos hc]
      subst hc
      go_enter Tryz.func25, Tryz.ntmps25
      go_wp2_with fail
      refine C1.out.mono ?_; rintro e1 w1 ⟨rfl, rfl⟩
      go_wp2_with fail
      refine (CN.out _ B0.out).mono ?_; rintro e3 w3 ⟨rfl, hb3⟩
      have B3 : Hid (Below w.heap.size w w3) := B0.out.trans (hb3.mono B0.out.size)
      clear hb3
      go_wp2_with fail
      refine (CW.out _ B3.out).mono ?_; rintro e4 w4 ⟨v, xs, rfl, hp, hrow, hb4⟩
      have HP := hid hp
      have HR := hid hrow
      have HB4 := hid hb4
      have HXL : Hid (xs.length ≤ 100000) := by show _ ≤ _; rw [hp.length_eq]; exact HL.out
      clear hp hrow hb4
      go_wp2_with fail
      refine (del_any HB4.out HR.out HXL.out).mono ?_; rintro e5 w5 ⟨v', rfl, hrow5, hb5⟩
      have HR5 := hid hrow5
      have HB5 := hid hb5
      have HXF : Hid ((xs.filter flatB).length ≤ 100000) := Nat.le_trans (List.length_filter_le _ _) HXL.out
      clear hrow5 hb5
      go_wp2_with fail
      refine (sortNames_any HB5.out HR5.out HXF.out).mono ?_; rintro e6 w6 ⟨rfl, hrow6, hb6⟩
      have HSE : Hid (sortL (xs.filter flatB) = sortL (childL M.now s)) := sortL_perm (HP.out.filter _)
      rw [HSE.out] at hrow6
      have HR6 := hid hrow6
      have HB6 := hid hb6
      clear hrow6 hb6
      obtain ⟨A, cc, g, hv, hn⟩ := names_of_row HR6.out
      subst hv
      have HN := hid hn
      clear hn
      go_wp2
      go_ret2
      rw [HLO.out]
      exact ⟨A, cc, g, rfl, HN.out, B3.out.trans (HB6.out.mono B3.out.size)⟩
    · have HLO : Hid (listM M.now s = ([], c)) := by show _ = _; rw [HLN.out, if_neg hc]
      have q0 : (c == 0) = false := by simpa using hc
      have q1 : (c != 0) = true := by simpa using hc
      clear hc
      go_enter Tryz.func25, Tryz.ntmps25
      go_wp2_with fail
      refine C1.out.mono ?_; rintro e1 w1 ⟨rfl, rfl⟩
      go_wp2_with fail
      refine (CN.out _ B0.out).mono ?_; rintro e3 w3 ⟨rfl, hb3⟩
      have B3 := hid hb3
      clear hb3
      go_wp2
      go_ret2
      rw [HLO.out]
      exact ListP.none _ _ _ B3.out
  · have z1 : ¬ (ba s).toList = [] := by rw [toList_tl, tl_ba]; exact hs0
    have z2 : (ba s).toList.isEmpty = false := by simpa using z1
    cases hm : mayB s with
    | false =>
      have CMF := hid (CM.out false hm)
      have HLO : Hid (listM M.now s = ([], 10)) := by show _ = _; rw [HLM.out, if_pos (by simp [hs0, hm])]
      clear hs0 HLM hm
      go_enter Tryz.func25, Tryz.ntmps25
      go_wp2_with fail
      refine C1.out.mono ?_; rintro e1 w1 ⟨rfl, rfl⟩
      go_wp2_with fail
      refine CMF.out.mono ?_; rintro e2 w2 ⟨rfl, hb2⟩
      have B2 := hid hb2
      clear hb2
      go_wp2
      go_ret2
      rw [HLO.out]
      exact ListP.none _ _ _ B2.out
    | true =>
      have CMT := hid (CM.out true hm)
      have HLN : Hid (listM M.now s = if c = 0 then (sortL (childL M.now s), 0) else ([], c)) := by
        show _ = _; rw [HLM.out, if_neg (by simp [hm])]
      clear hs0 HLM hm
      by_cases hc : c = 0
      · have HLO : Hid (listM M.now s = (sortL (childL M.now s), 0)) := by show _ = _; rw [HLN.out, if_pos hc]
        subst hc
        go_enter Tryz.func25, Tryz.ntmps25
        go_wp2_with fail
        refine C1.out.mono ?_; rintro e1 w1 ⟨rfl, rfl⟩
        go_wp2_with fail
        refine CMT.out.mono ?_; rintro e2 w2 ⟨rfl, hb2⟩
        have B0 := hid hb2
        clear hb2
        go_wp2_with fail
        refine (CN.out _ B0.out).mono ?_; rintro e3 w3 ⟨rfl, hb3⟩
        have B3 : Hid (Below w.heap.size w w3) := B0.out.trans (hb3.mono B0.out.size)
        clear hb3
        go_wp2_with fail
        refine (CW.out _ B3.out).mono ?_; rintro e4 w4 ⟨v, xs, rfl, hp, hrow, hb4⟩
        have HP := hid hp
        have HR := hid hrow
        have HB4 := hid hb4
        have HXL : Hid (xs.length ≤ 100000) := by show _ ≤ _; rw [hp.length_eq]; exact HL.out
        clear hp hrow hb4
        go_wp2_with fail
        refine (del_any HB4.out HR.out HXL.out).mono ?_; rintro e5 w5 ⟨v', rfl, hrow5, hb5⟩
        have HR5 := hid hrow5
        have HB5 := hid hb5
        have HXF : Hid ((xs.filter flatB).length ≤ 100000) := Nat.le_trans (List.length_filter_le _ _) HXL.out
        clear hrow5 hb5
        go_wp2_with fail
        refine (sortNames_any HB5.out HR5.out HXF.out).mono ?_; rintro e6 w6 ⟨rfl, hrow6, hb6⟩
        have HSE : Hid (sortL (xs.filter flatB) = sortL (childL M.now s)) := sortL_perm (HP.out.filter _)
        rw [HSE.out] at hrow6
        have HR6 := hid hrow6
        have HB6 := hid hb6
        clear hrow6 hb6
        obtain ⟨A, cc, g, hv, hn⟩ := names_of_row HR6.out
        subst hv
        have HN := hid hn
        clear hn
        go_wp2
        go_ret2
        rw [HLO.out]
        exact ⟨A, cc, g, rfl, HN.out, B3.out.trans (HB6.out.mono B3.out.size)⟩
      · have HLO : Hid (listM M.now s = ([], c)) := by show _ = _; rw [HLN.out, if_neg hc]
        have q0 : (c == 0) = false := by simpa using hc
        have q1 : (c != 0) = true := by simpa using hc
        clear hc
        go_enter Tryz.func25, Tryz.ntmps25
        go_wp2_with fail
        refine C1.out.mono ?_; rintro e1 w1 ⟨rfl, rfl⟩
        go_wp2_with fail
        refine CMT.out.mono ?_; rintro e2 w2 ⟨rfl, hb2⟩
        have B2 := hid hb2
        clear hb2
        go_wp2_with fail
        refine (CN.out _ B2.out).mono ?_; rintro e3 w3 ⟨rfl, hb3⟩
        have B3 : Hid (Below w.heap.size w w3) := B2.out.trans (hb3.mono B2.out.size)
        clear hb3
        go_wp2
        go_ret2
        rw [HLO.out]
        exact ListP.none _ _ _ B3.out
end
end Go.Proofs.YtlbeemlnbpchgaaGreat
