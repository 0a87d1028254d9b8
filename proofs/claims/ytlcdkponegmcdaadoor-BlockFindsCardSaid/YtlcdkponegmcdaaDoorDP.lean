/- Finder.drop: what the call does to the places of a digest. Conditions: a finder; a digest of 32 bytes. -/
import Derived.Test.YtlcdkponegmcdaaDoorDO
namespace Go.Proofs.YtlcdkponegmcdaaDoor
open Go.RowKit Go.Maps
open Classical in
/-- The places behind drop. -/
noncomputable def dropP (P : By → List Pl) (d t : By) : By → List Pl := fun x => if x = d then (if hasN (P d) t then out (P d) t else P d) else P x
theorem dropP_id {P : By → List Pl} {d t : By} (h : hasN (P d) t = false) : dropP P d t = P := by
  funext x
  unfold dropP
  by_cases e : x = d
  · subst e; simp [h]
  · simp [e]
theorem len_nil_of {ps : List Pl} (h : ps.length = 0) : ps = [] := List.eq_nil_of_length_eq_zero h
open Classical in
/-- A digest's places deleted. -/
theorem FinI.del {own : Nat → Prop} {w w' : World} {p m1 m2 : Nat} {fv pv : Value → Option Value} {F : By → Option By} {P : By → List Pl} {cf cp cp' N : Nat} (h : FinI own w p m1 m2 fv pv F P cf cp N) (d : By)
    (hs : w.heap.size ≤ w'.heap.size) (hb : ∀ g, own g → g ≠ m2 → w'.heap[g]? = w.heap[g]?) (hm : MapIs w' 27 m2 cp' (fun y => if y = kH d then none else pv y)) (hc : cp' ≤ N) :
    FinI own w' p m1 m2 fv (fun y => if y = kH d then none else pv y) F (fun x => if x = d then [] else P x) cf cp' N := by
  have hpm : p ≠ m2 := fun e => by
    obtain ⟨D, ⟨es, ck, hh, _⟩, _⟩ := h.m2
    have := h.has
    unfold Has at this
    rw [e, hh] at this; cases this
  have hmap : ∀ g cur t, w.heap[g]? = some (.cells cur t (0, 0)) → g ≠ m2 := by
    intro g cur t hg e
    obtain ⟨D, ⟨es, ck, hh, _⟩, _⟩ := h.m2
    rw [e, hh] at hg; cases hg
  have hrow : ∀ {e : TypeId} {s n : Nat} {v : Value} {xs : List Value}, w.ownsRow 0 e s v n xs → (∀ g, v.ownBlock = some g → own g) → w'.ownsRow 0 e s v n xs := fun hr ho => row_of hr (fun g hg => by
    rcases hr.2 with ⟨k1, _⟩ | ⟨g', c, cur, k1, _, k3, _⟩
    · rw [k1] at hg; cases hg
    · have hg2 := hg
      rw [k1] at hg; injection hg with hg; subst hg
      exact hb _ (ho _ hg2) (hmap _ _ _ k3))
  refine ⟨fun g hg => Nat.lt_of_lt_of_le (h.low g hg) hs, (hb p h.op hpm).trans h.has, h.op, h.o1, h.o2, h.ne, h.m1.kept (hb m1 h.o1 h.ne), hm, h.cf, hc, h.fnone, ?_, ?_, ?_, ?_, ?_, ?_⟩
  · intro s xs hx
    obtain ⟨u, h1, h2, h3, h4⟩ := h.fsome s xs hx
    exact ⟨u, h1, hrow h2 h3, h3, h4⟩
  · intro d' hd'
    by_cases e : d' = d
    · subst e; simp
    · rw [if_neg e] at hd'
      simp only [if_neg (fun e2 => e (kH_inj e2))]
      exact h.pnone d' hd'
  · intro d' hd'
    by_cases e : d' = d
    · subst e; simp at hd'
    · rw [if_neg e] at hd'
      simp only [if_neg e, if_neg (fun e2 => e (kH_inj e2))]
      obtain ⟨u, h1, h2, h3⟩ := h.psome d' hd'
      exact ⟨u, h1, hrow h2 h3, h3⟩
  · intro d'
    by_cases e : d' = d
    · rw [if_pos e]; exact List.Pairwise.nil
    · rw [if_neg e]; exact h.srt d'
  · intro d'
    by_cases e : d' = d
    · rw [if_pos e]; exact Nat.zero_le _
    · rw [if_neg e]; exact h.len d'
  · intro a b va vb g hab ha hbb hga hgb
    by_cases ea : a = d
    · subst ea; simp at ha
    · simp only [if_neg (fun e2 => ea (kH_inj e2))] at ha
      by_cases eb : b = d
      · subst eb; simp at hbb
      · simp only [if_neg (fun e2 => eb (kH_inj e2))] at hbb
        exact h.apart a b va vb g hab ha hbb hga hgb
open Classical in
theorem drop_del {own : Nat → Prop} {w wd w6 : World} {p m1 m2 : Nat} {fv pv : Value → Option Value} {F : By → Option By} {P : By → List Pl} {cf cp N : Nat} (h : FinI own w p m1 m2 fv pv F P cf cp N) (d t : By) (hhas : hasN (P d) t = true) (h1 : (P d).length = 1)
    (hb : Below w.heap.size w wd) (hg6 : Grw m2 wd w6) (hm : ∃ c, MapIs w6 27 m2 c (fun y => if y = kH d then none else pv y) ∧ c ≤ N) : FPost own w p F (dropP P d t) cf (N + 1) w6 := by
  have hs : w.heap.size ≤ w6.heap.size := Nat.le_trans hb.size hg6.size
  have hbk : ∀ g, g < w.heap.size → g ≠ m2 → w6.heap[g]? = w.heap[g]? := fun g hg h1 =>
    (hg6.block g (Nat.lt_of_lt_of_le hg hb.size) (fun e => h1 (Option.some.inj e))).trans (hb.block g hg)
  obtain ⟨c, hm, hc⟩ := hm
  have hF := h.del d hs (fun g ho h1 => hbk g (h.low g ho) h1) hm hc
  have hP : (fun x => if x = d then [] else P x) = dropP P d t := by
    funext x; unfold dropP; rw [hhas]
    have : out (P d) t = [] := len_nil_of (by have := (out_len (h.srt d) hhas).2; omega)
    rw [this]; rfl
  rw [hP] at hF
  exact ⟨own, Fin.more ⟨m1, m2, fv, _, c, hF⟩ (Nat.le_succ N), ⟨hg6.os.trans hb.os, hg6.tape.trans hb.tape, hg6.output.trans hb.output, hs, fun g hg hn => hbk g hg (fun e => hn (e ▸ h.o2))⟩, fun g hg => hg, fun g hg => .inl hg⟩
open Classical in
theorem drop_set {own : Nat → Prop} {w wd w5 w6 : World} {p m1 m2 : Nat} {fv pv : Value → Option Value} {F : By → Option By} {P : By → List Pl} {cf cp N : Nat} (h : FinI own w p m1 m2 fv pv F P cf cp N) (d t : By) (v v' : Value) (g0 : Nat) (hhas : hasN (P d) t = true) (h1 : (P d).length ≠ 1)
    (hv : (pv (kH d)).getD nilV = v) (hown : ∀ g, v.ownBlock = some g → own g) (hvb : v.ownBlock = some g0) (hb : Below w.heap.size w wd) (hg5 : Grw g0 wd w5) (hp5 : Pls 0 w5 v' (out (P d) t)) (hv' : v'.ownBlock = some g0)
    (hg6 : Grw m2 w5 w6) (hm : ∃ c, MapIs w6 27 m2 c (fun y => if y = kH d then some v' else pv y) ∧ c ≤ N + 1) : FPost own w p F (dropP P d t) cf (N + 1) w6 := by
  have hs : w.heap.size ≤ w6.heap.size := Nat.le_trans hb.size (Nat.le_trans hg5.size hg6.size)
  have hbk : ∀ g, g < w.heap.size → g ≠ m2 → v.ownBlock ≠ some g → w6.heap[g]? = w.heap[g]? := fun g hg h1 h2 =>
    ((hg6.block g (Nat.lt_of_lt_of_le hg (Nat.le_trans hb.size hg5.size)) (fun e => h1 (Option.some.inj e))).trans (hg5.block g (Nat.lt_of_lt_of_le hg hb.size) (fun e => h2 (by rw [hvb]; exact e.symm)))).trans (hb.block g hg)
  have hgm : g0 ≠ m2 := fun e => by
    obtain ⟨D2, ⟨es2, ck2, hh2, _⟩, _⟩ := h.m2
    obtain ⟨v0, e0, ho0, _⟩ := h.at_ d
    obtain rfl : v = v0 := hv.symm.trans e0
    rcases ho0.2 with ⟨z1, _⟩ | ⟨g2, c2', cur2, z1, _, z3, _⟩
    · rw [z1] at hvb; cases hvb
    · rw [z1] at hvb; injection hvb with hvb
      have : g2 = m2 := by rw [← e]; exact hvb
      rw [this, hh2] at z3; cases z3
  have hpl : Pls 0 w6 v' (out (P d) t) := row_of hp5 (fun g hg => by
    rw [hv'] at hg; injection hg with hg; subst hg
    exact hg6.block _ (Nat.lt_of_lt_of_le (h.low _ (hown _ hvb)) (Nat.le_trans hb.size hg5.size)) (fun e => hgm (Option.some.inj e)))
  obtain ⟨c, hm, hc⟩ := hm
  have hol := out_len (h.srt d) hhas
  have hF := h.set d v v' (out (P d) t) hv hs (fun g ho h1 h2 => hbk g (h.low g ho) h1 h2) hm hc hpl (fun e => by rw [e] at hol; have := hol.2; simp at this; omega) (out_srt (h.srt d)) (by have := h.len d; omega)
    (fun g hg => .inl (by rw [hvb]; rw [hv'] at hg; exact hg))
  have hP : (fun x => if x = d then out (P d) t else P x) = dropP P d t := by funext x; unfold dropP; rw [hhas]; rfl
  rw [hP] at hF
  refine ⟨_, ⟨m1, m2, fv, _, c, hF⟩, ?_, fun g hg => .inl hg, ?_⟩
  · exact ⟨hg6.os.trans (hg5.os.trans hb.os), hg6.tape.trans (hg5.tape.trans hb.tape), hg6.output.trans (hg5.output.trans hb.output), hs, fun g hg hn => hbk g hg (fun e => hn (e ▸ h.o2)) (fun e => hn (hown g e))⟩
  · rintro g (hg | hg)
    · exact .inl hg
    · rw [hv', ← hvb] at hg; exact .inl (hown g hg)
/-- What the loads of drop's last regions need. -/
structure DS (p m2 b1 : Nat) (d : By) (W : World) : Prop where
  has : ∃ m1, Has W p 66 #[.map (some m1), .map (some m2)]
  box : Has W b1 27 (hvec d)
theorem DS.cell2 {p m2 b1 : Nat} {d : By} {W : World} (h : DS p m2 b1 d W) : W.cell? ⟨p, 1, none⟩ = some (.map (some m2)) := by
  obtain ⟨m1, h1⟩ := h.has; exact h1.at_ 1
theorem DS.kept {p m2 b1 g : Nat} {d : By} {w5 w6 : World} (h : DS p m2 b1 d w5) (hg : Grw g w5 w6) (h1 : p ≠ g) (h2 : b1 ≠ g) : DS p m2 b1 d w6 := by
  obtain ⟨k1, hk⟩ := h.has
  exact ⟨⟨k1, hk.grw hg h1⟩, h.box.grw hg h2⟩
section
variable {ops : Array Oper} {o : Oper} {a : Act}
theorem step_delete {w : World} {K : Act → World → Prop} {Q : Exit → Act → World → Prop} {E : Prop} (hw : Region.wanted o (yielded ops a.tmps) = true) {t k : TypeId} (m x : Operand) (ho : o.op = .call { callee := .builtin .delete, args := #[m, x], argTypes := #[t, k] }) (mv xv : Value) (hm : a.eval m = mv) (hx : a.eval x = xv)
    {w' : World} (hr : ∀ ty, (Builtin.delete_ #[t, k] ty #[mv, xv]).run Tryd.prog w = .ok (.tuple #[]) w') (hK : K (a.put o.dst (.tuple #[])) w') : if Region.wanted o (yielded ops a.tmps) = true then Oper.wp Tryd.prog o a w K Q else E := by
  rw [if_pos hw]
  unfold Oper.wp
  simp [execOp, ho, resolve, invoke, builtin, hm, hx, hr o.type, Result.andThen]
  exact hK
end
theorem FinI.pne {own : Nat → Prop} {w : World} {p m1 m2 : Nat} {fv pv : Value → Option Value} {F : By → Option By} {P : By → List Pl} {cf cp N : Nat} (h : FinI own w p m1 m2 fv pv F P cf cp N) : p ≠ m2 := fun e => by
  obtain ⟨D, ⟨es, ck, hh, _⟩, _⟩ := h.m2
  have := h.has
  unfold Has at this
  rw [e, hh] at this; cases this
theorem FinI.vne {own : Nat → Prop} {w : World} {p m1 m2 : Nat} {fv pv : Value → Option Value} {F : By → Option By} {P : By → List Pl} {cf cp N : Nat} (h : FinI own w p m1 m2 fv pv F P cf cp N) {d : By} {v : Value} (hv : (pv (kH d)).getD nilV = v) {g : Nat} (hg : v.ownBlock = some g) : p ≠ g ∧ m2 ≠ g := by
  obtain ⟨v0, e0, ho0, _⟩ := h.at_ d
  obtain rfl : v = v0 := hv.symm.trans e0
  have : ∃ cur, w.heap[g]? = some (.cells cur 54 (0, 0)) := by
    rcases ho0.2 with ⟨h1, _⟩ | ⟨g', c, cur, h1, _, h3, _⟩
    · rw [h1] at hg; cases hg
    · rw [h1] at hg; injection hg with hg; exact ⟨cur, by rw [← hg]; exact h3⟩
  obtain ⟨cur, hcur⟩ := this
  constructor
  · intro e
    have := h.has
    unfold Has at this
    rw [e, hcur] at this
    injection this with this; injection this with _ this; revert this; decide
  · intro e
    obtain ⟨D, ⟨es, ck, hh, _⟩, _⟩ := h.m2
    rw [e, hcur] at hh; cases hh
theorem prow_drew {w : World} {g cap : Nat} {cur : List Value} {ps : List Pl} (h : PRow w g cap cur ps) : PRow w.drew g cap cur ps := ⟨h.has, h.len, h.le, h.max, h.take⟩
set_option maxRecDepth 100000 in
set_option maxHeartbeats 8000000 in
theorem drop_no {own : Nat → Prop} {w : World} {p : Nat} {F : By → Option By} {P : By → List Pl} {cf N : Nat} (h : Fin own w p F P cf N) (d : By) (hd : d.length = 32) (t : By) (hN : N ≤ 1000000) (hh : hasN (P d) t = false) :
    Calls Tryd.prog 44 #[.pointer (some ⟨p, 0, none⟩), .agg (hvec d), .string (ba t)] w fun e w' => e = .returned (.tuple #[]) ∧ FPost own w p F (dropP P d t) cf (N + 1) w' := by
  obtain ⟨m1, m2, fv, pv, cp, h⟩ := h
  obtain ⟨v, hv, hpl, hown⟩ := h.at_ d
  obtain ⟨kl, hk⟩ := hash_key d hd
  have HK := hid hk
  have HD := hid hd
  have HV := hid hv
  obtain ⟨n, HN⟩ : ∃ n, Hid ((P d).length = n) := ⟨_, rfl⟩
  obtain ⟨A, c, e0⟩ := hpl.form
  rw [HN.out] at e0
  subst e0
  obtain ⟨W0, HW0⟩ : ∃ W0, Hid ((w.alloc (.cells (hvec d) 27)).drew = W0) := ⟨_, rfl⟩
  have hb0 : Below w.heap.size w W0 := by rw [← HW0.out]; exact ((Below.refl _ _).alloc (Nat.le_refl _) _).drew
  have hbox : Has W0 w.heap.size 27 (hvec d) := by rw [← HW0.out]; exact Has.fresh w 27 (hvec d)
  have hI0 := h.kept hb0.size (fun g hg => hb0.block g (h.low g hg))
  have NS0 : Hid (NS p m2 cp pv w.heap.size d ((w.alloc (.cells (hvec d) 27)).drew)) := by
    rw [HW0.out]; exact ⟨⟨m1, hI0.has⟩, hI0.m2, hbox⟩
  have HPL0 : Pls 0 W0 (.slice A n c) (P d) := hpl.kept hb0 (Nat.le_refl _)
  have HCP := hid (placeOf_any 0 _ (P d) (h.srt d) t W0 HPL0 (by have := h.len d; omega))
  rw [hh] at HCP
  have HB0 := hid hb0
  have HI := hid h
  have HBX := hid hbox
  have HPL := hid HPL0
  have HOWN := hid hown
  have HH := hid hh
  have HNN := hid hN
  have HEND : Hid (∀ w3, Below W0.heap.size W0 w3 → FPost own w p F (dropP P d t) cf (N + 1) w3) := fun w3 hb3 => by
    rw [dropP_id hh]
    exact FPost.refl (Fin.more ⟨m1, m2, fv, pv, cp, h⟩ (Nat.le_succ N)) (hb0.trans (hb3.mono hb0.size))
  clear h hv hpl hown hk hd hb0 hbox hI0 HPL0 hh
  go_enter Tryd.func44, Tryd.ntmps44
  go_wp2
  refine wp_region_noPanic ?_
  refine wp_region_held_drew (S := NS p m2 cp pv w.heap.size d) (by kernel_rfl) (NS0.out) (fun hS => ?_)
  refine wpAnyH_take (i := 0) (v := ?_) (by simp only [List.getElem?_toArray, List.getElem?_cons_zero]; rfl) (by kernel_rfl) (by kernel_rfl) (by kernel_rfl) (fun _ _ _ h => h) (Or.inl ⟨by rfl, ?_⟩) (by assumption) ?_
  rotate_left 1
  · intro w hSw
    have hc2 := hSw.cell2
    go_simp
    with_reducible rfl
  simp only [Act.put, List.setIfInBounds_toArray, List.set_cons_zero, List.set_cons_succ]
  refine wpAnyH_take (i := 1) (v := ?_) (by simp only [List.getElem?_toArray, List.getElem?_cons_zero, List.getElem?_cons_succ]; rfl) (by kernel_rfl) (by kernel_rfl) (by kernel_rfl) (fun _ _ _ h => h) (Or.inl ⟨by rfl, ?_⟩) (by assumption) ?_
  rotate_left 1
  · intro w hSw
    have hc2 := hSw.cell2
    go_simp
    with_reducible rfl
  simp only [Act.put, List.setIfInBounds_toArray, List.set_cons_zero, List.set_cons_succ]
  refine wpAnyH_take (i := 2) (v := ?_) (by simp only [List.getElem?_toArray, List.getElem?_cons_zero, List.getElem?_cons_succ]; rfl) (by kernel_rfl) (by kernel_rfl) (by kernel_rfl) (fun _ _ _ h => h) (Or.inl ⟨by rfl, ?_⟩) (by assumption) ?_
  rotate_left 1
  · intro w hSw
    have hc2 := hSw.cell2
    go_simp
    with_reducible rfl
  simp only [Act.put, List.setIfInBounds_toArray, List.set_cons_zero, List.set_cons_succ]
  refine wpAnyH_take (i := 3) (v := ?_) (by simp only [List.getElem?_toArray, List.getElem?_cons_zero, List.getElem?_cons_succ]; rfl) (by kernel_rfl) (by kernel_rfl) (by kernel_rfl) (fun _ _ _ h => h) (Or.inl ⟨by rfl, ?_⟩) (by assumption) ?_
  rotate_left 1
  · intro w hSw
    have hc2 := hSw.cell2
    go_simp
    with_reducible rfl
  simp only [Act.put, List.setIfInBounds_toArray, List.set_cons_zero, List.set_cons_succ]
  refine' wpAnyH_take (i := 4) (v := _) (by simp only [List.getElem?_toArray, List.getElem?_cons_zero, List.getElem?_cons_succ]; rfl) (by kernel_rfl) (by kernel_rfl) (by kernel_rfl) (fun _ _ _ h => h) (yields_load_h (by rfl) (.tmp 4) rfl w.heap.size 0 rfl d (fun w hS => load_h hS.box HD.out)) (by assumption) ?_
  simp only [Act.put, List.setIfInBounds_toArray, List.set_cons_zero, List.set_cons_succ]
  refine' wpAnyH_take (i := 5) (v := _) (by simp only [List.getElem?_toArray, List.getElem?_cons_zero, List.getElem?_cons_succ]; rfl) (by kernel_rfl) (by kernel_rfl) (by kernel_rfl) (fun _ _ _ h => h) (yields_look (by rfl) (.tmp 12) (.tmp 13) rfl (.map (some m2)) (.agg (hvec d)) (.slice A n c) rfl rfl (fun w hS => hS.look HK.out HV.out)) (by assumption) ?_
  simp only [Act.put, List.setIfInBounds_toArray, List.set_cons_zero, List.set_cons_succ]
  refine wpAnyH_take (i := 6) (v := ?_) (by simp only [List.getElem?_toArray, List.getElem?_cons_zero, List.getElem?_cons_succ]; rfl) (by kernel_rfl) (by kernel_rfl) (by kernel_rfl) (fun _ _ _ h => h) (Or.inl ⟨by rfl, ?_⟩) (by assumption) ?_
  rotate_left 1
  · intro w hSw
    go_simp
    with_reducible rfl
  simp only [Act.put, List.setIfInBounds_toArray, List.set_cons_zero, List.set_cons_succ]
  refine wpAnyH_done (by kernel_rfl) ?_ _
  refine NoPanic.normal ?_
  generalize hWd : World.drew _ = wd
  obtain rfl : W0 = wd := HW0.out.symm.trans hWd
  clear hWd
  go_wp2_with (go_at_call 58; refine HCP.out.mono ?_; rintro e3 w3 ⟨rfl, hb3⟩)
  go_end0
  exact ⟨rfl, HEND.out _ hb3⟩
end Go.Proofs.YtlcdkponegmcdaaDoor
