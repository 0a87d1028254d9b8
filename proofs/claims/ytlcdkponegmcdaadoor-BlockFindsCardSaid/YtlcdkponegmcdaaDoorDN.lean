/- Finder.note, Finder.drop: what each call does to the places of a digest. Conditions: a finder; a digest of 32 bytes. -/
import Derived.Test.YtlcdkponegmcdaaDoorDM
import Derived.Deep.RegionHeld3
namespace Go.Proofs.YtlcdkponegmcdaaDoor
open Go.RowKit Go.Maps
/-- A place put among places in the order of their names. -/
def ins (ps : List Pl) (q : Pl) : List Pl := ps.take (posOf ps q.1) ++ q :: ps.drop (posOf ps q.1)
/-- .. taken out. -/
def out (ps : List Pl) (t : By) : List Pl := ps.take (posOf ps t) ++ ps.drop (posOf ps t + 1)
section
variable {ops : Array Oper} {S : World → Prop} {o : Oper} {a : Act}
theorem yields_look {t : TypeId} {c : Bool} (hw : Region.wanted o (yielded ops a.tmps) = true) (m x : Operand) (ho : o.op = .lookup t m x c) (mv xv r : Value) (hm : a.eval m = mv) (hx : a.eval x = xv)
    (hS : ∀ w, S w → (Instr.lookup t mv xv c).run Tryd.prog w = .ok r w) : YieldsIf Tryd.prog ops S o r a :=
  .inl ⟨hw, fun w hw' => by
    unfold execOp
    simp only [ho, hm, hx, Sem.run_bind, Sem.run_pure, Result.andThen_ok, hS w hw']⟩
theorem yields_load_pl (hw : Region.wanted o (yielded ops a.tmps) = true) (x : Operand) (ho : o.op = .load 54 x) (g off : Nat) (hx : a.eval x = .pointer (some ⟨g, off, none⟩)) (r : Value)
    (hS : ∀ w, S w → (loadVar 54 ⟨g, off, none⟩).run Tryd.prog w = .ok r w) : YieldsIf Tryd.prog ops S o r a :=
  .inl ⟨hw, fun w hw' => by
    unfold execOp
    simp only [ho, hx, Instr.loadAt, Instr.sureAddr, Sem.run_bind, Sem.run_pure, Result.andThen_ok, hS w hw']⟩
/-- A store into a map as one step. -/
theorem step_update {w : World} {K : Act → World → Prop} {Q : Exit → Act → World → Prop} {E : Prop} (hw : Region.wanted o (yielded ops a.tmps) = true) {t : TypeId} (m x v : Operand) (ho : o.op = .mapUpdate t m x v) (mv xv vv : Value) (hm : a.eval m = mv) (hx : a.eval x = xv) (hv : a.eval v = vv)
    {w' : World} (hr : (Instr.mapUpdate t mv xv vv).run Tryd.prog w = .ok () w') (hK : K (a.put o.dst undef) w') : if Region.wanted o (yielded ops a.tmps) = true then Oper.wp Tryd.prog o a w K Q else E := by
  rw [if_pos hw]
  unfold Oper.wp
  simp [execOp, ho, hm, hx, hv, hr, Result.andThen]
  exact hK
theorem step_build_pl {w : World} {K : Act → World → Prop} {Q : Exit → Act → World → Prop} {E : Prop} (hw : Region.wanted o (yielded ops a.tmps) = true) (x : Operand) (ho : o.op = .buildSlice 89 1 #[(0, x)]) (q : Pl) (hx : a.eval x = .agg (pcell q).toArray)
    (hK : K (a.put o.dst (.slice (some ⟨w.heap.size, 0, none⟩) 1 1)) (w.alloc (.cells (pcell q).toArray 54))) : if Region.wanted o (yielded ops a.tmps) = true then Oper.wp Tryd.prog o a w K Q else E := by
  have hI : (Tryd.prog.info? 54).map (fun i => (i.size, i.zero)) = some (2, some (.agg #[.string ⟨#[]⟩, .int .i64 0])) := by kernel_rfl
  have hr : (Instr.buildSlice 89 1 #[(0, Value.agg (pcell q).toArray)]).run Tryd.prog w = .ok (.slice (some ⟨w.heap.size, 0, none⟩) 1 1) (w.alloc (.cells (pcell q).toArray 54)) := by
    cases hie : Tryd.prog.info? 54 with
    | none => rw [hie] at hI; cases hI
    | some ie =>
      rw [hie] at hI
      simp only [Option.map_some, Option.some.injEq, Prod.mk.injEq] at hI
      refine run_buildSlice (P := Tryd.prog) w 89 54 1 _ _ ie _ Tryd.underlying89 hie hI.2 (by rw [hI.1]; omega) (by rw [hI.1]; omega) ?_
      rw [hI.1]
      refine (Great.fill_whole (s := 2) (by omega) [Value.agg (pcell q).toArray] _ (fun v hv => ?_) (by simp)).trans (by simp [Value.cells])
      simp only [List.mem_singleton] at hv
      subst hv
      rfl
  rw [if_pos hw]
  unfold Oper.wp
  simp only [execOp, ho, hx, Sem.run_bind, List.map_toArray, List.map_cons, List.map_nil, hr, Result.andThen]
  exact hK
end
theorem load_pl {w : World} {g : Nat} {q : Pl} (k : Has w g 54 (pcell q).toArray) : (loadVar 54 ⟨g, 0, none⟩).run Tryd.prog w = .ok (.agg (pcell q).toArray) w :=
  run_loadVar_row (P := Tryd.prog) w g 54 54 (pcell q).toArray (0, 0) _ k Tryd.underlying54 rfl (by kernel_rfl)
theorem zero_pls (w : World) : (zeroValue 89).run Tryd.prog w = .ok nilV w := by kernel_rfl
theorem zero_bys (w : World) : (zeroValue 25).run Tryd.prog w = .ok nilV w := by kernel_rfl
/-- The value at a digest. -/
theorem FinI.at_ {own : Nat → Prop} {w : World} {p m1 m2 : Nat} {fv pv : Value → Option Value} {F : By → Option By} {P : By → List Pl} {cf cp N : Nat} (h : FinI own w p m1 m2 fv pv F P cf cp N) (d : By) :
    ∃ v, (pv (kH d)).getD nilV = v ∧ Pls 0 w v (P d) ∧ (∀ g, v.ownBlock = some g → own g) := by
  by_cases hd : P d = []
  · refine ⟨nilV, by rw [h.pnone d hd]; rfl, ?_, fun g hg => by cases hg⟩
    rw [hd]; exact World.ownsRow_nil _ _ _ _
  · obtain ⟨v, h1, h2, h3⟩ := h.psome d hd
    exact ⟨v, by rw [h1]; rfl, h2, h3⟩
/-- What the loads of note and drop need. -/
structure NS (p m2 : Nat) (cp : Nat) (pv : Value → Option Value) (b1 : Nat) (d : By) (W : World) : Prop where
  has : ∃ m1, Has W p 66 #[.map (some m1), .map (some m2)]
  m2 : MapIs W 27 m2 cp pv
  box : Has W b1 27 (hvec d)
theorem NS.cell2 {p m2 cp b1 : Nat} {pv : Value → Option Value} {d : By} {W : World} (h : NS p m2 cp pv b1 d W) : W.cell? ⟨p, 1, none⟩ = some (.map (some m2)) := by
  obtain ⟨m1, h1⟩ := h.has; exact h1.at_ 1
theorem NS.kept {p m2 cp b1 : Nat} {pv : Value → Option Value} {d : By} {W W' : World} (h : NS p m2 cp pv b1 d W) (hb : ∀ g, g = p ∨ g = m2 ∨ g = b1 → W'.heap[g]? = W.heap[g]?) : NS p m2 cp pv b1 d W' := by
  obtain ⟨m1, h1⟩ := h.has
  exact ⟨⟨m1, (hb p (.inl rfl)).trans h1⟩, h.m2.kept (hb m2 (.inr (.inl rfl))), (hb b1 (.inr (.inr rfl))).trans h.box⟩
theorem NS.look {p m2 cp b1 : Nat} {pv : Value → Option Value} {d : By} {W : World} (h : NS p m2 cp pv b1 d W) {kl : Lit} (hk : keyOf Tryd.prog 27 (.agg (hvec d)) = some kl) {v : Value} (hv : (pv (kH d)).getD nilV = v) :
    (Instr.lookup 64 (.map (some m2)) (.agg (hvec d)) false).run Tryd.prog W = .ok v W := by
  have := h.m2.look hash_keyed Tryd.underlying64 (zero_pls W) hk
  rw [this]; unfold kH at hv; rw [hv]
theorem nameAt_mem {ps : List Pl} {k : Nat} (hk : k < ps.length) : ∃ i, (nameAt ps k, i) ∈ ps := by
  refine ⟨(ps[k]).2, ?_⟩
  have e : nameAt ps k = (ps[k]).1 := by rw [nameAt, List.getD, List.getElem?_eq_getElem hk]; rfl
  rw [e]; exact List.getElem_mem hk
theorem posOf_take {ps : List Pl} {t : By} : ∀ p ∈ ps.take (posOf ps t), cb p.1 t < 0 := by
  induction ps with
  | nil => intro p hp; simp at hp
  | cons a ps ih =>
    intro p hp
    rw [posOf] at hp
    split at hp
    · rename_i h
      rcases List.mem_cons.1 (by simpa using hp) with rfl | hp
      · exact h
      · exact ih p hp
    · simp at hp
theorem posOf_drop {ps : List Pl} (hs : Srt ps) {t : By} : ∀ p ∈ ps.drop (posOf ps t), ¬ cb p.1 t < 0 := by
  induction ps with
  | nil => intro p hp; simp at hp
  | cons a ps ih =>
    obtain ⟨h1, h2⟩ := List.pairwise_cons.1 hs
    intro p hp
    rw [posOf] at hp
    split at hp
    · exact ih h2 p (by simpa using hp)
    · rename_i h
      rcases List.mem_cons.1 (by simpa using hp) with rfl | hp
      · exact h
      · exact fun h3 => h (cb_trans (h1 p hp) h3)
theorem hasYtlcdkponegmcdaaDoormem {ps : List Pl} {t : By} : hasN ps t = true ↔ ∃ i, (t, i) ∈ ps := by
  simp only [hasN, List.any_eq_true, decide_eq_true_eq]
  constructor
  · rintro ⟨p, hp, rfl⟩; exact ⟨p.2, hp⟩
  · rintro ⟨i, hi⟩; exact ⟨_, hi, rfl⟩
theorem ins_srt {ps : List Pl} {q : Pl} (hs : Srt ps) (hn : hasN ps q.1 = false) : Srt (ins ps q) := by
  have hno : ∀ p ∈ ps, p.1 ≠ q.1 := fun p hp e => by
    have : hasN ps q.1 = true := hasYtlcdkponegmcdaaDoormem.2 ⟨p.2, by rw [← e]; exact hp⟩
    rw [hn] at this; cases this
  have h0 : ps.take (posOf ps q.1) ++ ps.drop (posOf ps q.1) = ps := List.take_append_drop _ _
  have hs2 := hs
  rw [← h0] at hs2
  obtain ⟨a1, a2, a3⟩ := List.pairwise_append.1 hs2
  refine List.pairwise_append.2 ⟨a1, List.pairwise_cons.2 ⟨fun p hp => ?_, a2⟩, fun x hx y hy => ?_⟩
  · have h1 := posOf_drop hs p hp
    have h2 := hno p (List.mem_of_mem_drop hp)
    have h3 : cb p.1 q.1 ≠ 0 := fun e => h2 (cb_zero e)
    have := cb_swap p.1 q.1
    omega
  · rcases List.mem_cons.1 hy with rfl | hy
    · exact posOf_take x hx
    · exact a3 x hx y hy
theorem ins_mem {ps : List Pl} {q x : Pl} : x ∈ ins ps q ↔ x = q ∨ x ∈ ps := by
  have h0 : ps.take (posOf ps q.1) ++ ps.drop (posOf ps q.1) = ps := List.take_append_drop _ _
  constructor
  · intro h
    rcases List.mem_append.1 h with h | h
    · exact .inr (List.mem_of_mem_take h)
    · rcases List.mem_cons.1 h with h | h
      · exact .inl h
      · exact .inr (List.mem_of_mem_drop h)
  · rintro (rfl | h)
    · exact List.mem_append.2 (.inr (by simp))
    · rw [← h0] at h
      rcases List.mem_append.1 h with h | h
      · exact List.mem_append.2 (.inl h)
      · exact List.mem_append.2 (.inr (by simp [h]))
theorem ins_len (ps : List Pl) (q : Pl) : (ins ps q).length = ps.length + 1 := by
  have := posOf_le ps q.1
  simp [ins]; omega
theorem out_sub (ps : List Pl) (t : By) : (out ps t).Sublist ps := by
  have h0 : ps.take (posOf ps t) ++ ps.drop (posOf ps t) = ps := List.take_append_drop _ _
  conv => rhs; rw [← h0]
  refine List.Sublist.append (List.Sublist.refl _) ?_
  rw [← List.drop_drop]
  exact List.drop_sublist _ _
theorem out_srt {ps : List Pl} {t : By} (hs : Srt ps) : Srt (out ps t) := hs.sublist (out_sub ps t)
theorem out_len {ps : List Pl} {t : By} (hs : Srt ps) (h : hasN ps t = true) : posOf ps t < ps.length ∧ (out ps t).length + 1 = ps.length := by
  rw [hasYtlcdkponegmcdaaDoorat ps hs t] at h
  simp only [Bool.and_eq_true, decide_eq_true_eq] at h
  refine ⟨h.1, ?_⟩
  simp [out]; omega
theorem at_pos {ps : List Pl} {t : By} (hs : Srt ps) (h : hasN ps t = true) : nameAt ps (posOf ps t) = t := by
  rw [hasYtlcdkponegmcdaaDoorat ps hs t] at h
  simp only [Bool.and_eq_true, decide_eq_true_eq] at h
  exact cb_zero h.2
theorem out_mem {ps : List Pl} {t : By} (hs : Srt ps) (h : hasN ps t = true) {x : Pl} : x ∈ out ps t ↔ x ∈ ps ∧ x.1 ≠ t := by
  have h1 := (out_len hs h).1
  have h2 := at_pos hs h
  have e : nameAt ps (posOf ps t) = (ps[posOf ps t]).1 := by rw [nameAt, List.getD, List.getElem?_eq_getElem h1]; rfl
  have h0 : ps.take (posOf ps t) ++ ps[posOf ps t] :: ps.drop (posOf ps t + 1) = ps := by rw [List.getElem_cons_drop, List.take_append_drop]
  have hs2 := hs
  rw [← h0] at hs2
  obtain ⟨a1, a2, a3⟩ := List.pairwise_append.1 hs2
  obtain ⟨b1, b2⟩ := List.pairwise_cons.1 a2
  rw [e] at h2
  constructor
  · intro hx
    refine ⟨(out_sub ps t).subset hx, fun e2 => ?_⟩
    rcases List.mem_append.1 hx with hx | hx
    · have := posOf_take x hx
      rw [e2, cb_self] at this; omega
    · have := b1 x hx
      rw [h2, e2, cb_self] at this; omega
  · rintro ⟨hx, hne⟩
    rw [← h0] at hx
    rcases List.mem_append.1 hx with hx | hx
    · exact List.mem_append.2 (.inl hx)
    · rcases List.mem_cons.1 hx with hx | hx
      · rw [hx, h2] at hne; exact absurd rfl hne
      · exact List.mem_append.2 (.inr hx)
open Classical in
/-- The places of one digest set anew. -/
theorem FinI.set {own : Nat → Prop} {w w' : World} {p m1 m2 : Nat} {fv pv : Value → Option Value} {F : By → Option By} {P : By → List Pl} {cf cp cp' N : Nat} (h : FinI own w p m1 m2 fv pv F P cf cp N) (d : By) (v v' : Value) (ps' : List Pl)
    (hv : (pv (kH d)).getD nilV = v) (hs : w.heap.size ≤ w'.heap.size) (hb : ∀ g, own g → g ≠ m2 → v.ownBlock ≠ some g → w'.heap[g]? = w.heap[g]?)
    (hm : MapIs w' 27 m2 cp' (fun y => if y = kH d then some v' else pv y)) (hc : cp' ≤ N + 1) (hp : Pls 0 w' v' ps') (hne : ps' ≠ []) (hsr : Srt ps') (hl : ps'.length ≤ N + 1)
    (hblk : ∀ g, v'.ownBlock = some g → v.ownBlock = some g ∨ w.heap.size ≤ g) : 
    FinI (fun g => own g ∨ v'.ownBlock = some g) w' p m1 m2 fv (fun y => if y = kH d then some v' else pv y) F (fun x => if x = d then ps' else P x) cf cp' (N + 1) := by
  obtain ⟨v0, e0, ho0, hown0⟩ := h.at_ d
  obtain rfl : v = v0 := hv.symm.trans e0
  have hrow : ∀ g, v.ownBlock = some g → ∃ cur, w.heap[g]? = some (.cells cur 54 (0, 0)) := by
    intro g hg
    rcases ho0.2 with ⟨h1, _⟩ | ⟨g', c, cur, h1, _, h3, _⟩
    · rw [h1] at hg; cases hg
    · rw [h1] at hg; injection hg with hg; exact ⟨cur, by rw [← hg]; exact h3⟩
  have hnp : v.ownBlock ≠ some p := fun e => by
    obtain ⟨cur, hcur⟩ := hrow p e
    have := h.has
    unfold Has at this
    rw [hcur] at this
    injection this with this; injection this with _ this; revert this; decide
  have hn1 : v.ownBlock ≠ some m1 := fun e => by
    obtain ⟨cur, hcur⟩ := hrow m1 e
    obtain ⟨D, ⟨es, ck, hh, _⟩, _⟩ := h.m1
    rw [hcur] at hh; cases hh
  have hpm : p ≠ m2 := fun e => by
    obtain ⟨D, ⟨es, ck, hh, _⟩, _⟩ := h.m2
    have := h.has
    unfold Has at this
    rw [e, hh] at this; cases this
  have hothers : ∀ d' v2 g, d' ≠ d → pv (kH d') = some v2 → v2.ownBlock = some g → v.ownBlock ≠ some g := by
    intro d' v2 g hd' h2 hg hvg
    have : pv (kH d) = some v := by
      cases hpd : pv (kH d) with
      | none => rw [hpd] at hv; simp [nilV] at hv; rw [← hv] at hvg; cases hvg
      | some z => rw [hpd] at hv; simp at hv; rw [hv]
    exact h.apart d d' v v2 g (Ne.symm hd') this h2 hvg hg
  have hmap : ∀ g cur t, w.heap[g]? = some (.cells cur t (0, 0)) → g ≠ m2 := by
    intro g cur t hg e
    obtain ⟨D, ⟨es, ck, hh, _⟩, _⟩ := h.m2
    rw [e, hh] at hg; cases hg
  refine ⟨?_, (hb p h.op hpm hnp).trans h.has, .inl h.op, .inl h.o1, .inl h.o2, h.ne, h.m1.kept (hb m1 h.o1 h.ne hn1), hm, Nat.le_succ_of_le h.cf, hc, h.fnone, ?_, ?_, ?_, ?_, ?_, ?_⟩
  · rintro g (hg | hg)
    · exact Nat.lt_of_lt_of_le (h.low g hg) hs
    · rcases hp.2 with ⟨h1, _⟩ | ⟨g', c, cur, h1, _, h3, _⟩
      · rw [h1] at hg; cases hg
      · rw [h1] at hg; injection hg with hg; rw [← hg]; exact (Array.getElem?_eq_some_iff.1 h3).1
  · intro s xs hx
    obtain ⟨u, h1, h2, h3, h4⟩ := h.fsome s xs hx
    refine ⟨u, h1, row_of h2 (fun g hg => ?_), fun g hg => .inl (h3 g hg), h4⟩
    rcases h2.2 with ⟨k1, _⟩ | ⟨g', c, cur, k1, _, k3, _⟩
    · rw [k1] at hg; cases hg
    · rw [k1] at hg; injection hg with hg; subst hg
      refine hb _ (h3 _ (by rw [k1]; rfl)) (hmap _ _ _ k3) (fun e => ?_)
      obtain ⟨cur2, hcur2⟩ := hrow _ e
      rw [hcur2] at k3
      injection k3 with k3; injection k3 with _ k3; revert k3; decide
  · intro d' hd'
    by_cases e : d' = d
    · subst e; simp at hd'; exact absurd hd' hne
    · rw [if_neg e] at hd'
      simp only [if_neg (fun e2 => e (kH_inj e2))]
      exact h.pnone d' hd'
  · intro d' hd'
    by_cases e : d' = d
    · subst e
      simp only [if_pos]
      exact ⟨v', rfl, hp, fun g hg => .inr hg⟩
    · rw [if_neg e] at hd'
      simp only [if_neg e, if_neg (fun e2 => e (kH_inj e2))]
      obtain ⟨u, h1, h2, h3⟩ := h.psome d' hd'
      refine ⟨u, h1, row_of h2 (fun g hg => ?_), fun g hg => .inl (h3 g hg)⟩
      rcases h2.2 with ⟨k1, _⟩ | ⟨g', c, cur, k1, _, k3, _⟩
      · rw [k1] at hg; cases hg
      · have hg2 := hg
        rw [k1] at hg; injection hg with hg; subst hg
        exact hb _ (h3 _ hg2) (hmap _ _ _ k3) (hothers d' u _ e h1 hg2)
  · intro d'
    by_cases e : d' = d
    · rw [if_pos e]; exact hsr
    · rw [if_neg e]; exact h.srt d'
  · intro d'
    by_cases e : d' = d
    · rw [if_pos e]; exact hl
    · rw [if_neg e]; exact Nat.le_succ_of_le (h.len d')
  · intro a b va vb g hab ha hbb hga hgb
    by_cases ea : a = d
    · subst ea
      simp only [if_pos, Option.some.injEq] at ha
      simp only [if_neg (fun e2 => hab (kH_inj e2).symm)] at hbb
      subst ha
      rcases hblk g hga with hx | hx
      · exact hothers b vb g (Ne.symm hab) hbb hgb hx
      · have hPb : P b ≠ [] := fun e => by rw [h.pnone b e] at hbb; cases hbb
        obtain ⟨u, h1, _, h3⟩ := h.psome b hPb
        rw [h1] at hbb; injection hbb with hbb; subst hbb
        have := h.low g (h3 g hgb); omega
    · simp only [if_neg (fun e2 => ea (kH_inj e2))] at ha
      by_cases eb : b = d
      · subst eb
        simp only [if_pos, Option.some.injEq] at hbb
        subst hbb
        rcases hblk g hgb with hx | hx
        · exact hothers a va g ea ha hga hx
        · have hPa : P a ≠ [] := fun e => by rw [h.pnone a e] at ha; cases ha
          obtain ⟨u, h1, _, h3⟩ := h.psome a hPa
          rw [h1] at ha; injection ha with ha; subst ha
          have := h.low g (h3 g hga); omega
      · simp only [if_neg (fun e2 => eb (kH_inj e2))] at hbb
        exact h.apart a b va vb g hab ha hbb hga hgb
end Go.Proofs.YtlcdkponegmcdaaDoor
