/- Files put into a finder and taken out of it; steps of calls on a finder. No conditions but the ones said. -/
import Derived.Test.YtlcdkponegmcdaaDoorDR
namespace Go.Proofs.YtlcdkponegmcdaaDoor
open Go.RowKit Go.Maps
theorem FPost.step {own own' : Nat → Prop} {w1 wr wr2 w3 : World} {p : Nat} {F2 : By → Option By} {P2 : By → List Pl} {cf2 N2 : Nat} (hT : Turn own w1 wr) (hsub : ∀ g, own g → own' g) (ho : ∀ g, own' g → own g ∨ w1.heap.size ≤ g) (hb : Turn own' wr wr2)
    (h2 : FPost own' wr2 p F2 P2 cf2 N2 w3) : FPost own w1 p F2 P2 cf2 N2 w3 := by
  obtain ⟨own2, h3, h4, h5, h6⟩ := h2
  refine ⟨own2, h3, (hT.trans hb ho).trans h4 ho, fun g hg => h5 g (hsub g hg), fun g hg => ?_⟩
  rcases h6 g hg with h | h
  · exact ho g h
  · exact .inr (Nat.le_trans hT.size (Nat.le_trans hb.size h))
theorem FPost.more {own : Nat → Prop} {w w' : World} {p : Nat} {F : By → Option By} {P : By → List Pl} {cf N M : Nat} (h : FPost own w p F P cf N w') (hm : N ≤ M) : FPost own w p F P cf M w' := by
  obtain ⟨o, h1, h2⟩ := h; exact ⟨o, h1.more hm, h2⟩
theorem FPost.on {own : Nat → Prop} {w w' w2 : World} {p : Nat} {F : By → Option By} {P : By → List Pl} {cf N : Nat} (h : FPost own w p F P cf N w') (hb : Below w'.heap.size w' w2) : FPost own w p F P cf N w2 := by
  obtain ⟨o, h1, h2, h3, h4⟩ := h
  exact FPost.step h2 h3 h4 (Turn.of_below hb) (FPost.refl (h1.on hb (Nat.le_refl _)) (Below.refl _ _))
/-- What is not the finder's stays. -/
theorem FPost.block {own : Nat → Prop} {w w' : World} {p : Nat} {F : By → Option By} {P : By → List Pl} {cf N : Nat} (h : FPost own w p F P cf N w') {g : Nat} (hg : g < w.heap.size) (hn : ¬ own g) : w'.heap[g]? = w.heap[g]? := by
  obtain ⟨o, h1, h2, h3, h4⟩ := h; exact h2.block g hg hn
theorem FPost.size {own : Nat → Prop} {w w' : World} {p : Nat} {F : By → Option By} {P : By → List Pl} {cf N : Nat} (h : FPost own w p F P cf N w') : w.heap.size ≤ w'.heap.size := by
  obtain ⟨o, h1, h2, h3, h4⟩ := h; exact h2.size
theorem FPost.below {own : Nat → Prop} {w w' : World} {p B : Nat} {F : By → Option By} {P : By → List Pl} {cf N : Nat} (h : FPost own w p F P cf N w') (ho : ∀ g, own g → B ≤ g) (hB : B ≤ w.heap.size) : Below B w w' := by
  obtain ⟨o, h1, h2, h3, h4⟩ := h; exact h2.below ho hB
theorem Dgs.stay {w w' : World} {v : Value} {hs : List By} (h : Dgs 0 w v hs) (hb : ∀ g, v.ownBlock = some g → w'.heap[g]? = w.heap[g]?) : Dgs 0 w' v hs := ⟨row_of h.own hb, h.len⟩
open Classical in
/-- A file's name deleted. -/
theorem FinI.fdel {own : Nat → Prop} {w w' : World} {p m1 m2 : Nat} {fv pv : Value → Option Value} {F : By → Option By} {P : By → List Pl} {cf cf' cp N : Nat} (h : FinI own w p m1 m2 fv pv F P cf cp N) (t : By)
    (hg : Grw m1 w w') (hm : MapIs w' 9 m1 cf' (fun y => if y = kS t then none else fv y)) (hc : cf' ≤ N) :
    FinI own w' p m1 m2 (fun y => if y = kS t then none else fv y) pv (fun s => if s = t then none else F s) P cf' cp N := by
  have hpm : p ≠ m1 := fun e => by
    obtain ⟨D, ⟨es, ck, hh, _⟩, _⟩ := h.m1
    have := h.has
    unfold Has at this
    rw [e, hh] at this; cases this
  have hb : ∀ g, own g → g ≠ m1 → w'.heap[g]? = w.heap[g]? := fun g ho hn => hg.block g (h.low g ho) (fun e => hn (Option.some.inj e))
  have hmap : ∀ g cur t, w.heap[g]? = some (.cells cur t (0, 0)) → g ≠ m1 := by
    intro g cur t hg e
    obtain ⟨D, ⟨es, ck, hh, _⟩, _⟩ := h.m1
    rw [e, hh] at hg; cases hg
  have hrow : ∀ {e : TypeId} {s n : Nat} {v : Value} {xs : List Value}, w.ownsRow 0 e s v n xs → (∀ g, v.ownBlock = some g → own g) → w'.ownsRow 0 e s v n xs := fun hr ho => row_of hr (fun g hg => by
    rcases hr.2 with ⟨k1, _⟩ | ⟨g', c, cur, k1, _, k3, _⟩
    · rw [k1] at hg; cases hg
    · have hg2 := hg
      rw [k1] at hg; injection hg with hg; subst hg
      exact hb _ (ho _ hg2) (hmap _ _ _ k3))
  refine ⟨fun g ho => Nat.lt_of_lt_of_le (h.low g ho) hg.size, (hb p h.op hpm).trans h.has, h.op, h.o1, h.o2, h.ne, hm, h.m2.kept (hb m2 h.o2 (Ne.symm h.ne)), hc, h.cp, ?_, ?_, h.pnone, ?_, h.srt, h.len, h.apart⟩
  · intro s hs
    by_cases e : s = t
    · subst e; simp
    · rw [if_neg e] at hs
      simp only [if_neg (fun e2 => e (kS_inj e2))]
      exact h.fnone s hs
  · intro s xs hx
    by_cases e : s = t
    · subst e; simp at hx
    · rw [if_neg e] at hx
      simp only [if_neg (fun e2 => e (kS_inj e2))]
      obtain ⟨u, h1, h2, h3, h4⟩ := h.fsome s xs hx
      exact ⟨u, h1, hrow h2 h3, h3, h4⟩
  · intro d hd
    obtain ⟨u, h1, h2, h3⟩ := h.psome d hd
    exact ⟨u, h1, hrow h2 h3, h3⟩
open Classical in
/-- A file put. -/
theorem FinI.fput {own : Nat → Prop} {w w' : World} {p m1 m2 : Nat} {fv pv : Value → Option Value} {F : By → Option By} {P : By → List Pl} {cf cf' cp N : Nat} (h : FinI own w p m1 m2 fv pv F P cf cp N) (t xs : By) (v : Value)
    (hg : Grw m1 w w') (hm : MapIs w' 9 m1 cf' (fun y => if y = kS t then some v else fv y)) (hc : cf' ≤ N + 1) (hv : Fresh 0 w v xs) (hx : xs.length ≤ 4096) :
    FinI (fun g => own g ∨ v.ownBlock = some g) w' p m1 m2 (fun y => if y = kS t then some v else fv y) pv (fun s => if s = t then some xs else F s) P cf' cp (N + 1) := by
  have hpm : p ≠ m1 := fun e => by
    obtain ⟨D, ⟨es, ck, hh, _⟩, _⟩ := h.m1
    have := h.has
    unfold Has at this
    rw [e, hh] at this; cases this
  have hb : ∀ g, own g → g ≠ m1 → w'.heap[g]? = w.heap[g]? := fun g ho hn => hg.block g (h.low g ho) (fun e => hn (Option.some.inj e))
  have hmap : ∀ g cur t, w.heap[g]? = some (.cells cur t (0, 0)) → g ≠ m1 := by
    intro g cur t hg e
    obtain ⟨D, ⟨es, ck, hh, _⟩, _⟩ := h.m1
    rw [e, hh] at hg; cases hg
  have hrow : ∀ {e : TypeId} {s n : Nat} {v : Value} {xs : List Value}, w.ownsRow 0 e s v n xs → w'.ownsRow 0 e s v n xs := fun hr => row_of hr (fun g hgg => by
    rcases hr.2 with ⟨k1, _⟩ | ⟨g', c, cur, k1, _, k3, _⟩
    · rw [k1] at hgg; cases hgg
    · rw [k1] at hgg; injection hgg with hgg; subst hgg
      exact hg.block _ (Array.getElem?_eq_some_iff.1 k3).1 (fun e => hmap _ _ _ k3 (Option.some.inj e)))
  refine ⟨?_, (hb p h.op hpm).trans h.has, .inl h.op, .inl h.o1, .inl h.o2, h.ne, hm, h.m2.kept (hb m2 h.o2 (Ne.symm h.ne)), hc, Nat.le_succ_of_le h.cp, ?_, ?_, h.pnone, ?_, h.srt, fun d => Nat.le_succ_of_le (h.len d), h.apart⟩
  · rintro g (ho | ho)
    · exact Nat.lt_of_lt_of_le (h.low g ho) hg.size
    · exact Nat.lt_of_lt_of_le (World.ownsRow.lt hv g ho).2 hg.size
  · intro s hs
    by_cases e : s = t
    · subst e; simp at hs
    · rw [if_neg e] at hs
      simp only [if_neg (fun e2 => e (kS_inj e2))]
      exact h.fnone s hs
  · intro s ys hy
    by_cases e : s = t
    · subst e
      simp only [if_pos, Option.some.injEq] at hy
      subst hy
      simp only [if_pos]
      exact ⟨v, rfl, hrow hv, fun g hg => .inr hg, hx⟩
    · rw [if_neg e] at hy
      simp only [if_neg (fun e2 => e (kS_inj e2))]
      obtain ⟨u, h1, h2, h3, h4⟩ := h.fsome s ys hy
      exact ⟨u, h1, hrow h2, fun g hg => .inl (h3 g hg), h4⟩
  · intro d hd
    obtain ⟨u, h1, h2, h3⟩ := h.psome d hd
    exact ⟨u, h1, hrow h2, fun g hg => .inl (h3 g hg)⟩
theorem wpList_delete_run {ops : Array Oper} {rest : List Oper} {o : Oper} {a : Act} {w : World} {Q : Exit → Act → World → Prop} (hgd : o.guard = none) (m x : Operand) (t k : TypeId)
    (ho : o.op = .call { callee := .builtin .delete, args := #[m, x], argTypes := #[t, k] }) (mv xv : Value) (hm : a.eval m = mv) (hx : a.eval x = xv)
    (h : ∃ w', (∀ ty, (Builtin.delete_ #[t, k] ty #[mv, xv]).run Tryd.prog w = .ok (.tuple #[]) w') ∧ wpList Tryd.prog ops Q rest (a.put o.dst (.tuple #[])) w') : wpList Tryd.prog ops Q (o :: rest) a w :=
  wpList_plain hgd fun _ hK => by
    obtain ⟨w', hr, h⟩ := h
    unfold Oper.wp execOp
    simp only [ho, hm, hx, resolve, invoke, builtin, Sem.run_bind, Sem.run_pure, Result.andThen_ok, List.map_toArray, List.map_cons, List.map_nil, hr]
    exact hK _ _ h
open Classical in
/-- The places when the first k of these digests are dropped. -/
noncomputable def dropTo (P : By → List Pl) (hs : List By) (t : By) : Nat → By → List Pl
  | 0 => P
  | k + 1 => dropP (dropTo P hs t k) (hs.getD k []) t
/-- .. noted. -/
noncomputable def noteTo (P : By → List Pl) (hs : List By) (t : By) : Nat → By → List Pl
  | 0 => P
  | k + 1 => noteP (noteTo P hs t k) (hs.getD k []) (t, k)
open Classical in
noncomputable def delF (F : By → Option By) (t : By) : By → Option By := fun s => if s = t then none else F s
open Classical in
noncomputable def putF (F : By → Option By) (t xs : By) : By → Option By := fun s => if s = t then some xs else F s
end Go.Proofs.YtlcdkponegmcdaaDoor
