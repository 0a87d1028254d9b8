/- Finder.Find: what the call answers. Conditions: a finder; a digest of 32 bytes. -/
import Derived.Test.YtlcdkponegmcdaaDoorDV
namespace Go.Proofs.YtlcdkponegmcdaaDoor
open Go.RowKit Go.Maps
theorem results_tct {P : Program} {fn : Func} {t p u : Tmp} {ty : TypeId} (h : fn.results = #[.tmp t, .cell p ty, .tmp u]) (tmps : Array Value) (w : World) (g : Nat) (cs : Array Value) (hp : tmps.getD p undef = .pointer (some ⟨g, 0, none⟩)) (hl : (loadVar ty ⟨g, 0, none⟩).run P w = .ok (.agg cs) w) :
    (results fn tmps).run P w = .ok (.tuple #[tmps.getD t undef, .agg cs, tmps.getD u undef]) w := by
  have hp' : tmps[p]?.getD undef = .pointer (some ⟨g, 0, none⟩) := by simpa using hp
  simp [results, h, hp', asAddr, hl]
theorem step_store_pl {ops : Array Oper} {o : Oper} {a : Act} {w : World} {K : Act → World → Prop} {Q : Exit → Act → World → Prop} {E : Prop} (hw : Region.wanted o (yielded ops a.tmps) = true) (x y : Operand) (ho : o.op = .store 54 x y) (g : Nat) (q : Pl) (old : Array Value)
    (hx : a.eval x = .pointer (some ⟨g, 0, none⟩)) (hy : a.eval y = .agg (pcell q).toArray) (hg : Has w g 54 old) (hold : old.size = 2) (hK : K (a.put o.dst undef) (w.setRow g (pcell q).toArray)) :
    if Region.wanted o (yielded ops a.tmps) = true then Oper.wp Tryd.prog o a w K Q else E := by
  rw [if_pos hw]
  exact wp_store_row (P := Tryd.prog) 54 x y ho g (pcell q).toArray hx hy 54 old hg (by kernel_rfl) hold (by simp [pcell, Value.oneCell']) hK
def zpl : Array Value := #[.string ⟨#[]⟩, .int .i64 0]
structure FS (p m2 cp : Nat) (pv : Value → Option Value) (b1 : Nat) (d : By) (v : Value) (ps : List Pl) (W : World) : Prop where
  ns : NS p m2 cp pv b1 d W
  pl : Pls 0 W v ps
structure FT (p m1 cf : Nat) (fv : Value → Option Value) (b7 : Nat) (q : Pl) (W : World) : Prop where
  has : ∃ m2, Has W p 66 #[.map (some m1), .map (some m2)]
  m1 : MapIs W 9 m1 cf fv
  box : Has W b7 54 (pcell q).toArray
theorem FT.cell1 {p m1 cf b7 : Nat} {fv : Value → Option Value} {q : Pl} {W : World} (h : FT p m1 cf fv b7 q W) : W.cell? ⟨p, 0, none⟩ = some (.map (some m1)) := by
  obtain ⟨m2, h1⟩ := h.has; exact h1.at_ 0
theorem FT.name {p m1 cf b7 : Nat} {fv : Value → Option Value} {q : Pl} {W : World} (h : FT p m1 cf fv b7 q W) : W.cell? ⟨b7, 0, none⟩ = some (.string (ba q.1)) := h.box.at_ 0
theorem FT.num {p m1 cf b7 : Nat} {fv : Value → Option Value} {q : Pl} {W : World} (h : FT p m1 cf fv b7 q W) : W.cell? ⟨b7, 1, none⟩ = some (.int .i64 (q.2 : Int)) := h.box.at_ 1
theorem FT.kept {p m1 cf b7 : Nat} {fv : Value → Option Value} {q : Pl} {W W' : World} (h : FT p m1 cf fv b7 q W) (hb : ∀ g, g = p ∨ g = m1 ∨ g = b7 → W'.heap[g]? = W.heap[g]?) : FT p m1 cf fv b7 q W' := by
  obtain ⟨m2, h1⟩ := h.has
  exact ⟨⟨m2, (hb p (.inl rfl)).trans h1⟩, h.m1.kept (hb m1 (.inr (.inl rfl))), (hb b7 (.inr (.inr rfl))).trans h.box⟩
theorem FT.look {p m1 cf b7 : Nat} {fv : Value → Option Value} {q : Pl} {W : World} (h : FT p m1 cf fv b7 q W) (hk : q.1.length ≤ maxLen) {v : Value} (hv : fv (kS q.1) = some v) :
    (Instr.lookup 63 (.map (some m1)) (.string (ba q.1)) false).run Tryd.prog W = .ok v W := by
  have := h.m1.look str_keyed Tryd.underlying63 (zero_bys W) (str_key q.1 hk)
  rw [this]; unfold kS at hv; rw [hv]; rfl
def FindPost (w : World) (ys : By) (q : Pl) (b : Bool) (e : Ending) (w' : World) : Prop := ∃ v', e = .returned (.tuple #[v', .agg (pcell q).toArray, .bool b]) ∧ Fresh w.heap.size w' v' ys ∧ Below w.heap.size w w'
set_option maxRecDepth 100000 in
set_option maxHeartbeats 8000000 in
theorem find_none {own : Nat → Prop} {w : World} {p : Nat} {F : By → Option By} {P : By → List Pl} {cf N : Nat} (h : Fin own w p F P cf N) (d : By) (hd : d.length = 32) (hP : P d = []) :
    Calls Tryd.prog 29 #[.pointer (some ⟨p, 0, none⟩), .agg (hvec d)] w fun e w' => FindPost w [] ([], 0) false e w' := by
  obtain ⟨m1, m2, fv, pv, cp, h⟩ := h
  obtain ⟨v, hv, hpl, hown⟩ := h.at_ d
  obtain ⟨kl, hk⟩ := hash_key d hd
  have HK := hid hk
  have HD := hid hd
  have HV := hid hv
  obtain ⟨n, HN⟩ : ∃ n, Hid ((P d).length = n) := ⟨_, rfl⟩
  obtain ⟨A, c, e0⟩ := hpl.form
  rw [HN.out] at e0
  subst e0
  obtain ⟨W0, HW0⟩ : ∃ W0, Hid (((w.alloc (.cells (hvec d) 27)).alloc (.cells #[.string ⟨#[]⟩, .int .i64 0] 54)).drew = W0) := ⟨_, rfl⟩
  have hb0 : Below w.heap.size w W0 := by rw [← HW0.out]; exact (((Below.refl _ _).alloc (Nat.le_refl _) _).alloc (by simp) _).drew
  have hbox : Has W0 w.heap.size 27 (hvec d) := by rw [← HW0.out]; exact (Has.fresh w 27 (hvec d)).more _
  have hbox5 : Has W0 (w.heap.size + 1) 54 zpl := by rw [← HW0.out]; exact Has.fresh' (w.alloc _) 54 _ (by simp)
  have hI0 := h.kept hb0.size (fun g hg => hb0.block g (h.low g hg))
  have NS0 : Hid (NS p m2 cp pv w.heap.size d (((w.alloc (.cells (hvec d) 27)).alloc (.cells #[.string ⟨#[]⟩, .int .i64 0] 54)).drew)) := by
    rw [HW0.out]; exact ⟨⟨m1, hI0.has⟩, hI0.m2, hbox⟩
  have CM := hid (made_any hI0)
  rw [← HW0.out] at CM
  have HPL : Hid (Pls 0 W0 (.slice A n c) (P d)) := hpl.kept hb0 (Nat.le_refl _)
  have HB0 := hid hb0
  have HI := hid h
  have HI0 := hid hI0
  have HBX := hid hbox
  have HBX5 := hid hbox5
  have hn0 : (n : Int) = 0 := by rw [← HN.out, hP]; rfl
  clear h hv hpl hown hk hd hb0 hbox hbox5 hI0
  go_enter Tryd.func29, Tryd.ntmps29
  go_wp2
  refine wp_region_noPanic ?_
  refine wp_region_held_drew (S := NS p m2 cp pv w.heap.size d) (by kernel_rfl) (NS0.out) (fun hS => ?_)
  refine wpAnyH_take (i := 0) (v := ?_) (by simp only [List.getElem?_toArray, List.getElem?_cons_zero]; rfl) (by kernel_rfl) (by kernel_rfl) (by kernel_rfl) (fun _ _ _ h => h) (Or.inl ⟨by rfl, ?_⟩) (by assumption) ?_
  rotate_left 1
  · intro w hSw
    go_simp
    with_reducible rfl
  simp only [Act.put, List.setIfInBounds_toArray, List.set_cons_zero, List.set_cons_succ]
  refine wpAnyH_ready (rs := [1]) (by kernel_rfl) (by simp) ?_
  refine AllReadyH.cons (by simp only [List.getElem?_toArray, List.getElem?_cons_zero, List.getElem?_cons_succ]; rfl) (fun K hK => ?_) AllReadyH.nil
  go_simp
  refine (CM.out).mono ?_
  rintro e1 w1 ⟨rfl, rfl⟩
  have hz1 := NS0.out
  refine hK.out _ _ hz1 (fun hS => ?_)
  clear hK K hS
  refine wpAnyH_take (i := 2) (v := ?_) (by simp only [List.getElem?_toArray, List.getElem?_cons_zero, List.getElem?_cons_succ]; rfl) (by kernel_rfl) (by kernel_rfl) (by kernel_rfl) (fun _ _ _ h => h) (Or.inl ⟨by rfl, ?_⟩) (by assumption) ?_
  rotate_left 1
  · intro w hSw
    go_simp
    with_reducible rfl
  simp only [Act.put, List.setIfInBounds_toArray, List.set_cons_zero, List.set_cons_succ]
  refine wpAnyH_take (i := 3) (v := ?_) (by simp only [List.getElem?_toArray, List.getElem?_cons_zero, List.getElem?_cons_succ]; rfl) (by kernel_rfl) (by kernel_rfl) (by kernel_rfl) (fun _ _ _ h => h) (Or.inl ⟨by rfl, ?_⟩) (by assumption) ?_
  rotate_left 1
  · intro w hSw
    go_simp
    with_reducible rfl
  simp only [Act.put, List.setIfInBounds_toArray, List.set_cons_zero, List.set_cons_succ]
  refine wpAnyH_take (i := 4) (v := ?_) (by simp only [List.getElem?_toArray, List.getElem?_cons_zero, List.getElem?_cons_succ]; rfl) (by kernel_rfl) (by kernel_rfl) (by kernel_rfl) (fun _ _ _ h => h) (Or.inl ⟨by rfl, ?_⟩) (by assumption) ?_
  rotate_left 1
  · intro w hSw
    have hc2 := hSw.cell2
    go_simp
    with_reducible rfl
  simp only [Act.put, List.setIfInBounds_toArray, List.set_cons_zero, List.set_cons_succ]
  refine wpAnyH_take (i := 5) (v := ?_) (by simp only [List.getElem?_toArray, List.getElem?_cons_zero, List.getElem?_cons_succ]; rfl) (by kernel_rfl) (by kernel_rfl) (by kernel_rfl) (fun _ _ _ h => h) (Or.inl ⟨by rfl, ?_⟩) (by assumption) ?_
  rotate_left 1
  · intro w hSw
    have hc2 := hSw.cell2
    go_simp
    with_reducible rfl
  simp only [Act.put, List.setIfInBounds_toArray, List.set_cons_zero, List.set_cons_succ]
  refine wpAnyH_take (i := 6) (v := ?_) (by simp only [List.getElem?_toArray, List.getElem?_cons_zero, List.getElem?_cons_succ]; rfl) (by kernel_rfl) (by kernel_rfl) (by kernel_rfl) (fun _ _ _ h => h) (Or.inl ⟨by rfl, ?_⟩) (by assumption) ?_
  rotate_left 1
  · intro w hSw
    have hc2 := hSw.cell2
    go_simp
    with_reducible rfl
  simp only [Act.put, List.setIfInBounds_toArray, List.set_cons_zero, List.set_cons_succ]
  refine wpAnyH_take (i := 7) (v := ?_) (by simp only [List.getElem?_toArray, List.getElem?_cons_zero, List.getElem?_cons_succ]; rfl) (by kernel_rfl) (by kernel_rfl) (by kernel_rfl) (fun _ _ _ h => h) (Or.inl ⟨by rfl, ?_⟩) (by assumption) ?_
  rotate_left 1
  · intro w hSw
    have hc2 := hSw.cell2
    go_simp
    with_reducible rfl
  simp only [Act.put, List.setIfInBounds_toArray, List.set_cons_zero, List.set_cons_succ]
  refine' wpAnyH_take (i := 8) (v := _) (by simp only [List.getElem?_toArray, List.getElem?_cons_zero, List.getElem?_cons_succ]; rfl) (by kernel_rfl) (by kernel_rfl) (by kernel_rfl) (fun _ _ _ h => h) (yields_load_h (by rfl) (.tmp 3) rfl w.heap.size 0 rfl d (fun w hS => load_h hS.box HD.out)) (by assumption) ?_
  simp only [Act.put, List.setIfInBounds_toArray, List.set_cons_zero, List.set_cons_succ]
  refine' wpAnyH_take (i := 9) (v := _) (by simp only [List.getElem?_toArray, List.getElem?_cons_zero, List.getElem?_cons_succ]; rfl) (by kernel_rfl) (by kernel_rfl) (by kernel_rfl) (fun _ _ _ h => h) (yields_look (by rfl) (.tmp 15) (.tmp 16) rfl (.map (some m2)) (.agg (hvec d)) (.slice A n c) rfl rfl (fun w hS => hS.look HK.out HV.out)) (by assumption) ?_
  simp only [Act.put, List.setIfInBounds_toArray, List.set_cons_zero, List.set_cons_succ]
  refine wpAnyH_take (i := 10) (v := ?_) (by simp only [List.getElem?_toArray, List.getElem?_cons_zero, List.getElem?_cons_succ]; rfl) (by kernel_rfl) (by kernel_rfl) (by kernel_rfl) (fun _ _ _ h => h) (Or.inl ⟨by rfl, ?_⟩) (by assumption) ?_
  rotate_left 1
  · intro w hSw
    go_simp
    with_reducible rfl
  simp only [Act.put, List.setIfInBounds_toArray, List.set_cons_zero, List.set_cons_succ]
  refine wpAnyH_take (i := 11) (v := ?_) (by simp only [List.getElem?_toArray, List.getElem?_cons_zero, List.getElem?_cons_succ]; rfl) (by kernel_rfl) (by kernel_rfl) (by kernel_rfl) (fun _ _ _ h => h) (Or.inl ⟨by rfl, ?_⟩) (by assumption) ?_
  rotate_left 1
  · intro w hSw
    go_simp
    with_reducible rfl
  simp only [Act.put, List.setIfInBounds_toArray, List.set_cons_zero, List.set_cons_succ]
  refine wpAnyH_take (i := 12) (v := ?_) (by simp only [List.getElem?_toArray, List.getElem?_cons_zero, List.getElem?_cons_succ]; rfl) (by kernel_rfl) (by kernel_rfl) (by kernel_rfl) (fun _ _ _ h => h) (Or.inl ⟨by rfl, ?_⟩) (by assumption) ?_
  rotate_left 1
  · intro w hSw
    go_simp
    with_reducible rfl
  simp only [Act.put, List.setIfInBounds_toArray, List.set_cons_zero, List.set_cons_succ]
  refine wpAnyH_done (by kernel_rfl) ?_ _
  refine NoPanic.normal ?_
  generalize hWd : World.drew _ = wd
  obtain rfl : W0 = wd := HW0.out.symm.trans hWd
  clear hWd
  go_wp2_with (refine wpList_store_row rfl 54 (.tmp 5) (.tmp 21) rfl (w.heap.size + 1) zpl rfl rfl 54 zpl HBX5.out (by kernel_rfl) rfl (by simp [zpl, Value.oneCell']) ?_)
  refine bodyPost_ret (results_tct rfl _ _ (w.heap.size + 1) (pcell ([], 0)).toArray rfl (load_pl (setRow_heap _ _ _ _ 54 (0, 0) HBX5.out))) rfl ⟨_, rfl, fresh_nil _ _, HB0.out.rowK (by omega) _⟩
end Go.Proofs.YtlcdkponegmcdaaDoor
