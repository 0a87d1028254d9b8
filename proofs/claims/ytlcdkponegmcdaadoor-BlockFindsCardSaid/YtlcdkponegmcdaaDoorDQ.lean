/- Finder.drop where one place alone is left. Conditions: a finder; a digest of 32 bytes. -/
import Derived.Test.YtlcdkponegmcdaaDoorDP
namespace Go.Proofs.YtlcdkponegmcdaaDoor
open Go.RowKit Go.Maps
set_option maxRecDepth 100000 in
set_option maxHeartbeats 8000000 in
theorem drop_one {own : Nat → Prop} {w : World} {p : Nat} {F : By → Option By} {P : By → List Pl} {cf N : Nat} (h : Fin own w p F P cf N) (d : By) (hd : d.length = 32) (t : By) (hN : N ≤ 1000000) (hh : hasN (P d) t = true) (h1 : (P d).length = 1) :
    Calls Tryd.prog 44 #[.pointer (some ⟨p, 0, none⟩), .agg (hvec d), .string (ba t)] w fun e w' => e = .returned (.tuple #[]) ∧ FPost own w p F (dropP P d t) cf (N + 1) w' := by
  obtain ⟨m1, m2, fv, pv, cp, h⟩ := h
  obtain ⟨v, hv, hpl, hown⟩ := h.at_ d
  obtain ⟨kl, hk⟩ := hash_key d hd
  have HK := hid hk
  have HD := hid hd
  have HV := hid hv
  obtain ⟨n, HN⟩ : ∃ n, Hid ((P d).length = n) := ⟨_, rfl⟩
  obtain ⟨A, c, e0⟩ := hpl.form
  rw [HN.out] at e0
  subst e0
  obtain ⟨W0, HW0⟩ : ∃ W0, Hid ((w.alloc (.cells (hvec d) 27)).drew = W0) := ⟨_, rfl⟩
  have hb0 : Below w.heap.size w W0 := by rw [← HW0.out]; exact ((Below.refl _ _).alloc (Nat.le_refl _) _).drew
  have hbox : Has W0 w.heap.size 27 (hvec d) := by rw [← HW0.out]; exact Has.fresh w 27 (hvec d)
  have hI0 := h.kept hb0.size (fun g hg => hb0.block g (h.low g hg))
  have NS0 : Hid (NS p m2 cp pv w.heap.size d ((w.alloc (.cells (hvec d) 27)).drew)) := by
    rw [HW0.out]; exact ⟨⟨m1, hI0.has⟩, hI0.m2, hbox⟩
  have HPL0 : Pls 0 W0 (.slice A n c) (P d) := hpl.kept hb0 (Nat.le_refl _)
  have HCP := hid (placeOf_any 0 _ (P d) (h.srt d) t W0 HPL0 (by have := h.len d; omega))
  rw [hh] at HCP
  have HB0 := hid hb0
  have HI := hid h
  have HBX := hid hbox
  have HPL := hid HPL0
  have HOWN := hid hown
  have HH := hid hh
  have HNN := hid hN
  have H1 := hid h1
  have hn1 : (n : Int) = 1 := by rw [← HN.out, h1]; rfl
  clear h1
  clear h hv hpl hown hk hd hb0 hbox hI0 HPL0 hh
  go_enter Tryd.func44, Tryd.ntmps44
  go_wp2
  refine wp_region_noPanic ?_
  refine wp_region_held_drew (S := NS p m2 cp pv w.heap.size d) (by kernel_rfl) (NS0.out) (fun hS => ?_)
  refine wpAnyH_take (i := 0) (v := ?_) (by simp only [List.getElem?_toArray, List.getElem?_cons_zero]; rfl) (by kernel_rfl) (by kernel_rfl) (by kernel_rfl) (fun _ _ _ h => h) (Or.inl ⟨by rfl, ?_⟩) (by assumption) ?_
  rotate_left 1
  · intro w hSw
    have hc2 := hSw.cell2
    go_simp
    with_reducible rfl
  simp only [Act.put, List.setIfInBounds_toArray, List.set_cons_zero, List.set_cons_succ]
  refine wpAnyH_take (i := 1) (v := ?_) (by simp only [List.getElem?_toArray, List.getElem?_cons_zero, List.getElem?_cons_succ]; rfl) (by kernel_rfl) (by kernel_rfl) (by kernel_rfl) (fun _ _ _ h => h) (Or.inl ⟨by rfl, ?_⟩) (by assumption) ?_
  rotate_left 1
  · intro w hSw
    have hc2 := hSw.cell2
    go_simp
    with_reducible rfl
  simp only [Act.put, List.setIfInBounds_toArray, List.set_cons_zero, List.set_cons_succ]
  refine wpAnyH_take (i := 2) (v := ?_) (by simp only [List.getElem?_toArray, List.getElem?_cons_zero, List.getElem?_cons_succ]; rfl) (by kernel_rfl) (by kernel_rfl) (by kernel_rfl) (fun _ _ _ h => h) (Or.inl ⟨by rfl, ?_⟩) (by assumption) ?_
  rotate_left 1
  · intro w hSw
    have hc2 := hSw.cell2
    go_simp
    with_reducible rfl
  simp only [Act.put, List.setIfInBounds_toArray, List.set_cons_zero, List.set_cons_succ]
  refine wpAnyH_take (i := 3) (v := ?_) (by simp only [List.getElem?_toArray, List.getElem?_cons_zero, List.getElem?_cons_succ]; rfl) (by kernel_rfl) (by kernel_rfl) (by kernel_rfl) (fun _ _ _ h => h) (Or.inl ⟨by rfl, ?_⟩) (by assumption) ?_
  rotate_left 1
  · intro w hSw
    have hc2 := hSw.cell2
    go_simp
    with_reducible rfl
  simp only [Act.put, List.setIfInBounds_toArray, List.set_cons_zero, List.set_cons_succ]
  refine' wpAnyH_take (i := 4) (v := _) (by simp only [List.getElem?_toArray, List.getElem?_cons_zero, List.getElem?_cons_succ]; rfl) (by kernel_rfl) (by kernel_rfl) (by kernel_rfl) (fun _ _ _ h => h) (yields_load_h (by rfl) (.tmp 4) rfl w.heap.size 0 rfl d (fun w hS => load_h hS.box HD.out)) (by assumption) ?_
  simp only [Act.put, List.setIfInBounds_toArray, List.set_cons_zero, List.set_cons_succ]
  refine' wpAnyH_take (i := 5) (v := _) (by simp only [List.getElem?_toArray, List.getElem?_cons_zero, List.getElem?_cons_succ]; rfl) (by kernel_rfl) (by kernel_rfl) (by kernel_rfl) (fun _ _ _ h => h) (yields_look (by rfl) (.tmp 12) (.tmp 13) rfl (.map (some m2)) (.agg (hvec d)) (.slice A n c) rfl rfl (fun w hS => hS.look HK.out HV.out)) (by assumption) ?_
  simp only [Act.put, List.setIfInBounds_toArray, List.set_cons_zero, List.set_cons_succ]
  refine wpAnyH_take (i := 6) (v := ?_) (by simp only [List.getElem?_toArray, List.getElem?_cons_zero, List.getElem?_cons_succ]; rfl) (by kernel_rfl) (by kernel_rfl) (by kernel_rfl) (fun _ _ _ h => h) (Or.inl ⟨by rfl, ?_⟩) (by assumption) ?_
  rotate_left 1
  · intro w hSw
    go_simp
    with_reducible rfl
  simp only [Act.put, List.setIfInBounds_toArray, List.set_cons_zero, List.set_cons_succ]
  refine wpAnyH_done (by kernel_rfl) ?_ _
  refine NoPanic.normal ?_
  generalize hWd : World.drew _ = wd
  obtain rfl : W0 = wd := HW0.out.symm.trans hWd
  clear hWd
  go_wp2_with (go_at_call 58; refine HCP.out.mono ?_; rintro e3 w3 ⟨rfl, hb3⟩)
  have hI3 := HI.out.kept (Nat.le_trans HB0.out.size hb3.size) (fun g hg => (hb3.block g (Nat.lt_of_lt_of_le (HI.out.low g hg) HB0.out.size)).trans (HB0.out.block g (HI.out.low g hg)))
  have NS3 : Hid (NS p m2 cp pv w.heap.size d w3.drew) := ⟨⟨m1, hI3.has⟩, hI3.m2, id (HBX.out.on hb3 : Has w3 w.heap.size 27 (hvec d))⟩
  have PL3 : Hid (Pls 0 w3 (.slice A n c) (P d)) := HPL.out.kept hb3 (Nat.le_refl _)
  have B3 : Hid (Below w.heap.size w w3.drew) := (HB0.out.trans (hb3.mono HB0.out.size)).drew
  clear hb3 hI3
  refine wp_region_noPanic ?_
  refine wp_region_held_drew (S := DS p m2 w.heap.size d) (by kernel_rfl) (⟨NS3.out.has, NS3.out.box⟩) (fun hS => ?_)
  refine wpAnyH_take (i := 0) (v := ?_) (by simp only [List.getElem?_toArray, List.getElem?_cons_zero]; rfl) (by kernel_rfl) (by kernel_rfl) (by kernel_rfl) (fun _ _ _ h => h) (Or.inl ⟨by rfl, ?_⟩) (by assumption) ?_
  rotate_left 1
  · intro w hSw
    have hc2 := hSw.cell2
    go_simp
    with_reducible rfl
  simp only [Act.put, List.setIfInBounds_toArray, List.set_cons_zero, List.set_cons_succ]
  refine wpAnyH_take (i := 1) (v := ?_) (by simp only [List.getElem?_toArray, List.getElem?_cons_zero, List.getElem?_cons_succ]; rfl) (by kernel_rfl) (by kernel_rfl) (by kernel_rfl) (fun _ _ _ h => h) (Or.inl ⟨by rfl, ?_⟩) (by assumption) ?_
  rotate_left 1
  · intro w hSw
    have hc2 := hSw.cell2
    go_simp
    with_reducible rfl
  simp only [Act.put, List.setIfInBounds_toArray, List.set_cons_zero, List.set_cons_succ]
  refine wpAnyH_take (i := 2) (v := ?_) (by simp only [List.getElem?_toArray, List.getElem?_cons_zero, List.getElem?_cons_succ]; rfl) (by kernel_rfl) (by kernel_rfl) (by kernel_rfl) (fun _ _ _ h => h) (Or.inl ⟨by rfl, ?_⟩) (by assumption) ?_
  rotate_left 1
  · intro w hSw
    have hc2 := hSw.cell2
    go_simp
    with_reducible rfl
  simp only [Act.put, List.setIfInBounds_toArray, List.set_cons_zero, List.set_cons_succ]
  refine wpAnyH_take (i := 3) (v := ?_) (by simp only [List.getElem?_toArray, List.getElem?_cons_zero, List.getElem?_cons_succ]; rfl) (by kernel_rfl) (by kernel_rfl) (by kernel_rfl) (fun _ _ _ h => h) (Or.inl ⟨by rfl, ?_⟩) (by assumption) ?_
  rotate_left 1
  · intro w hSw
    have hc2 := hSw.cell2
    go_simp
    with_reducible rfl
  simp only [Act.put, List.setIfInBounds_toArray, List.set_cons_zero, List.set_cons_succ]
  refine' wpAnyH_take (i := 4) (v := _) (by simp only [List.getElem?_toArray, List.getElem?_cons_zero, List.getElem?_cons_succ]; rfl) (by kernel_rfl) (by kernel_rfl) (by kernel_rfl) (fun _ _ _ h => h) (yields_load_h (by rfl) (.tmp 4) rfl w.heap.size 0 rfl d (fun w hS => load_h hS.box HD.out)) (by assumption) ?_
  simp only [Act.put, List.setIfInBounds_toArray, List.set_cons_zero, List.set_cons_succ]
  refine wpAnyH_ready (rs := [5]) (by kernel_rfl) (by simp) ?_
  refine AllReadyH.cons (by simp only [List.getElem?_toArray, List.getElem?_cons_zero, List.getElem?_cons_succ]; rfl) (fun K hK => ?_) AllReadyH.nil
  obtain ⟨w6, hr6, hm6, hg6⟩ := NS3.out.m2.drop hash_keyed Tryd.underlying64 HK.out 0
  have hr6 : ∀ ty, (Builtin.delete_ #[64, 27] ty #[.map (some m2), .agg (hvec d)]).run Tryd.prog w3.drew = .ok (.tuple #[]) w6 := fun ty => hr6
  refine step_delete (by rfl) (.tmp 31) (.tmp 32) rfl (.map (some m2)) (.agg (hvec d)) rfl rfl hr6 ?_
  have hend := hid (drop_del HI.out d t HH.out H1.out B3.out hg6 ⟨_, hm6, by have := HI.out.cp; split <;> omega⟩)
  refine hK.out _ _ (DS.kept ⟨NS3.out.has, NS3.out.box⟩ hg6 HI.out.pne (by have := HI.out.low m2 HI.out.o2; omega)) (fun hS => ?_)
  clear hK K hS
  refine wpAnyH_done (by kernel_rfl) ?_ _
  refine NoPanic.normal ?_
  go_wp2
  go_end0
  exact ⟨rfl, hend.out⟩
end Go.Proofs.YtlcdkponegmcdaaDoor
