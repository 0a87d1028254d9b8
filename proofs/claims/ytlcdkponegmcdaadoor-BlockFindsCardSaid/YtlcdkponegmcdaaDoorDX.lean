/- Finder.Find where there is a place. Conditions: a finder; a digest of 32 bytes. -/
import Derived.Test.YtlcdkponegmcdaaDoorDW
namespace Go.Proofs.YtlcdkponegmcdaaDoor
open Go.RowKit Go.Maps
set_option maxRecDepth 100000 in
set_option maxHeartbeats 8000000 in
theorem find_some {own : Nat → Prop} {w : World} {p : Nat} {F : By → Option By} {P : By → List Pl} {cf N : Nat} (h : Fin own w p F P cf N) (d : By) (hd : d.length = 32) (q : Pl) (ps : List Pl) (xs : By) (hP : P d = q :: ps) (hF : F q.1 = some xs) (hq : q.1.length ≤ maxLen) :
    Calls Tryd.prog 29 #[.pointer (some ⟨p, 0, none⟩), .agg (hvec d)] w fun e w' => FindPost w (partI xs (q.2 : Int)) q true e w' := by
  obtain ⟨m1, m2, fv, pv, cp, h⟩ := h
  obtain ⟨v, hv, hpl, hown⟩ := h.at_ d
  obtain ⟨kl, hk⟩ := hash_key d hd
  have HK := hid hk
  have HD := hid hd
  have HV := hid hv
  obtain ⟨n, HN⟩ : ∃ n, Hid ((P d).length = n) := ⟨_, rfl⟩
  obtain ⟨A, c, e0⟩ := hpl.form
  rw [HN.out] at e0
  subst e0
  obtain ⟨W0, HW0⟩ : ∃ W0, Hid (((w.alloc (.cells (hvec d) 27)).alloc (.cells #[.string ⟨#[]⟩, .int .i64 0] 54)).drew = W0) := ⟨_, rfl⟩
  have hb0 : Below w.heap.size w W0 := by rw [← HW0.out]; exact (((Below.refl _ _).alloc (Nat.le_refl _) _).alloc (by simp) _).drew
  have hbox : Has W0 w.heap.size 27 (hvec d) := by rw [← HW0.out]; exact (Has.fresh w 27 (hvec d)).more _
  have hbox5 : Has W0 (w.heap.size + 1) 54 zpl := by rw [← HW0.out]; exact Has.fresh' (w.alloc _) 54 _ (by simp)
  have hI0 := h.kept hb0.size (fun g hg => hb0.block g (h.low g hg))
  have NS0 : Hid (NS p m2 cp pv w.heap.size d (((w.alloc (.cells (hvec d) 27)).alloc (.cells #[.string ⟨#[]⟩, .int .i64 0] 54)).drew)) := by
    rw [HW0.out]; exact ⟨⟨m1, hI0.has⟩, hI0.m2, hbox⟩
  have CM := hid (made_any hI0)
  rw [← HW0.out] at CM
  have HPL : Hid (Pls 0 W0 (.slice A n c) (P d)) := hpl.kept hb0 (Nat.le_refl _)
  have HB0 := hid hb0
  have HI := hid h
  have HI0 := hid hI0
  have HBX := hid hbox
  have HBX5 := hid hbox5
  obtain ⟨g0, cap0, cur0, hv0, hB0, hR0⟩ := HPL.out.row (by rw [hP]; simp)
  rw [HN.out] at hv0
  injection hv0 with hA0 hn0 hc0
  subst hA0
  have hn1 : (0 : Int) < (n : Int) := by have := HN.out; rw [hP] at this; simp at this; omega
  have hn2 : ¬ (n : Int) = 0 := by omega
  have hn3 : 0 < n := by omega
  obtain ⟨vf, hvf, hfr, hfo, hfl⟩ := h.fsome q.1 xs hF
  have HVF := hid hvf
  have HFR := hid hfr
  have HFO := hid hfo
  have HQ := hid hq
  have HLD : Hid (∀ W, Pls 0 W (.slice (some ⟨g0, 0, none⟩) n c) (P d) → (loadVar 54 ⟨g0, 0, none⟩).run Tryd.prog W = .ok (.agg (pcell q).toArray) W) := fun W hW => by
    obtain ⟨g, c', h1, _, _, h4⟩ := hW.at_ 0 (by rw [HN.out]; exact hn3)
    injection h1 with h1
    injection h1 with h1
    injection h1 with h1
    subst h1
    rw [Nat.zero_mul, hP] at h4
    exact h4
  clear hB0 hR0 cur0 hc0 hn0 cap0 hP hF hq hvf hfr hfo hfl
  clear h hv hpl hown hk hd hb0 hbox hbox5 hI0
  go_enter Tryd.func29, Tryd.ntmps29
  go_wp2
  refine wp_region_noPanic ?_
  refine wp_region_held_drew (S := NS p m2 cp pv w.heap.size d) (by kernel_rfl) (NS0.out) (fun hS => ?_)
  refine wpAnyH_take (i := 0) (v := ?_) (by simp only [List.getElem?_toArray, List.getElem?_cons_zero]; rfl) (by kernel_rfl) (by kernel_rfl) (by kernel_rfl) (fun _ _ _ h => h) (Or.inl ⟨by rfl, ?_⟩) (by assumption) ?_
  rotate_left 1
  · intro w hSw
    go_simp
    with_reducible rfl
  simp only [Act.put, List.setIfInBounds_toArray, List.set_cons_zero, List.set_cons_succ]
  refine wpAnyH_ready (rs := [1]) (by kernel_rfl) (by simp) ?_
  refine AllReadyH.cons (by simp only [List.getElem?_toArray, List.getElem?_cons_zero, List.getElem?_cons_succ]; rfl) (fun K hK => ?_) AllReadyH.nil
  go_simp
  refine (CM.out).mono ?_
  rintro e1 w1 ⟨rfl, rfl⟩
  have hz1 := NS0.out
  refine hK.out _ _ hz1 (fun hS => ?_)
  clear hK K hS
  refine wpAnyH_take (i := 2) (v := ?_) (by simp only [List.getElem?_toArray, List.getElem?_cons_zero, List.getElem?_cons_succ]; rfl) (by kernel_rfl) (by kernel_rfl) (by kernel_rfl) (fun _ _ _ h => h) (Or.inl ⟨by rfl, ?_⟩) (by assumption) ?_
  rotate_left 1
  · intro w hSw
    go_simp
    with_reducible rfl
  simp only [Act.put, List.setIfInBounds_toArray, List.set_cons_zero, List.set_cons_succ]
  refine wpAnyH_take (i := 3) (v := ?_) (by simp only [List.getElem?_toArray, List.getElem?_cons_zero, List.getElem?_cons_succ]; rfl) (by kernel_rfl) (by kernel_rfl) (by kernel_rfl) (fun _ _ _ h => h) (Or.inl ⟨by rfl, ?_⟩) (by assumption) ?_
  rotate_left 1
  · intro w hSw
    go_simp
    with_reducible rfl
  simp only [Act.put, List.setIfInBounds_toArray, List.set_cons_zero, List.set_cons_succ]
  refine wpAnyH_take (i := 4) (v := ?_) (by simp only [List.getElem?_toArray, List.getElem?_cons_zero, List.getElem?_cons_succ]; rfl) (by kernel_rfl) (by kernel_rfl) (by kernel_rfl) (fun _ _ _ h => h) (Or.inl ⟨by rfl, ?_⟩) (by assumption) ?_
  rotate_left 1
  · intro w hSw
    have hc2 := hSw.cell2
    go_simp
    with_reducible rfl
  simp only [Act.put, List.setIfInBounds_toArray, List.set_cons_zero, List.set_cons_succ]
  refine wpAnyH_take (i := 5) (v := ?_) (by simp only [List.getElem?_toArray, List.getElem?_cons_zero, List.getElem?_cons_succ]; rfl) (by kernel_rfl) (by kernel_rfl) (by kernel_rfl) (fun _ _ _ h => h) (Or.inl ⟨by rfl, ?_⟩) (by assumption) ?_
  rotate_left 1
  · intro w hSw
    have hc2 := hSw.cell2
    go_simp
    with_reducible rfl
  simp only [Act.put, List.setIfInBounds_toArray, List.set_cons_zero, List.set_cons_succ]
  refine wpAnyH_take (i := 6) (v := ?_) (by simp only [List.getElem?_toArray, List.getElem?_cons_zero, List.getElem?_cons_succ]; rfl) (by kernel_rfl) (by kernel_rfl) (by kernel_rfl) (fun _ _ _ h => h) (Or.inl ⟨by rfl, ?_⟩) (by assumption) ?_
  rotate_left 1
  · intro w hSw
    have hc2 := hSw.cell2
    go_simp
    with_reducible rfl
  simp only [Act.put, List.setIfInBounds_toArray, List.set_cons_zero, List.set_cons_succ]
  refine wpAnyH_take (i := 7) (v := ?_) (by simp only [List.getElem?_toArray, List.getElem?_cons_zero, List.getElem?_cons_succ]; rfl) (by kernel_rfl) (by kernel_rfl) (by kernel_rfl) (fun _ _ _ h => h) (Or.inl ⟨by rfl, ?_⟩) (by assumption) ?_
  rotate_left 1
  · intro w hSw
    have hc2 := hSw.cell2
    go_simp
    with_reducible rfl
  simp only [Act.put, List.setIfInBounds_toArray, List.set_cons_zero, List.set_cons_succ]
  refine' wpAnyH_take (i := 8) (v := _) (by simp only [List.getElem?_toArray, List.getElem?_cons_zero, List.getElem?_cons_succ]; rfl) (by kernel_rfl) (by kernel_rfl) (by kernel_rfl) (fun _ _ _ h => h) (yields_load_h (by rfl) (.tmp 3) rfl w.heap.size 0 rfl d (fun w hS => load_h hS.box HD.out)) (by assumption) ?_
  simp only [Act.put, List.setIfInBounds_toArray, List.set_cons_zero, List.set_cons_succ]
  refine' wpAnyH_take (i := 9) (v := _) (by simp only [List.getElem?_toArray, List.getElem?_cons_zero, List.getElem?_cons_succ]; rfl) (by kernel_rfl) (by kernel_rfl) (by kernel_rfl) (fun _ _ _ h => h) (yields_look (by rfl) (.tmp 15) (.tmp 16) rfl (.map (some m2)) (.agg (hvec d)) (.slice (some ⟨g0, 0, none⟩) n c) rfl rfl (fun w hS => hS.look HK.out HV.out)) (by assumption) ?_
  simp only [Act.put, List.setIfInBounds_toArray, List.set_cons_zero, List.set_cons_succ]
  refine wpAnyH_take (i := 10) (v := ?_) (by simp only [List.getElem?_toArray, List.getElem?_cons_zero, List.getElem?_cons_succ]; rfl) (by kernel_rfl) (by kernel_rfl) (by kernel_rfl) (fun _ _ _ h => h) (Or.inl ⟨by rfl, ?_⟩) (by assumption) ?_
  rotate_left 1
  · intro w hSw
    go_simp
    with_reducible rfl
  simp only [Act.put, List.setIfInBounds_toArray, List.set_cons_zero, List.set_cons_succ]
  refine wpAnyH_take (i := 11) (v := ?_) (by simp only [List.getElem?_toArray, List.getElem?_cons_zero, List.getElem?_cons_succ]; rfl) (by kernel_rfl) (by kernel_rfl) (by kernel_rfl) (fun _ _ _ h => h) (Or.inl ⟨by rfl, ?_⟩) (by assumption) ?_
  rotate_left 1
  · intro w hSw
    go_simp
    with_reducible rfl
  simp only [Act.put, List.setIfInBounds_toArray, List.set_cons_zero, List.set_cons_succ]
  refine wpAnyH_take (i := 12) (v := ?_) (by simp only [List.getElem?_toArray, List.getElem?_cons_zero, List.getElem?_cons_succ]; rfl) (by kernel_rfl) (by kernel_rfl) (by kernel_rfl) (fun _ _ _ h => h) (Or.inl ⟨by rfl, ?_⟩) (by assumption) ?_
  rotate_left 1
  · intro w hSw
    go_simp
    with_reducible rfl
  simp only [Act.put, List.setIfInBounds_toArray, List.set_cons_zero, List.set_cons_succ]
  refine wpAnyH_done (by kernel_rfl) ?_ _
  refine NoPanic.normal ?_
  generalize hWd : World.drew _ = wd
  obtain rfl : W0 = wd := HW0.out.symm.trans hWd
  clear hWd
  have NS1 : Hid (NS p m2 cp pv w.heap.size d W0.drew) := by have := NS0.out; rw [HW0.out] at this; exact ⟨this.has, this.m2, this.box⟩
  have PL1 : Hid (Pls 0 W0.drew (.slice (some ⟨g0, 0, none⟩) n c) (P d)) := HPL.out
  go_wp2
  refine wp_region_noPanic ?_
  refine wp_region_held_drew (S := FS p m2 cp pv w.heap.size d (.slice (some ⟨g0, 0, none⟩) n c) (P d)) (by kernel_rfl) (⟨NS1.out, PL1.out⟩) (fun hS => ?_)
  refine wpAnyH_take (i := 0) (v := ?_) (by simp only [List.getElem?_toArray, List.getElem?_cons_zero]; rfl) (by kernel_rfl) (by kernel_rfl) (by kernel_rfl) (fun _ _ _ h => h) (Or.inl ⟨by rfl, ?_⟩) (by assumption) ?_
  rotate_left 1
  · intro w hSw
    have hc2 := hSw.ns.cell2
    go_simp
    with_reducible rfl
  simp only [Act.put, List.setIfInBounds_toArray, List.set_cons_zero, List.set_cons_succ]
  refine wpAnyH_take (i := 1) (v := ?_) (by simp only [List.getElem?_toArray, List.getElem?_cons_zero, List.getElem?_cons_succ]; rfl) (by kernel_rfl) (by kernel_rfl) (by kernel_rfl) (fun _ _ _ h => h) (Or.inl ⟨by rfl, ?_⟩) (by assumption) ?_
  rotate_left 1
  · intro w hSw
    have hc2 := hSw.ns.cell2
    go_simp
    with_reducible rfl
  simp only [Act.put, List.setIfInBounds_toArray, List.set_cons_zero, List.set_cons_succ]
  refine wpAnyH_take (i := 2) (v := ?_) (by simp only [List.getElem?_toArray, List.getElem?_cons_zero, List.getElem?_cons_succ]; rfl) (by kernel_rfl) (by kernel_rfl) (by kernel_rfl) (fun _ _ _ h => h) (Or.inl ⟨by rfl, ?_⟩) (by assumption) ?_
  rotate_left 1
  · intro w hSw
    have hc2 := hSw.ns.cell2
    go_simp
    with_reducible rfl
  simp only [Act.put, List.setIfInBounds_toArray, List.set_cons_zero, List.set_cons_succ]
  refine wpAnyH_take (i := 3) (v := ?_) (by simp only [List.getElem?_toArray, List.getElem?_cons_zero, List.getElem?_cons_succ]; rfl) (by kernel_rfl) (by kernel_rfl) (by kernel_rfl) (fun _ _ _ h => h) (Or.inl ⟨by rfl, ?_⟩) (by assumption) ?_
  rotate_left 1
  · intro w hSw
    have hc2 := hSw.ns.cell2
    go_simp
    with_reducible rfl
  simp only [Act.put, List.setIfInBounds_toArray, List.set_cons_zero, List.set_cons_succ]
  refine' wpAnyH_take (i := 4) (v := _) (by simp only [List.getElem?_toArray, List.getElem?_cons_zero, List.getElem?_cons_succ]; rfl) (by kernel_rfl) (by kernel_rfl) (by kernel_rfl) (fun _ _ _ h => h) (yields_load_h (by rfl) (.tmp 3) rfl w.heap.size 0 rfl d (fun w hS => load_h hS.ns.box HD.out)) (by assumption) ?_
  simp only [Act.put, List.setIfInBounds_toArray, List.set_cons_zero, List.set_cons_succ]
  refine' wpAnyH_take (i := 5) (v := _) (by simp only [List.getElem?_toArray, List.getElem?_cons_zero, List.getElem?_cons_succ]; rfl) (by kernel_rfl) (by kernel_rfl) (by kernel_rfl) (fun _ _ _ h => h) (yields_look (by rfl) (.tmp 25) (.tmp 26) rfl (.map (some m2)) (.agg (hvec d)) (.slice (some ⟨g0, 0, none⟩) n c) rfl rfl (fun w hS => hS.ns.look HK.out HV.out)) (by assumption) ?_
  simp only [Act.put, List.setIfInBounds_toArray, List.set_cons_zero, List.set_cons_succ]
  refine wpAnyH_take (i := 6) (v := ?_) (by simp only [List.getElem?_toArray, List.getElem?_cons_zero, List.getElem?_cons_succ]; rfl) (by kernel_rfl) (by kernel_rfl) (by kernel_rfl) (fun _ _ _ h => h) (Or.inl ⟨by rfl, ?_⟩) (by assumption) ?_
  rotate_left 1
  · intro w hSw
    go_simp
    with_reducible rfl
  simp only [Act.put, List.setIfInBounds_toArray, List.set_cons_zero, List.set_cons_succ]
  refine' wpAnyH_take (i := 7) (v := _) (by simp only [List.getElem?_toArray, List.getElem?_cons_zero, List.getElem?_cons_succ]; rfl) (by kernel_rfl) (by kernel_rfl) (by kernel_rfl) (fun _ _ _ h => h) (yields_load_pl (by rfl) (.tmp 28) rfl g0 0 rfl (.agg (pcell q).toArray) (fun w hS => HLD.out w hS.pl)) (by assumption) ?_
  simp only [Act.put, List.setIfInBounds_toArray, List.set_cons_zero, List.set_cons_succ]
  refine wpAnyH_ready (rs := [8]) (by kernel_rfl) (by simp) ?_
  refine AllReadyH.cons (by simp only [List.getElem?_toArray, List.getElem?_cons_zero, List.getElem?_cons_succ]; rfl) (fun K hK => ?_) AllReadyH.nil
  go_simp
  have hbA : Below W0.heap.size W0 (W0.drew.alloc (.cells zpl 54)) := (Below.refl _ W0).drew.alloc (Nat.le_refl _) _
  generalize hWA : World.drew (World.alloc _ _) = WA
  have hWA : W0.drew.alloc (.cells zpl 54) = WA := hWA
  have hgA : Has WA W0.heap.size 54 zpl := by rw [← hWA]; exact Has.fresh W0.drew 54 _
  rw [hWA] at hbA
  obtain ⟨g7, hg7⟩ : ∃ g7, W0.heap.size = g7 := ⟨_, rfl⟩
  rw [hg7]
  have hg72 : W0.heap.size = g7 := hg7
  rw [hg72] at hgA
  have hzA : FS p m2 cp pv w.heap.size d (.slice (some ⟨g0, 0, none⟩) n c) (P d) WA := ⟨NS1.out.kept (fun g hg => hbA.block g (by rcases hg with e | e | e; rw [e]; exact (NS1.out.has.choose_spec).inside; rw [e]; exact NS1.out.m2.inside; rw [e]; exact NS1.out.box.inside)), Pls.kept (w := W0) PL1.out hbA (Nat.le_refl _)⟩
  refine hK.out _ _ hzA (fun hS => ?_)
  clear hK K hS
  refine wpAnyH_ready (rs := [9]) (by kernel_rfl) (by simp) ?_
  refine AllReadyH.cons (by simp only [List.getElem?_toArray, List.getElem?_cons_zero, List.getElem?_cons_succ]; rfl) (fun K hK => ?_) AllReadyH.nil
  refine step_store_pl (by rfl) (.tmp 7) (.tmp 29) rfl g7 q zpl rfl rfl hgA rfl ?_
  have hgB : Has (WA.setRow g7 (pcell q).toArray) g7 54 (pcell q).toArray := setRow_heap _ _ _ _ 54 (0, 0) hgA
  obtain ⟨WB, hWB⟩ : ∃ WB, WA.setRow g7 (pcell q).toArray = WB := ⟨_, rfl⟩
  have hbB : Below W0.heap.size W0 WB := by rw [← hWB]; exact hbA.rowK (by omega) _
  rw [hWB] at hgB ⊢
  have hzB : FS p m2 cp pv w.heap.size d (.slice (some ⟨g0, 0, none⟩) n c) (P d) WB := ⟨NS1.out.kept (fun g hg => hbB.block g (by rcases hg with e | e | e; rw [e]; exact (NS1.out.has.choose_spec).inside; rw [e]; exact NS1.out.m2.inside; rw [e]; exact NS1.out.box.inside)), Pls.kept (w := W0) PL1.out hbB (Nat.le_refl _)⟩
  have HGB := hid hgB
  have HBB := hid hbB
  have HG7 : Hid (W0.heap.size ≤ g7) := Nat.le_of_eq hg72
  refine hK.out _ _ hzB (fun hS => ?_)
  clear hK K hS hzA hgA hWA hg7 hg72 hbA hgB hbB hWB hzB
  refine wpAnyH_done (by kernel_rfl) ?_ _
  refine NoPanic.normal ?_
  have hbw : Below w.heap.size w WB.drew := (HB0.out.trans (HBB.out.mono HB0.out.size)).drew
  have hIB := HI.out.kept hbw.size (fun g hg => hbw.block g (HI.out.low g hg))
  have FT0 : Hid (FT p m1 cf fv g7 q WB.drew) := ⟨⟨m2, hIB.has⟩, hIB.m1, HGB.out⟩
  have HBW := hid hbw
  obtain ⟨Af, cpf, bf, hyf, _, _⟩ := Fresh.bytes (row_of HFR.out (fun g hg => hbw.block g (HI.out.low g (HFO.out g hg))) : Fresh 0 WB.drew vf xs) (by have := hIB.low p hIB.op; omega)
  have CP := hid (part_any vf xs Af cpf bf 0 (q.2 : Int) WB.drew hyf)
  have HB5 : Hid (Has WB.drew (w.heap.size + 1) 54 zpl) := (HBX5.out.on HBB.out : Has WB (w.heap.size + 1) 54 zpl)
  have HLT : Hid (w.heap.size + 1 < g7) := by have h1 := HBX5.out.inside; have h2 := HG7.out; show _ < _; omega
  clear hbw hIB hyf
  go_wp2
  refine wp_region_noPanic ?_
  refine wp_region_held_drew (S := FT p m1 cf fv g7 q) (by kernel_rfl) (FT0.out) (fun hS => ?_)
  refine wpAnyH_take (i := 0) (v := ?_) (by simp only [List.getElem?_toArray, List.getElem?_cons_zero]; rfl) (by kernel_rfl) (by kernel_rfl) (by kernel_rfl) (fun _ _ _ h => h) (Or.inl ⟨by rfl, ?_⟩) (by assumption) ?_
  rotate_left 1
  · intro w hSw
    have hc2 := hSw.cell1
    go_simp
    with_reducible rfl
  simp only [Act.put, List.setIfInBounds_toArray, List.set_cons_zero, List.set_cons_succ]
  refine wpAnyH_take (i := 1) (v := ?_) (by simp only [List.getElem?_toArray, List.getElem?_cons_zero, List.getElem?_cons_succ]; rfl) (by kernel_rfl) (by kernel_rfl) (by kernel_rfl) (fun _ _ _ h => h) (Or.inl ⟨by rfl, ?_⟩) (by assumption) ?_
  rotate_left 1
  · intro w hSw
    have hc2 := hSw.cell1
    go_simp
    with_reducible rfl
  simp only [Act.put, List.setIfInBounds_toArray, List.set_cons_zero, List.set_cons_succ]
  refine wpAnyH_take (i := 2) (v := ?_) (by simp only [List.getElem?_toArray, List.getElem?_cons_zero, List.getElem?_cons_succ]; rfl) (by kernel_rfl) (by kernel_rfl) (by kernel_rfl) (fun _ _ _ h => h) (Or.inl ⟨by rfl, ?_⟩) (by assumption) ?_
  rotate_left 1
  · intro w hSw
    have hc2 := hSw.cell1
    go_simp
    with_reducible rfl
  simp only [Act.put, List.setIfInBounds_toArray, List.set_cons_zero, List.set_cons_succ]
  refine wpAnyH_take (i := 3) (v := ?_) (by simp only [List.getElem?_toArray, List.getElem?_cons_zero, List.getElem?_cons_succ]; rfl) (by kernel_rfl) (by kernel_rfl) (by kernel_rfl) (fun _ _ _ h => h) (Or.inl ⟨by rfl, ?_⟩) (by assumption) ?_
  rotate_left 1
  · intro w hSw
    have hc2 := hSw.cell1
    go_simp
    with_reducible rfl
  simp only [Act.put, List.setIfInBounds_toArray, List.set_cons_zero, List.set_cons_succ]
  refine wpAnyH_take (i := 4) (v := ?_) (by simp only [List.getElem?_toArray, List.getElem?_cons_zero, List.getElem?_cons_succ]; rfl) (by kernel_rfl) (by kernel_rfl) (by kernel_rfl) (fun _ _ _ h => h) (Or.inl ⟨by rfl, ?_⟩) (by assumption) ?_
  rotate_left 1
  · intro w hSw
    have hc2 := hSw.name
    go_simp
    with_reducible rfl
  simp only [Act.put, List.setIfInBounds_toArray, List.set_cons_zero, List.set_cons_succ]
  refine wpAnyH_take (i := 5) (v := ?_) (by simp only [List.getElem?_toArray, List.getElem?_cons_zero, List.getElem?_cons_succ]; rfl) (by kernel_rfl) (by kernel_rfl) (by kernel_rfl) (fun _ _ _ h => h) (Or.inl ⟨by rfl, ?_⟩) (by assumption) ?_
  rotate_left 1
  · intro w hSw
    have hc2 := hSw.name
    go_simp
    with_reducible rfl
  simp only [Act.put, List.setIfInBounds_toArray, List.set_cons_zero, List.set_cons_succ]
  refine' wpAnyH_take (i := 6) (v := _) (by simp only [List.getElem?_toArray, List.getElem?_cons_zero, List.getElem?_cons_succ]; rfl) (by kernel_rfl) (by kernel_rfl) (by kernel_rfl) (fun _ _ _ h => h) (yields_look (by rfl) (.tmp 33) (.tmp 35) rfl (.map (some m1)) (.string (ba q.1)) vf rfl rfl (fun w hS => hS.look HQ.out HVF.out)) (by assumption) ?_
  simp only [Act.put, List.setIfInBounds_toArray, List.set_cons_zero, List.set_cons_succ]
  refine wpAnyH_take (i := 7) (v := ?_) (by simp only [List.getElem?_toArray, List.getElem?_cons_zero, List.getElem?_cons_succ]; rfl) (by kernel_rfl) (by kernel_rfl) (by kernel_rfl) (fun _ _ _ h => h) (Or.inl ⟨by rfl, ?_⟩) (by assumption) ?_
  rotate_left 1
  · intro w hSw
    have hc2 := hSw.num
    go_simp
    with_reducible rfl
  simp only [Act.put, List.setIfInBounds_toArray, List.set_cons_zero, List.set_cons_succ]
  refine wpAnyH_take (i := 8) (v := ?_) (by simp only [List.getElem?_toArray, List.getElem?_cons_zero, List.getElem?_cons_succ]; rfl) (by kernel_rfl) (by kernel_rfl) (by kernel_rfl) (fun _ _ _ h => h) (Or.inl ⟨by rfl, ?_⟩) (by assumption) ?_
  rotate_left 1
  · intro w hSw
    have hc2 := hSw.num
    go_simp
    with_reducible rfl
  simp only [Act.put, List.setIfInBounds_toArray, List.set_cons_zero, List.set_cons_succ]
  refine' wpAnyH_take (i := 10) (v := _) (by simp only [List.getElem?_toArray, List.getElem?_cons_zero, List.getElem?_cons_succ]; rfl) (by kernel_rfl) (by kernel_rfl) (by kernel_rfl) (fun _ _ _ h => h) (yields_load_pl (by rfl) (.tmp 7) rfl g7 0 rfl (.agg (pcell q).toArray) (fun w hS => load_pl hS.box)) (by assumption) ?_
  simp only [Act.put, List.setIfInBounds_toArray, List.set_cons_zero, List.set_cons_succ]
  refine wpAnyH_ready (rs := [9]) (by kernel_rfl) (by simp) ?_
  refine AllReadyH.cons (by simp only [List.getElem?_toArray, List.getElem?_cons_zero, List.getElem?_cons_succ]; rfl) (fun K hK => ?_) AllReadyH.nil
  go_simp
  refine CP.out.mono ?_
  rintro e5 w5 ⟨v5, rfl, hf5, hb5⟩
  have hz5 : FT p m1 cf fv g7 q w5 := FT0.out.kept (fun g hg => hb5.block g (by rcases hg with e | e | e; rw [e]; exact (FT0.out.has.choose_spec).inside; rw [e]; exact FT0.out.m1.inside; rw [e]; exact FT0.out.box.inside))
  have h55 := HB5.out.on hb5
  have hw5 := HBW.out.trans (hb5.mono HBW.out.size)
  refine hK.out _ _ hz5 (fun hS => ?_)
  clear hK K hS
  refine wpAnyH_take (i := 11) (v := ?_) (by simp only [List.getElem?_toArray, List.getElem?_cons_zero, List.getElem?_cons_succ]; rfl) (by kernel_rfl) (by kernel_rfl) (by kernel_rfl) (fun _ _ _ h => h) (Or.inl ⟨by rfl, ?_⟩) (by assumption) ?_
  rotate_left 1
  · intro w hSw
    go_simp
    with_reducible rfl
  simp only [Act.put, List.setIfInBounds_toArray, List.set_cons_zero, List.set_cons_succ]
  refine wpAnyH_ready (rs := [12]) (by kernel_rfl) (by simp) ?_
  refine AllReadyH.cons (by simp only [List.getElem?_toArray, List.getElem?_cons_zero, List.getElem?_cons_succ]; rfl) (fun K hK => ?_) AllReadyH.nil
  refine step_store_pl (by rfl) (.tmp 5) (.tmp 40) rfl (w.heap.size + 1) q zpl rfl rfl h55 rfl ?_
  have h66 : Has (w5.setRow (w.heap.size + 1) (pcell q).toArray) (w.heap.size + 1) 54 (pcell q).toArray := setRow_heap _ _ _ _ 54 (0, 0) h55
  have hr6a : Fresh WB.drew.heap.size (w5.setRow (w.heap.size + 1) (pcell q).toArray) v5 (partI xs (q.2 : Int)) := row_of hf5 (fun g hg => setRow_other w5 (w.heap.size + 1) g _ (by have h1 := (World.ownsRow.lt hf5 g hg).1; have h2 := HB5.out.inside; omega))
  have hr6 := Fresh.mono hr6a HBW.out.size
  have hb6 : Below w.heap.size w (w5.setRow (w.heap.size + 1) (pcell q).toArray) := hw5.rowK (by omega) _
  have hz6 : FT p m1 cf fv g7 q (w5.setRow (w.heap.size + 1) (pcell q).toArray) := hz5.kept (fun g hg => setRow_other _ _ _ _ (by have h1 := HI.out.low p HI.out.op; have h2 := HI.out.low m1 HI.out.o1; have h3 := HLT.out; rcases hg with e | e | e <;> omega))
  refine hK.out _ _ hz6 (fun hS => ?_)
  clear hK K hS
  refine wpAnyH_take (i := 13) (v := ?_) (by simp only [List.getElem?_toArray, List.getElem?_cons_zero, List.getElem?_cons_succ]; rfl) (by kernel_rfl) (by kernel_rfl) (by kernel_rfl) (fun _ _ _ h => h) (Or.inl ⟨by rfl, ?_⟩) (by assumption) ?_
  rotate_left 1
  · intro w hSw
    go_simp
    with_reducible rfl
  simp only [Act.put, List.setIfInBounds_toArray, List.set_cons_zero, List.set_cons_succ]
  refine wpAnyH_done (by kernel_rfl) ?_ _
  refine NoPanic.normal ?_
  go_wp2
  refine bodyPost_ret (results_tct rfl _ _ (w.heap.size + 1) (pcell q).toArray rfl (load_pl h66)) rfl ⟨_, rfl, hr6, hb6⟩
end Go.Proofs.YtlcdkponegmcdaaDoor
