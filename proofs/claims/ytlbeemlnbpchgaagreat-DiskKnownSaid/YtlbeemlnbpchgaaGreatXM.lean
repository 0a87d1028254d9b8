/- Disks that are none: what each call answers. Conditions: a text of at most a million bytes. -/
import Derived.Test.YtlbeemlnbpchgaaGreatXL
namespace Go.Proofs.YtlbeemlnbpchgaaGreat
open Go.RowKit Go.Maps
abbrev zeroD : Array Value := #[.map none, .int .i64 0, .int .i64 0, .map none, .int .i64 0, .int .i64 0, .slice none 0 0, .int .i64 0]
theorem zero_c0 {w : World} {p : Nat} (h : Has w p 62 zeroD) : w.cell? ⟨p, 0, none⟩ = some (.map none) := h.at_ 0
set_option maxRecDepth 100000 in
set_option maxHeartbeats 4000000 in
theorem ready_nil (w : World) : Calls Tryz.prog 78 #[.pointer none] w fun e w' => e = .returned (.int .i64 1) ∧ w = w' := by
  have C1 := hid (dmade_nil w)
  go_enter Tryz.func78, Tryz.ntmps78
  go_wp2_with fail
  refine C1.out.mono ?_; rintro e1 w1 ⟨rfl, rfl⟩
  go_wp2
  go_ret
  exact ⟨rfl, rfl⟩
set_option maxRecDepth 100000 in
set_option maxHeartbeats 4000000 in
theorem ready_zero (w : World) (p : Nat) (h : Has w p 62 zeroD) : Calls Tryz.prog 78 #[.pointer (some ⟨p, 0, none⟩)] w fun e w' => e = .returned (.int .i64 1) ∧ w = w' := by
  have C1 := hid (dmade_zero w p (zero_c0 h))
  clear h
  go_enter Tryz.func78, Tryz.ntmps78
  go_wp2_with fail
  refine C1.out.mono ?_; rintro e1 w1 ⟨rfl, rfl⟩
  go_wp2
  go_ret
  exact ⟨rfl, rfl⟩
set_option maxRecDepth 100000 in
set_option maxHeartbeats 4000000 in
theorem used_nil (w : World) : Calls Tryz.prog 27 #[.pointer none] w fun e w' => e = .returned (.int .i64 0) ∧ w = w' := by
  have C1 := hid (dmade_nil w)
  go_enter Tryz.func27, Tryz.ntmps27
  go_wp2_with fail
  refine C1.out.mono ?_; rintro e1 w1 ⟨rfl, rfl⟩
  go_wp2
  go_ret
  exact ⟨rfl, rfl⟩
set_option maxRecDepth 100000 in
set_option maxHeartbeats 4000000 in
theorem room_nil (w : World) : Calls Tryz.prog 35 #[.pointer none] w fun e w' => e = .returned (.int .i64 0) ∧ w = w' := by
  have C1 := hid (dmade_nil w)
  go_enter Tryz.func35, Tryz.ntmps35
  go_wp2_with fail
  refine C1.out.mono ?_; rintro e1 w1 ⟨rfl, rfl⟩
  go_wp2
  go_ret
  exact ⟨rfl, rfl⟩
set_option maxRecDepth 100000 in
set_option maxHeartbeats 4000000 in
theorem pending_nil (w : World) : Calls Tryz.prog 28 #[.pointer none] w fun e w' => e = .returned (.int .i64 0) ∧ w = w' := by
  have C1 := hid (dmade_nil w)
  go_enter Tryz.func28, Tryz.ntmps28
  go_wp2_with fail
  refine C1.out.mono ?_; rintro e1 w1 ⟨rfl, rfl⟩
  go_wp2
  go_ret
  exact ⟨rfl, rfl⟩
set_option maxRecDepth 100000 in
set_option maxHeartbeats 4000000 in
theorem copy_nil (w : World) : Calls Tryz.prog 17 #[.pointer none] w fun e w' => e = .returned (.pointer none) ∧ w = w' := by
  have C1 := hid (dmade_nil w)
  go_enter Tryz.func17, Tryz.ntmps17
  go_wp2_with fail
  refine C1.out.mono ?_; rintro e1 w1 ⟨rfl, rfl⟩
  go_wp2
  go_ret
  exact ⟨rfl, rfl⟩
set_option maxRecDepth 100000 in
set_option maxHeartbeats 4000000 in
theorem copy_zero (w : World) (p : Nat) (h : Has w p 62 zeroD) : Calls Tryz.prog 17 #[.pointer (some ⟨p, 0, none⟩)] w fun e w' => e = .returned (.pointer none) ∧ w = w' := by
  have C1 := hid (dmade_zero w p (zero_c0 h))
  clear h
  go_enter Tryz.func17, Tryz.ntmps17
  go_wp2_with fail
  refine C1.out.mono ?_; rintro e1 w1 ⟨rfl, rfl⟩
  go_wp2
  go_ret
  exact ⟨rfl, rfl⟩
set_option maxRecDepth 100000 in
set_option maxHeartbeats 4000000 in
theorem paths_nil (w : World) : Calls Tryz.prog 26 #[.pointer none] w fun e w' => e = .returned (.slice none 0 0) ∧ w = w' := by
  have C1 := hid (dmade_nil w)
  go_enter Tryz.func26, Tryz.ntmps26
  go_wp2_with fail
  refine C1.out.mono ?_; rintro e1 w1 ⟨rfl, rfl⟩
  go_wp2
  go_ret
  exact ⟨rfl, rfl⟩
set_option maxRecDepth 100000 in
set_option maxHeartbeats 4000000 in
theorem off_zero (w : World) (p : Nat) (h : Has w p 62 zeroD) : Calls Tryz.prog 37 #[.pointer (some ⟨p, 0, none⟩)] w fun e w' => e = .returned (.bool false) ∧ w = w' := by
  have C1 := hid (dmade_zero w p (zero_c0 h))
  clear h
  go_enter Tryz.func37, Tryz.ntmps37
  go_wp2_with fail
  refine C1.out.mono ?_; rintro e1 w1 ⟨rfl, rfl⟩
  go_wp2
  go_ret
  exact ⟨rfl, rfl⟩
set_option maxRecDepth 100000 in
set_option maxHeartbeats 4000000 in
theorem crash_zero (w : World) (p : Nat) (h : Has w p 62 zeroD) : Calls Tryz.prog 18 #[.pointer (some ⟨p, 0, none⟩), .slice none 0 0] w fun e w' => e = .returned (.int .i64 1) ∧ w = w' := by
  have C1 := hid (dmade_zero w p (zero_c0 h))
  clear h
  go_enter Tryz.func18, Tryz.ntmps18
  go_wp2_with fail
  refine C1.out.mono ?_; rintro e1 w1 ⟨rfl, rfl⟩
  go_wp2
  go_ret
  exact ⟨rfl, rfl⟩
set_option maxRecDepth 100000 in
set_option maxHeartbeats 4000000 in
theorem list_zero (w : World) (p : Nat) (h : Has w p 62 zeroD) (s : By) : Calls Tryz.prog 25 #[.pointer (some ⟨p, 0, none⟩), kS s] w fun e w' => e = .returned (.tuple #[.slice none 0 0, .int .i64 1]) ∧ w = w' := by
  have C1 := hid (dmade_zero w p (zero_c0 h))
  clear h
  go_enter Tryz.func25, Tryz.ntmps25
  go_wp2_with fail
  refine C1.out.mono ?_; rintro e1 w1 ⟨rfl, rfl⟩
  go_wp2
  go_ret2
  exact ⟨rfl, rfl⟩
set_option maxRecDepth 100000 in
set_option maxHeartbeats 4000000 in
theorem sync_nil (w : World) : Calls Tryz.prog 29 #[.pointer none] w fun e w' => e = .returned (.int .i64 1) ∧ w = w' := by
  have C1 := hid (ready_nil w)
  go_enter Tryz.func29, Tryz.ntmps29
  go_wp2_with fail
  refine C1.out.mono ?_; rintro e1 w1 ⟨rfl, rfl⟩
  go_wp2
  go_ret
  exact ⟨rfl, rfl⟩
set_option maxRecDepth 100000 in
set_option maxHeartbeats 4000000 in
theorem fuse_nil (w : World) : Calls Tryz.prog 36 #[.pointer none, .int .i64 1] w fun e w' => e = .returned (.int .i64 1) ∧ w = w' := by
  have C1 := hid (ready_nil w)
  go_enter Tryz.func36, Tryz.ntmps36
  go_wp2_with fail
  refine C1.out.mono ?_; rintro e1 w1 ⟨rfl, rfl⟩
  go_wp2
  go_ret
  exact ⟨rfl, rfl⟩
set_option maxRecDepth 100000 in
set_option maxHeartbeats 4000000 in
theorem do_nil (w : World) (v : Value) : Calls Tryz.prog 60 #[.pointer none, v] w fun e w' => e = .returned (.int .i64 1) ∧ w = w' := by
  have C1 := hid (ready_nil w)
  go_enter Tryz.func60, Tryz.ntmps60
  go_wp2_with fail
  refine C1.out.mono ?_; rintro e1 w1 ⟨rfl, rfl⟩
  go_wp2
  go_ret
  exact ⟨rfl, rfl⟩
set_option maxRecDepth 100000 in
set_option maxHeartbeats 4000000 in
theorem do_zero (w : World) (p : Nat) (h : Has w p 62 zeroD) (v : Value) : Calls Tryz.prog 60 #[.pointer (some ⟨p, 0, none⟩), v] w fun e w' => e = .returned (.int .i64 1) ∧ w = w' := by
  have C1 := hid (ready_zero w p h)
  clear h
  go_enter Tryz.func60, Tryz.ntmps60
  go_wp2_with fail
  refine C1.out.mono ?_; rintro e1 w1 ⟨rfl, rfl⟩
  go_wp2
  go_ret
  exact ⟨rfl, rfl⟩
set_option maxRecDepth 100000 in
set_option maxHeartbeats 8000000 in
theorem write_nil (w : World) (p d : By) (tm : Int) (hp : p.length ≤ 4000) (hd : d.length ≤ 1000000) :
    Calls Tryz.prog 22 #[.pointer none, kS p, kS d, .int .i64 tm] w fun e w' => e = .returned (.int .i64 1) ∧ Below w.heap.size w w' := by
  have P0 : Hid (CL w w.heap.size (w.heap.size + 1) p d ((((w.alloc (.cells #[kS p] 9)).alloc (.cells #[kS d] 9)).alloc (.cells #[.int .i64 tm] 2)))) := by
    refine ⟨⟨?_, ?_⟩, ?_⟩
    · exact ((Has.fresh w _ _).more _).more _
    · exact (Has.fresh' (w.alloc _) _ _ (by simp)).more _
    · exact (((Below.refl _ _).alloc (Nat.le_refl _) _).alloc (by simp) _).alloc (by simp; omega) _
  have C1 := hid (fun W => strClone_any p W (by omega))
  have C2 := hid (fun W => strClone_any d W (by omega))
  go_enter Tryz.func22, Tryz.ntmps22
  go_wp2
  refine wp_region_noPanic ?_
  refine wp_region_held_drew (S := CL w w.heap.size (w.heap.size + 1) p d) (by kernel_rfl) (P0.out.drew) (fun hS => ?_)
  refine wpAnyH_take (i := 0) (v := ?_) (by simp only [List.getElem?_toArray, List.getElem?_cons_zero]; rfl) (by kernel_rfl) (by kernel_rfl) (by kernel_rfl) (fun _ _ _ h => h) (Or.inl ⟨by rfl, ?_⟩) (by assumption) ?_
  rotate_left 1
  · intro w hSw
    have hc := hSw.bx.x1.at_ 0
    go_simp
    with_reducible rfl
  simp only [Act.put, List.setIfInBounds_toArray, List.set_cons_zero, List.set_cons_succ]
  refine wpAnyH_take (i := 2) (v := ?_) (by simp only [List.getElem?_toArray, List.getElem?_cons_zero, List.getElem?_cons_succ]; rfl) (by kernel_rfl) (by kernel_rfl) (by kernel_rfl) (fun _ _ _ h => h) (Or.inl ⟨by rfl, ?_⟩) (by assumption) ?_
  rotate_left 1
  · intro w hSw
    have hc := hSw.bx.x2.at_ 0
    go_simp
    with_reducible rfl
  simp only [Act.put, List.setIfInBounds_toArray, List.set_cons_zero, List.set_cons_succ]
  refine wpAnyH_ready (rs := [1]) (by kernel_rfl) (by simp) ?_
  refine AllReadyH.cons (by simp only [List.getElem?_toArray, List.getElem?_cons_zero, List.getElem?_cons_succ]; rfl) (fun K hK => ?_) AllReadyH.nil
  go_simp
  refine (C1.out _).mono ?_
  rintro e1 w1 ⟨rfl, hb1⟩
  have hz1 := P0.out.drew.on hb1
  refine hK.out _ _ hz1 (fun hS => ?_)
  clear hK K hS
  refine wpAnyH_ready (rs := [3]) (by kernel_rfl) (by simp) ?_
  refine AllReadyH.cons (by simp only [List.getElem?_toArray, List.getElem?_cons_zero, List.getElem?_cons_succ]; rfl) (fun K hK => ?_) AllReadyH.nil
  go_simp
  refine (C2.out _).mono ?_
  rintro e2 w2 ⟨rfl, hb2⟩
  have hz2 := hz1.on hb2
  refine hK.out _ _ hz2 (fun hS => ?_)
  clear hK K hS
  have P2 := hid hz2
  clear hz1 hz2 hb1 hb2
  have hc1 := P2.out.bx.x1.at_ 0
  have hf1 := P2.out.bx.x1.free 0
  refine wpAnyH_ready (rs := [4]) (by kernel_rfl) (by simp) ?_
  refine AllReadyH.cons (by simp only [List.getElem?_toArray, List.getElem?_cons_zero, List.getElem?_cons_succ]; rfl) (fun K hK => ?_) AllReadyH.nil
  go_simp
  refine hK.out _ _ (P2.out.set1 (Nat.le_refl _)) (fun hS => ?_)
  clear hK K hS
  have P3 := hid (P2.out.set1 (Nat.le_refl _))
  have hc2 := P3.out.bx.x2.at_ 0
  have hf2 := P3.out.bx.x2.free 0
  refine wpAnyH_ready (rs := [5]) (by kernel_rfl) (by simp) ?_
  refine AllReadyH.cons (by simp only [List.getElem?_toArray, List.getElem?_cons_zero, List.getElem?_cons_succ]; rfl) (fun K hK => ?_) AllReadyH.nil
  go_simp
  refine hK.out _ _ (P3.out.set2 (Nat.le_succ _)) (fun hS => ?_)
  clear hK K hS
  refine wpAnyH_done (by kernel_rfl) ?_ _
  refine NoPanic.normal ?_
  have P4 := hid (P3.out.set2 (Nat.le_succ _))
  clear hc1 hf1 hc2 hf2
  go_wp2_with fail
  refine (do_nil _ _).mono ?_; rintro e3 w3 ⟨rfl, rfl⟩
  go_wp2
  go_ret
  exact ⟨rfl, P4.out.bl⟩
set_option maxRecDepth 100000 in
set_option maxHeartbeats 4000000 in
theorem mkdir_zero (w : World) (q : Nat) (h : Has w q 62 zeroD) (p : By) (hp : p.length ≤ 4000) :
    Calls Tryz.prog 21 #[.pointer (some ⟨q, 0, none⟩), kS p] w fun e w' => e = .returned (.int .i64 1) ∧ Below w.heap.size w w' := by
  have H := hid h
  have HQ := hid h.inside
  have X0 : Hid (Has (w.alloc (.cells #[kS p] 9)) w.heap.size 9 #[kS p]) := Has.fresh _ _ _
  have B0 : Hid (Below w.heap.size w (w.alloc (.cells #[kS p] 9))) := (Below.refl _ _).alloc (Nat.le_refl _) _
  have C1 := hid (strClone_any p (w.alloc (.cells #[kS p] 9)) (by omega))
  clear h
  go_enter Tryz.func21, Tryz.ntmps21
  go_wp2_with fail
  refine C1.out.mono ?_; rintro e1 w1 ⟨rfl, hb1⟩
  have X1 : Hid (Has w1 w.heap.size 9 #[kS p]) := X0.out.gx (.inl rfl) (Gx.of_below hb1)
  have B1 := hid (B0.out.trans (hb1.mono B0.out.size))
  have hc1 := X1.out.at_ 0
  have hf1 := X1.out.free 0
  clear hb1
  go_wp2_with fail
  have B2 : Hid (Below w.heap.size w (w1.setCell ⟨w.heap.size, 0, none⟩ (kS p))) := B1.out.setCell (Nat.le_refl _) _
  refine (do_zero _ q (H.out.kept B2.out HQ.out) _).mono ?_; rintro e3 w3 ⟨rfl, rfl⟩
  go_wp2
  go_ret
  exact ⟨rfl, B2.out⟩
set_option maxRecDepth 100000 in
set_option maxHeartbeats 4000000 in
theorem read_nil (w : World) (s : By) : Calls Tryz.prog 34 #[.pointer none, kS s] w fun e w' => e = .returned (.tuple #[.agg (ndA 0 [] [] 0), .int .i64 1]) ∧ Below w.heap.size w w' := by
  have B0 : Hid (Below w.heap.size w (w.alloc (.cells (ndA 0 [] [] 0) 64))) := (Below.refl _ _).alloc (Nat.le_refl _) _
  have X2 : Hid (Has (w.alloc (.cells (ndA 0 [] [] 0) 64)) w.heap.size 64 (ndA 0 [] [] 0)) := Has.fresh _ _ _
  go_enter Tryz.func34, Tryz.ntmps34
  go_wp2_with fail
  refine (dmade_nil _).mono ?_; rintro e1 w1 ⟨rfl, rfl⟩
  go_wp2_with (refine wpList_store_row rfl 64 (.tmp 4) _ rfl w.heap.size (ndA 0 [] [] 0) rfl rfl 64 _ X2.out (by kernel_rfl) rfl (by simp [Value.oneCell']) ?_)
  refine bodyPost_ret (results_cell_tmp rfl _ _ w.heap.size (ndA 0 [] [] 0) rfl (X2.out.row) rfl) rfl ?_
  exact ⟨rfl, B0.out.rowK (Nat.le_refl _) _⟩
set_option maxRecDepth 100000 in
set_option maxHeartbeats 4000000 in
theorem new_bad (w : World) (n : Int) (h : n < 1024 ∨ 1048576 < n) : Calls Tryz.prog 10 #[.int .i64 n] w fun e w' => e = .returned (.tuple #[.pointer none, .int .i64 2]) ∧ w = w' := by
  rcases h with h | h
  · go_enter Tryz.func10, Tryz.ntmps10
    go_wp2
    go_ret2
    exact ⟨rfl, rfl⟩
  · have h2 : ¬ n < 1024 := by omega
    go_enter Tryz.func10, Tryz.ntmps10
    go_wp2
    go_ret2
    exact ⟨rfl, rfl⟩
end Go.Proofs.YtlbeemlnbpchgaaGreat
