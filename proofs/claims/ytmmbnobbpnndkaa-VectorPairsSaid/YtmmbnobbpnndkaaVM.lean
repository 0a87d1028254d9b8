/- The law VectorPairs: what its call does. Conditions: sixteen counters each. -/
import Derived.Test.YtmmbnobbpnndkaaVL
namespace Go.Proofs.Ytmmbnobbpnndkaa
open Go.RowKit
set_option maxRecDepth 100000 in
set_option maxHeartbeats 4000000 in
theorem pairsLaw_any (a : List (BitVec 32)) (ha : a.length = 16) (b : List (BitVec 32)) (hb : b.length = 16) (w : World) :
    Calls Try.prog 4 #[.agg (vec a), .agg (vec b)] w fun e w' => e = .returned (.bool true) ∧ Below w.heap.size w w' := by
  obtain ⟨m, HM⟩ : ∃ m, Hid (mergeAll [a, b] 2 = m) := ⟨_, rfl⟩
  have ML : Hid (m.length = 16) := by show _ = _; rw [← HM.out]; exact mergeAll_len _ _
  obtain ⟨c, hc⟩ : ∃ c, cmpV a b = c := ⟨_, rfl⟩
  obtain ⟨n, hn⟩ : ∃ n, sumN a 16 = n := ⟨_, rfl⟩
  obtain ⟨d, k, hd⟩ := leastYtmmbnobbpnndkaaform a 16 0
  have HA := hid ha
  have HB := hid hb
  have L2 := hid (two16 ha hb)
  have C1 : Hid (∀ w, Calls Try.prog 15 #[.agg (vec a), .agg (vec b)] w fun e w' => e = .returned (.int .i64 c) ∧ Below w.heap.size w w') := fun w => by rw [← hc]; exact cmp_any a b ha hb w
  have C2 : Hid (∀ w, Calls Try.prog 16 #[.agg (vec a), .agg (vec b)] w fun e w' => e = .returned (.int .i64 c) ∧ Below w.heap.size w w') := fun w => by rw [← hc, cmp_counts a b ha hb]; exact rcmp_any a b ha hb w
  have S1 : Hid (∀ w, Calls Try.prog 18 #[.agg (vec a)] w fun e w' => e = .returned (.int .u64 (n : Nat)) ∧ Below w.heap.size w w') := fun w => by rw [← hn]; exact sum_any a ha w
  have S2 : Hid (∀ w, Calls Try.prog 19 #[.agg (vec a)] w fun e w' => e = .returned (.int .u64 (n : Nat)) ∧ Below w.heap.size w w') := fun w => by rw [← hn]; exact rsum_any a ha w
  have E1 : Hid (∀ w, Calls Try.prog 13 #[.agg (vec a)] w fun e w' => e = .returned (.tuple #[.int .i64 d, .bool k]) ∧ Below w.heap.size w w') := fun w => by rw [← hd]; exact least_any a ha w
  have E2 : Hid (∀ w, Calls Try.prog 14 #[.agg (vec a)] w fun e w' => e = .returned (.tuple #[.int .i64 d, .bool k]) ∧ Below w.heap.size w w') := fun w => by rw [← hd]; exact rleast_any a ha w
  have W0 : Hid (Has ((w.alloc (.cells (vec a) 24)).alloc (.cells (vec b) 24)) w.heap.size 24 (vec a)) := (Has.fresh w 24 (vec a)).more _
  have W1 : Hid (Has ((w.alloc (.cells (vec a) 24)).alloc (.cells (vec b) 24)) (w.heap.size + 1) 24 (vec b)) := Has.fresh' (w.alloc _) 24 (vec b) (by simp)
  have R0 : Hid (VRows (((w.alloc (.cells (vec a) 24)).alloc (.cells (vec b) 24)).alloc (.cells (rowsA [a, b]) 24)) (some ⟨w.heap.size + 1 + 1, 0, none⟩) [a, b] (w.heap.size + 1 + 1) 0) := vrows_at _ _ (two16 ha hb) _ (by simp)
  have LA0 := hid (load_vec W0.out ha)
  have LB0 := hid (load_vec W1.out hb)
  have Z1 := size_vec m ML.out
  have Z2 := size_zero m ML.out
  have HSM := hid (sameV_refl m)
  clear ha hb hc hn hd W0 W1
  go_enter Try.func4, Try.ntmps4
  go_wp2_with (first
    | (refine wpList_load_g (by rfl) 24 (.tmp 2) rfl w.heap.size 0 rfl (vec a) LA0.out ?_)
    | (refine wpList_load_g (by rfl) 24 (.tmp 3) rfl (w.heap.size + 1) 0 rfl (vec b) LB0.out ?_)
    | (refine wpList_build_vecs (by rfl) [a, b] 2 _ rfl rfl (by omega) (by omega) L2.out rfl ?_)
    | (go_at_call 12; refine (merge_lit [a, b] 2 (w.heap.size + 1 + 1) rfl (by omega) m HM.out _ R0.out).mono ?_; rintro ee w1 ⟨rfl, hb1⟩)
    | (refine wpList_store_row rfl 24 (.tmp 5) (.tmp 13) rfl w1.heap.size (vec m) rfl rfl 24 zeroA (Has.fresh w1 24 zeroA) Z1.out Z2.out (vec_one _) ?_
       generalize hG : World.setRow _ _ _ = W3
       obtain ⟨V0, hG0, B3, H3, K3, M3⟩ := cmp_boxes w w1 a b m _ hb1
       obtain rfl : V0 = W3 := hG0.symm.trans hG
       have LA := hid (load_vec H3.out HA.out)
       clear hG0 hG hb1 LA0 LB0)
    | (refine wpList_load_g (by rfl) 24 (.tmp 2) rfl w.heap.size 0 rfl (vec a) LA.out ?_)
    | (go_at_call 13; refine (E1.out _).mono ?_; rintro ee w4 ⟨rfl, hb4⟩
       have B4 := two_le B3 hb4
       have H4 := has_on H3 hb4
       have K4 := has_on K3 hb4
       have M4 := has_on M3 hb4
       have LA4 := hid (load_vec H4.out HA.out)
       clear hb4 LA)
    | (refine wpList_load_g (by rfl) 24 (.tmp 2) rfl w.heap.size 0 rfl (vec a) LA4.out ?_)
    | (go_at_call 14; refine (E2.out _).mono ?_; rintro ee w5 ⟨rfl, hb5⟩
       have B5 := two_le B4 hb5
       have H5 := has_on H4 hb5
       have K5 := has_on K4 hb5
       have M5 := has_on M4 hb5
       clear hb5 LA4))
  have s0 : HasAll [(w.heap.size, a), (w.heap.size + 1, b), (w1.heap.size, m)] w5.drew := HasAll.draw (HasAll.cons H5 (HasAll.cons K5 (HasAll.cons M5 (HasAll.nil _))))
  have D0 := below_draw B5
  refine wp_region_noPanic ?_
  refine wp_region_held_drew (S := HasAll [(w.heap.size, a), (w.heap.size + 1, b), (w1.heap.size, m)]) (by kernel_rfl) s0 (fun hS => ?_)
  refine' wpAnyH_take (i := 0) (v := _) (by simp only [List.getElem?_toArray, List.getElem?_cons_zero]; rfl) (by kernel_rfl) (by kernel_rfl) (by kernel_rfl) (fun _ _ _ h => h) (yields_vec (by rfl) _ rfl (w.heap.size) rfl a HA.out (fun w hSw => hSw _ (.head _))) (by assumption) ?_
  simp only [Act.put, List.setIfInBounds_toArray, List.set_cons_zero, List.set_cons_succ]
  refine' wpAnyH_take (i := 1) (v := _) (by simp only [List.getElem?_toArray, List.getElem?_cons_zero, List.getElem?_cons_succ]; rfl) (by kernel_rfl) (by kernel_rfl) (by kernel_rfl) (fun _ _ _ h => h) (yields_vec (by rfl) _ rfl (w.heap.size + 1) rfl b HB.out (fun w hSw => hSw _ (.tail _ (.head _)))) (by assumption) ?_
  simp only [Act.put, List.setIfInBounds_toArray, List.set_cons_zero, List.set_cons_succ]
  refine' wpAnyH_take (i := 3) (v := _) (by simp only [List.getElem?_toArray, List.getElem?_cons_zero, List.getElem?_cons_succ]; rfl) (by kernel_rfl) (by kernel_rfl) (by kernel_rfl) (fun _ _ _ h => h) (yields_vec (by rfl) _ rfl (w.heap.size) rfl a HA.out (fun w hSw => hSw _ (.head _))) (by assumption) ?_
  simp only [Act.put, List.setIfInBounds_toArray, List.set_cons_zero, List.set_cons_succ]
  refine' wpAnyH_take (i := 4) (v := _) (by simp only [List.getElem?_toArray, List.getElem?_cons_zero, List.getElem?_cons_succ]; rfl) (by kernel_rfl) (by kernel_rfl) (by kernel_rfl) (fun _ _ _ h => h) (yields_vec (by rfl) _ rfl (w.heap.size + 1) rfl b HB.out (fun w hSw => hSw _ (.tail _ (.head _)))) (by assumption) ?_
  simp only [Act.put, List.setIfInBounds_toArray, List.set_cons_zero, List.set_cons_succ]
  refine wpAnyH_ready (rs := [2]) (by kernel_rfl) (by simp) ?_
  refine AllReadyH.cons (by simp only [List.getElem?_toArray, List.getElem?_cons_zero, List.getElem?_cons_succ]; rfl) (fun K hK => ?_) AllReadyH.nil
  go_simp
  refine (C1.out _).mono ?_
  rintro ee x1 ⟨rfl, hb⟩
  have s1 := HasAll.on s0 hb
  have D1 := two_le D0 hb
  clear hb s0 D0
  refine hK.out _ _ s1 (fun hS => ?_)
  clear hK K hS
  refine wpAnyH_ready (rs := [5]) (by kernel_rfl) (by simp) ?_
  refine AllReadyH.cons (by simp only [List.getElem?_toArray, List.getElem?_cons_zero, List.getElem?_cons_succ]; rfl) (fun K hK => ?_) AllReadyH.nil
  go_simp
  refine (C2.out _).mono ?_
  rintro ee x2 ⟨rfl, hb⟩
  have s2 := HasAll.on s1 hb
  have D2 := two_le D1 hb
  clear hb s1 D1
  refine hK.out _ _ s2 (fun hS => ?_)
  clear hK K hS
  refine wpAnyH_take (i := 6) (v := ?_) (by simp only [List.getElem?_toArray, List.getElem?_cons_zero, List.getElem?_cons_succ]; rfl) (by kernel_rfl) (by kernel_rfl) (by kernel_rfl) (fun _ _ _ h => h) (Or.inl ⟨by rfl, ?_⟩) (by assumption) ?_
  rotate_left 1
  · intro w hSw
    go_simp
    with_reducible rfl
  simp only [Act.put, List.setIfInBounds_toArray, List.set_cons_zero, List.set_cons_succ]
  refine wpAnyH_take (i := 7) (v := ?_) (by simp only [List.getElem?_toArray, List.getElem?_cons_zero, List.getElem?_cons_succ]; rfl) (by kernel_rfl) (by kernel_rfl) (by kernel_rfl) (fun _ _ _ h => h) (Or.inl ⟨by rfl, ?_⟩) (by assumption) ?_
  rotate_left 1
  · intro w hSw
    go_simp
    with_reducible rfl
  simp only [Act.put, List.setIfInBounds_toArray, List.set_cons_zero, List.set_cons_succ]
  refine' wpAnyH_take (i := 8) (v := _) (by simp only [List.getElem?_toArray, List.getElem?_cons_zero, List.getElem?_cons_succ]; rfl) (by kernel_rfl) (by kernel_rfl) (by kernel_rfl) (fun _ _ _ h => h) (yields_vec (by rfl) _ rfl (w1.heap.size) rfl m ML.out (fun w hSw => hSw _ (.tail _ (.tail _ (.head _))))) (by assumption) ?_
  simp only [Act.put, List.setIfInBounds_toArray, List.set_cons_zero, List.set_cons_succ]
  refine' wpAnyH_take (i := 9) (v := _) (by simp only [List.getElem?_toArray, List.getElem?_cons_zero, List.getElem?_cons_succ]; rfl) (by kernel_rfl) (by kernel_rfl) (by kernel_rfl) (fun _ _ _ h => h) (yields_vec (by rfl) _ rfl (w.heap.size) rfl a HA.out (fun w hSw => hSw _ (.head _))) (by assumption) ?_
  simp only [Act.put, List.setIfInBounds_toArray, List.set_cons_zero, List.set_cons_succ]
  refine' wpAnyH_take (i := 10) (v := _) (by simp only [List.getElem?_toArray, List.getElem?_cons_zero, List.getElem?_cons_succ]; rfl) (by kernel_rfl) (by kernel_rfl) (by kernel_rfl) (fun _ _ _ h => h) (yields_vec (by rfl) _ rfl (w.heap.size + 1) rfl b HB.out (fun w hSw => hSw _ (.tail _ (.head _)))) (by assumption) ?_
  simp only [Act.put, List.setIfInBounds_toArray, List.set_cons_zero, List.set_cons_succ]
  refine wpAnyH_ready (rs := [11]) (by kernel_rfl) (by simp) ?_
  refine AllReadyH.cons (by simp only [List.getElem?_toArray, List.getElem?_cons_zero, List.getElem?_cons_succ]; rfl) (fun K hK => ?_) AllReadyH.nil
  refine ready_lay (by rfl) [a, b] 2 _ rfl rfl (by omega) (by omega) L2.out rfl ?_
  intro x3 g3 hb hv
  have s3 := HasAll.on s2 hb
  have D3 := two_le D2 hb
  clear hb s2 D2
  refine hK.out _ _ s3 (fun hS => ?_)
  clear hK K hS
  have V3 := hid hv
  clear hv
  simp only [Act.put, List.setIfInBounds_toArray, List.set_cons_zero, List.set_cons_succ]
  refine wpAnyH_ready (rs := [12]) (by kernel_rfl) (by simp) ?_
  refine AllReadyH.cons (by simp only [List.getElem?_toArray, List.getElem?_cons_zero, List.getElem?_cons_succ]; rfl) (fun K hK => ?_) AllReadyH.nil
  go_simp
  refine (rmerge_at [a, b] 2 g3 rfl (by omega) m HM.out _ V3.out).mono ?_
  rintro ee x4 ⟨rfl, hb⟩
  have s4 := HasAll.on s3 hb
  have D4 := two_le D3 hb
  have V3 := hid (V3.out.kept hb (Nat.le_refl _))
  clear hb s3 D3
  refine hK.out _ _ s4 (fun hS => ?_)
  clear hK K hS
  clear V3
  refine' wpAnyH_take (i := 13) (v := _) (by simp only [List.getElem?_toArray, List.getElem?_cons_zero, List.getElem?_cons_succ]; rfl) (by kernel_rfl) (by kernel_rfl) (by kernel_rfl) (fun _ _ _ h => h) (yields_eql (by rfl) (.tmp 32) (.tmp 36) rfl m m rfl rfl ML.out ML.out _ HSM.out) (by assumption) ?_
  simp only [Act.put, List.setIfInBounds_toArray, List.set_cons_zero, List.set_cons_succ]
  refine wpAnyH_take (i := 14) (v := ?_) (by simp only [List.getElem?_toArray, List.getElem?_cons_zero, List.getElem?_cons_succ]; rfl) (by kernel_rfl) (by kernel_rfl) (by kernel_rfl) (fun _ _ _ h => h) (Or.inl ⟨by rfl, ?_⟩) (by assumption) ?_
  rotate_left 1
  · intro w hSw
    go_simp
    with_reducible rfl
  simp only [Act.put, List.setIfInBounds_toArray, List.set_cons_zero, List.set_cons_succ]
  refine wpAnyH_take (i := 15) (v := ?_) (by simp only [List.getElem?_toArray, List.getElem?_cons_zero, List.getElem?_cons_succ]; rfl) (by kernel_rfl) (by kernel_rfl) (by kernel_rfl) (fun _ _ _ h => h) (Or.inl ⟨by rfl, ?_⟩) (by assumption) ?_
  rotate_left 1
  · intro w hSw
    go_simp
    with_reducible rfl
  simp only [Act.put, List.setIfInBounds_toArray, List.set_cons_zero, List.set_cons_succ]
  refine' wpAnyH_take (i := 16) (v := _) (by simp only [List.getElem?_toArray, List.getElem?_cons_zero, List.getElem?_cons_succ]; rfl) (by kernel_rfl) (by kernel_rfl) (by kernel_rfl) (fun _ _ _ h => h) (yields_vec (by rfl) _ rfl (w.heap.size) rfl a HA.out (fun w hSw => hSw _ (.head _))) (by assumption) ?_
  simp only [Act.put, List.setIfInBounds_toArray, List.set_cons_zero, List.set_cons_succ]
  refine' wpAnyH_take (i := 18) (v := _) (by simp only [List.getElem?_toArray, List.getElem?_cons_zero, List.getElem?_cons_succ]; rfl) (by kernel_rfl) (by kernel_rfl) (by kernel_rfl) (fun _ _ _ h => h) (yields_vec (by rfl) _ rfl (w.heap.size) rfl a HA.out (fun w hSw => hSw _ (.head _))) (by assumption) ?_
  simp only [Act.put, List.setIfInBounds_toArray, List.set_cons_zero, List.set_cons_succ]
  refine wpAnyH_ready (rs := [17]) (by kernel_rfl) (by simp) ?_
  refine AllReadyH.cons (by simp only [List.getElem?_toArray, List.getElem?_cons_zero, List.getElem?_cons_succ]; rfl) (fun K hK => ?_) AllReadyH.nil
  go_simp
  refine (S1.out _).mono ?_
  rintro ee x5 ⟨rfl, hb⟩
  have s5 := HasAll.on s4 hb
  have D5 := two_le D4 hb
  clear hb s4 D4
  refine hK.out _ _ s5 (fun hS => ?_)
  clear hK K hS
  refine wpAnyH_ready (rs := [19]) (by kernel_rfl) (by simp) ?_
  refine AllReadyH.cons (by simp only [List.getElem?_toArray, List.getElem?_cons_zero, List.getElem?_cons_succ]; rfl) (fun K hK => ?_) AllReadyH.nil
  go_simp
  refine (S2.out _).mono ?_
  rintro ee x6 ⟨rfl, hb⟩
  have s6 := HasAll.on s5 hb
  have D6 := two_le D5 hb
  clear hb s5 D5
  refine hK.out _ _ s6 (fun hS => ?_)
  clear hK K hS
  refine wpAnyH_take (i := 20) (v := ?_) (by simp only [List.getElem?_toArray, List.getElem?_cons_zero, List.getElem?_cons_succ]; rfl) (by kernel_rfl) (by kernel_rfl) (by kernel_rfl) (fun _ _ _ h => h) (Or.inl ⟨by rfl, ?_⟩) (by assumption) ?_
  rotate_left 1
  · intro w hSw
    go_simp
    with_reducible rfl
  simp only [Act.put, List.setIfInBounds_toArray, List.set_cons_zero, List.set_cons_succ]
  refine wpAnyH_take (i := 21) (v := ?_) (by simp only [List.getElem?_toArray, List.getElem?_cons_zero, List.getElem?_cons_succ]; rfl) (by kernel_rfl) (by kernel_rfl) (by kernel_rfl) (fun _ _ _ h => h) (Or.inl ⟨by rfl, ?_⟩) (by assumption) ?_
  rotate_left 1
  · intro w hSw
    go_simp
    with_reducible rfl
  simp only [Act.put, List.setIfInBounds_toArray, List.set_cons_zero, List.set_cons_succ]
  refine wpAnyH_take (i := 22) (v := ?_) (by simp only [List.getElem?_toArray, List.getElem?_cons_zero, List.getElem?_cons_succ]; rfl) (by kernel_rfl) (by kernel_rfl) (by kernel_rfl) (fun _ _ _ h => h) (Or.inl ⟨by rfl, ?_⟩) (by assumption) ?_
  rotate_left 1
  · intro w hSw
    go_simp
    with_reducible rfl
  simp only [Act.put, List.setIfInBounds_toArray, List.set_cons_zero, List.set_cons_succ]
  refine wpAnyH_take (i := 23) (v := ?_) (by simp only [List.getElem?_toArray, List.getElem?_cons_zero, List.getElem?_cons_succ]; rfl) (by kernel_rfl) (by kernel_rfl) (by kernel_rfl) (fun _ _ _ h => h) (Or.inl ⟨by rfl, ?_⟩) (by assumption) ?_
  rotate_left 1
  · intro w hSw
    go_simp
    with_reducible rfl
  simp only [Act.put, List.setIfInBounds_toArray, List.set_cons_zero, List.set_cons_succ]
  refine wpAnyH_take (i := 24) (v := ?_) (by simp only [List.getElem?_toArray, List.getElem?_cons_zero, List.getElem?_cons_succ]; rfl) (by kernel_rfl) (by kernel_rfl) (by kernel_rfl) (fun _ _ _ h => h) (Or.inl ⟨by rfl, ?_⟩) (by assumption) ?_
  rotate_left 1
  · intro w hSw
    go_simp
    with_reducible rfl
  simp only [Act.put, List.setIfInBounds_toArray, List.set_cons_zero, List.set_cons_succ]
  refine wpAnyH_take (i := 25) (v := ?_) (by simp only [List.getElem?_toArray, List.getElem?_cons_zero, List.getElem?_cons_succ]; rfl) (by kernel_rfl) (by kernel_rfl) (by kernel_rfl) (fun _ _ _ h => h) (Or.inl ⟨by rfl, ?_⟩) (by assumption) ?_
  rotate_left 1
  · intro w hSw
    go_simp
    with_reducible rfl
  simp only [Act.put, List.setIfInBounds_toArray, List.set_cons_zero, List.set_cons_succ]
  refine wpAnyH_take (i := 26) (v := ?_) (by simp only [List.getElem?_toArray, List.getElem?_cons_zero, List.getElem?_cons_succ]; rfl) (by kernel_rfl) (by kernel_rfl) (by kernel_rfl) (fun _ _ _ h => h) (Or.inl ⟨by rfl, ?_⟩) (by assumption) ?_
  rotate_left 1
  · intro w hSw
    go_simp
    with_reducible rfl
  simp only [Act.put, List.setIfInBounds_toArray, List.set_cons_zero, List.set_cons_succ]
  refine wpAnyH_take (i := 27) (v := ?_) (by simp only [List.getElem?_toArray, List.getElem?_cons_zero, List.getElem?_cons_succ]; rfl) (by kernel_rfl) (by kernel_rfl) (by kernel_rfl) (fun _ _ _ h => h) (Or.inl ⟨by rfl, ?_⟩) (by assumption) ?_
  rotate_left 1
  · intro w hSw
    go_simp
    with_reducible rfl
  simp only [Act.put, List.setIfInBounds_toArray, List.set_cons_zero, List.set_cons_succ]
  refine wpAnyH_take (i := 28) (v := ?_) (by simp only [List.getElem?_toArray, List.getElem?_cons_zero, List.getElem?_cons_succ]; rfl) (by kernel_rfl) (by kernel_rfl) (by kernel_rfl) (fun _ _ _ h => h) (Or.inl ⟨by rfl, ?_⟩) (by assumption) ?_
  rotate_left 1
  · intro w hSw
    go_simp
    with_reducible rfl
  simp only [Act.put, List.setIfInBounds_toArray, List.set_cons_zero, List.set_cons_succ]
  refine wpAnyH_take (i := 29) (v := ?_) (by simp only [List.getElem?_toArray, List.getElem?_cons_zero, List.getElem?_cons_succ]; rfl) (by kernel_rfl) (by kernel_rfl) (by kernel_rfl) (fun _ _ _ h => h) (Or.inl ⟨by rfl, ?_⟩) (by assumption) ?_
  rotate_left 1
  · intro w hSw
    go_simp
    with_reducible rfl
  simp only [Act.put, List.setIfInBounds_toArray, List.set_cons_zero, List.set_cons_succ]
  refine wpAnyH_take (i := 30) (v := ?_) (by simp only [List.getElem?_toArray, List.getElem?_cons_zero, List.getElem?_cons_succ]; rfl) (by kernel_rfl) (by kernel_rfl) (by kernel_rfl) (fun _ _ _ h => h) (Or.inl ⟨by rfl, ?_⟩) (by assumption) ?_
  rotate_left 1
  · intro w hSw
    go_simp
    with_reducible rfl
  simp only [Act.put, List.setIfInBounds_toArray, List.set_cons_zero, List.set_cons_succ]
  refine wpAnyH_take (i := 31) (v := ?_) (by simp only [List.getElem?_toArray, List.getElem?_cons_zero, List.getElem?_cons_succ]; rfl) (by kernel_rfl) (by kernel_rfl) (by kernel_rfl) (fun _ _ _ h => h) (Or.inl ⟨by rfl, ?_⟩) (by assumption) ?_
  rotate_left 1
  · intro w hSw
    go_simp
    with_reducible rfl
  simp only [Act.put, List.setIfInBounds_toArray, List.set_cons_zero, List.set_cons_succ]
  refine wpAnyH_take (i := 32) (v := ?_) (by simp only [List.getElem?_toArray, List.getElem?_cons_zero, List.getElem?_cons_succ]; rfl) (by kernel_rfl) (by kernel_rfl) (by kernel_rfl) (fun _ _ _ h => h) (Or.inl ⟨by rfl, ?_⟩) (by assumption) ?_
  rotate_left 1
  · intro w hSw
    go_simp
    with_reducible rfl
  simp only [Act.put, List.setIfInBounds_toArray, List.set_cons_zero, List.set_cons_succ]
  refine wpAnyH_ready (rs := [33]) (by kernel_rfl) (by simp) ?_
  refine AllReadyH.cons (by simp only [List.getElem?_toArray, List.getElem?_cons_zero, List.getElem?_cons_succ]; rfl) (fun K hK => ?_) AllReadyH.nil
  go_simp
  refine (awake_any _).mono ?_
  rintro ee x7 ⟨rfl, hb⟩
  have s7 := HasAll.on s6 hb
  have D7 := two_le D6 hb
  clear hb s6 D6
  refine hK.out _ _ s7 (fun hS => ?_)
  clear hK K hS
  refine wpAnyH_take (i := 34) (v := ?_) (by simp only [List.getElem?_toArray, List.getElem?_cons_zero, List.getElem?_cons_succ]; rfl) (by kernel_rfl) (by kernel_rfl) (by kernel_rfl) (fun _ _ _ h => h) (Or.inl ⟨by rfl, ?_⟩) (by assumption) ?_
  rotate_left 1
  · intro w hSw
    go_simp
    with_reducible rfl
  simp only [Act.put, List.setIfInBounds_toArray, List.set_cons_zero, List.set_cons_succ]
  refine wpAnyH_take (i := 35) (v := ?_) (by simp only [List.getElem?_toArray, List.getElem?_cons_zero, List.getElem?_cons_succ]; rfl) (by kernel_rfl) (by kernel_rfl) (by kernel_rfl) (fun _ _ _ h => h) (Or.inl ⟨by rfl, ?_⟩) (by assumption) ?_
  rotate_left 1
  · intro w hSw
    go_simp
    with_reducible rfl
  simp only [Act.put, List.setIfInBounds_toArray, List.set_cons_zero, List.set_cons_succ]
  refine wpAnyH_done (by kernel_rfl) ?_ _
  refine NoPanic.normal ?_
  go_wp2
  go_ret
  exact ⟨rfl, D7.out⟩
end Go.Proofs.Ytmmbnobbpnndkaa
