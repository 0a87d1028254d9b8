/- The law VectorOrder: what its call does. Conditions: sixteen counters each. -/
import Derived.Test.YtmmbnobbpnndkaaVP
import Derived.Deep.DeepCutAuto
namespace Go.Proofs.Ytmmbnobbpnndkaa
open Go.RowKit
theorem three_boxes (w : World) (a b c : List (BitVec 32)) : ∃ W, ((w.alloc (.cells (vec a) 24)).alloc (.cells (vec b) 24)).alloc (.cells (vec c) 24) = W ∧
    Hid (Has W w.heap.size 24 (vec a)) ∧ Hid (Has W (w.heap.size + 1) 24 (vec b)) ∧ Hid (Has W (w.heap.size + 1 + 1) 24 (vec c)) ∧ Hid (Below w.heap.size w W) := by
  refine ⟨_, rfl, ?_, ?_, ?_, ?_⟩
  · exact ((Has.fresh w 24 (vec a)).more _).more _
  · exact (Has.fresh' (w.alloc _) 24 (vec b) (by simp)).more _
  · exact Has.fresh' ((w.alloc _).alloc _) 24 (vec c) (by simp)
  · exact (((Below.refl _ _).alloc (Nat.le_refl _) _).alloc (by simp) _).alloc (by simp; omega) _
theorem has_of {gs : List (Nat × List (BitVec 32))} {w : World} (h : HasAll gs w) {g : Nat} {l : List (BitVec 32)} (hm : (g, l) ∈ gs) : Hid (Has w g 24 (vec l)) := h _ hm
/-- A row laid into a new block, behind a call, the others kept. -/
theorem lay_more {gs : List (Nat × List (BitVec 32))} (w w1 : World) (l : List (BitVec 32)) (hs : HasAll gs w1) (hb : Hid (Below w.heap.size w w1)) : ∃ W2, (w1.alloc (.cells zeroA 24)).setRow w1.heap.size (vec l) = W2 ∧
    HasAll ((w1.heap.size, l) :: gs) W2 ∧ Hid (Below w.heap.size w W2) := by
  obtain ⟨W2, h1, h2, h3, h4⟩ := lay_vec w w1 l hb
  exact ⟨W2, h1, HasAll.cons h3 (hs.on h4.out), h2⟩
set_option maxRecDepth 100000 in
set_option maxHeartbeats 8000000 in
theorem orderLaw_any (a : List (BitVec 32)) (ha : a.length = 16) (b : List (BitVec 32)) (hb : b.length = 16) (c : List (BitVec 32)) (hc : c.length = 16) (w : World) :
    Calls Try.prog 7 #[.agg (vec a), .agg (vec b), .agg (vec c)] w fun e w' => e = .returned (.bool true) ∧ Below w.heap.size w w' := by
  obtain ⟨m, hm⟩ : ∃ m, mergeAll [a, b] 2 = m := ⟨_, rfl⟩
  obtain ⟨n, hn⟩ : ∃ n, mergeAll [b, c] 2 = n := ⟨_, rfl⟩
  obtain ⟨o, ho⟩ : ∃ o, mergeAll [m, c] 2 = o := ⟨_, rfl⟩
  have hml : m.length = 16 := by rw [← hm]; exact mergeAll_len _ _
  have hnl : n.length = 16 := by rw [← hn]; exact mergeAll_len _ _
  have hol : o.length = 16 := by rw [← ho]; exact mergeAll_len _ _
  have HA := hid ha
  have HB := hid hb
  have HC := hid hc
  have HML := hid hml
  have HNL := hid hnl
  have HOL := hid hol
  have XY := hid (order_xy a b ha hb)
  have XS := hid (order_sum a b ha hb)
  have X3 := hid (order_three a b c ha hb hc)
  have XU := hid (order_up a b c ha hb hc)
  have XA := hid (order_above a b ha hb)
  have M1 : Hid (mergeAll [a, b] 2 = m) := hm
  have M2 : Hid (mergeAll [b, a] 2 = m) := (merge_turn a b).trans hm
  have M3 : Hid (mergeAll [a, b, a, b] 4 = m) := (merge_four a b).trans hm
  have M4 : Hid (mergeAll [a, a] 2 = a) := merge_self a ha
  have M5 : Hid (mergeAll [m, c] 2 = o) := ho
  have M6 : Hid (mergeAll [b, c] 2 = n) := hn
  have M7 : Hid (mergeAll [a, n] 2 = o) := by show _ = _; rw [← hn, merge_assoc, hm, ho]
  rw [hm] at XU XA
  obtain ⟨x, hCX⟩ : ∃ v, cmpV a b = v := ⟨_, rfl⟩
  have CX : Hid (∀ w, Calls Try.prog 15 #[.agg (vec a), .agg (vec b)] w fun e w' => e = .returned (.int .i64 x) ∧ Below w.heap.size w w') := fun w => by
    rw [← hCX]; exact cmp_any a b HA.out HB.out w
  obtain ⟨y, hCY⟩ : ∃ v, cmpV b a = v := ⟨_, rfl⟩
  have CY : Hid (∀ w, Calls Try.prog 15 #[.agg (vec b), .agg (vec a)] w fun e w' => e = .returned (.int .i64 y) ∧ Below w.heap.size w w') := fun w => by
    rw [← hCY]; exact cmp_any b a HB.out HA.out w
  obtain ⟨z, hCZ⟩ : ∃ v, cmpV b c = v := ⟨_, rfl⟩
  have CZ : Hid (∀ w, Calls Try.prog 15 #[.agg (vec b), .agg (vec c)] w fun e w' => e = .returned (.int .i64 z) ∧ Below w.heap.size w w') := fun w => by
    rw [← hCZ]; exact cmp_any b c HB.out HC.out w
  obtain ⟨z2, hCZ2⟩ : ∃ v, cmpV a c = v := ⟨_, rfl⟩
  have CZ2 : Hid (∀ w, Calls Try.prog 15 #[.agg (vec a), .agg (vec c)] w fun e w' => e = .returned (.int .i64 z2) ∧ Below w.heap.size w w') := fun w => by
    rw [← hCZ2]; exact cmp_any a c HA.out HC.out w
  obtain ⟨p, hCP⟩ : ∃ v, cmpV m a = v := ⟨_, rfl⟩
  have CP : Hid (∀ w, Calls Try.prog 15 #[.agg (vec m), .agg (vec a)] w fun e w' => e = .returned (.int .i64 p) ∧ Below w.heap.size w w') := fun w => by
    rw [← hCP]; exact cmp_any m a HML.out HA.out w
  obtain ⟨q, hCQ⟩ : ∃ v, cmpV m b = v := ⟨_, rfl⟩
  have CQ : Hid (∀ w, Calls Try.prog 15 #[.agg (vec m), .agg (vec b)] w fun e w' => e = .returned (.int .i64 q) ∧ Below w.heap.size w w') := fun w => by
    rw [← hCQ]; exact cmp_any m b HML.out HB.out w
  obtain ⟨r, hCU⟩ : ∃ v, cmpV c a = v := ⟨_, rfl⟩
  have CU : Hid (∀ w, Calls Try.prog 15 #[.agg (vec c), .agg (vec a)] w fun e w' => e = .returned (.int .i64 r) ∧ Below w.heap.size w w') := fun w => by
    rw [← hCU]; exact cmp_any c a HC.out HA.out w
  obtain ⟨s, hCV⟩ : ∃ v, cmpV c b = v := ⟨_, rfl⟩
  have CV : Hid (∀ w, Calls Try.prog 15 #[.agg (vec c), .agg (vec b)] w fun e w' => e = .returned (.int .i64 s) ∧ Below w.heap.size w w') := fun w => by
    rw [← hCV]; exact cmp_any c b HC.out HB.out w
  obtain ⟨t, hCT⟩ : ∃ v, cmpV c m = v := ⟨_, rfl⟩
  have CT : Hid (∀ w, Calls Try.prog 15 #[.agg (vec c), .agg (vec m)] w fun e w' => e = .returned (.int .i64 t) ∧ Below w.heap.size w w') := fun w => by
    rw [← hCT]; exact cmp_any c m HC.out HML.out w
  rw [hCX, hCY] at XY
  rw [hCX] at XS
  rw [hCX, hCZ, hCZ2] at X3
  rw [hCU, hCV, hCT] at XU
  rw [hCP, hCQ] at XA
  obtain ⟨e0, HE⟩ : ∃ e0, Hid (sameV a b = e0) := ⟨_, rfl⟩
  rw [HE.out] at XY
  obtain ⟨na, hna⟩ : ∃ na, sumN a 16 = na := ⟨_, rfl⟩
  obtain ⟨nb, hnb⟩ : ∃ nb, sumN b 16 = nb := ⟨_, rfl⟩
  have SA : Hid (∀ w, Calls Try.prog 18 #[.agg (vec a)] w fun e w' => e = .returned (.int .u64 (na : Nat)) ∧ Below w.heap.size w w') := fun w => by rw [← hna]; exact sum_any a ha w
  have SB : Hid (∀ w, Calls Try.prog 18 #[.agg (vec b)] w fun e w' => e = .returned (.int .u64 (nb : Nat)) ∧ Below w.heap.size w w') := fun w => by rw [← hnb]; exact sum_any b hb w
  rw [hna, hnb] at XS
  clear ha hb hc hml hnl hol hm hn ho hna hnb hCX hCY hCZ hCZ2 hCP hCQ hCU hCV hCT
  go_enter Try.func7, Try.ntmps7
  go_wp2
  generalize hG : World.alloc (World.alloc (World.alloc w _) _) _ = W1
  obtain ⟨W0, hG0, FA, FB, FC, F0⟩ := three_boxes w a b c
  obtain rfl : W0 = W1 := hG0.symm.trans hG
  clear hG0 hG
  have s0 : HasAll [(w.heap.size, a), (w.heap.size + 1, b), (w.heap.size + 1 + 1, c)] W0.drew := HasAll.draw (HasAll.cons FA (HasAll.cons FB (HasAll.cons FC (HasAll.nil _))))
  have D0 := below_draw F0
  refine wp_region_noPanic ?_
  refine wp_region_held_drew (S := HasAll [(w.heap.size, a), (w.heap.size + 1, b), (w.heap.size + 1 + 1, c)]) (by kernel_rfl) s0 (fun hS => ?_)
  refine' wpAnyH_take (i := 0) (v := _) (by simp only [List.getElem?_toArray, List.getElem?_cons_zero]; rfl) (by kernel_rfl) (by kernel_rfl) (by kernel_rfl) (fun _ _ _ h => h) (yields_vec (by rfl) _ rfl (w.heap.size) rfl a HA.out (fun w hSw => hSw _ (.head _))) (by assumption) ?_
  simp only [Act.put, List.setIfInBounds_toArray, List.set_cons_zero, List.set_cons_succ]
  refine' wpAnyH_take (i := 1) (v := _) (by simp only [List.getElem?_toArray, List.getElem?_cons_zero, List.getElem?_cons_succ]; rfl) (by kernel_rfl) (by kernel_rfl) (by kernel_rfl) (fun _ _ _ h => h) (yields_vec (by rfl) _ rfl (w.heap.size + 1) rfl b HB.out (fun w hSw => hSw _ (.tail _ (.head _)))) (by assumption) ?_
  simp only [Act.put, List.setIfInBounds_toArray, List.set_cons_zero, List.set_cons_succ]
  refine' wpAnyH_take (i := 3) (v := _) (by simp only [List.getElem?_toArray, List.getElem?_cons_zero, List.getElem?_cons_succ]; rfl) (by kernel_rfl) (by kernel_rfl) (by kernel_rfl) (fun _ _ _ h => h) (yields_vec (by rfl) _ rfl (w.heap.size + 1) rfl b HB.out (fun w hSw => hSw _ (.tail _ (.head _)))) (by assumption) ?_
  simp only [Act.put, List.setIfInBounds_toArray, List.set_cons_zero, List.set_cons_succ]
  refine' wpAnyH_take (i := 4) (v := _) (by simp only [List.getElem?_toArray, List.getElem?_cons_zero, List.getElem?_cons_succ]; rfl) (by kernel_rfl) (by kernel_rfl) (by kernel_rfl) (fun _ _ _ h => h) (yields_vec (by rfl) _ rfl (w.heap.size) rfl a HA.out (fun w hSw => hSw _ (.head _))) (by assumption) ?_
  simp only [Act.put, List.setIfInBounds_toArray, List.set_cons_zero, List.set_cons_succ]
  refine wpAnyH_ready (rs := [2]) (by kernel_rfl) (by simp) ?_
  refine AllReadyH.cons (by simp only [List.getElem?_toArray, List.getElem?_cons_zero, List.getElem?_cons_succ]; rfl) (fun K hK => ?_) AllReadyH.nil
  go_simp
  refine (CX.out _).mono ?_
  rintro ee x1 ⟨rfl, hb⟩
  have s1 := HasAll.on s0 hb
  have D1 := two_le D0 hb
  clear hb s0 D0
  refine hK.out _ _ s1 (fun hS => ?_)
  clear hK K hS
  refine wpAnyH_ready (rs := [5]) (by kernel_rfl) (by simp) ?_
  refine AllReadyH.cons (by simp only [List.getElem?_toArray, List.getElem?_cons_zero, List.getElem?_cons_succ]; rfl) (fun K hK => ?_) AllReadyH.nil
  go_simp
  refine (CY.out _).mono ?_
  rintro ee x2 ⟨rfl, hb⟩
  have s2 := HasAll.on s1 hb
  have D2 := two_le D1 hb
  clear hb s1 D1
  refine hK.out _ _ s2 (fun hS => ?_)
  clear hK K hS
  refine wpAnyH_take (i := 6) (v := ?_) (by simp only [List.getElem?_toArray, List.getElem?_cons_zero, List.getElem?_cons_succ]; rfl) (by kernel_rfl) (by kernel_rfl) (by kernel_rfl) (fun _ _ _ h => h) (Or.inl ⟨by rfl, ?_⟩) (by assumption) ?_
  rotate_left 1
  · intro w hSw
    go_simp
    with_reducible rfl
  simp only [Act.put, List.setIfInBounds_toArray, List.set_cons_zero, List.set_cons_succ]
  refine wpAnyH_take (i := 7) (v := ?_) (by simp only [List.getElem?_toArray, List.getElem?_cons_zero, List.getElem?_cons_succ]; rfl) (by kernel_rfl) (by kernel_rfl) (by kernel_rfl) (fun _ _ _ h => h) (Or.inl ⟨by rfl, ?_⟩) (by assumption) ?_
  rotate_left 1
  · intro w hSw
    go_simp
    with_reducible rfl
  simp only [Act.put, List.setIfInBounds_toArray, List.set_cons_zero, List.set_cons_succ]
  refine wpAnyH_done (by kernel_rfl) ?_ _
  refine NoPanic.normal ?_
  clear FA FB FC F0
  go_upto_region 2 with fail
  have LA := hid (load_vec (s2 _ (.head _)) HA.out)
  have LB := hid (load_vec (s2 _ (.tail _ (.head _))) HB.out)
  have LC := hid (load_vec (s2 _ (.tail _ (.tail _ (.head _)))) HC.out)
  go_cut [41] (fun t w' => t = .bool false ∧ w' = x2)
  case first => as_aux_lemma =>
    have QE := hid HE.out
    rcases XY.out with ⟨rfl, rfl, rfl⟩ | ⟨rfl, rfl, rfl⟩ | ⟨rfl, rfl, rfl⟩ | ⟨rfl, rfl, rfl⟩
    all_goals
      as_aux_lemma =>
      go_wp2_with (first
      | (refine wpList_load_g (by rfl) 24 (.tmp 3) rfl w.heap.size 0 rfl (vec a) LA.out ?_)
      | (refine wpList_load_g (by rfl) 24 (.tmp 4) rfl (w.heap.size + 1) 0 rfl (vec b) LB.out ?_)
      | (refine wpList_load_g (by rfl) 24 (.tmp 5) rfl (w.heap.size + 1 + 1) 0 rfl (vec c) LC.out ?_)
      | (refine wpList_eql_vec (by rfl) (.tmp 37) (.tmp 38) rfl a b rfl rfl HA.out HB.out _ QE.out ?_))
      go_meet
      case rel => exact ⟨rfl, rfl⟩
  case rest => as_aux_lemma =>
  obtain ⟨rfl, rfl⟩ := hcut
  clear LA LB LC
  have s9 : HasAll [(w.heap.size, a), (w.heap.size + 1, b), (w.heap.size + 1 + 1, c)] wc := s2
  have D9 := D2
  clear s2 D2
  go_upto_region 4 with fail
  go_cut [66] (fun t w' => t = .bool false ∧ HasAll [(w.heap.size, a), (w.heap.size + 1, b), (w.heap.size + 1 + 1, c)] w' ∧ Hid (Below w.heap.size w w'))
  case first => as_aux_lemma =>
    by_cases hx1 : x = 1
    · have hs0 := XS.out hx1
      have hz0 := X3.out hx1
      subst hx1
      have hs1 : ¬ na ≤ nb := by omega
      by_cases hz : z = 1
      · have hz2 := hz0 hz
        subst hz hz2
        clear hz0
        as_aux_lemma =>
        have s10 : HasAll [(w.heap.size, a), (w.heap.size + 1, b), (w.heap.size + 1 + 1, c)] wc.drew := HasAll.draw (HasAll.cons (has_of s9 (.head _)) (HasAll.cons (has_of s9 (.tail _ (.head _))) (HasAll.cons (has_of s9 (.tail _ (.tail _ (.head _)))) (HasAll.nil _))))
        have D10 := below_draw D9
        refine wp_region_noPanic ?_
        refine wp_region_held_drew (S := HasAll [(w.heap.size, a), (w.heap.size + 1, b), (w.heap.size + 1 + 1, c)]) (by kernel_rfl) s10 (fun hS => ?_)
        refine wpAnyH_take (i := 0) (v := ?_) (by simp only [List.getElem?_toArray, List.getElem?_cons_zero]; rfl) (by kernel_rfl) (by kernel_rfl) (by kernel_rfl) (fun _ _ _ h => h) (Or.inl ⟨by rfl, ?_⟩) (by assumption) ?_
        rotate_left 1
        · intro w hSw
          go_simp
          with_reducible rfl
        simp only [Act.put, List.setIfInBounds_toArray, List.set_cons_zero, List.set_cons_succ]
        refine wpAnyH_take (i := 1) (v := ?_) (by simp only [List.getElem?_toArray, List.getElem?_cons_zero, List.getElem?_cons_succ]; rfl) (by kernel_rfl) (by kernel_rfl) (by kernel_rfl) (fun _ _ _ h => h) (Or.inl ⟨by rfl, ?_⟩) (by assumption) ?_
        rotate_left 1
        · intro w hSw
          go_simp
          with_reducible rfl
        simp only [Act.put, List.setIfInBounds_toArray, List.set_cons_zero, List.set_cons_succ]
        refine wpAnyH_take (i := 2) (v := ?_) (by simp only [List.getElem?_toArray, List.getElem?_cons_zero, List.getElem?_cons_succ]; rfl) (by kernel_rfl) (by kernel_rfl) (by kernel_rfl) (fun _ _ _ h => h) (Or.inl ⟨by rfl, ?_⟩) (by assumption) ?_
        rotate_left 1
        · intro w hSw
          go_simp
          with_reducible rfl
        simp only [Act.put, List.setIfInBounds_toArray, List.set_cons_zero, List.set_cons_succ]
        refine' wpAnyH_take (i := 3) (v := _) (by simp only [List.getElem?_toArray, List.getElem?_cons_zero, List.getElem?_cons_succ]; rfl) (by kernel_rfl) (by kernel_rfl) (by kernel_rfl) (fun _ _ _ h => h) (yields_vec (by rfl) _ rfl (w.heap.size) rfl a HA.out (fun w hSw => hSw _ (.head _))) (by assumption) ?_
        simp only [Act.put, List.setIfInBounds_toArray, List.set_cons_zero, List.set_cons_succ]
        refine' wpAnyH_take (i := 5) (v := _) (by simp only [List.getElem?_toArray, List.getElem?_cons_zero, List.getElem?_cons_succ]; rfl) (by kernel_rfl) (by kernel_rfl) (by kernel_rfl) (fun _ _ _ h => h) (yields_vec (by rfl) _ rfl (w.heap.size + 1) rfl b HB.out (fun w hSw => hSw _ (.tail _ (.head _)))) (by assumption) ?_
        simp only [Act.put, List.setIfInBounds_toArray, List.set_cons_zero, List.set_cons_succ]
        refine wpAnyH_ready (rs := [4]) (by kernel_rfl) (by simp) ?_
        refine AllReadyH.cons (by simp only [List.getElem?_toArray, List.getElem?_cons_zero, List.getElem?_cons_succ]; rfl) (fun K hK => ?_) AllReadyH.nil
        go_simp
        refine (SA.out _).mono ?_
        rintro ee x11 ⟨rfl, hb⟩
        have s11 := HasAll.on s10 hb
        have D11 := two_le D10 hb
        clear hb s10 D10
        refine hK.out _ _ s11 (fun hS => ?_)
        clear hK K hS
        refine wpAnyH_ready (rs := [6]) (by kernel_rfl) (by simp) ?_
        refine AllReadyH.cons (by simp only [List.getElem?_toArray, List.getElem?_cons_zero, List.getElem?_cons_succ]; rfl) (fun K hK => ?_) AllReadyH.nil
        go_simp
        refine (SB.out _).mono ?_
        rintro ee x12 ⟨rfl, hb⟩
        have s12 := HasAll.on s11 hb
        have D12 := two_le D11 hb
        clear hb s11 D11
        refine hK.out _ _ s12 (fun hS => ?_)
        clear hK K hS
        refine wpAnyH_take (i := 7) (v := ?_) (by simp only [List.getElem?_toArray, List.getElem?_cons_zero, List.getElem?_cons_succ]; rfl) (by kernel_rfl) (by kernel_rfl) (by kernel_rfl) (fun _ _ _ h => h) (Or.inl ⟨by rfl, ?_⟩) (by assumption) ?_
        rotate_left 1
        · intro w hSw
          go_simp
          with_reducible rfl
        simp only [Act.put, List.setIfInBounds_toArray, List.set_cons_zero, List.set_cons_succ]
        refine wpAnyH_take (i := 8) (v := ?_) (by simp only [List.getElem?_toArray, List.getElem?_cons_zero, List.getElem?_cons_succ]; rfl) (by kernel_rfl) (by kernel_rfl) (by kernel_rfl) (fun _ _ _ h => h) (Or.inl ⟨by rfl, ?_⟩) (by assumption) ?_
        rotate_left 1
        · intro w hSw
          go_simp
          with_reducible rfl
        simp only [Act.put, List.setIfInBounds_toArray, List.set_cons_zero, List.set_cons_succ]
        refine wpAnyH_take (i := 9) (v := ?_) (by simp only [List.getElem?_toArray, List.getElem?_cons_zero, List.getElem?_cons_succ]; rfl) (by kernel_rfl) (by kernel_rfl) (by kernel_rfl) (fun _ _ _ h => h) (Or.inl ⟨by rfl, ?_⟩) (by assumption) ?_
        rotate_left 1
        · intro w hSw
          go_simp
          with_reducible rfl
        simp only [Act.put, List.setIfInBounds_toArray, List.set_cons_zero, List.set_cons_succ]
        refine wpAnyH_take (i := 10) (v := ?_) (by simp only [List.getElem?_toArray, List.getElem?_cons_zero, List.getElem?_cons_succ]; rfl) (by kernel_rfl) (by kernel_rfl) (by kernel_rfl) (fun _ _ _ h => h) (Or.inl ⟨by rfl, ?_⟩) (by assumption) ?_
        rotate_left 1
        · intro w hSw
          go_simp
          with_reducible rfl
        simp only [Act.put, List.setIfInBounds_toArray, List.set_cons_zero, List.set_cons_succ]
        refine wpAnyH_take (i := 11) (v := ?_) (by simp only [List.getElem?_toArray, List.getElem?_cons_zero, List.getElem?_cons_succ]; rfl) (by kernel_rfl) (by kernel_rfl) (by kernel_rfl) (fun _ _ _ h => h) (Or.inl ⟨by rfl, ?_⟩) (by assumption) ?_
        rotate_left 1
        · intro w hSw
          go_simp
          with_reducible rfl
        simp only [Act.put, List.setIfInBounds_toArray, List.set_cons_zero, List.set_cons_succ]
        refine wpAnyH_take (i := 12) (v := ?_) (by simp only [List.getElem?_toArray, List.getElem?_cons_zero, List.getElem?_cons_succ]; rfl) (by kernel_rfl) (by kernel_rfl) (by kernel_rfl) (fun _ _ _ h => h) (Or.inl ⟨by rfl, ?_⟩) (by assumption) ?_
        rotate_left 1
        · intro w hSw
          go_simp
          with_reducible rfl
        simp only [Act.put, List.setIfInBounds_toArray, List.set_cons_zero, List.set_cons_succ]
        refine' wpAnyH_take (i := 13) (v := _) (by simp only [List.getElem?_toArray, List.getElem?_cons_zero, List.getElem?_cons_succ]; rfl) (by kernel_rfl) (by kernel_rfl) (by kernel_rfl) (fun _ _ _ h => h) (yields_vec (by rfl) _ rfl (w.heap.size + 1) rfl b HB.out (fun w hSw => hSw _ (.tail _ (.head _)))) (by assumption) ?_
        simp only [Act.put, List.setIfInBounds_toArray, List.set_cons_zero, List.set_cons_succ]
        refine' wpAnyH_take (i := 14) (v := _) (by simp only [List.getElem?_toArray, List.getElem?_cons_zero, List.getElem?_cons_succ]; rfl) (by kernel_rfl) (by kernel_rfl) (by kernel_rfl) (fun _ _ _ h => h) (yields_vec (by rfl) _ rfl (w.heap.size + 1 + 1) rfl c HC.out (fun w hSw => hSw _ (.tail _ (.tail _ (.head _))))) (by assumption) ?_
        simp only [Act.put, List.setIfInBounds_toArray, List.set_cons_zero, List.set_cons_succ]
        refine wpAnyH_ready (rs := [15]) (by kernel_rfl) (by simp) ?_
        refine AllReadyH.cons (by simp only [List.getElem?_toArray, List.getElem?_cons_zero, List.getElem?_cons_succ]; rfl) (fun K hK => ?_) AllReadyH.nil
        go_simp
        refine (CZ.out _).mono ?_
        rintro ee x13 ⟨rfl, hb⟩
        have s13 := HasAll.on s12 hb
        have D13 := two_le D12 hb
        clear hb s12 D12
        refine hK.out _ _ s13 (fun hS => ?_)
        clear hK K hS
        refine wpAnyH_take (i := 16) (v := ?_) (by simp only [List.getElem?_toArray, List.getElem?_cons_zero, List.getElem?_cons_succ]; rfl) (by kernel_rfl) (by kernel_rfl) (by kernel_rfl) (fun _ _ _ h => h) (Or.inl ⟨by rfl, ?_⟩) (by assumption) ?_
        rotate_left 1
        · intro w hSw
          go_simp
          with_reducible rfl
        simp only [Act.put, List.setIfInBounds_toArray, List.set_cons_zero, List.set_cons_succ]
        refine wpAnyH_take (i := 17) (v := ?_) (by simp only [List.getElem?_toArray, List.getElem?_cons_zero, List.getElem?_cons_succ]; rfl) (by kernel_rfl) (by kernel_rfl) (by kernel_rfl) (fun _ _ _ h => h) (Or.inl ⟨by rfl, ?_⟩) (by assumption) ?_
        rotate_left 1
        · intro w hSw
          go_simp
          with_reducible rfl
        simp only [Act.put, List.setIfInBounds_toArray, List.set_cons_zero, List.set_cons_succ]
        refine wpAnyH_take (i := 18) (v := ?_) (by simp only [List.getElem?_toArray, List.getElem?_cons_zero, List.getElem?_cons_succ]; rfl) (by kernel_rfl) (by kernel_rfl) (by kernel_rfl) (fun _ _ _ h => h) (Or.inl ⟨by rfl, ?_⟩) (by assumption) ?_
        rotate_left 1
        · intro w hSw
          go_simp
          with_reducible rfl
        simp only [Act.put, List.setIfInBounds_toArray, List.set_cons_zero, List.set_cons_succ]
        refine' wpAnyH_take (i := 19) (v := _) (by simp only [List.getElem?_toArray, List.getElem?_cons_zero, List.getElem?_cons_succ]; rfl) (by kernel_rfl) (by kernel_rfl) (by kernel_rfl) (fun _ _ _ h => h) (yields_vec (by rfl) _ rfl (w.heap.size) rfl a HA.out (fun w hSw => hSw _ (.head _))) (by assumption) ?_
        simp only [Act.put, List.setIfInBounds_toArray, List.set_cons_zero, List.set_cons_succ]
        refine' wpAnyH_take (i := 20) (v := _) (by simp only [List.getElem?_toArray, List.getElem?_cons_zero, List.getElem?_cons_succ]; rfl) (by kernel_rfl) (by kernel_rfl) (by kernel_rfl) (fun _ _ _ h => h) (yields_vec (by rfl) _ rfl (w.heap.size + 1 + 1) rfl c HC.out (fun w hSw => hSw _ (.tail _ (.tail _ (.head _))))) (by assumption) ?_
        simp only [Act.put, List.setIfInBounds_toArray, List.set_cons_zero, List.set_cons_succ]
        refine wpAnyH_ready (rs := [21]) (by kernel_rfl) (by simp) ?_
        refine AllReadyH.cons (by simp only [List.getElem?_toArray, List.getElem?_cons_zero, List.getElem?_cons_succ]; rfl) (fun K hK => ?_) AllReadyH.nil
        go_simp
        refine (CZ2.out _).mono ?_
        rintro ee x14 ⟨rfl, hb⟩
        have s14 := HasAll.on s13 hb
        have D14 := two_le D13 hb
        clear hb s13 D13
        refine hK.out _ _ s14 (fun hS => ?_)
        clear hK K hS
        refine wpAnyH_take (i := 22) (v := ?_) (by simp only [List.getElem?_toArray, List.getElem?_cons_zero, List.getElem?_cons_succ]; rfl) (by kernel_rfl) (by kernel_rfl) (by kernel_rfl) (fun _ _ _ h => h) (Or.inl ⟨by rfl, ?_⟩) (by assumption) ?_
        rotate_left 1
        · intro w hSw
          go_simp
          with_reducible rfl
        simp only [Act.put, List.setIfInBounds_toArray, List.set_cons_zero, List.set_cons_succ]
        refine wpAnyH_take (i := 23) (v := ?_) (by simp only [List.getElem?_toArray, List.getElem?_cons_zero, List.getElem?_cons_succ]; rfl) (by kernel_rfl) (by kernel_rfl) (by kernel_rfl) (fun _ _ _ h => h) (Or.inl ⟨by rfl, ?_⟩) (by assumption) ?_
        rotate_left 1
        · intro w hSw
          go_simp
          with_reducible rfl
        simp only [Act.put, List.setIfInBounds_toArray, List.set_cons_zero, List.set_cons_succ]
        refine wpAnyH_take (i := 24) (v := ?_) (by simp only [List.getElem?_toArray, List.getElem?_cons_zero, List.getElem?_cons_succ]; rfl) (by kernel_rfl) (by kernel_rfl) (by kernel_rfl) (fun _ _ _ h => h) (Or.inl ⟨by rfl, ?_⟩) (by assumption) ?_
        rotate_left 1
        · intro w hSw
          go_simp
          with_reducible rfl
        simp only [Act.put, List.setIfInBounds_toArray, List.set_cons_zero, List.set_cons_succ]
        refine wpAnyH_done (by kernel_rfl) ?_ _
        refine NoPanic.normal ?_
        go_wp2
        go_meet
        case rel => exact ⟨rfl, s14, D14⟩
      · have hzb : (z == 1) = false := by simp [hz]
        clear hz0
        as_aux_lemma =>
        have s10 : HasAll [(w.heap.size, a), (w.heap.size + 1, b), (w.heap.size + 1 + 1, c)] wc.drew := HasAll.draw (HasAll.cons (has_of s9 (.head _)) (HasAll.cons (has_of s9 (.tail _ (.head _))) (HasAll.cons (has_of s9 (.tail _ (.tail _ (.head _)))) (HasAll.nil _))))
        have D10 := below_draw D9
        refine wp_region_noPanic ?_
        refine wp_region_held_drew (S := HasAll [(w.heap.size, a), (w.heap.size + 1, b), (w.heap.size + 1 + 1, c)]) (by kernel_rfl) s10 (fun hS => ?_)
        refine wpAnyH_take (i := 0) (v := ?_) (by simp only [List.getElem?_toArray, List.getElem?_cons_zero]; rfl) (by kernel_rfl) (by kernel_rfl) (by kernel_rfl) (fun _ _ _ h => h) (Or.inl ⟨by rfl, ?_⟩) (by assumption) ?_
        rotate_left 1
        · intro w hSw
          go_simp
          with_reducible rfl
        simp only [Act.put, List.setIfInBounds_toArray, List.set_cons_zero, List.set_cons_succ]
        refine wpAnyH_take (i := 1) (v := ?_) (by simp only [List.getElem?_toArray, List.getElem?_cons_zero, List.getElem?_cons_succ]; rfl) (by kernel_rfl) (by kernel_rfl) (by kernel_rfl) (fun _ _ _ h => h) (Or.inl ⟨by rfl, ?_⟩) (by assumption) ?_
        rotate_left 1
        · intro w hSw
          go_simp
          with_reducible rfl
        simp only [Act.put, List.setIfInBounds_toArray, List.set_cons_zero, List.set_cons_succ]
        refine wpAnyH_take (i := 2) (v := ?_) (by simp only [List.getElem?_toArray, List.getElem?_cons_zero, List.getElem?_cons_succ]; rfl) (by kernel_rfl) (by kernel_rfl) (by kernel_rfl) (fun _ _ _ h => h) (Or.inl ⟨by rfl, ?_⟩) (by assumption) ?_
        rotate_left 1
        · intro w hSw
          go_simp
          with_reducible rfl
        simp only [Act.put, List.setIfInBounds_toArray, List.set_cons_zero, List.set_cons_succ]
        refine' wpAnyH_take (i := 3) (v := _) (by simp only [List.getElem?_toArray, List.getElem?_cons_zero, List.getElem?_cons_succ]; rfl) (by kernel_rfl) (by kernel_rfl) (by kernel_rfl) (fun _ _ _ h => h) (yields_vec (by rfl) _ rfl (w.heap.size) rfl a HA.out (fun w hSw => hSw _ (.head _))) (by assumption) ?_
        simp only [Act.put, List.setIfInBounds_toArray, List.set_cons_zero, List.set_cons_succ]
        refine' wpAnyH_take (i := 5) (v := _) (by simp only [List.getElem?_toArray, List.getElem?_cons_zero, List.getElem?_cons_succ]; rfl) (by kernel_rfl) (by kernel_rfl) (by kernel_rfl) (fun _ _ _ h => h) (yields_vec (by rfl) _ rfl (w.heap.size + 1) rfl b HB.out (fun w hSw => hSw _ (.tail _ (.head _)))) (by assumption) ?_
        simp only [Act.put, List.setIfInBounds_toArray, List.set_cons_zero, List.set_cons_succ]
        refine wpAnyH_ready (rs := [4]) (by kernel_rfl) (by simp) ?_
        refine AllReadyH.cons (by simp only [List.getElem?_toArray, List.getElem?_cons_zero, List.getElem?_cons_succ]; rfl) (fun K hK => ?_) AllReadyH.nil
        go_simp
        refine (SA.out _).mono ?_
        rintro ee x11 ⟨rfl, hb⟩
        have s11 := HasAll.on s10 hb
        have D11 := two_le D10 hb
        clear hb s10 D10
        refine hK.out _ _ s11 (fun hS => ?_)
        clear hK K hS
        refine wpAnyH_ready (rs := [6]) (by kernel_rfl) (by simp) ?_
        refine AllReadyH.cons (by simp only [List.getElem?_toArray, List.getElem?_cons_zero, List.getElem?_cons_succ]; rfl) (fun K hK => ?_) AllReadyH.nil
        go_simp
        refine (SB.out _).mono ?_
        rintro ee x12 ⟨rfl, hb⟩
        have s12 := HasAll.on s11 hb
        have D12 := two_le D11 hb
        clear hb s11 D11
        refine hK.out _ _ s12 (fun hS => ?_)
        clear hK K hS
        refine wpAnyH_take (i := 7) (v := ?_) (by simp only [List.getElem?_toArray, List.getElem?_cons_zero, List.getElem?_cons_succ]; rfl) (by kernel_rfl) (by kernel_rfl) (by kernel_rfl) (fun _ _ _ h => h) (Or.inl ⟨by rfl, ?_⟩) (by assumption) ?_
        rotate_left 1
        · intro w hSw
          go_simp
          with_reducible rfl
        simp only [Act.put, List.setIfInBounds_toArray, List.set_cons_zero, List.set_cons_succ]
        refine wpAnyH_take (i := 8) (v := ?_) (by simp only [List.getElem?_toArray, List.getElem?_cons_zero, List.getElem?_cons_succ]; rfl) (by kernel_rfl) (by kernel_rfl) (by kernel_rfl) (fun _ _ _ h => h) (Or.inl ⟨by rfl, ?_⟩) (by assumption) ?_
        rotate_left 1
        · intro w hSw
          go_simp
          with_reducible rfl
        simp only [Act.put, List.setIfInBounds_toArray, List.set_cons_zero, List.set_cons_succ]
        refine wpAnyH_take (i := 9) (v := ?_) (by simp only [List.getElem?_toArray, List.getElem?_cons_zero, List.getElem?_cons_succ]; rfl) (by kernel_rfl) (by kernel_rfl) (by kernel_rfl) (fun _ _ _ h => h) (Or.inl ⟨by rfl, ?_⟩) (by assumption) ?_
        rotate_left 1
        · intro w hSw
          go_simp
          with_reducible rfl
        simp only [Act.put, List.setIfInBounds_toArray, List.set_cons_zero, List.set_cons_succ]
        refine wpAnyH_take (i := 10) (v := ?_) (by simp only [List.getElem?_toArray, List.getElem?_cons_zero, List.getElem?_cons_succ]; rfl) (by kernel_rfl) (by kernel_rfl) (by kernel_rfl) (fun _ _ _ h => h) (Or.inl ⟨by rfl, ?_⟩) (by assumption) ?_
        rotate_left 1
        · intro w hSw
          go_simp
          with_reducible rfl
        simp only [Act.put, List.setIfInBounds_toArray, List.set_cons_zero, List.set_cons_succ]
        refine wpAnyH_take (i := 11) (v := ?_) (by simp only [List.getElem?_toArray, List.getElem?_cons_zero, List.getElem?_cons_succ]; rfl) (by kernel_rfl) (by kernel_rfl) (by kernel_rfl) (fun _ _ _ h => h) (Or.inl ⟨by rfl, ?_⟩) (by assumption) ?_
        rotate_left 1
        · intro w hSw
          go_simp
          with_reducible rfl
        simp only [Act.put, List.setIfInBounds_toArray, List.set_cons_zero, List.set_cons_succ]
        refine wpAnyH_take (i := 12) (v := ?_) (by simp only [List.getElem?_toArray, List.getElem?_cons_zero, List.getElem?_cons_succ]; rfl) (by kernel_rfl) (by kernel_rfl) (by kernel_rfl) (fun _ _ _ h => h) (Or.inl ⟨by rfl, ?_⟩) (by assumption) ?_
        rotate_left 1
        · intro w hSw
          go_simp
          with_reducible rfl
        simp only [Act.put, List.setIfInBounds_toArray, List.set_cons_zero, List.set_cons_succ]
        refine' wpAnyH_take (i := 13) (v := _) (by simp only [List.getElem?_toArray, List.getElem?_cons_zero, List.getElem?_cons_succ]; rfl) (by kernel_rfl) (by kernel_rfl) (by kernel_rfl) (fun _ _ _ h => h) (yields_vec (by rfl) _ rfl (w.heap.size + 1) rfl b HB.out (fun w hSw => hSw _ (.tail _ (.head _)))) (by assumption) ?_
        simp only [Act.put, List.setIfInBounds_toArray, List.set_cons_zero, List.set_cons_succ]
        refine' wpAnyH_take (i := 14) (v := _) (by simp only [List.getElem?_toArray, List.getElem?_cons_zero, List.getElem?_cons_succ]; rfl) (by kernel_rfl) (by kernel_rfl) (by kernel_rfl) (fun _ _ _ h => h) (yields_vec (by rfl) _ rfl (w.heap.size + 1 + 1) rfl c HC.out (fun w hSw => hSw _ (.tail _ (.tail _ (.head _))))) (by assumption) ?_
        simp only [Act.put, List.setIfInBounds_toArray, List.set_cons_zero, List.set_cons_succ]
        refine wpAnyH_ready (rs := [15]) (by kernel_rfl) (by simp) ?_
        refine AllReadyH.cons (by simp only [List.getElem?_toArray, List.getElem?_cons_zero, List.getElem?_cons_succ]; rfl) (fun K hK => ?_) AllReadyH.nil
        go_simp
        refine (CZ.out _).mono ?_
        rintro ee x13 ⟨rfl, hb⟩
        have s13 := HasAll.on s12 hb
        have D13 := two_le D12 hb
        clear hb s12 D12
        refine hK.out _ _ s13 (fun hS => ?_)
        clear hK K hS
        refine wpAnyH_take (i := 16) (v := ?_) (by simp only [List.getElem?_toArray, List.getElem?_cons_zero, List.getElem?_cons_succ]; rfl) (by kernel_rfl) (by kernel_rfl) (by kernel_rfl) (fun _ _ _ h => h) (Or.inl ⟨by rfl, ?_⟩) (by assumption) ?_
        rotate_left 1
        · intro w hSw
          go_simp
          with_reducible rfl
        simp only [Act.put, List.setIfInBounds_toArray, List.set_cons_zero, List.set_cons_succ]
        refine wpAnyH_take (i := 17) (v := ?_) (by simp only [List.getElem?_toArray, List.getElem?_cons_zero, List.getElem?_cons_succ]; rfl) (by kernel_rfl) (by kernel_rfl) (by kernel_rfl) (fun _ _ _ h => h) (Or.inl ⟨by rfl, ?_⟩) (by assumption) ?_
        rotate_left 1
        · intro w hSw
          go_simp
          with_reducible rfl
        simp only [Act.put, List.setIfInBounds_toArray, List.set_cons_zero, List.set_cons_succ]
        refine wpAnyH_take (i := 18) (v := ?_) (by simp only [List.getElem?_toArray, List.getElem?_cons_zero, List.getElem?_cons_succ]; rfl) (by kernel_rfl) (by kernel_rfl) (by kernel_rfl) (fun _ _ _ h => h) (Or.inl ⟨by rfl, ?_⟩) (by assumption) ?_
        rotate_left 1
        · intro w hSw
          go_simp
          with_reducible rfl
        simp only [Act.put, List.setIfInBounds_toArray, List.set_cons_zero, List.set_cons_succ]
        refine wpAnyH_take (i := 19) (v := undef) (by simp only [List.getElem?_toArray, List.getElem?_cons_zero, List.getElem?_cons_succ]; rfl) (by kernel_rfl) (by kernel_rfl) (by kernel_rfl) (fun _ _ _ h => h) (Or.inr ⟨by rfl, rfl⟩) (by assumption) ?_
        simp only [Act.put, List.setIfInBounds_toArray, List.set_cons_zero, List.set_cons_succ]
        refine wpAnyH_take (i := 20) (v := undef) (by simp only [List.getElem?_toArray, List.getElem?_cons_zero, List.getElem?_cons_succ]; rfl) (by kernel_rfl) (by kernel_rfl) (by kernel_rfl) (fun _ _ _ h => h) (Or.inr ⟨by rfl, rfl⟩) (by assumption) ?_
        simp only [Act.put, List.setIfInBounds_toArray, List.set_cons_zero, List.set_cons_succ]
        refine wpAnyH_take (i := 21) (v := undef) (by simp only [List.getElem?_toArray, List.getElem?_cons_zero, List.getElem?_cons_succ]; rfl) (by kernel_rfl) (by kernel_rfl) (by kernel_rfl) (fun _ _ _ h => h) (Or.inr ⟨by rfl, rfl⟩) (by assumption) ?_
        simp only [Act.put, List.setIfInBounds_toArray, List.set_cons_zero, List.set_cons_succ]
        refine wpAnyH_take (i := 22) (v := undef) (by simp only [List.getElem?_toArray, List.getElem?_cons_zero, List.getElem?_cons_succ]; rfl) (by kernel_rfl) (by kernel_rfl) (by kernel_rfl) (fun _ _ _ h => h) (Or.inr ⟨by rfl, rfl⟩) (by assumption) ?_
        simp only [Act.put, List.setIfInBounds_toArray, List.set_cons_zero, List.set_cons_succ]
        refine wpAnyH_take (i := 23) (v := ?_) (by simp only [List.getElem?_toArray, List.getElem?_cons_zero, List.getElem?_cons_succ]; rfl) (by kernel_rfl) (by kernel_rfl) (by kernel_rfl) (fun _ _ _ h => h) (Or.inl ⟨by rfl, ?_⟩) (by assumption) ?_
        rotate_left 1
        · intro w hSw
          go_simp
          with_reducible rfl
        simp only [Act.put, List.setIfInBounds_toArray, List.set_cons_zero, List.set_cons_succ]
        refine wpAnyH_take (i := 24) (v := ?_) (by simp only [List.getElem?_toArray, List.getElem?_cons_zero, List.getElem?_cons_succ]; rfl) (by kernel_rfl) (by kernel_rfl) (by kernel_rfl) (fun _ _ _ h => h) (Or.inl ⟨by rfl, ?_⟩) (by assumption) ?_
        rotate_left 1
        · intro w hSw
          go_simp
          with_reducible rfl
        simp only [Act.put, List.setIfInBounds_toArray, List.set_cons_zero, List.set_cons_succ]
        refine wpAnyH_done (by kernel_rfl) ?_ _
        refine NoPanic.normal ?_
        go_wp2
        go_meet
        case rel => exact ⟨rfl, s13, D13⟩
    · have hxb : (x == 1) = false := by simp [hx1]
      as_aux_lemma =>
      have s10 : HasAll [(w.heap.size, a), (w.heap.size + 1, b), (w.heap.size + 1 + 1, c)] wc.drew := HasAll.draw (HasAll.cons (has_of s9 (.head _)) (HasAll.cons (has_of s9 (.tail _ (.head _))) (HasAll.cons (has_of s9 (.tail _ (.tail _ (.head _)))) (HasAll.nil _))))
      have D10 := below_draw D9
      refine wp_region_noPanic ?_
      refine wp_region_held_drew (S := HasAll [(w.heap.size, a), (w.heap.size + 1, b), (w.heap.size + 1 + 1, c)]) (by kernel_rfl) s10 (fun hS => ?_)
      refine wpAnyH_take (i := 0) (v := ?_) (by simp only [List.getElem?_toArray, List.getElem?_cons_zero]; rfl) (by kernel_rfl) (by kernel_rfl) (by kernel_rfl) (fun _ _ _ h => h) (Or.inl ⟨by rfl, ?_⟩) (by assumption) ?_
      rotate_left 1
      · intro w hSw
        go_simp
        with_reducible rfl
      simp only [Act.put, List.setIfInBounds_toArray, List.set_cons_zero, List.set_cons_succ]
      refine wpAnyH_take (i := 1) (v := ?_) (by simp only [List.getElem?_toArray, List.getElem?_cons_zero, List.getElem?_cons_succ]; rfl) (by kernel_rfl) (by kernel_rfl) (by kernel_rfl) (fun _ _ _ h => h) (Or.inl ⟨by rfl, ?_⟩) (by assumption) ?_
      rotate_left 1
      · intro w hSw
        go_simp
        with_reducible rfl
      simp only [Act.put, List.setIfInBounds_toArray, List.set_cons_zero, List.set_cons_succ]
      refine wpAnyH_take (i := 2) (v := ?_) (by simp only [List.getElem?_toArray, List.getElem?_cons_zero, List.getElem?_cons_succ]; rfl) (by kernel_rfl) (by kernel_rfl) (by kernel_rfl) (fun _ _ _ h => h) (Or.inl ⟨by rfl, ?_⟩) (by assumption) ?_
      rotate_left 1
      · intro w hSw
        go_simp
        with_reducible rfl
      simp only [Act.put, List.setIfInBounds_toArray, List.set_cons_zero, List.set_cons_succ]
      refine wpAnyH_take (i := 3) (v := undef) (by simp only [List.getElem?_toArray, List.getElem?_cons_zero, List.getElem?_cons_succ]; rfl) (by kernel_rfl) (by kernel_rfl) (by kernel_rfl) (fun _ _ _ h => h) (Or.inr ⟨by rfl, rfl⟩) (by assumption) ?_
      simp only [Act.put, List.setIfInBounds_toArray, List.set_cons_zero, List.set_cons_succ]
      refine wpAnyH_take (i := 4) (v := undef) (by simp only [List.getElem?_toArray, List.getElem?_cons_zero, List.getElem?_cons_succ]; rfl) (by kernel_rfl) (by kernel_rfl) (by kernel_rfl) (fun _ _ _ h => h) (Or.inr ⟨by rfl, rfl⟩) (by assumption) ?_
      simp only [Act.put, List.setIfInBounds_toArray, List.set_cons_zero, List.set_cons_succ]
      refine wpAnyH_take (i := 5) (v := undef) (by simp only [List.getElem?_toArray, List.getElem?_cons_zero, List.getElem?_cons_succ]; rfl) (by kernel_rfl) (by kernel_rfl) (by kernel_rfl) (fun _ _ _ h => h) (Or.inr ⟨by rfl, rfl⟩) (by assumption) ?_
      simp only [Act.put, List.setIfInBounds_toArray, List.set_cons_zero, List.set_cons_succ]
      refine wpAnyH_take (i := 6) (v := undef) (by simp only [List.getElem?_toArray, List.getElem?_cons_zero, List.getElem?_cons_succ]; rfl) (by kernel_rfl) (by kernel_rfl) (by kernel_rfl) (fun _ _ _ h => h) (Or.inr ⟨by rfl, rfl⟩) (by assumption) ?_
      simp only [Act.put, List.setIfInBounds_toArray, List.set_cons_zero, List.set_cons_succ]
      refine wpAnyH_take (i := 7) (v := undef) (by simp only [List.getElem?_toArray, List.getElem?_cons_zero, List.getElem?_cons_succ]; rfl) (by kernel_rfl) (by kernel_rfl) (by kernel_rfl) (fun _ _ _ h => h) (Or.inr ⟨by rfl, rfl⟩) (by assumption) ?_
      simp only [Act.put, List.setIfInBounds_toArray, List.set_cons_zero, List.set_cons_succ]
      refine wpAnyH_take (i := 8) (v := ?_) (by simp only [List.getElem?_toArray, List.getElem?_cons_zero, List.getElem?_cons_succ]; rfl) (by kernel_rfl) (by kernel_rfl) (by kernel_rfl) (fun _ _ _ h => h) (Or.inl ⟨by rfl, ?_⟩) (by assumption) ?_
      rotate_left 1
      · intro w hSw
        go_simp
        with_reducible rfl
      simp only [Act.put, List.setIfInBounds_toArray, List.set_cons_zero, List.set_cons_succ]
      refine wpAnyH_take (i := 9) (v := ?_) (by simp only [List.getElem?_toArray, List.getElem?_cons_zero, List.getElem?_cons_succ]; rfl) (by kernel_rfl) (by kernel_rfl) (by kernel_rfl) (fun _ _ _ h => h) (Or.inl ⟨by rfl, ?_⟩) (by assumption) ?_
      rotate_left 1
      · intro w hSw
        go_simp
        with_reducible rfl
      simp only [Act.put, List.setIfInBounds_toArray, List.set_cons_zero, List.set_cons_succ]
      refine wpAnyH_take (i := 10) (v := ?_) (by simp only [List.getElem?_toArray, List.getElem?_cons_zero, List.getElem?_cons_succ]; rfl) (by kernel_rfl) (by kernel_rfl) (by kernel_rfl) (fun _ _ _ h => h) (Or.inl ⟨by rfl, ?_⟩) (by assumption) ?_
      rotate_left 1
      · intro w hSw
        go_simp
        with_reducible rfl
      simp only [Act.put, List.setIfInBounds_toArray, List.set_cons_zero, List.set_cons_succ]
      refine wpAnyH_take (i := 11) (v := ?_) (by simp only [List.getElem?_toArray, List.getElem?_cons_zero, List.getElem?_cons_succ]; rfl) (by kernel_rfl) (by kernel_rfl) (by kernel_rfl) (fun _ _ _ h => h) (Or.inl ⟨by rfl, ?_⟩) (by assumption) ?_
      rotate_left 1
      · intro w hSw
        go_simp
        with_reducible rfl
      simp only [Act.put, List.setIfInBounds_toArray, List.set_cons_zero, List.set_cons_succ]
      refine wpAnyH_take (i := 12) (v := ?_) (by simp only [List.getElem?_toArray, List.getElem?_cons_zero, List.getElem?_cons_succ]; rfl) (by kernel_rfl) (by kernel_rfl) (by kernel_rfl) (fun _ _ _ h => h) (Or.inl ⟨by rfl, ?_⟩) (by assumption) ?_
      rotate_left 1
      · intro w hSw
        go_simp
        with_reducible rfl
      simp only [Act.put, List.setIfInBounds_toArray, List.set_cons_zero, List.set_cons_succ]
      refine wpAnyH_take (i := 13) (v := undef) (by simp only [List.getElem?_toArray, List.getElem?_cons_zero, List.getElem?_cons_succ]; rfl) (by kernel_rfl) (by kernel_rfl) (by kernel_rfl) (fun _ _ _ h => h) (Or.inr ⟨by rfl, rfl⟩) (by assumption) ?_
      simp only [Act.put, List.setIfInBounds_toArray, List.set_cons_zero, List.set_cons_succ]
      refine wpAnyH_take (i := 14) (v := undef) (by simp only [List.getElem?_toArray, List.getElem?_cons_zero, List.getElem?_cons_succ]; rfl) (by kernel_rfl) (by kernel_rfl) (by kernel_rfl) (fun _ _ _ h => h) (Or.inr ⟨by rfl, rfl⟩) (by assumption) ?_
      simp only [Act.put, List.setIfInBounds_toArray, List.set_cons_zero, List.set_cons_succ]
      refine wpAnyH_take (i := 15) (v := undef) (by simp only [List.getElem?_toArray, List.getElem?_cons_zero, List.getElem?_cons_succ]; rfl) (by kernel_rfl) (by kernel_rfl) (by kernel_rfl) (fun _ _ _ h => h) (Or.inr ⟨by rfl, rfl⟩) (by assumption) ?_
      simp only [Act.put, List.setIfInBounds_toArray, List.set_cons_zero, List.set_cons_succ]
      refine wpAnyH_take (i := 16) (v := undef) (by simp only [List.getElem?_toArray, List.getElem?_cons_zero, List.getElem?_cons_succ]; rfl) (by kernel_rfl) (by kernel_rfl) (by kernel_rfl) (fun _ _ _ h => h) (Or.inr ⟨by rfl, rfl⟩) (by assumption) ?_
      simp only [Act.put, List.setIfInBounds_toArray, List.set_cons_zero, List.set_cons_succ]
      refine wpAnyH_take (i := 17) (v := ?_) (by simp only [List.getElem?_toArray, List.getElem?_cons_zero, List.getElem?_cons_succ]; rfl) (by kernel_rfl) (by kernel_rfl) (by kernel_rfl) (fun _ _ _ h => h) (Or.inl ⟨by rfl, ?_⟩) (by assumption) ?_
      rotate_left 1
      · intro w hSw
        go_simp
        with_reducible rfl
      simp only [Act.put, List.setIfInBounds_toArray, List.set_cons_zero, List.set_cons_succ]
      refine wpAnyH_take (i := 18) (v := ?_) (by simp only [List.getElem?_toArray, List.getElem?_cons_zero, List.getElem?_cons_succ]; rfl) (by kernel_rfl) (by kernel_rfl) (by kernel_rfl) (fun _ _ _ h => h) (Or.inl ⟨by rfl, ?_⟩) (by assumption) ?_
      rotate_left 1
      · intro w hSw
        go_simp
        with_reducible rfl
      simp only [Act.put, List.setIfInBounds_toArray, List.set_cons_zero, List.set_cons_succ]
      refine wpAnyH_take (i := 19) (v := undef) (by simp only [List.getElem?_toArray, List.getElem?_cons_zero, List.getElem?_cons_succ]; rfl) (by kernel_rfl) (by kernel_rfl) (by kernel_rfl) (fun _ _ _ h => h) (Or.inr ⟨by rfl, rfl⟩) (by assumption) ?_
      simp only [Act.put, List.setIfInBounds_toArray, List.set_cons_zero, List.set_cons_succ]
      refine wpAnyH_take (i := 20) (v := undef) (by simp only [List.getElem?_toArray, List.getElem?_cons_zero, List.getElem?_cons_succ]; rfl) (by kernel_rfl) (by kernel_rfl) (by kernel_rfl) (fun _ _ _ h => h) (Or.inr ⟨by rfl, rfl⟩) (by assumption) ?_
      simp only [Act.put, List.setIfInBounds_toArray, List.set_cons_zero, List.set_cons_succ]
      refine wpAnyH_take (i := 21) (v := undef) (by simp only [List.getElem?_toArray, List.getElem?_cons_zero, List.getElem?_cons_succ]; rfl) (by kernel_rfl) (by kernel_rfl) (by kernel_rfl) (fun _ _ _ h => h) (Or.inr ⟨by rfl, rfl⟩) (by assumption) ?_
      simp only [Act.put, List.setIfInBounds_toArray, List.set_cons_zero, List.set_cons_succ]
      refine wpAnyH_take (i := 22) (v := undef) (by simp only [List.getElem?_toArray, List.getElem?_cons_zero, List.getElem?_cons_succ]; rfl) (by kernel_rfl) (by kernel_rfl) (by kernel_rfl) (fun _ _ _ h => h) (Or.inr ⟨by rfl, rfl⟩) (by assumption) ?_
      simp only [Act.put, List.setIfInBounds_toArray, List.set_cons_zero, List.set_cons_succ]
      refine wpAnyH_take (i := 23) (v := ?_) (by simp only [List.getElem?_toArray, List.getElem?_cons_zero, List.getElem?_cons_succ]; rfl) (by kernel_rfl) (by kernel_rfl) (by kernel_rfl) (fun _ _ _ h => h) (Or.inl ⟨by rfl, ?_⟩) (by assumption) ?_
      rotate_left 1
      · intro w hSw
        go_simp
        with_reducible rfl
      simp only [Act.put, List.setIfInBounds_toArray, List.set_cons_zero, List.set_cons_succ]
      refine wpAnyH_take (i := 24) (v := ?_) (by simp only [List.getElem?_toArray, List.getElem?_cons_zero, List.getElem?_cons_succ]; rfl) (by kernel_rfl) (by kernel_rfl) (by kernel_rfl) (fun _ _ _ h => h) (Or.inl ⟨by rfl, ?_⟩) (by assumption) ?_
      rotate_left 1
      · intro w hSw
        go_simp
        with_reducible rfl
      simp only [Act.put, List.setIfInBounds_toArray, List.set_cons_zero, List.set_cons_succ]
      refine wpAnyH_done (by kernel_rfl) ?_ _
      refine NoPanic.normal ?_
      go_wp2
      go_meet
      case rel => exact ⟨rfl, s10, D10⟩
  case rest => as_aux_lemma =>
  obtain ⟨rfl, s11, D11⟩ := hcut
  clear s9 D9
  trace "P2"
  have LA := hid (load_vec (s11 _ (.head _)) HA.out)
  have LB := hid (load_vec (s11 _ (.tail _ (.head _))) HB.out)
  have LC := hid (load_vec (s11 _ (.tail _ (.tail _ (.head _)))) HC.out)
  have L2 := hid (two16 HA.out HB.out)
  have Z1 := size_vec m HML.out
  have Z2 := size_zero m HML.out
  go_wp2_with (first
      | (refine wpList_load_g (by rfl) 24 (.tmp 3) rfl w.heap.size 0 rfl (vec a) LA.out ?_)
      | (refine wpList_load_g (by rfl) 24 (.tmp 4) rfl (w.heap.size + 1) 0 rfl (vec b) LB.out ?_)
      | (refine wpList_load_g (by rfl) 24 (.tmp 5) rfl (w.heap.size + 1 + 1) 0 rfl (vec c) LC.out ?_)
      | (refine wpList_build_vecs (by rfl) [a, b] 2 _ rfl rfl (by omega) (by omega) L2.out rfl ?_))
  refine (merge_lit [a, b] 2 _ rfl (by omega) m M1.out _ (vrows_at _ _ L2.out _ rfl)).mono ?_
  rintro ee y1 ⟨rfl, hb⟩
  have hb := (on_alloc wc (.cells (rowsA [a, b]) 24)).trans (hb.mono (by simp))
  have s12 := HasAll.on s11 hb
  have D12 := two_le D11 hb
  clear hb LA LB LC s11 D11
  go_wp2_with (first
    | (refine wpList_store_row rfl 24 (.tmp 9) (.tmp 70) rfl y1.heap.size (vec m) rfl rfl 24 zeroA (Has.fresh y1 24 zeroA) Z1.out Z2.out (vec_one _) ?_
       generalize hG : World.setRow _ _ _ = W3
       obtain ⟨V0, hG0, s13, D13⟩ := lay_more w y1 m s12 D12
       obtain rfl : V0 = W3 := hG0.symm.trans hG
       have LA := hid (load_vec (s13 _ (.tail _ (.head _))) HA.out)
       have LM := hid (load_vec (s13 _ (.head _)) HML.out)
       clear hG0 hG s12 D12)
    | (refine wpList_load_g (by rfl) 24 (.tmp 3) rfl w.heap.size 0 rfl (vec a) LA.out ?_)
    | (refine wpList_load_g (by rfl) 24 (.tmp 9) rfl y1.heap.size 0 rfl (vec m) LM.out ?_))
  obtain ⟨NM, HNM⟩ : ∃ N, Hid (y1.heap.size = N) := ⟨_, rfl⟩
  rw [HNM.out] at s13 ⊢
  have hp := XA.out
  have hp0 := hp.1.1
  have hp1 := hp.1.2
  have hq0 := hp.2.1
  have hq1 := hp.2.2
  clear hp LA LM
  refine (CP.out _).mono ?_
  rintro ee y2 ⟨rfl, hb⟩
  have s14 := HasAll.on s13 hb
  have D14 := two_le D13 hb
  clear hb s13 D13
  have LM := hid (load_vec (s14 _ (.head _)) HML.out)
  have LA := hid (load_vec (s14 _ (.tail _ (.head _))) HA.out)
  have LB := hid (load_vec (s14 _ (.tail _ (.tail _ (.head _)))) HB.out)
  go_wp2_with (first
    | (refine wpList_load_g (by rfl) 24 (.tmp 9) rfl NM 0 rfl (vec m) LM.out ?_)
    | (refine wpList_load_g (by rfl) 24 (.tmp 3) rfl w.heap.size 0 rfl (vec a) LA.out ?_)
    | (refine wpList_load_g (by rfl) 24 (.tmp 4) rfl (w.heap.size + 1) 0 rfl (vec b) LB.out ?_))
  clear LM LA LB
  refine (CP.out _).mono ?_
  rintro ee y3 ⟨rfl, hb⟩
  have s15 := HasAll.on s14 hb
  have D15 := two_le D14 hb
  clear hb s14 D14
  have LM := hid (load_vec (s15 _ (.head _)) HML.out)
  have LA := hid (load_vec (s15 _ (.tail _ (.head _))) HA.out)
  have LB := hid (load_vec (s15 _ (.tail _ (.tail _ (.head _)))) HB.out)
  go_wp2_with (first
    | (refine wpList_load_g (by rfl) 24 (.tmp 9) rfl NM 0 rfl (vec m) LM.out ?_)
    | (refine wpList_load_g (by rfl) 24 (.tmp 3) rfl w.heap.size 0 rfl (vec a) LA.out ?_)
    | (refine wpList_load_g (by rfl) 24 (.tmp 4) rfl (w.heap.size + 1) 0 rfl (vec b) LB.out ?_))
  clear LM LA LB
  refine (CQ.out _).mono ?_
  rintro ee y4 ⟨rfl, hb⟩
  have s16 := HasAll.on s15 hb
  have D16 := two_le D15 hb
  clear hb s15 D15
  have LM := hid (load_vec (s16 _ (.head _)) HML.out)
  have LA := hid (load_vec (s16 _ (.tail _ (.head _))) HA.out)
  have LB := hid (load_vec (s16 _ (.tail _ (.tail _ (.head _)))) HB.out)
  go_wp2_with (first
    | (refine wpList_load_g (by rfl) 24 (.tmp 9) rfl NM 0 rfl (vec m) LM.out ?_)
    | (refine wpList_load_g (by rfl) 24 (.tmp 3) rfl w.heap.size 0 rfl (vec a) LA.out ?_)
    | (refine wpList_load_g (by rfl) 24 (.tmp 4) rfl (w.heap.size + 1) 0 rfl (vec b) LB.out ?_))
  clear LM LA LB
  refine (CQ.out _).mono ?_
  rintro ee y5 ⟨rfl, hb⟩
  have s17 := HasAll.on s16 hb
  have D17 := two_le D16 hb
  clear hb s16 D16
  go_wp2_with fail
  clear hp0 hp1 hq0 hq1
  have s20 : HasAll [(NM, m), (w.heap.size, a), (w.heap.size + 1, b), (w.heap.size + 1 + 1, c)] y5.drew := HasAll.draw (HasAll.cons (has_of s17 (.head _)) (HasAll.cons (has_of s17 (.tail _ (.head _))) (HasAll.cons (has_of s17 (.tail _ (.tail _ (.head _)))) (HasAll.cons (has_of s17 (.tail _ (.tail _ (.tail _ (.head _))))) (HasAll.nil _)))))
  have D20 := below_draw D17
  refine wp_region_noPanic ?_
  refine wp_region_held_drew (S := HasAll [(NM, m), (w.heap.size, a), (w.heap.size + 1, b), (w.heap.size + 1 + 1, c)]) (by kernel_rfl) s20 (fun hS => ?_)
  refine' wpAnyH_take (i := 0) (v := _) (by simp only [List.getElem?_toArray, List.getElem?_cons_zero]; rfl) (by kernel_rfl) (by kernel_rfl) (by kernel_rfl) (fun _ _ _ h => h) (yields_vec (by rfl) _ rfl (w.heap.size + 1 + 1) rfl c HC.out (fun w hSw => hSw _ (.tail _ (.tail _ (.tail _ (.head _)))))) (by assumption) ?_
  simp only [Act.put, List.setIfInBounds_toArray, List.set_cons_zero, List.set_cons_succ]
  refine' wpAnyH_take (i := 1) (v := _) (by simp only [List.getElem?_toArray, List.getElem?_cons_zero, List.getElem?_cons_succ]; rfl) (by kernel_rfl) (by kernel_rfl) (by kernel_rfl) (fun _ _ _ h => h) (yields_vec (by rfl) _ rfl (w.heap.size) rfl a HA.out (fun w hSw => hSw _ (.tail _ (.head _)))) (by assumption) ?_
  simp only [Act.put, List.setIfInBounds_toArray, List.set_cons_zero, List.set_cons_succ]
  refine' wpAnyH_take (i := 3) (v := _) (by simp only [List.getElem?_toArray, List.getElem?_cons_zero, List.getElem?_cons_succ]; rfl) (by kernel_rfl) (by kernel_rfl) (by kernel_rfl) (fun _ _ _ h => h) (yields_vec (by rfl) _ rfl (w.heap.size + 1 + 1) rfl c HC.out (fun w hSw => hSw _ (.tail _ (.tail _ (.tail _ (.head _)))))) (by assumption) ?_
  simp only [Act.put, List.setIfInBounds_toArray, List.set_cons_zero, List.set_cons_succ]
  refine' wpAnyH_take (i := 4) (v := _) (by simp only [List.getElem?_toArray, List.getElem?_cons_zero, List.getElem?_cons_succ]; rfl) (by kernel_rfl) (by kernel_rfl) (by kernel_rfl) (fun _ _ _ h => h) (yields_vec (by rfl) _ rfl (w.heap.size + 1) rfl b HB.out (fun w hSw => hSw _ (.tail _ (.tail _ (.head _))))) (by assumption) ?_
  simp only [Act.put, List.setIfInBounds_toArray, List.set_cons_zero, List.set_cons_succ]
  refine wpAnyH_ready (rs := [2]) (by kernel_rfl) (by simp) ?_
  refine AllReadyH.cons (by simp only [List.getElem?_toArray, List.getElem?_cons_zero, List.getElem?_cons_succ]; rfl) (fun K hK => ?_) AllReadyH.nil
  go_simp
  refine (CU.out _).mono ?_
  rintro ee x21 ⟨rfl, hb⟩
  have s21 := HasAll.on s20 hb
  have D21 := two_le D20 hb
  clear hb s20 D20
  refine hK.out _ _ s21 (fun hS => ?_)
  clear hK K hS
  refine wpAnyH_ready (rs := [5]) (by kernel_rfl) (by simp) ?_
  refine AllReadyH.cons (by simp only [List.getElem?_toArray, List.getElem?_cons_zero, List.getElem?_cons_succ]; rfl) (fun K hK => ?_) AllReadyH.nil
  go_simp
  refine (CV.out _).mono ?_
  rintro ee x22 ⟨rfl, hb⟩
  have s22 := HasAll.on s21 hb
  have D22 := two_le D21 hb
  clear hb s21 D21
  refine hK.out _ _ s22 (fun hS => ?_)
  clear hK K hS
  refine wpAnyH_take (i := 6) (v := ?_) (by simp only [List.getElem?_toArray, List.getElem?_cons_zero, List.getElem?_cons_succ]; rfl) (by kernel_rfl) (by kernel_rfl) (by kernel_rfl) (fun _ _ _ h => h) (Or.inl ⟨by rfl, ?_⟩) (by assumption) ?_
  rotate_left 1
  · intro w hSw
    go_simp
    with_reducible rfl
  simp only [Act.put, List.setIfInBounds_toArray, List.set_cons_zero, List.set_cons_succ]
  refine wpAnyH_take (i := 7) (v := ?_) (by simp only [List.getElem?_toArray, List.getElem?_cons_zero, List.getElem?_cons_succ]; rfl) (by kernel_rfl) (by kernel_rfl) (by kernel_rfl) (fun _ _ _ h => h) (Or.inl ⟨by rfl, ?_⟩) (by assumption) ?_
  rotate_left 1
  · intro w hSw
    go_simp
    with_reducible rfl
  simp only [Act.put, List.setIfInBounds_toArray, List.set_cons_zero, List.set_cons_succ]
  refine wpAnyH_done (by kernel_rfl) ?_ _
  refine NoPanic.normal ?_
  clear s17 D17
  trace "P3"
  go_upto_region 9 with fail
  have LC := hid (load_vec (s22 _ (.tail _ (.tail _ (.tail _ (.head _))))) HC.out)
  have LM := hid (load_vec (s22 _ (.head _)) HML.out)
  go_cut [124] (fun t w' => t = .bool false ∧ HasAll [(NM, m), (w.heap.size, a), (w.heap.size + 1, b), (w.heap.size + 1 + 1, c)] w' ∧ Hid (Below w.heap.size w w'))
  case first => as_aux_lemma =>
    have hu := XU.out
    by_cases hr : r = 0 ∨ r = 1
    · by_cases hs : s = 0 ∨ s = 1
      · have ht := hu hr hs
        clear hu
        rcases hr with rfl | rfl <;> rcases hs with rfl | rfl <;> rcases ht with rfl | rfl
        · as_aux_lemma =>
          go_wp2_with (first
            | (refine wpList_load_g (by rfl) 24 (.tmp 5) rfl (w.heap.size + 1 + 1) 0 rfl (vec c) LC.out ?_)
            | (refine wpList_load_g (by rfl) 24 (.tmp 9) rfl NM 0 rfl (vec m) LM.out ?_)
            | (go_at_call 15; (with_reducible refine (CT.out x22).mono ?_); rintro ee z1 ⟨rfl, hb⟩
               have s31 := HasAll.on s22 hb
               have D31 := two_le D22 hb
               have LC1 := hid (load_vec (s31 _ (.tail _ (.tail _ (.tail _ (.head _))))) HC.out)
               have LM1 := hid (load_vec (s31 _ (.head _)) HML.out)
               clear hb LC LM)
            | (refine wpList_load_g (by rfl) 24 (.tmp 5) rfl (w.heap.size + 1 + 1) 0 rfl (vec c) LC1.out ?_)
            | (refine wpList_load_g (by rfl) 24 (.tmp 9) rfl NM 0 rfl (vec m) LM1.out ?_)
            | (go_at_call 15; (with_reducible refine (CT.out z1).mono ?_); rintro ee z2 ⟨rfl, hb⟩
               have s32 := HasAll.on s31 hb
               have D32 := two_le D31 hb
               clear hb LC1 LM1))
          go_meet
          case rel => exact ⟨rfl, s31, D31⟩
        · as_aux_lemma =>
          go_wp2_with (first
            | (refine wpList_load_g (by rfl) 24 (.tmp 5) rfl (w.heap.size + 1 + 1) 0 rfl (vec c) LC.out ?_)
            | (refine wpList_load_g (by rfl) 24 (.tmp 9) rfl NM 0 rfl (vec m) LM.out ?_)
            | (go_at_call 15; (with_reducible refine (CT.out x22).mono ?_); rintro ee z1 ⟨rfl, hb⟩
               have s31 := HasAll.on s22 hb
               have D31 := two_le D22 hb
               have LC1 := hid (load_vec (s31 _ (.tail _ (.tail _ (.tail _ (.head _))))) HC.out)
               have LM1 := hid (load_vec (s31 _ (.head _)) HML.out)
               clear hb LC LM)
            | (refine wpList_load_g (by rfl) 24 (.tmp 5) rfl (w.heap.size + 1 + 1) 0 rfl (vec c) LC1.out ?_)
            | (refine wpList_load_g (by rfl) 24 (.tmp 9) rfl NM 0 rfl (vec m) LM1.out ?_)
            | (go_at_call 15; (with_reducible refine (CT.out z1).mono ?_); rintro ee z2 ⟨rfl, hb⟩
               have s32 := HasAll.on s31 hb
               have D32 := two_le D31 hb
               clear hb LC1 LM1))
          go_meet
          case rel => exact ⟨rfl, s32, D32⟩
        · as_aux_lemma =>
          go_wp2_with (first
            | (refine wpList_load_g (by rfl) 24 (.tmp 5) rfl (w.heap.size + 1 + 1) 0 rfl (vec c) LC.out ?_)
            | (refine wpList_load_g (by rfl) 24 (.tmp 9) rfl NM 0 rfl (vec m) LM.out ?_)
            | (go_at_call 15; (with_reducible refine (CT.out x22).mono ?_); rintro ee z1 ⟨rfl, hb⟩
               have s31 := HasAll.on s22 hb
               have D31 := two_le D22 hb
               have LC1 := hid (load_vec (s31 _ (.tail _ (.tail _ (.tail _ (.head _))))) HC.out)
               have LM1 := hid (load_vec (s31 _ (.head _)) HML.out)
               clear hb LC LM)
            | (refine wpList_load_g (by rfl) 24 (.tmp 5) rfl (w.heap.size + 1 + 1) 0 rfl (vec c) LC1.out ?_)
            | (refine wpList_load_g (by rfl) 24 (.tmp 9) rfl NM 0 rfl (vec m) LM1.out ?_)
            | (go_at_call 15; (with_reducible refine (CT.out z1).mono ?_); rintro ee z2 ⟨rfl, hb⟩
               have s32 := HasAll.on s31 hb
               have D32 := two_le D31 hb
               clear hb LC1 LM1))
          go_meet
          case rel => exact ⟨rfl, s31, D31⟩
        · as_aux_lemma =>
          go_wp2_with (first
            | (refine wpList_load_g (by rfl) 24 (.tmp 5) rfl (w.heap.size + 1 + 1) 0 rfl (vec c) LC.out ?_)
            | (refine wpList_load_g (by rfl) 24 (.tmp 9) rfl NM 0 rfl (vec m) LM.out ?_)
            | (go_at_call 15; (with_reducible refine (CT.out x22).mono ?_); rintro ee z1 ⟨rfl, hb⟩
               have s31 := HasAll.on s22 hb
               have D31 := two_le D22 hb
               have LC1 := hid (load_vec (s31 _ (.tail _ (.tail _ (.tail _ (.head _))))) HC.out)
               have LM1 := hid (load_vec (s31 _ (.head _)) HML.out)
               clear hb LC LM)
            | (refine wpList_load_g (by rfl) 24 (.tmp 5) rfl (w.heap.size + 1 + 1) 0 rfl (vec c) LC1.out ?_)
            | (refine wpList_load_g (by rfl) 24 (.tmp 9) rfl NM 0 rfl (vec m) LM1.out ?_)
            | (go_at_call 15; (with_reducible refine (CT.out z1).mono ?_); rintro ee z2 ⟨rfl, hb⟩
               have s32 := HasAll.on s31 hb
               have D32 := two_le D31 hb
               clear hb LC1 LM1))
          go_meet
          case rel => exact ⟨rfl, s32, D32⟩
        · as_aux_lemma =>
          go_wp2_with (first
            | (refine wpList_load_g (by rfl) 24 (.tmp 5) rfl (w.heap.size + 1 + 1) 0 rfl (vec c) LC.out ?_)
            | (refine wpList_load_g (by rfl) 24 (.tmp 9) rfl NM 0 rfl (vec m) LM.out ?_)
            | (go_at_call 15; (with_reducible refine (CT.out x22).mono ?_); rintro ee z1 ⟨rfl, hb⟩
               have s31 := HasAll.on s22 hb
               have D31 := two_le D22 hb
               have LC1 := hid (load_vec (s31 _ (.tail _ (.tail _ (.tail _ (.head _))))) HC.out)
               have LM1 := hid (load_vec (s31 _ (.head _)) HML.out)
               clear hb LC LM)
            | (refine wpList_load_g (by rfl) 24 (.tmp 5) rfl (w.heap.size + 1 + 1) 0 rfl (vec c) LC1.out ?_)
            | (refine wpList_load_g (by rfl) 24 (.tmp 9) rfl NM 0 rfl (vec m) LM1.out ?_)
            | (go_at_call 15; (with_reducible refine (CT.out z1).mono ?_); rintro ee z2 ⟨rfl, hb⟩
               have s32 := HasAll.on s31 hb
               have D32 := two_le D31 hb
               clear hb LC1 LM1))
          go_meet
          case rel => exact ⟨rfl, s31, D31⟩
        · as_aux_lemma =>
          go_wp2_with (first
            | (refine wpList_load_g (by rfl) 24 (.tmp 5) rfl (w.heap.size + 1 + 1) 0 rfl (vec c) LC.out ?_)
            | (refine wpList_load_g (by rfl) 24 (.tmp 9) rfl NM 0 rfl (vec m) LM.out ?_)
            | (go_at_call 15; (with_reducible refine (CT.out x22).mono ?_); rintro ee z1 ⟨rfl, hb⟩
               have s31 := HasAll.on s22 hb
               have D31 := two_le D22 hb
               have LC1 := hid (load_vec (s31 _ (.tail _ (.tail _ (.tail _ (.head _))))) HC.out)
               have LM1 := hid (load_vec (s31 _ (.head _)) HML.out)
               clear hb LC LM)
            | (refine wpList_load_g (by rfl) 24 (.tmp 5) rfl (w.heap.size + 1 + 1) 0 rfl (vec c) LC1.out ?_)
            | (refine wpList_load_g (by rfl) 24 (.tmp 9) rfl NM 0 rfl (vec m) LM1.out ?_)
            | (go_at_call 15; (with_reducible refine (CT.out z1).mono ?_); rintro ee z2 ⟨rfl, hb⟩
               have s32 := HasAll.on s31 hb
               have D32 := two_le D31 hb
               clear hb LC1 LM1))
          go_meet
          case rel => exact ⟨rfl, s32, D32⟩
        · as_aux_lemma =>
          go_wp2_with (first
            | (refine wpList_load_g (by rfl) 24 (.tmp 5) rfl (w.heap.size + 1 + 1) 0 rfl (vec c) LC.out ?_)
            | (refine wpList_load_g (by rfl) 24 (.tmp 9) rfl NM 0 rfl (vec m) LM.out ?_)
            | (go_at_call 15; (with_reducible refine (CT.out x22).mono ?_); rintro ee z1 ⟨rfl, hb⟩
               have s31 := HasAll.on s22 hb
               have D31 := two_le D22 hb
               have LC1 := hid (load_vec (s31 _ (.tail _ (.tail _ (.tail _ (.head _))))) HC.out)
               have LM1 := hid (load_vec (s31 _ (.head _)) HML.out)
               clear hb LC LM)
            | (refine wpList_load_g (by rfl) 24 (.tmp 5) rfl (w.heap.size + 1 + 1) 0 rfl (vec c) LC1.out ?_)
            | (refine wpList_load_g (by rfl) 24 (.tmp 9) rfl NM 0 rfl (vec m) LM1.out ?_)
            | (go_at_call 15; (with_reducible refine (CT.out z1).mono ?_); rintro ee z2 ⟨rfl, hb⟩
               have s32 := HasAll.on s31 hb
               have D32 := two_le D31 hb
               clear hb LC1 LM1))
          go_meet
          case rel => exact ⟨rfl, s31, D31⟩
        · as_aux_lemma =>
          go_wp2_with (first
            | (refine wpList_load_g (by rfl) 24 (.tmp 5) rfl (w.heap.size + 1 + 1) 0 rfl (vec c) LC.out ?_)
            | (refine wpList_load_g (by rfl) 24 (.tmp 9) rfl NM 0 rfl (vec m) LM.out ?_)
            | (go_at_call 15; (with_reducible refine (CT.out x22).mono ?_); rintro ee z1 ⟨rfl, hb⟩
               have s31 := HasAll.on s22 hb
               have D31 := two_le D22 hb
               have LC1 := hid (load_vec (s31 _ (.tail _ (.tail _ (.tail _ (.head _))))) HC.out)
               have LM1 := hid (load_vec (s31 _ (.head _)) HML.out)
               clear hb LC LM)
            | (refine wpList_load_g (by rfl) 24 (.tmp 5) rfl (w.heap.size + 1 + 1) 0 rfl (vec c) LC1.out ?_)
            | (refine wpList_load_g (by rfl) 24 (.tmp 9) rfl NM 0 rfl (vec m) LM1.out ?_)
            | (go_at_call 15; (with_reducible refine (CT.out z1).mono ?_); rintro ee z2 ⟨rfl, hb⟩
               have s32 := HasAll.on s31 hb
               have D32 := two_le D31 hb
               clear hb LC1 LM1))
          go_meet
          case rel => exact ⟨rfl, s32, D32⟩
      · have hs0 : (s == 0) = false := by simp; omega
        have hs1 : (s == 1) = false := by simp; omega
        clear hu hs
        rcases hr with rfl | rfl
        · as_aux_lemma =>
          go_wp2_with (first
            | (refine wpList_load_g (by rfl) 24 (.tmp 5) rfl (w.heap.size + 1 + 1) 0 rfl (vec c) LC.out ?_)
            | (refine wpList_load_g (by rfl) 24 (.tmp 9) rfl NM 0 rfl (vec m) LM.out ?_)
            | (go_at_call 15; (with_reducible refine (CT.out x22).mono ?_); rintro ee z1 ⟨rfl, hb⟩
               have s31 := HasAll.on s22 hb
               have D31 := two_le D22 hb
               have LC1 := hid (load_vec (s31 _ (.tail _ (.tail _ (.tail _ (.head _))))) HC.out)
               have LM1 := hid (load_vec (s31 _ (.head _)) HML.out)
               clear hb LC LM)
            | (refine wpList_load_g (by rfl) 24 (.tmp 5) rfl (w.heap.size + 1 + 1) 0 rfl (vec c) LC1.out ?_)
            | (refine wpList_load_g (by rfl) 24 (.tmp 9) rfl NM 0 rfl (vec m) LM1.out ?_)
            | (go_at_call 15; (with_reducible refine (CT.out z1).mono ?_); rintro ee z2 ⟨rfl, hb⟩
               have s32 := HasAll.on s31 hb
               have D32 := two_le D31 hb
               clear hb LC1 LM1))
          go_meet
          case rel => exact ⟨rfl, s22, D22⟩
          
        · as_aux_lemma =>
          go_wp2_with (first
            | (refine wpList_load_g (by rfl) 24 (.tmp 5) rfl (w.heap.size + 1 + 1) 0 rfl (vec c) LC.out ?_)
            | (refine wpList_load_g (by rfl) 24 (.tmp 9) rfl NM 0 rfl (vec m) LM.out ?_)
            | (go_at_call 15; (with_reducible refine (CT.out x22).mono ?_); rintro ee z1 ⟨rfl, hb⟩
               have s31 := HasAll.on s22 hb
               have D31 := two_le D22 hb
               have LC1 := hid (load_vec (s31 _ (.tail _ (.tail _ (.tail _ (.head _))))) HC.out)
               have LM1 := hid (load_vec (s31 _ (.head _)) HML.out)
               clear hb LC LM)
            | (refine wpList_load_g (by rfl) 24 (.tmp 5) rfl (w.heap.size + 1 + 1) 0 rfl (vec c) LC1.out ?_)
            | (refine wpList_load_g (by rfl) 24 (.tmp 9) rfl NM 0 rfl (vec m) LM1.out ?_)
            | (go_at_call 15; (with_reducible refine (CT.out z1).mono ?_); rintro ee z2 ⟨rfl, hb⟩
               have s32 := HasAll.on s31 hb
               have D32 := two_le D31 hb
               clear hb LC1 LM1))
          go_meet
          case rel => exact ⟨rfl, s22, D22⟩
          
    · have hr0 : (r == 0) = false := by simp; omega
      have hr1 : (r == 1) = false := by simp; omega
      clear hu hr
      as_aux_lemma =>
      go_wp2_with (first
        | (refine wpList_load_g (by rfl) 24 (.tmp 5) rfl (w.heap.size + 1 + 1) 0 rfl (vec c) LC.out ?_)
        | (refine wpList_load_g (by rfl) 24 (.tmp 9) rfl NM 0 rfl (vec m) LM.out ?_)
        | (go_at_call 15; (with_reducible refine (CT.out x22).mono ?_); rintro ee z1 ⟨rfl, hb⟩
           have s31 := HasAll.on s22 hb
           have D31 := two_le D22 hb
           have LC1 := hid (load_vec (s31 _ (.tail _ (.tail _ (.tail _ (.head _))))) HC.out)
           have LM1 := hid (load_vec (s31 _ (.head _)) HML.out)
           clear hb LC LM)
        | (refine wpList_load_g (by rfl) 24 (.tmp 5) rfl (w.heap.size + 1 + 1) 0 rfl (vec c) LC1.out ?_)
        | (refine wpList_load_g (by rfl) 24 (.tmp 9) rfl NM 0 rfl (vec m) LM1.out ?_)
        | (go_at_call 15; (with_reducible refine (CT.out z1).mono ?_); rintro ee z2 ⟨rfl, hb⟩
           have s32 := HasAll.on s31 hb
           have D32 := two_le D31 hb
           clear hb LC1 LM1))
      go_meet
      case rel => exact ⟨rfl, s22, D22⟩
  case rest => as_aux_lemma =>
  obtain ⟨rfl, s40, D40⟩ := hcut
  clear LC LM s22 D22
  trace "P4"
  have T1 := hid (two16 HB.out HA.out)
  have T2 := hid (two16 HA.out HA.out)
  have T3 := hid (two16 HML.out HC.out)
  have T4 := hid (two16 HB.out HC.out)
  have T5 := hid (two16 HA.out HNL.out)
  have T6 : Hid (∀ l ∈ [a, b, a, b], l.length = 16) := by
    intro l hl
    simp only [List.mem_cons, List.not_mem_nil, or_false] at hl
    rcases hl with rfl | rfl | rfl | rfl
    · exact HA.out
    · exact HB.out
    · exact HA.out
    · exact HB.out
  have SM := hid (sameV_refl m)
  have SAA := hid (sameV_refl a)
  have SO := hid (sameV_refl o)
  go_wp2_with fail
  have s40 : HasAll [(NM, m), (w.heap.size, a), (w.heap.size + 1, b), (w.heap.size + 1 + 1, c)] wc.drew := HasAll.draw (HasAll.cons (has_of s40 (.head _)) (HasAll.cons (has_of s40 (.tail _ (.head _))) (HasAll.cons (has_of s40 (.tail _ (.tail _ (.head _)))) (HasAll.cons (has_of s40 (.tail _ (.tail _ (.tail _ (.head _))))) (HasAll.nil _)))))
  have D40 := below_draw D40
  refine wp_region_noPanic ?_
  refine wp_region_held_drew (S := HasAll [(NM, m), (w.heap.size, a), (w.heap.size + 1, b), (w.heap.size + 1 + 1, c)]) (by kernel_rfl) s40 (fun hS => ?_)
  refine wpAnyH_take (i := 0) (v := ?_) (by simp only [List.getElem?_toArray, List.getElem?_cons_zero]; rfl) (by kernel_rfl) (by kernel_rfl) (by kernel_rfl) (fun _ _ _ h => h) (Or.inl ⟨by rfl, ?_⟩) (by assumption) ?_
  rotate_left 1
  · intro w hSw
    go_simp
    with_reducible rfl
  simp only [Act.put, List.setIfInBounds_toArray, List.set_cons_zero, List.set_cons_succ]
  refine wpAnyH_take (i := 1) (v := ?_) (by simp only [List.getElem?_toArray, List.getElem?_cons_zero, List.getElem?_cons_succ]; rfl) (by kernel_rfl) (by kernel_rfl) (by kernel_rfl) (fun _ _ _ h => h) (Or.inl ⟨by rfl, ?_⟩) (by assumption) ?_
  rotate_left 1
  · intro w hSw
    go_simp
    with_reducible rfl
  simp only [Act.put, List.setIfInBounds_toArray, List.set_cons_zero, List.set_cons_succ]
  refine' wpAnyH_take (i := 2) (v := _) (by simp only [List.getElem?_toArray, List.getElem?_cons_zero, List.getElem?_cons_succ]; rfl) (by kernel_rfl) (by kernel_rfl) (by kernel_rfl) (fun _ _ _ h => h) (yields_vec (by rfl) _ rfl (NM) rfl m HML.out (fun w hSw => hSw _ (.head _))) (by assumption) ?_
  simp only [Act.put, List.setIfInBounds_toArray, List.set_cons_zero, List.set_cons_succ]
  refine' wpAnyH_take (i := 3) (v := _) (by simp only [List.getElem?_toArray, List.getElem?_cons_zero, List.getElem?_cons_succ]; rfl) (by kernel_rfl) (by kernel_rfl) (by kernel_rfl) (fun _ _ _ h => h) (yields_vec (by rfl) _ rfl (w.heap.size + 1) rfl b HB.out (fun w hSw => hSw _ (.tail _ (.tail _ (.head _))))) (by assumption) ?_
  simp only [Act.put, List.setIfInBounds_toArray, List.set_cons_zero, List.set_cons_succ]
  refine' wpAnyH_take (i := 4) (v := _) (by simp only [List.getElem?_toArray, List.getElem?_cons_zero, List.getElem?_cons_succ]; rfl) (by kernel_rfl) (by kernel_rfl) (by kernel_rfl) (fun _ _ _ h => h) (yields_vec (by rfl) _ rfl (w.heap.size) rfl a HA.out (fun w hSw => hSw _ (.tail _ (.head _)))) (by assumption) ?_
  simp only [Act.put, List.setIfInBounds_toArray, List.set_cons_zero, List.set_cons_succ]
  refine wpAnyH_ready (rs := [5]) (by kernel_rfl) (by simp) ?_
  refine AllReadyH.cons (by simp only [List.getElem?_toArray, List.getElem?_cons_zero, List.getElem?_cons_succ]; rfl) (fun K hK => ?_) AllReadyH.nil
  refine ready_lay (by rfl) [b, a] 2 _ rfl rfl (by omega) (by omega) T1.out rfl ?_
  intro x41 g41 hb hv
  have s41 := HasAll.on s40 hb
  have D41 := two_le D40 hb
  clear hb s40 D40
  refine hK.out _ _ s41 (fun hS => ?_)
  clear hK K hS
  have V41 := hid hv
  clear hv
  simp only [Act.put, List.setIfInBounds_toArray, List.set_cons_zero, List.set_cons_succ]
  refine wpAnyH_ready (rs := [6]) (by kernel_rfl) (by simp) ?_
  refine AllReadyH.cons (by simp only [List.getElem?_toArray, List.getElem?_cons_zero, List.getElem?_cons_succ]; rfl) (fun K hK => ?_) AllReadyH.nil
  go_simp
  refine (merge_lit [b, a] 2 g41 rfl (by omega) m M2.out _ V41.out).mono ?_
  rintro ee x42 ⟨rfl, hb⟩
  have s42 := HasAll.on s41 hb
  have D42 := two_le D41 hb
  have V41 := hid (V41.out.kept hb (Nat.le_refl _))
  clear hb s41 D41
  refine hK.out _ _ s42 (fun hS => ?_)
  clear hK K hS
  clear V41
  refine' wpAnyH_take (i := 7) (v := _) (by simp only [List.getElem?_toArray, List.getElem?_cons_zero, List.getElem?_cons_succ]; rfl) (by kernel_rfl) (by kernel_rfl) (by kernel_rfl) (fun _ _ _ h => h) (yields_eql (by rfl) (.tmp 127) (.tmp 131) rfl m m rfl rfl HML.out HML.out _ SM.out) (by assumption) ?_
  simp only [Act.put, List.setIfInBounds_toArray, List.set_cons_zero, List.set_cons_succ]
  refine wpAnyH_take (i := 8) (v := ?_) (by simp only [List.getElem?_toArray, List.getElem?_cons_zero, List.getElem?_cons_succ]; rfl) (by kernel_rfl) (by kernel_rfl) (by kernel_rfl) (fun _ _ _ h => h) (Or.inl ⟨by rfl, ?_⟩) (by assumption) ?_
  rotate_left 1
  · intro w hSw
    go_simp
    with_reducible rfl
  simp only [Act.put, List.setIfInBounds_toArray, List.set_cons_zero, List.set_cons_succ]
  refine wpAnyH_take (i := 9) (v := ?_) (by simp only [List.getElem?_toArray, List.getElem?_cons_zero, List.getElem?_cons_succ]; rfl) (by kernel_rfl) (by kernel_rfl) (by kernel_rfl) (fun _ _ _ h => h) (Or.inl ⟨by rfl, ?_⟩) (by assumption) ?_
  rotate_left 1
  · intro w hSw
    go_simp
    with_reducible rfl
  simp only [Act.put, List.setIfInBounds_toArray, List.set_cons_zero, List.set_cons_succ]
  refine' wpAnyH_take (i := 10) (v := _) (by simp only [List.getElem?_toArray, List.getElem?_cons_zero, List.getElem?_cons_succ]; rfl) (by kernel_rfl) (by kernel_rfl) (by kernel_rfl) (fun _ _ _ h => h) (yields_vec (by rfl) _ rfl (NM) rfl m HML.out (fun w hSw => hSw _ (.head _))) (by assumption) ?_
  simp only [Act.put, List.setIfInBounds_toArray, List.set_cons_zero, List.set_cons_succ]
  refine' wpAnyH_take (i := 11) (v := _) (by simp only [List.getElem?_toArray, List.getElem?_cons_zero, List.getElem?_cons_succ]; rfl) (by kernel_rfl) (by kernel_rfl) (by kernel_rfl) (fun _ _ _ h => h) (yields_vec (by rfl) _ rfl (w.heap.size) rfl a HA.out (fun w hSw => hSw _ (.tail _ (.head _)))) (by assumption) ?_
  simp only [Act.put, List.setIfInBounds_toArray, List.set_cons_zero, List.set_cons_succ]
  refine' wpAnyH_take (i := 12) (v := _) (by simp only [List.getElem?_toArray, List.getElem?_cons_zero, List.getElem?_cons_succ]; rfl) (by kernel_rfl) (by kernel_rfl) (by kernel_rfl) (fun _ _ _ h => h) (yields_vec (by rfl) _ rfl (w.heap.size + 1) rfl b HB.out (fun w hSw => hSw _ (.tail _ (.tail _ (.head _))))) (by assumption) ?_
  simp only [Act.put, List.setIfInBounds_toArray, List.set_cons_zero, List.set_cons_succ]
  refine' wpAnyH_take (i := 13) (v := _) (by simp only [List.getElem?_toArray, List.getElem?_cons_zero, List.getElem?_cons_succ]; rfl) (by kernel_rfl) (by kernel_rfl) (by kernel_rfl) (fun _ _ _ h => h) (yields_vec (by rfl) _ rfl (w.heap.size) rfl a HA.out (fun w hSw => hSw _ (.tail _ (.head _)))) (by assumption) ?_
  simp only [Act.put, List.setIfInBounds_toArray, List.set_cons_zero, List.set_cons_succ]
  refine' wpAnyH_take (i := 14) (v := _) (by simp only [List.getElem?_toArray, List.getElem?_cons_zero, List.getElem?_cons_succ]; rfl) (by kernel_rfl) (by kernel_rfl) (by kernel_rfl) (fun _ _ _ h => h) (yields_vec (by rfl) _ rfl (w.heap.size + 1) rfl b HB.out (fun w hSw => hSw _ (.tail _ (.tail _ (.head _))))) (by assumption) ?_
  simp only [Act.put, List.setIfInBounds_toArray, List.set_cons_zero, List.set_cons_succ]
  refine wpAnyH_ready (rs := [15]) (by kernel_rfl) (by simp) ?_
  refine AllReadyH.cons (by simp only [List.getElem?_toArray, List.getElem?_cons_zero, List.getElem?_cons_succ]; rfl) (fun K hK => ?_) AllReadyH.nil
  refine ready_lay (by rfl) [a, b, a, b] 4 _ rfl rfl (by omega) (by omega) T6.out rfl ?_
  intro x43 g43 hb hv
  have s43 := HasAll.on s42 hb
  have D43 := two_le D42 hb
  clear hb s42 D42
  refine hK.out _ _ s43 (fun hS => ?_)
  clear hK K hS
  have V43 := hid hv
  clear hv
  simp only [Act.put, List.setIfInBounds_toArray, List.set_cons_zero, List.set_cons_succ]
  refine wpAnyH_ready (rs := [16]) (by kernel_rfl) (by simp) ?_
  refine AllReadyH.cons (by simp only [List.getElem?_toArray, List.getElem?_cons_zero, List.getElem?_cons_succ]; rfl) (fun K hK => ?_) AllReadyH.nil
  go_simp
  refine (merge_lit [a, b, a, b] 4 g43 rfl (by omega) m M3.out _ V43.out).mono ?_
  rintro ee x44 ⟨rfl, hb⟩
  have s44 := HasAll.on s43 hb
  have D44 := two_le D43 hb
  have V43 := hid (V43.out.kept hb (Nat.le_refl _))
  clear hb s43 D43
  refine hK.out _ _ s44 (fun hS => ?_)
  clear hK K hS
  clear V43
  refine' wpAnyH_take (i := 17) (v := _) (by simp only [List.getElem?_toArray, List.getElem?_cons_zero, List.getElem?_cons_succ]; rfl) (by kernel_rfl) (by kernel_rfl) (by kernel_rfl) (fun _ _ _ h => h) (yields_eql (by rfl) (.tmp 135) (.tmp 141) rfl m m rfl rfl HML.out HML.out _ SM.out) (by assumption) ?_
  simp only [Act.put, List.setIfInBounds_toArray, List.set_cons_zero, List.set_cons_succ]
  refine wpAnyH_take (i := 18) (v := ?_) (by simp only [List.getElem?_toArray, List.getElem?_cons_zero, List.getElem?_cons_succ]; rfl) (by kernel_rfl) (by kernel_rfl) (by kernel_rfl) (fun _ _ _ h => h) (Or.inl ⟨by rfl, ?_⟩) (by assumption) ?_
  rotate_left 1
  · intro w hSw
    go_simp
    with_reducible rfl
  simp only [Act.put, List.setIfInBounds_toArray, List.set_cons_zero, List.set_cons_succ]
  refine wpAnyH_take (i := 19) (v := ?_) (by simp only [List.getElem?_toArray, List.getElem?_cons_zero, List.getElem?_cons_succ]; rfl) (by kernel_rfl) (by kernel_rfl) (by kernel_rfl) (fun _ _ _ h => h) (Or.inl ⟨by rfl, ?_⟩) (by assumption) ?_
  rotate_left 1
  · intro w hSw
    go_simp
    with_reducible rfl
  simp only [Act.put, List.setIfInBounds_toArray, List.set_cons_zero, List.set_cons_succ]
  refine' wpAnyH_take (i := 20) (v := _) (by simp only [List.getElem?_toArray, List.getElem?_cons_zero, List.getElem?_cons_succ]; rfl) (by kernel_rfl) (by kernel_rfl) (by kernel_rfl) (fun _ _ _ h => h) (yields_vec (by rfl) _ rfl (w.heap.size) rfl a HA.out (fun w hSw => hSw _ (.tail _ (.head _)))) (by assumption) ?_
  simp only [Act.put, List.setIfInBounds_toArray, List.set_cons_zero, List.set_cons_succ]
  refine' wpAnyH_take (i := 21) (v := _) (by simp only [List.getElem?_toArray, List.getElem?_cons_zero, List.getElem?_cons_succ]; rfl) (by kernel_rfl) (by kernel_rfl) (by kernel_rfl) (fun _ _ _ h => h) (yields_vec (by rfl) _ rfl (w.heap.size) rfl a HA.out (fun w hSw => hSw _ (.tail _ (.head _)))) (by assumption) ?_
  simp only [Act.put, List.setIfInBounds_toArray, List.set_cons_zero, List.set_cons_succ]
  refine' wpAnyH_take (i := 24) (v := _) (by simp only [List.getElem?_toArray, List.getElem?_cons_zero, List.getElem?_cons_succ]; rfl) (by kernel_rfl) (by kernel_rfl) (by kernel_rfl) (fun _ _ _ h => h) (yields_vec (by rfl) _ rfl (w.heap.size) rfl a HA.out (fun w hSw => hSw _ (.tail _ (.head _)))) (by assumption) ?_
  simp only [Act.put, List.setIfInBounds_toArray, List.set_cons_zero, List.set_cons_succ]
  refine wpAnyH_ready (rs := [22]) (by kernel_rfl) (by simp) ?_
  refine AllReadyH.cons (by simp only [List.getElem?_toArray, List.getElem?_cons_zero, List.getElem?_cons_succ]; rfl) (fun K hK => ?_) AllReadyH.nil
  refine ready_lay (by rfl) [a, a] 2 _ rfl rfl (by omega) (by omega) T2.out rfl ?_
  intro x45 g45 hb hv
  have s45 := HasAll.on s44 hb
  have D45 := two_le D44 hb
  clear hb s44 D44
  refine hK.out _ _ s45 (fun hS => ?_)
  clear hK K hS
  have V45 := hid hv
  clear hv
  simp only [Act.put, List.setIfInBounds_toArray, List.set_cons_zero, List.set_cons_succ]
  refine wpAnyH_ready (rs := [23]) (by kernel_rfl) (by simp) ?_
  refine AllReadyH.cons (by simp only [List.getElem?_toArray, List.getElem?_cons_zero, List.getElem?_cons_succ]; rfl) (fun K hK => ?_) AllReadyH.nil
  go_simp
  refine (merge_lit [a, a] 2 g45 rfl (by omega) a M4.out _ V45.out).mono ?_
  rintro ee x46 ⟨rfl, hb⟩
  have s46 := HasAll.on s45 hb
  have D46 := two_le D45 hb
  have V45 := hid (V45.out.kept hb (Nat.le_refl _))
  clear hb s45 D45
  refine hK.out _ _ s46 (fun hS => ?_)
  clear hK K hS
  clear V45
  refine' wpAnyH_take (i := 25) (v := _) (by simp only [List.getElem?_toArray, List.getElem?_cons_zero, List.getElem?_cons_succ]; rfl) (by kernel_rfl) (by kernel_rfl) (by kernel_rfl) (fun _ _ _ h => h) (yields_eql (by rfl) (.tmp 148) (.tmp 149) rfl a a rfl rfl HA.out HA.out _ SAA.out) (by assumption) ?_
  simp only [Act.put, List.setIfInBounds_toArray, List.set_cons_zero, List.set_cons_succ]
  refine wpAnyH_take (i := 26) (v := ?_) (by simp only [List.getElem?_toArray, List.getElem?_cons_zero, List.getElem?_cons_succ]; rfl) (by kernel_rfl) (by kernel_rfl) (by kernel_rfl) (fun _ _ _ h => h) (Or.inl ⟨by rfl, ?_⟩) (by assumption) ?_
  rotate_left 1
  · intro w hSw
    go_simp
    with_reducible rfl
  simp only [Act.put, List.setIfInBounds_toArray, List.set_cons_zero, List.set_cons_succ]
  refine wpAnyH_take (i := 27) (v := ?_) (by simp only [List.getElem?_toArray, List.getElem?_cons_zero, List.getElem?_cons_succ]; rfl) (by kernel_rfl) (by kernel_rfl) (by kernel_rfl) (fun _ _ _ h => h) (Or.inl ⟨by rfl, ?_⟩) (by assumption) ?_
  rotate_left 1
  · intro w hSw
    go_simp
    with_reducible rfl
  simp only [Act.put, List.setIfInBounds_toArray, List.set_cons_zero, List.set_cons_succ]
  refine' wpAnyH_take (i := 28) (v := _) (by simp only [List.getElem?_toArray, List.getElem?_cons_zero, List.getElem?_cons_succ]; rfl) (by kernel_rfl) (by kernel_rfl) (by kernel_rfl) (fun _ _ _ h => h) (yields_vec (by rfl) _ rfl (NM) rfl m HML.out (fun w hSw => hSw _ (.head _))) (by assumption) ?_
  simp only [Act.put, List.setIfInBounds_toArray, List.set_cons_zero, List.set_cons_succ]
  refine' wpAnyH_take (i := 29) (v := _) (by simp only [List.getElem?_toArray, List.getElem?_cons_zero, List.getElem?_cons_succ]; rfl) (by kernel_rfl) (by kernel_rfl) (by kernel_rfl) (fun _ _ _ h => h) (yields_vec (by rfl) _ rfl (w.heap.size + 1 + 1) rfl c HC.out (fun w hSw => hSw _ (.tail _ (.tail _ (.tail _ (.head _)))))) (by assumption) ?_
  simp only [Act.put, List.setIfInBounds_toArray, List.set_cons_zero, List.set_cons_succ]
  refine' wpAnyH_take (i := 32) (v := _) (by simp only [List.getElem?_toArray, List.getElem?_cons_zero, List.getElem?_cons_succ]; rfl) (by kernel_rfl) (by kernel_rfl) (by kernel_rfl) (fun _ _ _ h => h) (yields_vec (by rfl) _ rfl (w.heap.size) rfl a HA.out (fun w hSw => hSw _ (.tail _ (.head _)))) (by assumption) ?_
  simp only [Act.put, List.setIfInBounds_toArray, List.set_cons_zero, List.set_cons_succ]
  refine' wpAnyH_take (i := 33) (v := _) (by simp only [List.getElem?_toArray, List.getElem?_cons_zero, List.getElem?_cons_succ]; rfl) (by kernel_rfl) (by kernel_rfl) (by kernel_rfl) (fun _ _ _ h => h) (yields_vec (by rfl) _ rfl (w.heap.size + 1) rfl b HB.out (fun w hSw => hSw _ (.tail _ (.tail _ (.head _))))) (by assumption) ?_
  simp only [Act.put, List.setIfInBounds_toArray, List.set_cons_zero, List.set_cons_succ]
  refine' wpAnyH_take (i := 34) (v := _) (by simp only [List.getElem?_toArray, List.getElem?_cons_zero, List.getElem?_cons_succ]; rfl) (by kernel_rfl) (by kernel_rfl) (by kernel_rfl) (fun _ _ _ h => h) (yields_vec (by rfl) _ rfl (w.heap.size + 1 + 1) rfl c HC.out (fun w hSw => hSw _ (.tail _ (.tail _ (.tail _ (.head _)))))) (by assumption) ?_
  simp only [Act.put, List.setIfInBounds_toArray, List.set_cons_zero, List.set_cons_succ]
  refine wpAnyH_ready (rs := [30, 35]) (by kernel_rfl) (by simp) ?_
  refine AllReadyH.cons (by simp only [List.getElem?_toArray, List.getElem?_cons_zero, List.getElem?_cons_succ]; rfl) (fun K hK => ?_) (AllReadyH.cons (by simp only [List.getElem?_toArray, List.getElem?_cons_zero, List.getElem?_cons_succ]; rfl) (fun K hK => ?_) AllReadyH.nil)
  · as_aux_lemma =>
    refine ready_lay (by rfl) [m, c] 2 _ rfl rfl (by omega) (by omega) T3.out rfl ?_
    intro x47 g47 hb hv
    have s47 := HasAll.on s46 hb
    have D47 := two_le D46 hb
    clear hb s46 D46
    refine hK.out _ _ s47 (fun hS => ?_)
    clear hK K hS
    have V47 := hid hv
    clear hv
    simp only [Act.put, List.setIfInBounds_toArray, List.set_cons_zero, List.set_cons_succ]
    refine wpAnyH_ready (rs := [31, 35]) (by kernel_rfl) (by simp) ?_
    refine AllReadyH.cons (by simp only [List.getElem?_toArray, List.getElem?_cons_zero, List.getElem?_cons_succ]; rfl) (fun K hK => ?_) (AllReadyH.cons (by simp only [List.getElem?_toArray, List.getElem?_cons_zero, List.getElem?_cons_succ]; rfl) (fun K hK => ?_) AllReadyH.nil)
    · as_aux_lemma =>
      go_simp
      refine (merge_lit [m, c] 2 g47 rfl (by omega) o M5.out _ V47.out).mono ?_
      rintro ee x48 ⟨rfl, hb⟩
      have s48 := HasAll.on s47 hb
      have D48 := two_le D47 hb
      have V47 := hid (V47.out.kept hb (Nat.le_refl _))
      clear hb s47 D47
      refine hK.out _ _ s48 (fun hS => ?_)
      clear hK K hS
      clear V47
      refine wpAnyH_ready (rs := [35]) (by kernel_rfl) (by simp) ?_
      refine AllReadyH.cons (by simp only [List.getElem?_toArray, List.getElem?_cons_zero, List.getElem?_cons_succ]; rfl) (fun K hK => ?_) AllReadyH.nil
      refine ready_lay (by rfl) [b, c] 2 _ rfl rfl (by omega) (by omega) T4.out rfl ?_
      intro x49 g49 hb hv
      have s49 := HasAll.on s48 hb
      have D49 := two_le D48 hb
      clear hb s48 D48
      refine hK.out _ _ s49 (fun hS => ?_)
      clear hK K hS
      have V49 := hid hv
      clear hv
      simp only [Act.put, List.setIfInBounds_toArray, List.set_cons_zero, List.set_cons_succ]
      refine wpAnyH_ready (rs := [36]) (by kernel_rfl) (by simp) ?_
      refine AllReadyH.cons (by simp only [List.getElem?_toArray, List.getElem?_cons_zero, List.getElem?_cons_succ]; rfl) (fun K hK => ?_) AllReadyH.nil
      go_simp
      refine (merge_lit [b, c] 2 g49 rfl (by omega) n M6.out _ V49.out).mono ?_
      rintro ee x50 ⟨rfl, hb⟩
      have s50 := HasAll.on s49 hb
      have D50 := two_le D49 hb
      have V49 := hid (V49.out.kept hb (Nat.le_refl _))
      clear hb s49 D49
      refine hK.out _ _ s50 (fun hS => ?_)
      clear hK K hS
      clear V49
      refine wpAnyH_ready (rs := [37]) (by kernel_rfl) (by simp) ?_
      refine AllReadyH.cons (by simp only [List.getElem?_toArray, List.getElem?_cons_zero, List.getElem?_cons_succ]; rfl) (fun K hK => ?_) AllReadyH.nil
      refine ready_lay (by rfl) [a, n] 2 _ rfl rfl (by omega) (by omega) T5.out rfl ?_
      intro x51 g51 hb hv
      have s51 := HasAll.on s50 hb
      have D51 := two_le D50 hb
      clear hb s50 D50
      refine hK.out _ _ s51 (fun hS => ?_)
      clear hK K hS
      have V51 := hid hv
      clear hv
      simp only [Act.put, List.setIfInBounds_toArray, List.set_cons_zero, List.set_cons_succ]
      refine wpAnyH_ready (rs := [38]) (by kernel_rfl) (by simp) ?_
      refine AllReadyH.cons (by simp only [List.getElem?_toArray, List.getElem?_cons_zero, List.getElem?_cons_succ]; rfl) (fun K hK => ?_) AllReadyH.nil
      go_simp
      refine (merge_lit [a, n] 2 g51 rfl (by omega) o M7.out _ V51.out).mono ?_
      rintro ee x52 ⟨rfl, hb⟩
      have s52 := HasAll.on s51 hb
      have D52 := two_le D51 hb
      have V51 := hid (V51.out.kept hb (Nat.le_refl _))
      clear hb s51 D51
      refine hK.out _ _ s52 (fun hS => ?_)
      clear hK K hS
      clear V51
      refine' wpAnyH_take (i := 39) (v := _) (by simp only [List.getElem?_toArray, List.getElem?_cons_zero, List.getElem?_cons_succ]; rfl) (by kernel_rfl) (by kernel_rfl) (by kernel_rfl) (fun _ _ _ h => h) (yields_eql (by rfl) (.tmp 156) (.tmp 163) rfl o o rfl rfl HOL.out HOL.out _ SO.out) (by assumption) ?_
      simp only [Act.put, List.setIfInBounds_toArray, List.set_cons_zero, List.set_cons_succ]
      refine wpAnyH_take (i := 40) (v := ?_) (by simp only [List.getElem?_toArray, List.getElem?_cons_zero, List.getElem?_cons_succ]; rfl) (by kernel_rfl) (by kernel_rfl) (by kernel_rfl) (fun _ _ _ h => h) (Or.inl ⟨by rfl, ?_⟩) (by assumption) ?_
      rotate_left 1
      · intro w hSw
        go_simp
        with_reducible rfl
      simp only [Act.put, List.setIfInBounds_toArray, List.set_cons_zero, List.set_cons_succ]
      refine wpAnyH_take (i := 41) (v := ?_) (by simp only [List.getElem?_toArray, List.getElem?_cons_zero, List.getElem?_cons_succ]; rfl) (by kernel_rfl) (by kernel_rfl) (by kernel_rfl) (fun _ _ _ h => h) (Or.inl ⟨by rfl, ?_⟩) (by assumption) ?_
      rotate_left 1
      · intro w hSw
        go_simp
        with_reducible rfl
      simp only [Act.put, List.setIfInBounds_toArray, List.set_cons_zero, List.set_cons_succ]
      refine wpAnyH_ready (rs := [42]) (by kernel_rfl) (by simp) ?_
      refine AllReadyH.cons (by simp only [List.getElem?_toArray, List.getElem?_cons_zero, List.getElem?_cons_succ]; rfl) (fun K hK => ?_) AllReadyH.nil
      go_simp
      refine (awake_any _).mono ?_
      rintro ee x53 ⟨rfl, hb⟩
      have s53 := HasAll.on s52 hb
      have D53 := two_le D52 hb
      clear hb s52 D52
      refine hK.out _ _ s53 (fun hS => ?_)
      clear hK K hS
      refine wpAnyH_take (i := 43) (v := ?_) (by simp only [List.getElem?_toArray, List.getElem?_cons_zero, List.getElem?_cons_succ]; rfl) (by kernel_rfl) (by kernel_rfl) (by kernel_rfl) (fun _ _ _ h => h) (Or.inl ⟨by rfl, ?_⟩) (by assumption) ?_
      rotate_left 1
      · intro w hSw
        go_simp
        with_reducible rfl
      simp only [Act.put, List.setIfInBounds_toArray, List.set_cons_zero, List.set_cons_succ]
      refine wpAnyH_take (i := 44) (v := ?_) (by simp only [List.getElem?_toArray, List.getElem?_cons_zero, List.getElem?_cons_succ]; rfl) (by kernel_rfl) (by kernel_rfl) (by kernel_rfl) (fun _ _ _ h => h) (Or.inl ⟨by rfl, ?_⟩) (by assumption) ?_
      rotate_left 1
      · intro w hSw
        go_simp
        with_reducible rfl
      simp only [Act.put, List.setIfInBounds_toArray, List.set_cons_zero, List.set_cons_succ]
      refine wpAnyH_done (by kernel_rfl) ?_ _
      refine NoPanic.normal ?_
      go_wp2
      go_ret
      exact ⟨rfl, D53.out⟩
    · as_aux_lemma =>
      refine ready_lay (by rfl) [b, c] 2 _ rfl rfl (by omega) (by omega) T4.out rfl ?_
      intro x48 g48 hb hv
      have s48 := HasAll.on s47 hb
      have D48 := two_le D47 hb
      have V47 := hid (V47.out.kept hb (Nat.le_refl _))
      clear hb s47 D47
      refine hK.out _ _ s48 (fun hS => ?_)
      clear hK K hS
      have V48 := hid hv
      clear hv
      simp only [Act.put, List.setIfInBounds_toArray, List.set_cons_zero, List.set_cons_succ]
      refine wpAnyH_ready (rs := [31]) (by kernel_rfl) (by simp) ?_
      refine AllReadyH.cons (by simp only [List.getElem?_toArray, List.getElem?_cons_zero, List.getElem?_cons_succ]; rfl) (fun K hK => ?_) AllReadyH.nil
      go_simp
      refine (merge_lit [m, c] 2 g47 rfl (by omega) o M5.out _ V47.out).mono ?_
      rintro ee x49 ⟨rfl, hb⟩
      have s49 := HasAll.on s48 hb
      have D49 := two_le D48 hb
      have V47 := hid (V47.out.kept hb (Nat.le_refl _))
      have V48 := hid (V48.out.kept hb (Nat.le_refl _))
      clear hb s48 D48
      refine hK.out _ _ s49 (fun hS => ?_)
      clear hK K hS
      clear V47
      refine wpAnyH_ready (rs := [36]) (by kernel_rfl) (by simp) ?_
      refine AllReadyH.cons (by simp only [List.getElem?_toArray, List.getElem?_cons_zero, List.getElem?_cons_succ]; rfl) (fun K hK => ?_) AllReadyH.nil
      go_simp
      refine (merge_lit [b, c] 2 g48 rfl (by omega) n M6.out _ V48.out).mono ?_
      rintro ee x50 ⟨rfl, hb⟩
      have s50 := HasAll.on s49 hb
      have D50 := two_le D49 hb
      have V48 := hid (V48.out.kept hb (Nat.le_refl _))
      clear hb s49 D49
      refine hK.out _ _ s50 (fun hS => ?_)
      clear hK K hS
      clear V48
      refine wpAnyH_ready (rs := [37]) (by kernel_rfl) (by simp) ?_
      refine AllReadyH.cons (by simp only [List.getElem?_toArray, List.getElem?_cons_zero, List.getElem?_cons_succ]; rfl) (fun K hK => ?_) AllReadyH.nil
      refine ready_lay (by rfl) [a, n] 2 _ rfl rfl (by omega) (by omega) T5.out rfl ?_
      intro x51 g51 hb hv
      have s51 := HasAll.on s50 hb
      have D51 := two_le D50 hb
      clear hb s50 D50
      refine hK.out _ _ s51 (fun hS => ?_)
      clear hK K hS
      have V51 := hid hv
      clear hv
      simp only [Act.put, List.setIfInBounds_toArray, List.set_cons_zero, List.set_cons_succ]
      refine wpAnyH_ready (rs := [38]) (by kernel_rfl) (by simp) ?_
      refine AllReadyH.cons (by simp only [List.getElem?_toArray, List.getElem?_cons_zero, List.getElem?_cons_succ]; rfl) (fun K hK => ?_) AllReadyH.nil
      go_simp
      refine (merge_lit [a, n] 2 g51 rfl (by omega) o M7.out _ V51.out).mono ?_
      rintro ee x52 ⟨rfl, hb⟩
      have s52 := HasAll.on s51 hb
      have D52 := two_le D51 hb
      have V51 := hid (V51.out.kept hb (Nat.le_refl _))
      clear hb s51 D51
      refine hK.out _ _ s52 (fun hS => ?_)
      clear hK K hS
      clear V51
      refine' wpAnyH_take (i := 39) (v := _) (by simp only [List.getElem?_toArray, List.getElem?_cons_zero, List.getElem?_cons_succ]; rfl) (by kernel_rfl) (by kernel_rfl) (by kernel_rfl) (fun _ _ _ h => h) (yields_eql (by rfl) (.tmp 156) (.tmp 163) rfl o o rfl rfl HOL.out HOL.out _ SO.out) (by assumption) ?_
      simp only [Act.put, List.setIfInBounds_toArray, List.set_cons_zero, List.set_cons_succ]
      refine wpAnyH_take (i := 40) (v := ?_) (by simp only [List.getElem?_toArray, List.getElem?_cons_zero, List.getElem?_cons_succ]; rfl) (by kernel_rfl) (by kernel_rfl) (by kernel_rfl) (fun _ _ _ h => h) (Or.inl ⟨by rfl, ?_⟩) (by assumption) ?_
      rotate_left 1
      · intro w hSw
        go_simp
        with_reducible rfl
      simp only [Act.put, List.setIfInBounds_toArray, List.set_cons_zero, List.set_cons_succ]
      refine wpAnyH_take (i := 41) (v := ?_) (by simp only [List.getElem?_toArray, List.getElem?_cons_zero, List.getElem?_cons_succ]; rfl) (by kernel_rfl) (by kernel_rfl) (by kernel_rfl) (fun _ _ _ h => h) (Or.inl ⟨by rfl, ?_⟩) (by assumption) ?_
      rotate_left 1
      · intro w hSw
        go_simp
        with_reducible rfl
      simp only [Act.put, List.setIfInBounds_toArray, List.set_cons_zero, List.set_cons_succ]
      refine wpAnyH_ready (rs := [42]) (by kernel_rfl) (by simp) ?_
      refine AllReadyH.cons (by simp only [List.getElem?_toArray, List.getElem?_cons_zero, List.getElem?_cons_succ]; rfl) (fun K hK => ?_) AllReadyH.nil
      go_simp
      refine (awake_any _).mono ?_
      rintro ee x53 ⟨rfl, hb⟩
      have s53 := HasAll.on s52 hb
      have D53 := two_le D52 hb
      clear hb s52 D52
      refine hK.out _ _ s53 (fun hS => ?_)
      clear hK K hS
      refine wpAnyH_take (i := 43) (v := ?_) (by simp only [List.getElem?_toArray, List.getElem?_cons_zero, List.getElem?_cons_succ]; rfl) (by kernel_rfl) (by kernel_rfl) (by kernel_rfl) (fun _ _ _ h => h) (Or.inl ⟨by rfl, ?_⟩) (by assumption) ?_
      rotate_left 1
      · intro w hSw
        go_simp
        with_reducible rfl
      simp only [Act.put, List.setIfInBounds_toArray, List.set_cons_zero, List.set_cons_succ]
      refine wpAnyH_take (i := 44) (v := ?_) (by simp only [List.getElem?_toArray, List.getElem?_cons_zero, List.getElem?_cons_succ]; rfl) (by kernel_rfl) (by kernel_rfl) (by kernel_rfl) (fun _ _ _ h => h) (Or.inl ⟨by rfl, ?_⟩) (by assumption) ?_
      rotate_left 1
      · intro w hSw
        go_simp
        with_reducible rfl
      simp only [Act.put, List.setIfInBounds_toArray, List.set_cons_zero, List.set_cons_succ]
      refine wpAnyH_done (by kernel_rfl) ?_ _
      refine NoPanic.normal ?_
      go_wp2
      go_ret
      exact ⟨rfl, D53.out⟩
  · as_aux_lemma =>
    refine ready_lay (by rfl) [b, c] 2 _ rfl rfl (by omega) (by omega) T4.out rfl ?_
    intro x47 g47 hb hv
    have s47 := HasAll.on s46 hb
    have D47 := two_le D46 hb
    clear hb s46 D46
    refine hK.out _ _ s47 (fun hS => ?_)
    clear hK K hS
    have V47 := hid hv
    clear hv
    simp only [Act.put, List.setIfInBounds_toArray, List.set_cons_zero, List.set_cons_succ]
    refine wpAnyH_ready (rs := [30]) (by kernel_rfl) (by simp) ?_
    refine AllReadyH.cons (by simp only [List.getElem?_toArray, List.getElem?_cons_zero, List.getElem?_cons_succ]; rfl) (fun K hK => ?_) AllReadyH.nil
    refine ready_lay (by rfl) [m, c] 2 _ rfl rfl (by omega) (by omega) T3.out rfl ?_
    intro x48 g48 hb hv
    have s48 := HasAll.on s47 hb
    have D48 := two_le D47 hb
    have V47 := hid (V47.out.kept hb (Nat.le_refl _))
    clear hb s47 D47
    refine hK.out _ _ s48 (fun hS => ?_)
    clear hK K hS
    have V48 := hid hv
    clear hv
    simp only [Act.put, List.setIfInBounds_toArray, List.set_cons_zero, List.set_cons_succ]
    refine wpAnyH_ready (rs := [31]) (by kernel_rfl) (by simp) ?_
    refine AllReadyH.cons (by simp only [List.getElem?_toArray, List.getElem?_cons_zero, List.getElem?_cons_succ]; rfl) (fun K hK => ?_) AllReadyH.nil
    go_simp
    refine (merge_lit [m, c] 2 g48 rfl (by omega) o M5.out _ V48.out).mono ?_
    rintro ee x49 ⟨rfl, hb⟩
    have s49 := HasAll.on s48 hb
    have D49 := two_le D48 hb
    have V47 := hid (V47.out.kept hb (Nat.le_refl _))
    have V48 := hid (V48.out.kept hb (Nat.le_refl _))
    clear hb s48 D48
    refine hK.out _ _ s49 (fun hS => ?_)
    clear hK K hS
    clear V48
    refine wpAnyH_ready (rs := [36]) (by kernel_rfl) (by simp) ?_
    refine AllReadyH.cons (by simp only [List.getElem?_toArray, List.getElem?_cons_zero, List.getElem?_cons_succ]; rfl) (fun K hK => ?_) AllReadyH.nil
    go_simp
    refine (merge_lit [b, c] 2 g47 rfl (by omega) n M6.out _ V47.out).mono ?_
    rintro ee x50 ⟨rfl, hb⟩
    have s50 := HasAll.on s49 hb
    have D50 := two_le D49 hb
    have V47 := hid (V47.out.kept hb (Nat.le_refl _))
    clear hb s49 D49
    refine hK.out _ _ s50 (fun hS => ?_)
    clear hK K hS
    clear V47
    refine wpAnyH_ready (rs := [37]) (by kernel_rfl) (by simp) ?_
    refine AllReadyH.cons (by simp only [List.getElem?_toArray, List.getElem?_cons_zero, List.getElem?_cons_succ]; rfl) (fun K hK => ?_) AllReadyH.nil
    refine ready_lay (by rfl) [a, n] 2 _ rfl rfl (by omega) (by omega) T5.out rfl ?_
    intro x51 g51 hb hv
    have s51 := HasAll.on s50 hb
    have D51 := two_le D50 hb
    clear hb s50 D50
    refine hK.out _ _ s51 (fun hS => ?_)
    clear hK K hS
    have V51 := hid hv
    clear hv
    simp only [Act.put, List.setIfInBounds_toArray, List.set_cons_zero, List.set_cons_succ]
    refine wpAnyH_ready (rs := [38]) (by kernel_rfl) (by simp) ?_
    refine AllReadyH.cons (by simp only [List.getElem?_toArray, List.getElem?_cons_zero, List.getElem?_cons_succ]; rfl) (fun K hK => ?_) AllReadyH.nil
    go_simp
    refine (merge_lit [a, n] 2 g51 rfl (by omega) o M7.out _ V51.out).mono ?_
    rintro ee x52 ⟨rfl, hb⟩
    have s52 := HasAll.on s51 hb
    have D52 := two_le D51 hb
    have V51 := hid (V51.out.kept hb (Nat.le_refl _))
    clear hb s51 D51
    refine hK.out _ _ s52 (fun hS => ?_)
    clear hK K hS
    clear V51
    refine' wpAnyH_take (i := 39) (v := _) (by simp only [List.getElem?_toArray, List.getElem?_cons_zero, List.getElem?_cons_succ]; rfl) (by kernel_rfl) (by kernel_rfl) (by kernel_rfl) (fun _ _ _ h => h) (yields_eql (by rfl) (.tmp 156) (.tmp 163) rfl o o rfl rfl HOL.out HOL.out _ SO.out) (by assumption) ?_
    simp only [Act.put, List.setIfInBounds_toArray, List.set_cons_zero, List.set_cons_succ]
    refine wpAnyH_take (i := 40) (v := ?_) (by simp only [List.getElem?_toArray, List.getElem?_cons_zero, List.getElem?_cons_succ]; rfl) (by kernel_rfl) (by kernel_rfl) (by kernel_rfl) (fun _ _ _ h => h) (Or.inl ⟨by rfl, ?_⟩) (by assumption) ?_
    rotate_left 1
    · intro w hSw
      go_simp
      with_reducible rfl
    simp only [Act.put, List.setIfInBounds_toArray, List.set_cons_zero, List.set_cons_succ]
    refine wpAnyH_take (i := 41) (v := ?_) (by simp only [List.getElem?_toArray, List.getElem?_cons_zero, List.getElem?_cons_succ]; rfl) (by kernel_rfl) (by kernel_rfl) (by kernel_rfl) (fun _ _ _ h => h) (Or.inl ⟨by rfl, ?_⟩) (by assumption) ?_
    rotate_left 1
    · intro w hSw
      go_simp
      with_reducible rfl
    simp only [Act.put, List.setIfInBounds_toArray, List.set_cons_zero, List.set_cons_succ]
    refine wpAnyH_ready (rs := [42]) (by kernel_rfl) (by simp) ?_
    refine AllReadyH.cons (by simp only [List.getElem?_toArray, List.getElem?_cons_zero, List.getElem?_cons_succ]; rfl) (fun K hK => ?_) AllReadyH.nil
    go_simp
    refine (awake_any _).mono ?_
    rintro ee x53 ⟨rfl, hb⟩
    have s53 := HasAll.on s52 hb
    have D53 := two_le D52 hb
    clear hb s52 D52
    refine hK.out _ _ s53 (fun hS => ?_)
    clear hK K hS
    refine wpAnyH_take (i := 43) (v := ?_) (by simp only [List.getElem?_toArray, List.getElem?_cons_zero, List.getElem?_cons_succ]; rfl) (by kernel_rfl) (by kernel_rfl) (by kernel_rfl) (fun _ _ _ h => h) (Or.inl ⟨by rfl, ?_⟩) (by assumption) ?_
    rotate_left 1
    · intro w hSw
      go_simp
      with_reducible rfl
    simp only [Act.put, List.setIfInBounds_toArray, List.set_cons_zero, List.set_cons_succ]
    refine wpAnyH_take (i := 44) (v := ?_) (by simp only [List.getElem?_toArray, List.getElem?_cons_zero, List.getElem?_cons_succ]; rfl) (by kernel_rfl) (by kernel_rfl) (by kernel_rfl) (fun _ _ _ h => h) (Or.inl ⟨by rfl, ?_⟩) (by assumption) ?_
    rotate_left 1
    · intro w hSw
      go_simp
      with_reducible rfl
    simp only [Act.put, List.setIfInBounds_toArray, List.set_cons_zero, List.set_cons_succ]
    refine wpAnyH_done (by kernel_rfl) ?_ _
    refine NoPanic.normal ?_
    go_wp2
    go_ret
    exact ⟨rfl, D53.out⟩
end Go.Proofs.Ytmmbnobbpnndkaa
