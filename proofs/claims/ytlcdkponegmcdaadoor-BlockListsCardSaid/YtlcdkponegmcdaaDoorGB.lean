/- The document's Part, List, Same: what each call does. Conditions: bytes in a block of the world. -/
import Derived.Test.YtlcdkponegmcdaaDoorGA
namespace Go.Proofs.YtlcdkponegmcdaaDoor
open Go.RowKit
theorem blocksL_len (xs : By) : (blocksL xs).length = cntI xs.length := by
  by_cases h : xs.length ≤ 4096
  · rw [blocksL_ok xs h, blocksTo_len, cntI_nat _ h]
  · rw [blocksL_long xs (by omega), cntI_no _ (.inr (by omega))]; rfl
theorem blocksL_at (xs : By) (k : Nat) (h : k < cntI xs.length) : (blocksL xs).getD k [] = partL xs k := by
  by_cases hl : xs.length ≤ 4096
  · rw [blocksL_ok xs hl, blocksTo_at _ _ _ (by rw [cntI_nat _ hl] at h; exact h)]
  · rw [cntI_no _ (.inr (by omega))] at h; omega
set_option maxRecDepth 100000 in
set_option maxHeartbeats 4000000 in
theorem rpart_any (v : Value) (xs : By) (A : Option Addr) (cap bb off : Nat) (i : Int) (w : World) (h : Bytes w v xs A cap bb off) (hp : 0 < w.heap.size) (hmax : xs.length ≤ 100000) :
    Calls Tryd.prog 18 #[v, .int .i64 i] w fun e w' => ∃ u, e = .returned u ∧ Fresh w.heap.size w' u (partI xs i) ∧ Below w.heap.size w w' := by
  have CB := hid (rblocks_any v xs A cap bb off w h hp hmax)
  obtain ⟨c, HC⟩ : ∃ c, Hid ((blocksL xs).length = c) := ⟨_, rfl⟩
  have HCI : Hid (cntI (xs.length : Int) = c) := by show _ = _; rw [← HC.out, blocksL_len]
  clear h hp hmax
  by_cases h1 : i < 0
  · have HV : Hid (partI xs i = []) := by show _ = _; rw [partI, if_pos (.inl h1)]
    go_enter Tryd.func18, Tryd.ntmps18
    go_wp2_with (go_at_call 35; refine CB.out.mono ?_; rintro e1 w1 ⟨v1, rfl, hl1, hb1⟩
                 obtain ⟨A1, c1, hv1⟩ := hl1.form
                 rw [HC.out] at hv1
                 subst hv1)
    go_ret
    exact ⟨_, rfl, by rw [HV.out]; exact fresh_nil _ _, hb1⟩
  · obtain ⟨k, rfl⟩ := Int.eq_ofNat_of_zero_le (a := i) (by omega)
    by_cases h2 : (c : Int) ≤ (k : Int)
    · have HV : Hid (partI xs (k : Int) = []) := by show _ = _; rw [partI, if_pos (.inr (by rw [HCI.out]; exact h2))]
      go_enter Tryd.func18, Tryd.ntmps18
      go_wp2_with (go_at_call 35; refine CB.out.mono ?_; rintro e1 w1 ⟨v1, rfl, hl1, hb1⟩
                   obtain ⟨A1, c1, hv1⟩ := hl1.form
                   rw [HC.out] at hv1
                   subst hv1)
      go_ret
      exact ⟨_, rfl, by rw [HV.out]; exact fresh_nil _ _, hb1⟩
    · have hkc : k < c := by omega
      have hkc2 : (k : Int) < (c : Int) := by omega
      have HV : Hid ((blocksL xs).getD k [] = partI xs (k : Int)) := by
        show _ = _
        rw [partI, if_neg (by rw [HCI.out]; omega), blocksL_at _ _ (by rw [HCI.out]; exact hkc)]; rfl
      go_enter Tryd.func18, Tryd.ntmps18
      go_wp2_with (go_at_call 35; refine CB.out.mono ?_; rintro e1 w1 ⟨v1, rfl, hl1, hb1⟩
                   obtain ⟨g, c1, u, hv1, hcell, hfu⟩ := hl1.at_ k (by rw [HC.out]; exact hkc)
                   rw [HC.out] at hv1
                   subst hv1
                   have HB1 := hid hb1
                   have HFU := hid hfu
                   clear hl1 hb1 hfu)
      go_ret
      exact ⟨_, rfl, by rw [← HV.out]; exact HFU.out, HB1.out⟩
set_option maxRecDepth 100000 in
set_option maxHeartbeats 4000000 in
theorem rlist_long (v : Value) (xs : By) (A : Option Addr) (cap bb off : Nat) (w : World) (h : Bytes w v xs A cap bb off) (hl : 4096 < xs.length) :
    Calls Tryd.prog 16 #[v] w fun e w' => e = .returned (.tuple #[.slice none 0 0, .int .i64 3]) ∧ w = w' := by
  have e0 := h.form
  rw [e0]
  obtain ⟨n, HN⟩ : ∃ n, Hid (xs.length = n) := ⟨_, rfl⟩
  rw [HN.out] at hl ⊢
  have h1 : (4096 : Int) < (n : Int) := by omega
  clear h e0 hl
  go_enter Tryd.func16, Tryd.ntmps16
  go_wp2
  go_ret2
  exact ⟨rfl, rfl⟩
set_option maxRecDepth 100000 in
set_option maxHeartbeats 4000000 in
theorem rlist_any (v : Value) (xs : By) (A : Option Addr) (cap bb off : Nat) (w : World) (h : Bytes w v xs A cap bb off) (hp : 0 < w.heap.size) (hl : xs.length ≤ 4096) :
    Calls Tryd.prog 16 #[v] w fun e w' => ∃ v', e = .returned (.tuple #[v', .int .i64 0]) ∧ Dgs w.heap.size w' v' (hashes xs) ∧ Below w.heap.size w w' := by
  have CB := hid (rblocks_any v xs A cap bb off w h hp (by omega))
  have e0 := h.form
  obtain ⟨n, HN⟩ : ∃ n, Hid (xs.length = n) := ⟨_, rfl⟩
  obtain ⟨c, HC⟩ : ∃ c, Hid (cntL xs.length = c) := ⟨_, rfl⟩
  have hc32 := cntL_le xs.length hl
  rw [HC.out] at hc32
  rw [blocksL_ok xs hl, HC.out] at CB
  have HBL : Hid ((blocksTo xs c).length = c) := blocksTo_len xs c
  have HAT : Hid (∀ k, k < c → (blocksTo xs c).getD k [] = partL xs k) := fun k hk => blocksTo_at xs c k hk
  have HV : Hid (hashes xs = listTo xs c) := by show _ = _; rw [hashes, HC.out]
  have HPOS := hid hp
  have h1 : ¬ (4096 : Int) < (n : Int) := by rw [← HN.out]; omega
  obtain ⟨bs, HBS⟩ : ∃ bs, Hid (blocksTo xs c = bs) := ⟨_, rfl⟩
  rw [HBS.out] at CB HBL HAT
  rw [HN.out] at e0
  rw [e0] at CB ⊢
  clear h e0 hl hp
  go_enter Tryd.func16, Tryd.ntmps16
  go_wp2_with (go_at_call 35; refine CB.out.mono ?_; rintro e1 w1 ⟨v1, rfl, hl1, hb1⟩
               obtain ⟨A1, c1, hv1⟩ := hl1.form
               rw [HBL.out] at hv1
               subst hv1
               have L1 := hid hl1
               have B1 := hid hb1
               clear hl1 hb1)
  go_loopw [5, 6, 7] (fun v5 v6 _ wr => ∃ k : Nat, k ≤ c ∧ v6 = .int .i64 (k : Int) ∧ Hid (Dgs w.heap.size wr v5 (listTo xs k)) ∧ Hid (Below w.heap.size w wr) ∧ Hid (Bls w.heap.size wr (.slice A1 c c1) bs)) (fun _ v6 _ _ => c - (intOf v6).toNat)
  case atStart => exact ⟨0, by omega, rfl, Dgs.nil _ _, B1.out, L1.out⟩
  case round =>
    obtain ⟨k, hk, rfl, J1, J2, J3⟩ := hrel
    by_cases hlt : k < c
    · have hlt2 : (k : Int) < (c : Int) := by omega
      have w1 : IntKind.i64.wrap ((k : Int) + 1) = (k : Int) + 1 := i64in _ (by omega) (by omega)
      obtain ⟨g, c9, u, hv9, hcell, hfu⟩ := J3.out.at_ k (by rw [HBL.out]; exact hlt)
      rw [HBL.out] at hv9
      injection hv9 with hA1 hn1 hc1
      subst hA1
      subst hc1
      clear hn1
      rw [HAT.out k hlt] at hfu
      obtain ⟨A2, c2, b2, hy2, _, _⟩ := hfu.bytes (Nat.lt_of_lt_of_le HPOS.out J2.out.size)
      have hyf := hy2.form
      obtain ⟨m, HM⟩ : ∃ m, Hid ((partL xs k).length = m) := ⟨_, rfl⟩
      rw [HM.out] at hyf
      subst hyf
      have Y2 := hid hy2
      obtain ⟨d, HD⟩ : ∃ d, Hid (dg (partL xs k) = d) := ⟨_, rfl⟩
      have HDL : Hid (d.length = 32) := by show _ = _; rw [← HD.out]; exact dg_len _
      have HNX : Hid (listTo xs (k + 1) = listTo xs k ++ [d]) := by show _ = _; rw [listTo_next, HD.out]
      have HPL := hid (partL_le xs k)
      have HZ1 := hid (size_h d HDL.out)
      have HZ2 := hid (size_z d HDL.out)
      clear hfu hy2
      go_wp2_with (first
        | (go_at_call 21; refine (rsum_any _ _ _ _ _ _ _ Y2.out (Nat.le_trans HPL.out (by omega))).mono ?_; rintro e3 w3 ⟨rfl, hb3⟩
           rw [HD.out]
           have B3 : Hid (Below w.heap.size w w3) := J2.out.trans (hb3.mono J2.out.size)
           have D3 : Hid (Dgs w.heap.size w3 u5 (listTo xs k)) := J1.out.kept hb3 (Nat.le_refl _)
           have L3 : Hid (Bls w.heap.size w3 (.slice (some ⟨g, 0, none⟩) c c1) bs) := J3.out.kept hb3
           clear hb3)
        | (refine wpList_store_row rfl 27 (.tmp 7) (.tmp 23) rfl w3.heap.size (hvec d) rfl rfl 27 (hvec (List.replicate 32 0)) (Has.fresh w3 27 _) HZ1.out HZ2.out (hvec_one _) ?_
           generalize hG : World.setRow _ _ _ = W1
           obtain ⟨W0, hG0, X1, X2⟩ := box_h w3 d HDL.out
           obtain rfl : W0 = W1 := hG0.symm.trans hG
           have BW : Hid (Below w.heap.size w W0) := B3.out.trans (X2.out.mono B3.out.size)
           have DW : Hid (Dgs w.heap.size W0 u5 (listTo xs k)) := D3.out.kept X2.out (Nat.le_refl _)
           have LW : Hid (Bls w.heap.size W0 (.slice (some ⟨g, 0, none⟩) c c1) bs) := L3.out.kept X2.out
           have AP := hid (append_dg (W0.alloc (.cells (hvec d) 27)) w.heap.size u5 (listTo xs k) (DW.out.kept ((Below.refl _ _).alloc (Nat.le_refl _) _) (Nat.le_refl _)) d HDL.out ⟨W0.heap.size, 0, none⟩ (fun j hj => by rw [add_at, Nat.zero_add, (Has.fresh W0 27 (hvec d)).at_ j, hvec, List.getElem?_toArray]; exact get_map (by rw [HDL.out]; exact hj)) (by rw [listTo_len]; omega) (by have := BW.out.size; simp; omega) 28)
           obtain ⟨v5, w5, hr5, hd5, hg5⟩ := AP.out
           have R5 := hid hr5
           have D5 : Hid (Dgs w.heap.size w5 v5 (listTo xs (k + 1))) := by show Dgs _ _ _ _; rw [HNX.out]; exact hd5
           have B5 : Hid (Below w.heap.size w w5) := (BW.out.alloc BW.out.size (.cells (hvec d) 27)).grown hg5 (by have := BW.out.size; simp; omega) (fun g hg => (DW.out.own.lt g hg).1)
           have L5 : Hid (Bls w.heap.size w5 (.slice (some ⟨g, 0, none⟩) c c1) bs) := (LW.out.kept ((Below.refl _ W0).alloc (Nat.le_refl _) (.cells (hvec d) 27))).grown (DW.out.kept ((Below.refl _ W0).alloc (Nat.le_refl _) (.cells (hvec d) 27)) (Nat.le_refl _)).own (by decide) (by decide) hg5
           clear hG hG0 AP hr5 hd5 hg5)
        | (refine wpList_load_row rfl 27 (.tmp 7) rfl w3.heap.size rfl 27 (hvec d) (0, 0) _ X1.out Tryd.underlying27 rfl HZ1.out ?_)
        | (refine wpList_build_dg (by rfl) (.tmp 25) rfl d rfl HDL.out ?_)
        | (refine wpList_append_run rfl (.tmp 24) (.tmp 26) 28 28 rfl ⟨_, _, R5.out, ?_⟩))
      go_roundw
      case rel => exact ⟨k + 1, by omega, by go_num, D5.out, B5.out, L5.out⟩
      case measure => simp [intOf]; omega
    · obtain rfl : k = c := by omega
      go_wp2
      go_ret2
      exact ⟨_, rfl, by rw [HV.out]; exact J1.out, J2.out⟩
set_option maxRecDepth 100000 in
set_option maxHeartbeats 4000000 in
theorem rsame_any (v1 v2 : Value) (hs : List By) (w : World) (h1 : Dgs 0 w v1 hs) (h2 : Dgs 0 w v2 hs) (hl : hs.length ≤ 1000) :
    Calls Tryd.prog 19 #[v1, v2] w fun e w' => e = .returned (.bool true) ∧ Below w.heap.size w w' := by
  obtain ⟨A1, c1, rfl⟩ := h1.form
  obtain ⟨A2, c2, rfl⟩ := h2.form
  obtain ⟨n, HN⟩ : ∃ n, Hid (hs.length = n) := ⟨_, rfl⟩
  have H12 : Hid (L2 (.slice A1 hs.length c1) (.slice A2 hs.length c2) hs hs w) := ⟨h1, h2⟩
  rw [HN.out] at hl H12 ⊢
  clear h1 h2
  go_enter Tryd.func19, Tryd.ntmps19
  go_wp2
  go_loopw [5] (fun v5 wr => ∃ k : Nat, k ≤ n ∧ v5 = .int .i64 (k : Int) ∧ Hid (L2 (.slice A1 n c1) (.slice A2 n c2) hs hs wr) ∧ Hid (Below w.heap.size w wr)) (fun v5 _ => n - (intOf v5).toNat)
  case atStart => exact ⟨0, by omega, rfl, H12.out, Below.refl _ _⟩
  case round =>
    obtain ⟨k, hk, rfl, J1, J2⟩ := hrel
    by_cases hlt : k < n
    · have hlt2 : (k : Int) < (n : Int) := by omega
      have w1 : IntKind.i64.wrap ((k : Int) + 1) = (k : Int) + 1 := i64in _ (by omega) (by omega)
      have HI : k < hs.length := by rw [HN.out]; exact hlt
      obtain ⟨d, HD⟩ : ∃ d, Hid (hs[k] = d) := ⟨_, hid rfl⟩
      have HDL : Hid (d.length = 32) := by show _ = _; rw [← HD.out]; exact J1.out.a.len _ (List.getElem_mem _)
      have HNE : Hid ((!same8 d d) = false) := by show _ = _; rw [same8_refl]; rfl
      obtain ⟨ga, ca, hva, _⟩ := J1.out.a.at_ k HI
      obtain ⟨gb, cb, hvb, _⟩ := J1.out.b.at_ k HI
      rw [HN.out] at hva hvb
      injection hva with ha1 ha2 ha3
      injection hvb with hb1 hb2 hb3
      subst ha1 ha3 hb1 hb3
      clear ha2 hb2
      have J1d : Hid (L2 (.slice (some ⟨ga, 0, none⟩) n c1) (.slice (some ⟨gb, 0, none⟩) n c2) hs hs wr.drew) := hid (J1.out.on (Below.refl _ wr).drew)
      have J2d : Hid (Below w.heap.size w wr.drew) := hid J2.out.drew
      go_wp2
      refine wp_region_noPanic ?_
      refine wp_region_held_drew (S := L2 (.slice (some ⟨ga, 0, none⟩) n c1) (.slice (some ⟨gb, 0, none⟩) n c2) hs hs) (by kernel_rfl) (J1d.out) (fun hS => ?_)
      refine wpAnyH_take (i := 0) (v := ?_) (by simp only [List.getElem?_toArray, List.getElem?_cons_zero]; rfl) (by kernel_rfl) (by kernel_rfl) (by kernel_rfl) (fun _ _ _ h => h) (Or.inl ⟨by rfl, ?_⟩) (by assumption) ?_
      rotate_left 1
      · intro w hSw
        go_simp
        try with_reducible rfl
      simp only [Act.put, List.setIfInBounds_toArray, List.set_cons_zero, List.set_cons_succ]
      refine wpAnyH_take (i := 1) (v := ?_) (by simp only [List.getElem?_toArray, List.getElem?_cons_zero, List.getElem?_cons_succ]; rfl) (by kernel_rfl) (by kernel_rfl) (by kernel_rfl) (fun _ _ _ h => h) (Or.inl ⟨by rfl, ?_⟩) (by assumption) ?_
      rotate_left 1
      · intro w hSw
        go_simp
        try with_reducible rfl
      simp only [Act.put, List.setIfInBounds_toArray, List.set_cons_zero, List.set_cons_succ]
      refine wpAnyH_take (i := 2) (v := ?_) (by simp only [List.getElem?_toArray, List.getElem?_cons_zero, List.getElem?_cons_succ]; rfl) (by kernel_rfl) (by kernel_rfl) (by kernel_rfl) (fun _ _ _ h => h) (Or.inl ⟨by rfl, ?_⟩) (by assumption) ?_
      rotate_left 1
      · intro w hSw
        go_simp
        try with_reducible rfl
      simp only [Act.put, List.setIfInBounds_toArray, List.set_cons_zero, List.set_cons_succ]
      refine' wpAnyH_take (i := 3) (v := _) (by simp only [List.getElem?_toArray, List.getElem?_cons_zero, List.getElem?_cons_succ]; rfl) (by kernel_rfl) (by kernel_rfl) (by kernel_rfl) (fun _ _ _ h => h) (yields_load_h (by rfl) (.tmp 19) rfl ga (k * 32) rfl d (fun w hS => hS.a.ld k HI d HD.out)) (by assumption) ?_
      simp only [Act.put, List.setIfInBounds_toArray, List.set_cons_zero, List.set_cons_succ]
      refine wpAnyH_take (i := 4) (v := ?_) (by simp only [List.getElem?_toArray, List.getElem?_cons_zero, List.getElem?_cons_succ]; rfl) (by kernel_rfl) (by kernel_rfl) (by kernel_rfl) (fun _ _ _ h => h) (Or.inl ⟨by rfl, ?_⟩) (by assumption) ?_
      rotate_left 1
      · intro w hSw
        go_simp
        try with_reducible rfl
      simp only [Act.put, List.setIfInBounds_toArray, List.set_cons_zero, List.set_cons_succ]
      refine wpAnyH_take (i := 5) (v := ?_) (by simp only [List.getElem?_toArray, List.getElem?_cons_zero, List.getElem?_cons_succ]; rfl) (by kernel_rfl) (by kernel_rfl) (by kernel_rfl) (fun _ _ _ h => h) (Or.inl ⟨by rfl, ?_⟩) (by assumption) ?_
      rotate_left 1
      · intro w hSw
        go_simp
        try with_reducible rfl
      simp only [Act.put, List.setIfInBounds_toArray, List.set_cons_zero, List.set_cons_succ]
      refine wpAnyH_take (i := 6) (v := ?_) (by simp only [List.getElem?_toArray, List.getElem?_cons_zero, List.getElem?_cons_succ]; rfl) (by kernel_rfl) (by kernel_rfl) (by kernel_rfl) (fun _ _ _ h => h) (Or.inl ⟨by rfl, ?_⟩) (by assumption) ?_
      rotate_left 1
      · intro w hSw
        go_simp
        try with_reducible rfl
      simp only [Act.put, List.setIfInBounds_toArray, List.set_cons_zero, List.set_cons_succ]
      refine' wpAnyH_take (i := 7) (v := _) (by simp only [List.getElem?_toArray, List.getElem?_cons_zero, List.getElem?_cons_succ]; rfl) (by kernel_rfl) (by kernel_rfl) (by kernel_rfl) (fun _ _ _ h => h) (yields_load_h (by rfl) (.tmp 23) rfl gb (k * 32) rfl d (fun w hS => hS.b.ld k HI d HD.out)) (by assumption) ?_
      simp only [Act.put, List.setIfInBounds_toArray, List.set_cons_zero, List.set_cons_succ]
      refine' wpAnyH_take (i := 8) (v := _) (by simp only [List.getElem?_toArray, List.getElem?_cons_zero, List.getElem?_cons_succ]; rfl) (by kernel_rfl) (by kernel_rfl) (by kernel_rfl) (fun _ _ _ h => h) (yields_neq_h (by rfl) (.tmp 20) (.tmp 24) rfl d d rfl rfl HDL.out HDL.out false HNE.out) (by assumption) ?_
      simp only [Act.put, List.setIfInBounds_toArray, List.set_cons_zero, List.set_cons_succ]
      refine wpAnyH_done (by kernel_rfl) ?_ _
      refine NoPanic.normal ?_
      go_wp2
      go_roundw
      case rel => exact ⟨k + 1, by omega, by go_num, J1d.out, J2d.out⟩
      case measure => simp [intOf]; omega
    · obtain rfl : k = n := by omega
      go_wp2
      go_ret
      exact ⟨rfl, J2.out⟩
end Go.Proofs.YtlcdkponegmcdaaDoor
