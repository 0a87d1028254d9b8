/- data: an act's data. Conditions: an act whose numbers and texts fit. -/
import Derived.Test.YtlbeemlnbpchgaaGreatXD
namespace Go.Proofs.YtlbeemlnbpchgaaGreat
open Go.RowKit Go.Maps
theorem step_append_run {P : Program} {ops : Array Oper} {o : Oper} {a : Act} {w : World} {K : Act → World → Prop} {Q : Exit → Act → World → Prop} {E : Prop}
    (hw : Region.wanted o (yielded ops a.tmps) = true) (s x : Operand) (t tn : TypeId) (ho : o.op = .call { callee := .builtin .append, args := #[s, x], argTypes := #[t, tn] })
    (vs vx : Value) (hs : a.eval s = vs) (hx : a.eval x = vx) {v' : Value} {w' : World} (hr : (Builtin.append_ #[t, tn] o.type #[vs, vx]).run P w = .ok v' w') (h : K (a.put o.dst v') w') :
    if Region.wanted o (yielded ops a.tmps) = true then Oper.wp P o a w K Q else E := by
  rw [if_pos hw]
  unfold Oper.wp execOp
  simp only [ho, hs, hx, resolve, invoke, builtin, Sem.run_bind, Sem.run_pure, Result.andThen_ok, List.map_toArray, List.map_cons, List.map_nil, hr]
  exact h
theorem rem_nat (a b : Nat) : (a : Int).tmod (b : Int) = ((a % b : Nat) : Int) := by
  rw [Int.tmod_eq_emod_of_nonneg (by omega)]; rfl
set_option maxRecDepth 100000 in
set_option maxHeartbeats 8000000 in
theorem data_any (x : ActT) (hx : ActOk x) (w : World) (hG : Gd w) :
    Calls Tryz.prog 44 #[.agg (actCells x)] w fun e w' => e = .returned (kS (dataL x)) ∧ Below w.heap.size w w' := by
  obtain ⟨m, HM⟩ : ∃ m, Hid (dataN x = m) := ⟨_, rfl⟩
  have HV : Hid (dataL x = dataTo x m) := by show _ = _; unfold dataL; rw [HM.out]
  have HB0 : Hid (Below w.heap.size w (w.alloc (.cells (actCells x) 33))) := (Below.refl _ _).alloc (Nat.le_refl _) _
  have HA0 : Hid (Has (w.alloc (.cells (actCells x) 33)) w.heap.size 33 (actCells x)) := Has.fresh w 33 _
  obtain ⟨L, HL⟩ : ∃ L, Hid (x.long = L) := ⟨_, rfl⟩
  obtain ⟨T, HTX⟩ : ∃ T, Hid (x.text = T) := ⟨_, rfl⟩
  obtain ⟨s, HS⟩ : ∃ s : Nat, Hid (T.length = s) := ⟨_, rfl⟩
  have hmL : m = if s = 0 then 0 else min L.toNat 3000 := by rw [← HL.out, ← HS.out, ← HTX.out]; exact HM.out.symm
  have HAC : Hid (actCells x = #[.int .i64 x.dO, kS x.p, kS x.q, kS T, .int .i64 L, .int .i64 x.time, .slice x.pA x.ks.length x.pc]) := by show _ = _; rw [actCells, HTX.out, HL.out]
  have HSM : Hid ((s : Int) ≤ 9223372036854775807) := by show _ ≤ _; rw [← HS.out, ← HTX.out]; have := hx.text; omega
  have HNX : Hid (∀ k, dataTo x (k + 1) = dataTo x k ++ [at8 T (k % s)]) := fun k => by rw [dataTo_next, HTX.out, HS.out]
  have HDL : Hid (∀ k, (dataTo x k).length = k) := fun k => dataTo_len x k
  have HIX : Hid (∀ i, i < s → ∀ w, (Instr.index 9 (kS T) (.int .i64 (i : Int))).run Tryz.prog w = .ok (.int .u8 (b8 (at8 T i))) w) := fun i h w => index_at (ba T) i (by rw [ba_size, HS.out]; exact h) w
  have HTS : Hid ((ba T).size = s) := by show _ = _; rw [ba_size]; exact HS.out
  have HPOS := hid hG.pos
  rw [HAC.out] at HB0 HA0 ⊢
  clear hx hG
  go_enter Tryz.func44, Tryz.ntmps44
  go_wp2
  go_loopw [3, 4] (fun v3 v4 wr => ∃ k : Nat, k ≤ m ∧ v4 = .int .i64 (k : Int) ∧ Hid (Fresh (w.heap.size + 1) wr v3 (dataTo x k)) ∧ Hid (Has wr w.heap.size 33 #[.int .i64 x.dO, kS x.p, kS x.q, kS T, .int .i64 L, .int .i64 x.time, .slice x.pA x.ks.length x.pc]) ∧ Hid (Below w.heap.size w wr)) (fun _ v4 _ => m - (intOf v4).toNat)
  case atStart => exact ⟨0, by omega, rfl, fresh_nil _ _, HA0.out, HB0.out⟩
  case round =>
    obtain ⟨k, hk, rfl, J1, J2, J3⟩ := hrel
    have c3 : wr.cell? ⟨w.heap.size, 3, none⟩ = some (kS T) := J2.out.at_ 3
    have c4 : wr.cell? ⟨w.heap.size, 4, none⟩ = some (.int .i64 L) := J2.out.at_ 4
    have hs2 : ((ba T).size : Int) = (s : Int) := by rw [HTS.out]
    by_cases hlt : k < m
    · have hs1 : (0 : Int) < (s : Int) := by split at hmL <;> omega
      have hkL : (k : Int) < L := by rw [if_neg (by omega)] at hmL; omega
      have hk5 : (k : Int) < 3000 := by rw [if_neg (by omega)] at hmL; omega
      have w1 : IntKind.i64.wrap ((k : Int) + 1) = (k : Int) + 1 := i64in _ (by omega) (by omega)
      have hin := J2.out.inside
      obtain ⟨j, HJ⟩ : ∃ j, Hid (k % s = j) := ⟨_, rfl⟩
      have hj : j < s := by rw [← HJ.out]; exact Nat.mod_lt _ (by omega)
      obtain ⟨z, HZ⟩ : ∃ z, Hid (at8 T j = z) := ⟨_, rfl⟩
      obtain ⟨v5, w5, hr5, hf5, hb5⟩ := append_byte wr.drew (w.heap.size + 1) u3 (dataTo x k) (fresh_kept J1.out (Below.refl _ _).drew) (by rw [HDL.out]; omega) (by show _ ≤ wr.heap.size; omega) z
      have hnx := HNX.out k
      rw [HJ.out, HZ.out] at hnx
      rw [← hnx] at hf5
      have R5 := hid hr5
      have F5 := hid hf5
      have B5 := hid hb5
      have r2 : (k : Int).tmod (s : Int) = (j : Int) := by rw [← HJ.out]; exact rem_nat k s
      have r3 : ¬ (s : Int) = 0 := by omega
      have hixj := HIX.out j hj
      rw [HZ.out] at hixj
      have J2d : Hid (Has wr.drew w.heap.size 33 #[.int .i64 x.dO, kS x.p, kS x.q, kS T, .int .i64 L, .int .i64 x.time, .slice x.pA x.ks.length x.pc]) := J2.out
      have J3d := hid J3.out.drew
      obtain ⟨bz, HBZ⟩ : ∃ bz, Hid (b8 z = bz) := ⟨_, rfl⟩
      rw [HBZ.out] at hixj R5
      have r4 : ¬ s = 0 := by omega
      have HJ5 : Hid (Has w5 w.heap.size 33 #[.int .i64 x.dO, kS x.p, kS x.q, kS T, .int .i64 L, .int .i64 x.time, .slice x.pA x.ks.length x.pc]) := J2d.out.kept B5.out (by omega)
      have HB5 : Hid (Below w.heap.size w w5) := J3d.out.trans (B5.out.mono (by omega))
      have S3 : Hid (wr.drew.heap.size = wr.heap.size) := rfl
      clear hr5 hf5 hb5 hnx B5
      go_wp2
      refine wp_region_noPanic ?_
      refine wp_region_held_drew (S := fun W => W.cell? ⟨w.heap.size, 3, none⟩ = some (kS T)) (by kernel_rfl) (J2d.out.at_ 3) (fun hS => ?_)
      generalize wr.drew = w3 at *
      refine wpAnyH_take (i := 0) (v := ?_) (by simp only [List.getElem?_toArray, List.getElem?_cons_zero]; rfl) (by kernel_rfl) (by kernel_rfl) (by kernel_rfl) (fun _ _ _ h => h) (Or.inl ⟨by rfl, ?_⟩) (by assumption) ?_
      rotate_left 1
      · intro w hSw
        go_simp
        try with_reducible rfl
      simp only [Act.put, List.setIfInBounds_toArray, List.set_cons_zero, List.set_cons_succ]
      refine wpAnyH_take (i := 1) (v := ?_) (by simp only [List.getElem?_toArray, List.getElem?_cons_zero, List.getElem?_cons_succ]; rfl) (by kernel_rfl) (by kernel_rfl) (by kernel_rfl) (fun _ _ _ h => h) (Or.inl ⟨by rfl, ?_⟩) (by assumption) ?_
      rotate_left 1
      · intro w hSw
        go_simp
        try with_reducible rfl
      simp only [Act.put, List.setIfInBounds_toArray, List.set_cons_zero, List.set_cons_succ]
      refine wpAnyH_take (i := 2) (v := ?_) (by simp only [List.getElem?_toArray, List.getElem?_cons_zero, List.getElem?_cons_succ]; rfl) (by kernel_rfl) (by kernel_rfl) (by kernel_rfl) (fun _ _ _ h => h) (Or.inl ⟨by rfl, ?_⟩) (by assumption) ?_
      rotate_left 1
      · intro w hSw
        go_simp
        try with_reducible rfl
      simp only [Act.put, List.setIfInBounds_toArray, List.set_cons_zero, List.set_cons_succ]
      refine wpAnyH_take (i := 3) (v := ?_) (by simp only [List.getElem?_toArray, List.getElem?_cons_zero, List.getElem?_cons_succ]; rfl) (by kernel_rfl) (by kernel_rfl) (by kernel_rfl) (fun _ _ _ h => h) (Or.inl ⟨by rfl, ?_⟩) (by assumption) ?_
      rotate_left 1
      · intro w hSw
        go_simp
        try with_reducible rfl
      simp only [Act.put, List.setIfInBounds_toArray, List.set_cons_zero, List.set_cons_succ]
      refine wpAnyH_take (i := 4) (v := ?_) (by simp only [List.getElem?_toArray, List.getElem?_cons_zero, List.getElem?_cons_succ]; rfl) (by kernel_rfl) (by kernel_rfl) (by kernel_rfl) (fun _ _ _ h => h) (Or.inl ⟨by rfl, ?_⟩) (by assumption) ?_
      rotate_left 1
      · intro w hSw
        go_simp
        try with_reducible rfl
      simp only [Act.put, List.setIfInBounds_toArray, List.set_cons_zero, List.set_cons_succ]
      refine wpAnyH_take (i := 5) (v := ?_) (by simp only [List.getElem?_toArray, List.getElem?_cons_zero, List.getElem?_cons_succ]; rfl) (by kernel_rfl) (by kernel_rfl) (by kernel_rfl) (fun _ _ _ h => h) (Or.inl ⟨by rfl, ?_⟩) (by assumption) ?_
      rotate_left 1
      · intro w hSw
        go_simp
        try with_reducible rfl
      simp only [Act.put, List.setIfInBounds_toArray, List.set_cons_zero, List.set_cons_succ]
      refine wpAnyH_take (i := 6) (v := ?_) (by simp only [List.getElem?_toArray, List.getElem?_cons_zero, List.getElem?_cons_succ]; rfl) (by kernel_rfl) (by kernel_rfl) (by kernel_rfl) (fun _ _ _ h => h) (Or.inl ⟨by rfl, ?_⟩) (by assumption) ?_
      rotate_left 1
      · intro w hSw
        go_simp
        try with_reducible rfl
      simp only [Act.put, List.setIfInBounds_toArray, List.set_cons_zero, List.set_cons_succ]
      refine wpAnyH_take (i := 7) (v := ?_) (by simp only [List.getElem?_toArray, List.getElem?_cons_zero, List.getElem?_cons_succ]; rfl) (by kernel_rfl) (by kernel_rfl) (by kernel_rfl) (fun _ _ _ h => h) (Or.inl ⟨by rfl, ?_⟩) (by assumption) ?_
      rotate_left 1
      · intro w hSw
        go_simp
        try with_reducible rfl
      simp only [Act.put, List.setIfInBounds_toArray, List.set_cons_zero, List.set_cons_succ]
      refine wpAnyH_take (i := 8) (v := ?_) (by simp only [List.getElem?_toArray, List.getElem?_cons_zero, List.getElem?_cons_succ]; rfl) (by kernel_rfl) (by kernel_rfl) (by kernel_rfl) (fun _ _ _ h => h) (Or.inl ⟨by rfl, ?_⟩) (by assumption) ?_
      rotate_left 1
      · intro w hSw
        go_simp
        try with_reducible rfl
      simp only [Act.put, List.setIfInBounds_toArray, List.set_cons_zero, List.set_cons_succ]
      refine wpAnyH_ready (rs := [9]) (by kernel_rfl) (by simp) ?_
      refine AllReadyH.cons (by simp only [List.getElem?_toArray, List.getElem?_cons_zero, List.getElem?_cons_succ]; rfl) (fun K hK => ?_) (AllReadyH.nil)
      go_simp
      refine hK.out _ _ (((Below.refl _ _).alloc (Nat.le_refl _) _).cell (p := ⟨w.heap.size, 3, none⟩) J2d.out.inside |>.trans (J2d.out.at_ 3)) (fun hS => ?_)
      clear hK K
      refine wpAnyH_ready (rs := [10]) (by kernel_rfl) (by simp) ?_
      refine AllReadyH.cons (by simp only [List.getElem?_toArray, List.getElem?_cons_zero, List.getElem?_cons_succ]; rfl) (fun K hK => ?_) (AllReadyH.nil)
      refine step_append_run (by rfl) (.tmp 21) (.tmp 30) 31 31 rfl u3 (.slice (some ⟨w3.heap.size, 0, none⟩) 1 1) rfl rfl R5.out ?_
      refine hK.out _ _ (HJ5.out.at_ 3) (fun hS => ?_)
      clear hK K
      refine wpAnyH_take (i := 11) (v := ?_) (by simp only [List.getElem?_toArray, List.getElem?_cons_zero, List.getElem?_cons_succ]; rfl) (by kernel_rfl) (by kernel_rfl) (by kernel_rfl) (fun _ _ _ h => h) (Or.inl ⟨by rfl, ?_⟩) (by assumption) ?_
      rotate_left 1
      · intro w hSw
        go_simp
        try with_reducible rfl
      simp only [Act.put, List.setIfInBounds_toArray, List.set_cons_zero, List.set_cons_succ]
      refine wpAnyH_done (by kernel_rfl) ?_ _
      refine NoPanic.normal ?_
      go_wp2
      go_roundw
      case rel => exact ⟨k + 1, by omega, by go_num, F5.out, HJ5.out, HB5.out⟩
      case measure => simp [intOf]; omega
    · obtain rfl : k = m := by omega
      have hend : ¬ (k : Int) < L ∨ ((k : Int) < L ∧ ¬ (k : Int) < 3000) ∨ ((k : Int) < L ∧ (k : Int) < 3000 ∧ ¬ (0 : Int) < (s : Int)) := by split at hmL <;> omega
      have hsz0 : 0 < wr.heap.size := Nat.lt_of_lt_of_le HPOS.out J3.out.size
      obtain ⟨A6, c6, b6, hy6, _⟩ := own_bytes rfl hsz0 J1.out
      have hcv := conv_back hy6
      have hfm := hy6.form
      rw [hfm] at hcv
      rw [hfm]
      have HCV := hid hcv
      have hcv2 := hcv
      clear hmL hy6 hfm hcv
      rcases hend with h1 | ⟨h0, h1⟩ | ⟨h0, h1, h2⟩
      · go_wp2
        go_ret
        exact ⟨by rw [HV.out]; rfl, J3.out⟩
      · go_wp2
        go_ret
        exact ⟨by rw [HV.out]; rfl, J3.out⟩
      · go_wp2
        go_ret
        exact ⟨by rw [HV.out]; rfl, J3.out⟩
end Go.Proofs.YtlbeemlnbpchgaaGreat
