/- data: an act's file. Conditions: an act whose numbers and texts fit. -/
import Derived.Test.YtlcdkponegmcdaaDoorGH
import Derived.Test.YtlcdkponegmcdaaDoorEE
namespace Go.Proofs.YtlcdkponegmcdaaDoor
open Go.RowKit
theorem index_at (s : ByteArray) (i : Nat) (h : i < s.size) (w : World) : (Instr.index 9 (.string s) (.int .i64 (i : Int))).run Tryd.prog w = .ok (.int .u8 (b8 (at8 (tl s) i))) w := by
  have hi : i < s.data.toList.length := by simpa using h
  rw [run_index_string (P := Tryd.prog) w 9 s .i64 (i : Int) Tryd.underlying9, dif_pos ⟨by omega, by omega⟩]
  have e : s[(i : Int).toNat]'(by simpa using h) = at8 (tl s) i := by
    rw [at8, List.getD, List.getElem?_eq_getElem hi]
    rfl
  rw [e]; rfl
theorem bytes_one (w : World) (z : UInt8) (fr : Nat × Nat) : Bytes (w.alloc (.cells #[.int .u8 (b8 z)] 5 fr)) (.slice (some ⟨w.heap.size, 0, none⟩) 1 1) [z] (some ⟨w.heap.size, 0, none⟩) 1 w.heap.size 0 := by
  refine ⟨rfl, Nat.le_refl _, (fun h => by cases h), fun a ha j hj => ?_, by simp, fun _ => rfl⟩
  cases ha
  rw [add_at, Nat.zero_add, cell_of_row _ w.heap.size j _ 5 fr (heap_alloc_new w _)]
  have hj : j < 1 := hj
  rcases j with _ | j
  · rfl
  · omega
/-- One byte more, behind what the call owns. -/
theorem append_byte (wr : World) (B : Nat) (v : Value) (xs : By) (h : Fresh B wr v xs) (hl : xs.length ≤ 100000) (hB : B ≤ wr.heap.size) (z : UInt8) :
    ∃ v' w', (Builtin.append_ #[25, 25] 25 #[v, .slice (some ⟨wr.heap.size, 0, none⟩) 1 1]).run Tryd.prog (wr.alloc (.cells #[.int .u8 (b8 z)] 5)) = .ok v' w' ∧ Fresh B w' v' (xs ++ [z]) ∧ Below B wr w' := by
  have hb : Below wr.heap.size wr (wr.alloc (.cells #[.int .u8 (b8 z)] 5)) := (Below.refl _ _).alloc (Nat.le_refl _) _
  obtain ⟨v', w', hr, hf, hg⟩ := fresh_app (fresh_kept h hb) (bytes_one wr z (0, 0)) (by simp; omega) (by simp; omega)
  refine ⟨v', w', hr, hf, ?_⟩
  have h2 : Below B wr (wr.alloc (.cells #[.int .u8 (b8 z)] 5)) := (Below.refl _ _).alloc hB _
  exact h2.grown hg (by simp; omega) (fun g hg => (World.ownsRow.lt h g hg).1)
set_option maxRecDepth 100000 in
set_option maxHeartbeats 8000000 in
theorem data_any (x : ActT) (hx : ActOk x) (w : World) (hp : 0 < w.heap.size) :
    Calls Tryd.prog 25 #[.agg (actCells x)] w fun e w' => ∃ v, e = .returned v ∧ Fresh w.heap.size w' v (dataL x) ∧ Below w.heap.size w w' := by
  obtain ⟨m, HM⟩ : ∃ m, Hid (min x.long.toNat 5000 = m) := ⟨_, rfl⟩
  have HV : Hid (dataL x = dataTo x m) := by show _ = _; unfold dataL; rw [HM.out]
  have HB0 : Hid (Below w.heap.size w (w.alloc (.cells (actCells x) 47))) := (Below.refl _ _).alloc (Nat.le_refl _) _
  have HA0 : Hid (Has (w.alloc (.cells (actCells x) 47)) w.heap.size 47 (actCells x)) := Has.fresh w 47 _
  obtain ⟨L, HL⟩ : ∃ L, Hid (x.long = L) := ⟨_, rfl⟩
  obtain ⟨T, HTX⟩ : ∃ T, Hid (x.text = T) := ⟨_, rfl⟩
  obtain ⟨s, HS⟩ : ∃ s : Nat, Hid (T.size = s) := ⟨_, rfl⟩
  have hmL : m = min L.toNat 5000 := by rw [← HL.out]; exact HM.out.symm
  have HAC : Hid (actCells x = #[.bool x.gone, .string x.name, .string T, .int .i64 L]) := by show _ = _; rw [actCells, HTX.out, HL.out]
  have HSM : Hid ((s : Int) ≤ 9223372036854775807) := by show _ ≤ _; rw [← HS.out, ← HTX.out]; have := hx.text; unfold maxLen at this; omega
  have HNX : Hid (∀ k, dataTo x (k + 1) = dataTo x k ++ [if s = 0 then 0 else at8 (tl T) (k % s)]) := fun k => by rw [dataTo_next, HTX.out, HS.out]
  have HDL : Hid (∀ k, (dataTo x k).length = k) := fun k => dataTo_len x k
  have HIX : Hid (∀ i, i < s → ∀ w, (Instr.index 9 (.string T) (.int .i64 (i : Int))).run Tryd.prog w = .ok (.int .u8 (b8 (at8 (tl T) i))) w) := fun i h w => index_at T i (by rw [HS.out]; exact h) w
  have HPOS := hid hp
  rw [HAC.out] at HB0 HA0 ⊢
  clear hx hp
  go_enter Tryd.func25, Tryd.ntmps25
  go_wp2
  go_loopw [3, 4, 5] (fun v3 v4 _ wr => ∃ k : Nat, k ≤ m ∧ v4 = .int .i64 (k : Int) ∧ Hid (Fresh (w.heap.size + 1) wr v3 (dataTo x k)) ∧ Hid (Has wr w.heap.size 47 #[.bool x.gone, .string x.name, .string T, .int .i64 L]) ∧ Hid (Below w.heap.size w wr)) (fun _ v4 _ _ => m - (intOf v4).toNat)
  case atStart => exact ⟨0, by omega, rfl, fresh_nil _ _, HA0.out, HB0.out⟩
  case round =>
    obtain ⟨k, hk, rfl, J1, J2, J3⟩ := hrel
    have c2 : wr.cell? ⟨w.heap.size, 2, none⟩ = some (.string T) := J2.out.at_ 2
    have c3 : wr.cell? ⟨w.heap.size, 3, none⟩ = some (.int .i64 L) := J2.out.at_ 3
    by_cases hlt : k < m
    · have hkL : (k : Int) < L := by omega
      have hk5 : (k : Int) < 5000 := by omega
      have w1 : IntKind.i64.wrap ((k : Int) + 1) = (k : Int) + 1 := i64in _ (by omega) (by omega)
      have hin := J2.out.inside
      by_cases hs0 : s = 0
      · have hs1 : ¬ (0 : Int) < (s : Int) := by omega
        have hs2 : (T.size : Int) = (s : Int) := by rw [HS.out]
        obtain ⟨v5, w5, hr5, hf5, hb5⟩ := append_byte wr (w.heap.size + 1) u3 (dataTo x k) J1.out (by rw [HDL.out]; omega) (by omega) 0
        have hnx := HNX.out k
        rw [if_pos hs0] at hnx
        rw [← hnx] at hf5
        have R5 := hid hr5
        have F5 := hid hf5
        have B5 := hid hb5
        have hs3 : s = 0 := hs0
        clear hr5 hf5 hb5 hnx
        go_wp2_with (at_builtin; refine wpList_append_run rfl (.tmp 28) (.tmp 30) 25 25 rfl ⟨_, _, R5.out, ?_⟩)
        go_roundw
        case rel => exact ⟨k + 1, by omega, by go_num, F5.out, J2.out.kept B5.out (by omega), J3.out.trans (B5.out.mono (by omega))⟩
        case measure => simp [intOf]; omega
      · have hs1 : (0 : Int) < (s : Int) := by omega
        have hs2 : (T.size : Int) = (s : Int) := by rw [HS.out]
        obtain ⟨j, HJ⟩ : ∃ j, Hid (k % s = j) := ⟨_, rfl⟩
        have hj : j < s := by rw [← HJ.out]; exact Nat.mod_lt _ (by omega)
        obtain ⟨z, HZ⟩ : ∃ z, Hid (at8 (tl T) j = z) := ⟨_, rfl⟩
        obtain ⟨v5, w5, hr5, hf5, hb5⟩ := append_byte wr.drew (w.heap.size + 1) u3 (dataTo x k) (fresh_kept J1.out (Below.refl _ _).drew) (by rw [HDL.out]; omega) (by show _ ≤ wr.heap.size; omega) z
        have hnx := HNX.out k
        rw [if_neg hs0, HJ.out, HZ.out] at hnx
        rw [← hnx] at hf5
        have R5 := hid hr5
        have F5 := hid hf5
        have B5 := hid hb5
        have r2 : (k : Int).tmod (s : Int) = (j : Int) := by rw [← HJ.out]; exact rem_nat k s
        have r3 : ¬ (s : Int) = 0 := by omega
        have hixj := HIX.out j hj
        rw [HZ.out] at hixj
        have J2d : Hid (Has wr.drew w.heap.size 47 #[.bool x.gone, .string x.name, .string T, .int .i64 L]) := J2.out
        obtain ⟨bz, HBZ⟩ : ∃ bz, Hid (b8 z = bz) := ⟨_, rfl⟩
        rw [HBZ.out] at hixj R5
        have r4 : ¬ s = 0 := hs0
        clear hr5 hf5 hb5 hnx
        go_wp2
        refine wp_region_noPanic ?_
        refine wp_region_held_drew (S := fun W => Has W w.heap.size 47 #[.bool x.gone, .string x.name, .string T, .int .i64 L]) (by kernel_rfl) (J2d.out) (fun hS => ?_)
        refine wpAnyH_take (i := 0) (v := ?_) (by simp only [List.getElem?_toArray, List.getElem?_cons_zero]; rfl) (by kernel_rfl) (by kernel_rfl) (by kernel_rfl) (fun _ _ _ h => h) (Or.inl ⟨by rfl, ?_⟩) (by assumption) ?_
        rotate_left 1
        · intro w hSw
          have hc2 : w.cell? _ = some (.string T) := hSw.at_ 2
          go_simp
          try with_reducible rfl
        simp only [Act.put, List.setIfInBounds_toArray, List.set_cons_zero, List.set_cons_succ]
        refine wpAnyH_take (i := 1) (v := ?_) (by simp only [List.getElem?_toArray, List.getElem?_cons_zero, List.getElem?_cons_succ]; rfl) (by kernel_rfl) (by kernel_rfl) (by kernel_rfl) (fun _ _ _ h => h) (Or.inl ⟨by rfl, ?_⟩) (by assumption) ?_
        rotate_left 1
        · intro w hSw
          have hc2 : w.cell? _ = some (.string T) := hSw.at_ 2
          go_simp
          try with_reducible rfl
        simp only [Act.put, List.setIfInBounds_toArray, List.set_cons_zero, List.set_cons_succ]
        refine wpAnyH_take (i := 2) (v := ?_) (by simp only [List.getElem?_toArray, List.getElem?_cons_zero, List.getElem?_cons_succ]; rfl) (by kernel_rfl) (by kernel_rfl) (by kernel_rfl) (fun _ _ _ h => h) (Or.inl ⟨by rfl, ?_⟩) (by assumption) ?_
        rotate_left 1
        · intro w hSw
          have hc2 : w.cell? _ = some (.string T) := hSw.at_ 2
          go_simp
          try with_reducible rfl
        simp only [Act.put, List.setIfInBounds_toArray, List.set_cons_zero, List.set_cons_succ]
        refine wpAnyH_take (i := 3) (v := ?_) (by simp only [List.getElem?_toArray, List.getElem?_cons_zero, List.getElem?_cons_succ]; rfl) (by kernel_rfl) (by kernel_rfl) (by kernel_rfl) (fun _ _ _ h => h) (Or.inl ⟨by rfl, ?_⟩) (by assumption) ?_
        rotate_left 1
        · intro w hSw
          have hc2 : w.cell? _ = some (.string T) := hSw.at_ 2
          go_simp
          try with_reducible rfl
        simp only [Act.put, List.setIfInBounds_toArray, List.set_cons_zero, List.set_cons_succ]
        refine wpAnyH_take (i := 4) (v := ?_) (by simp only [List.getElem?_toArray, List.getElem?_cons_zero, List.getElem?_cons_succ]; rfl) (by kernel_rfl) (by kernel_rfl) (by kernel_rfl) (fun _ _ _ h => h) (Or.inl ⟨by rfl, ?_⟩) (by assumption) ?_
        rotate_left 1
        · intro w hSw
          have hc2 : w.cell? _ = some (.string T) := hSw.at_ 2
          go_simp
          try with_reducible rfl
        simp only [Act.put, List.setIfInBounds_toArray, List.set_cons_zero, List.set_cons_succ]
        refine wpAnyH_take (i := 5) (v := ?_) (by simp only [List.getElem?_toArray, List.getElem?_cons_zero, List.getElem?_cons_succ]; rfl) (by kernel_rfl) (by kernel_rfl) (by kernel_rfl) (fun _ _ _ h => h) (Or.inl ⟨by rfl, ?_⟩) (by assumption) ?_
        rotate_left 1
        · intro w hSw
          have hc2 : w.cell? _ = some (.string T) := hSw.at_ 2
          go_simp
          try with_reducible rfl
        simp only [Act.put, List.setIfInBounds_toArray, List.set_cons_zero, List.set_cons_succ]
        refine wpAnyH_take (i := 6) (v := ?_) (by simp only [List.getElem?_toArray, List.getElem?_cons_zero, List.getElem?_cons_succ]; rfl) (by kernel_rfl) (by kernel_rfl) (by kernel_rfl) (fun _ _ _ h => h) (Or.inl ⟨by rfl, ?_⟩) (by assumption) ?_
        rotate_left 1
        · intro w hSw
          have hc2 : w.cell? _ = some (.string T) := hSw.at_ 2
          go_simp
          try with_reducible rfl
        simp only [Act.put, List.setIfInBounds_toArray, List.set_cons_zero, List.set_cons_succ]
        refine wpAnyH_take (i := 7) (v := ?_) (by simp only [List.getElem?_toArray, List.getElem?_cons_zero, List.getElem?_cons_succ]; rfl) (by kernel_rfl) (by kernel_rfl) (by kernel_rfl) (fun _ _ _ h => h) (Or.inl ⟨by rfl, ?_⟩) (by assumption) ?_
        rotate_left 1
        · intro w hSw
          have hc2 : w.cell? _ = some (.string T) := hSw.at_ 2
          go_simp
          try with_reducible rfl
        simp only [Act.put, List.setIfInBounds_toArray, List.set_cons_zero, List.set_cons_succ]
        refine wpAnyH_take (i := 8) (v := ?_) (by simp only [List.getElem?_toArray, List.getElem?_cons_zero, List.getElem?_cons_succ]; rfl) (by kernel_rfl) (by kernel_rfl) (by kernel_rfl) (fun _ _ _ h => h) (Or.inl ⟨by rfl, ?_⟩) (by assumption) ?_
        rotate_left 1
        · intro w hSw
          have hc2 : w.cell? _ = some (.string T) := hSw.at_ 2
          go_simp
          try with_reducible rfl
        simp only [Act.put, List.setIfInBounds_toArray, List.set_cons_zero, List.set_cons_succ]
        refine wpAnyH_done (by kernel_rfl) ?_ _
        refine NoPanic.normal ?_
        go_wp2_with (at_builtin; refine wpList_append_run rfl (.tmp 28) (.tmp 30) 25 25 rfl ⟨_, _, R5.out, ?_⟩)
        go_roundw
        case rel => exact ⟨k + 1, by omega, by go_num, F5.out, J2d.out.kept B5.out (by omega), J3.out.drew.trans (B5.out.mono (by omega))⟩
        case measure => simp [intOf]; omega
    · obtain rfl : k = m := by omega
      have hend : ¬ (k : Int) < L ∨ (k : Int) < L ∧ ¬ (k : Int) < 5000 ∧ ¬ k < 5000 := by omega
      clear hmL
      rcases hend with h1 | ⟨h0, h1, h2⟩
      · go_wp2
        go_ret
        exact ⟨_, rfl, by rw [HV.out]; exact Fresh.mono J1.out (by omega), J3.out⟩
      · go_wp2
        go_ret
        exact ⟨_, rfl, by rw [HV.out]; exact Fresh.mono J1.out (by omega), J3.out⟩
end Go.Proofs.YtlcdkponegmcdaaDoor
