/- The walk of BlockKnown. Conditions: the listed table. -/
import Derived.Test.YtlcdkponegmcdaaDoorEG
namespace Go.Proofs.YtlcdkponegmcdaaDoor
open Go.RowKit Go.Maps
def arr1 : Array Value := #[.int .i64 0, .int .i64 16, .int .i64 1, .int .i64 16, .int .i64 512, .int .i64 16, .int .i64 513, .int .i64 32, .int .i64 1024, .int .i64 32, .int .i64 2048, .int .i64 64, .int .i64 4096, .int .i64 128, .int .i64 4097, .int .i64 0, .int .i64 (-1), .int .i64 0]
def arr2 : Array Value := #[.int .i64 0, .int .i64 0, .int .i64 1, .int .i64 1, .int .i64 16, .int .i64 1, .int .i64 17, .int .i64 2, .int .i64 512, .int .i64 32, .int .i64 513, .int .i64 17, .int .i64 4096, .int .i64 32, .int .i64 4097, .int .i64 0]
abbrev b17 : By := [97, 98, 99, 100, 101, 102, 103, 104, 105, 106, 107, 108, 109, 110, 111, 112, 113]
theorem arr1_at (k : Nat) (hk : k < 9) : ∃ a b : Int, arr1[2 * k]? = some (.int .i64 a) ∧ arr1[2 * k + 1]? = some (.int .i64 b) ∧ (sizeI a : Int) = b := by
  rcases k with _ | _ | _ | _ | _ | _ | _ | _ | _ | k
  all_goals first | exact ⟨_, _, rfl, rfl, rfl⟩ | omega
theorem arr2_at (k : Nat) (hk : k < 8) : ∃ a b : Int, arr2[2 * k]? = some (.int .i64 a) ∧ arr2[2 * k + 1]? = some (.int .i64 b) ∧ (cntI a : Int) = b := by
  rcases k with _ | _ | _ | _ | _ | _ | _ | _ | k
  all_goals first | exact ⟨_, _, rfl, rfl, rfl⟩ | omega
theorem bytes_lits (w : World) (l : By) (n : Nat) (hn : l.length = n) (fr : Nat × Nat) : Bytes (w.alloc (.cells (hvec l) 5 fr)) (.slice (some ⟨w.heap.size, 0, none⟩) n n) l (some ⟨w.heap.size, 0, none⟩) n w.heap.size 0 := by
  subst hn
  refine ⟨rfl, Nat.le_refl _, (fun h => by cases h), fun a ha j hj => ?_, by simp, fun _ => rfl⟩
  cases ha
  rw [add_at, Nat.zero_add, cell_of_row _ w.heap.size j _ 5 fr (heap_alloc_new w _)]
  exact hvec_get l j hj
theorem fin_b {own : Nat → Prop} {w : World} {p : Nat} {cf N : Nat} (h : Fin own w p (delF F2 [97]) (fgP F2 P2 [97]) cf N) (hT : Sha.Tab w) : Calls Tryd.prog 33 #[.pointer (some ⟨p, 0, none⟩), .string (ba x16), .string ⟨#[98]⟩, .int .i64 0] w fun e w' => e = .returned (.bool true) ∧ Below w.heap.size w w' := by
  have hF : delF F2 [97] [98] = some x16 := by unfold delF; rw [if_neg (by decide)]; exact F2_b
  have hr := rep_del rep_two [97]
  have hP : ∃ ps, fgP F2 P2 [97] (dg x16) = ([98], 0) :: ps := by
    refine head_of hr _ _ _ ((hr.mem _ _ _).2 ⟨_, hF, ?_⟩) (fun n j hm => ?_)
    · rw [hashes_x]
      exact ⟨by simp, rfl, fun j hj => by omega⟩
    · obtain ⟨ys, h1, _⟩ := (hr.mem _ _ _).1 hm
      unfold delF at h1
      split at h1
      · cases h1
      · rename_i hn
        rcases F2_other h1 with e | e
        · exact absurd e hn
        · exact .inl e
  obtain ⟨ps, hP⟩ := hP
  exact finds_true h hT (ba x16) (by decide) ([98], 0) ps x16 hP hF (by decide) (by rfl)
theorem box_z (wr : World) : ∃ W1, (wr.alloc (.cells #[.string ⟨#[]⟩, .int .i64 0] 54)).setRow wr.heap.size zpl = W1 ∧ Hid (Below wr.heap.size wr W1) := ⟨_, rfl, ((Below.refl _ _).alloc (Nat.le_refl _) _).rowK (Nat.le_refl _) _⟩
theorem at8_rep (n j : Nat) : at8 (List.replicate n 0) j = 0 := by
  rw [at8, List.getD, List.getElem?_replicate]
  split <;> rfl
theorem make_long : ∃ Z : Array Value, (∀ j, j < 4097 → Z[j]? = some (.int .u8 (b8 0))) ∧ ∀ w : World, (Instr.makeSlice 25 (.int .i64 4097) (.int .i64 4097)).run Tryd.prog w = .ok (.slice (some ⟨w.heap.size, 0, none⟩) 4097 4097) (w.alloc (.cells Z 5)) := by
  obtain ⟨i0, hi, hz0, hz1, hz2⟩ := info_parts info5
  obtain ⟨n, hn⟩ : ∃ n : Nat, n = 4097 := ⟨_, rfl⟩
  refine ⟨hvec (List.replicate n 0), fun j hj => ?_, fun w => ?_⟩
  · rw [hvec_get _ _ (by rw [List.length_replicate]; omega)]
    rw [at8_rep]
  · have := run_make (P := Tryd.prog) w 25 5 i0 (.int .u8 0) Tryd.underlying25 hi hz0 .i64 .i64 (n : Int) (n : Int) (by omega) (by omega) (by rw [hz2]; omega) (by omega)
    rw [show (4097 : Int) = (n : Int) by omega, this]
    simp only [Int.toNat_natCast, hz1, Nat.mul_one]
    rw [show (Value.int IntKind.u8 0).cells = #[Value.int .u8 0] from rfl, Sha.made_bytes, hn]
    rfl
theorem bytes_long (Z : Array Value) (hz : ∀ j, j < 4097 → Z[j]? = some (.int .u8 (b8 0))) (w : World) : Bytes (w.alloc (.cells Z 5)) (.slice (some ⟨w.heap.size, 0, none⟩) 4097 4097) (List.replicate 4097 0) (some ⟨w.heap.size, 0, none⟩) 4097 w.heap.size 0 := by
  refine ⟨by rw [List.length_replicate], by rw [List.length_replicate]; omega, (fun h => by cases h), fun a ha j hj => ?_, by simp, fun _ => rfl⟩
  cases ha
  rw [List.length_replicate] at hj
  rw [add_at, Nat.zero_add, (Has.fresh w 5 Z).at_, hz j hj]
  rw [at8_rep]; rfl
set_option maxRecDepth 100000 in
set_option maxHeartbeats 16000000 in
theorem known_any (w : World) (hT : Sha.Tab w) : Calls Tryd.prog 6 #[] w fun e w' => e = .returned (.bool true) ∧ Below w.heap.size w w' := by
  have HT := hid hT
  have HPOS := hid hT.pos
  have kc := fun (w : World) (C : Array Value) (n c : Nat) => Lib.run_convert_bytes_const (P := Tryd.prog) w 25 5 C n c Tryd.underlying25 Tryd.underlying5
  obtain ⟨W0, HW0⟩ : ∃ W0, Hid ((w.alloc (.cells arr1 3)).alloc (.cells arr2 3) = W0) := ⟨_, rfl⟩
  have HB0 : Hid (Below w.heap.size w W0) := by rw [← HW0.out]; exact hid (((Below.refl _ _).alloc (Nat.le_refl _) _).alloc (by simp) _)
  have HA1 : Hid (Has W0 w.heap.size 3 arr1) := by rw [← HW0.out]; exact hid ((Has.fresh w 3 arr1).more _)
  have HA2 : Hid (Has W0 (w.heap.size + 1) 3 arr2) := by rw [← HW0.out]; exact hid (Has.fresh' (w.alloc _) 3 arr2 (by simp))
  clear hT
  go_enter Tryd.func6, Tryd.ntmps6
  go_wp2
  generalize hWW : World.alloc (World.alloc _ _) _ = W1
  obtain rfl : W0 = W1 := HW0.out.symm.trans hWW
  clear hWW
  go_loopw [3] (fun b wr => ∃ k : Nat, k ≤ 9 ∧ b = .int .i64 ((2 * k : Nat) : Int) ∧ Hid (Has wr w.heap.size 3 arr1) ∧ Hid (Has wr (w.heap.size + 1) 3 arr2) ∧ Hid (Below w.heap.size w wr)) (fun b _ => 18 - (intOf b).toNat)
  case atStart => exact ⟨0, by omega, rfl, HA1.out, HA2.out, HB0.out⟩
  case round =>
    obtain ⟨k, hk, rfl, J1, J2, J3⟩ := hrel
    by_cases hlt : k < 9
    · obtain ⟨a, b, h1, h2, h3⟩ := arr1_at k hlt
      obtain ⟨j, hj⟩ : ∃ j, 2 * k = j := ⟨_, rfl⟩
      rw [hj] at h1 h2
      rw [hj]
      have hj1 : (j : Int) < 18 := by omega
      have hj2 : (j : Int) + 1 < 18 := by omega
      have hj0 : (0 : Int) ≤ (j : Int) + 1 := by omega
      have hj5 : ((j : Int) + 1).toNat = j + 1 := by omega
      have w1 : IntKind.i64.wrap ((j : Int) + 1) = (j : Int) + 1 := i64in _ (by omega) (by omega)
      have w2 : IntKind.i64.wrap ((j : Int) + 2) = (j : Int) + 2 := i64in _ (by omega) (by omega)
      have HC1 : Hid (∀ W, Has W w.heap.size 3 arr1 → W.cell? ⟨w.heap.size, j, none⟩ = some (.int .i64 a)) := fun W hW => (hW.at_ j).trans h1
      have HC2 : Hid (∀ W, Has W w.heap.size 3 arr1 → W.cell? ⟨w.heap.size, j + 1, none⟩ = some (.int .i64 b)) := fun W hW => (hW.at_ (j + 1)).trans h2
      have CZ := hid (size_any a)
      rw [h3] at CZ
      have HJ := hid hj
      have J1d : Hid (Has wr.drew w.heap.size 3 arr1) := J1
      clear h1 h2 h3 hj
      go_wp2
      refine wp_region_noPanic ?_
      refine wp_region_held_drew (S := fun W => Has W (w.heap.size) 3 arr1) (by kernel_rfl) (J1d.out) (fun hS => ?_)
      refine wpAnyH_take (i := 0) (v := ?_) (by simp only [List.getElem?_toArray, List.getElem?_cons_zero]; rfl) (by kernel_rfl) (by kernel_rfl) (by kernel_rfl) (fun _ _ _ h => h) (Or.inl ⟨by rfl, ?_⟩) (by assumption) ?_
      rotate_left 1
      · intro w hSw
        go_simp
        with_reducible rfl
      simp only [Act.put, List.setIfInBounds_toArray, List.set_cons_zero, List.set_cons_succ]
      refine wpAnyH_take (i := 1) (v := ?_) (by simp only [List.getElem?_toArray, List.getElem?_cons_zero, List.getElem?_cons_succ]; rfl) (by kernel_rfl) (by kernel_rfl) (by kernel_rfl) (fun _ _ _ h => h) (Or.inl ⟨by rfl, ?_⟩) (by assumption) ?_
      rotate_left 1
      · intro w hSw
        go_simp
        with_reducible rfl
      simp only [Act.put, List.setIfInBounds_toArray, List.set_cons_zero, List.set_cons_succ]
      refine wpAnyH_take (i := 2) (v := ?_) (by simp only [List.getElem?_toArray, List.getElem?_cons_zero, List.getElem?_cons_succ]; rfl) (by kernel_rfl) (by kernel_rfl) (by kernel_rfl) (fun _ _ _ h => h) (Or.inl ⟨by rfl, ?_⟩) (by assumption) ?_
      rotate_left 1
      · intro w hSw
        go_simp
        with_reducible rfl
      simp only [Act.put, List.setIfInBounds_toArray, List.set_cons_zero, List.set_cons_succ]
      refine wpAnyH_take (i := 3) (v := ?_) (by simp only [List.getElem?_toArray, List.getElem?_cons_zero, List.getElem?_cons_succ]; rfl) (by kernel_rfl) (by kernel_rfl) (by kernel_rfl) (fun _ _ _ h => h) (Or.inl ⟨by rfl, ?_⟩) (by assumption) ?_
      rotate_left 1
      · intro w hSw
        have hc := HC1.out w hSw
        go_simp
        with_reducible rfl
      simp only [Act.put, List.setIfInBounds_toArray, List.set_cons_zero, List.set_cons_succ]
      refine wpAnyH_take (i := 5) (v := ?_) (by simp only [List.getElem?_toArray, List.getElem?_cons_zero, List.getElem?_cons_succ]; rfl) (by kernel_rfl) (by kernel_rfl) (by kernel_rfl) (fun _ _ _ h => h) (Or.inl ⟨by rfl, ?_⟩) (by assumption) ?_
      rotate_left 1
      · intro w hSw
        go_simp
        with_reducible rfl
      simp only [Act.put, List.setIfInBounds_toArray, List.set_cons_zero, List.set_cons_succ]
      refine wpAnyH_take (i := 6) (v := ?_) (by simp only [List.getElem?_toArray, List.getElem?_cons_zero, List.getElem?_cons_succ]; rfl) (by kernel_rfl) (by kernel_rfl) (by kernel_rfl) (fun _ _ _ h => h) (Or.inl ⟨by rfl, ?_⟩) (by assumption) ?_
      rotate_left 1
      · intro w hSw
        go_simp
        with_reducible rfl
      simp only [Act.put, List.setIfInBounds_toArray, List.set_cons_zero, List.set_cons_succ]
      refine wpAnyH_take (i := 7) (v := ?_) (by simp only [List.getElem?_toArray, List.getElem?_cons_zero, List.getElem?_cons_succ]; rfl) (by kernel_rfl) (by kernel_rfl) (by kernel_rfl) (fun _ _ _ h => h) (Or.inl ⟨by rfl, ?_⟩) (by assumption) ?_
      rotate_left 1
      · intro w hSw
        go_simp
        with_reducible rfl
      simp only [Act.put, List.setIfInBounds_toArray, List.set_cons_zero, List.set_cons_succ]
      refine wpAnyH_take (i := 8) (v := ?_) (by simp only [List.getElem?_toArray, List.getElem?_cons_zero, List.getElem?_cons_succ]; rfl) (by kernel_rfl) (by kernel_rfl) (by kernel_rfl) (fun _ _ _ h => h) (Or.inl ⟨by rfl, ?_⟩) (by assumption) ?_
      rotate_left 1
      · intro w hSw
        go_simp
        with_reducible rfl
      simp only [Act.put, List.setIfInBounds_toArray, List.set_cons_zero, List.set_cons_succ]
      refine wpAnyH_take (i := 9) (v := ?_) (by simp only [List.getElem?_toArray, List.getElem?_cons_zero, List.getElem?_cons_succ]; rfl) (by kernel_rfl) (by kernel_rfl) (by kernel_rfl) (fun _ _ _ h => h) (Or.inl ⟨by rfl, ?_⟩) (by assumption) ?_
      rotate_left 1
      · intro w hSw
        have hc := HC2.out w hSw
        go_simp
        with_reducible rfl
      simp only [Act.put, List.setIfInBounds_toArray, List.set_cons_zero, List.set_cons_succ]
      refine wpAnyH_ready (rs := [4]) (by kernel_rfl) (by simp) ?_
      refine AllReadyH.cons (by simp only [List.getElem?_toArray, List.getElem?_cons_zero, List.getElem?_cons_succ]; rfl) (fun K hK => ?_) AllReadyH.nil
      go_simp
      refine (CZ.out _).mono ?_
      rintro e1 w1 ⟨rfl, rfl⟩
      have hz1 := J1d.out
      refine hK.out _ _ hz1 (fun hS => ?_)
      clear hK K hS
      refine wpAnyH_take (i := 10) (v := ?_) (by simp only [List.getElem?_toArray, List.getElem?_cons_zero, List.getElem?_cons_succ]; rfl) (by kernel_rfl) (by kernel_rfl) (by kernel_rfl) (fun _ _ _ h => h) (Or.inl ⟨by rfl, ?_⟩) (by assumption) ?_
      rotate_left 1
      · intro w hSw
        go_simp
        with_reducible rfl
      simp only [Act.put, List.setIfInBounds_toArray, List.set_cons_zero, List.set_cons_succ]
      refine wpAnyH_done (by kernel_rfl) ?_ _
      refine NoPanic.normal ?_
      go_wp2
      go_roundw
      case rel => exact ⟨k + 1, by omega, by have := HJ.out; rw [show 2 * (k + 1) = j + 2 by omega]; rfl, J1.out, J2.out, J3.out.drew⟩
      case measure => have := HJ.out; simp [intOf]; omega
    · obtain rfl : k = 9 := by omega
      rw [show ((2 * 9 : Nat) : Int) = 18 from rfl]
      clear HA1 HA2 HB0 HW0
      go_wp2
      go_loopw [4] (fun b wq => ∃ k : Nat, k ≤ 8 ∧ b = .int .i64 ((2 * k : Nat) : Int) ∧ Hid (Has wq (w.heap.size + 1) 3 arr2) ∧ Hid (Below w.heap.size w wq)) (fun b _ => 16 - (intOf b).toNat)
      case atStart => exact ⟨0, by omega, rfl, J2.out, J3.out⟩
      case round =>
        clear J1 J2 J3
        obtain ⟨k, hk, rfl, J1, J3⟩ := hrel
        by_cases hlt : k < 8
        · obtain ⟨a, b, h1, h2, h3⟩ := arr2_at k hlt
          obtain ⟨j, hj⟩ : ∃ j, 2 * k = j := ⟨_, rfl⟩
          rw [hj] at h1 h2
          rw [hj]
          have hj1 : (j : Int) < 16 := by omega
          have hj2 : (j : Int) + 1 < 16 := by omega
          have hj0 : (0 : Int) ≤ (j : Int) + 1 := by omega
          have hj5 : ((j : Int) + 1).toNat = j + 1 := by omega
          have w1 : IntKind.i64.wrap ((j : Int) + 1) = (j : Int) + 1 := i64in _ (by omega) (by omega)
          have w2 : IntKind.i64.wrap ((j : Int) + 2) = (j : Int) + 2 := i64in _ (by omega) (by omega)
          have HC1 : Hid (∀ W, Has W (w.heap.size + 1) 3 arr2 → W.cell? ⟨w.heap.size + 1, j, none⟩ = some (.int .i64 a)) := fun W hW => (hW.at_ j).trans h1
          have HC2 : Hid (∀ W, Has W (w.heap.size + 1) 3 arr2 → W.cell? ⟨w.heap.size + 1, j + 1, none⟩ = some (.int .i64 b)) := fun W hW => (hW.at_ (j + 1)).trans h2
          have CZ := hid (count_any a)
          rw [h3] at CZ
          have HJ := hid hj
          have J1d := hid (J1.out.drawn 1)
          clear h1 h2 h3 hj
          go_wp2
          refine wp_region_noPanic ?_
          refine wp_region_held_drew (S := fun W => Has W (w.heap.size + 1) 3 arr2) (by kernel_rfl) (J1d.out) (fun hS => ?_)
          refine wpAnyH_take (i := 0) (v := ?_) (by simp only [List.getElem?_toArray, List.getElem?_cons_zero]; rfl) (by kernel_rfl) (by kernel_rfl) (by kernel_rfl) (fun _ _ _ h => h) (Or.inl ⟨by rfl, ?_⟩) (by assumption) ?_
          rotate_left 1
          · intro w hSw
            go_simp
            with_reducible rfl
          simp only [Act.put, List.setIfInBounds_toArray, List.set_cons_zero, List.set_cons_succ]
          refine wpAnyH_take (i := 1) (v := ?_) (by simp only [List.getElem?_toArray, List.getElem?_cons_zero, List.getElem?_cons_succ]; rfl) (by kernel_rfl) (by kernel_rfl) (by kernel_rfl) (fun _ _ _ h => h) (Or.inl ⟨by rfl, ?_⟩) (by assumption) ?_
          rotate_left 1
          · intro w hSw
            go_simp
            with_reducible rfl
          simp only [Act.put, List.setIfInBounds_toArray, List.set_cons_zero, List.set_cons_succ]
          refine wpAnyH_take (i := 2) (v := ?_) (by simp only [List.getElem?_toArray, List.getElem?_cons_zero, List.getElem?_cons_succ]; rfl) (by kernel_rfl) (by kernel_rfl) (by kernel_rfl) (fun _ _ _ h => h) (Or.inl ⟨by rfl, ?_⟩) (by assumption) ?_
          rotate_left 1
          · intro w hSw
            go_simp
            with_reducible rfl
          simp only [Act.put, List.setIfInBounds_toArray, List.set_cons_zero, List.set_cons_succ]
          refine wpAnyH_take (i := 3) (v := ?_) (by simp only [List.getElem?_toArray, List.getElem?_cons_zero, List.getElem?_cons_succ]; rfl) (by kernel_rfl) (by kernel_rfl) (by kernel_rfl) (fun _ _ _ h => h) (Or.inl ⟨by rfl, ?_⟩) (by assumption) ?_
          rotate_left 1
          · intro w hSw
            have hc := HC1.out w hSw
            go_simp
            with_reducible rfl
          simp only [Act.put, List.setIfInBounds_toArray, List.set_cons_zero, List.set_cons_succ]
          refine wpAnyH_take (i := 5) (v := ?_) (by simp only [List.getElem?_toArray, List.getElem?_cons_zero, List.getElem?_cons_succ]; rfl) (by kernel_rfl) (by kernel_rfl) (by kernel_rfl) (fun _ _ _ h => h) (Or.inl ⟨by rfl, ?_⟩) (by assumption) ?_
          rotate_left 1
          · intro w hSw
            go_simp
            with_reducible rfl
          simp only [Act.put, List.setIfInBounds_toArray, List.set_cons_zero, List.set_cons_succ]
          refine wpAnyH_take (i := 6) (v := ?_) (by simp only [List.getElem?_toArray, List.getElem?_cons_zero, List.getElem?_cons_succ]; rfl) (by kernel_rfl) (by kernel_rfl) (by kernel_rfl) (fun _ _ _ h => h) (Or.inl ⟨by rfl, ?_⟩) (by assumption) ?_
          rotate_left 1
          · intro w hSw
            go_simp
            with_reducible rfl
          simp only [Act.put, List.setIfInBounds_toArray, List.set_cons_zero, List.set_cons_succ]
          refine wpAnyH_take (i := 7) (v := ?_) (by simp only [List.getElem?_toArray, List.getElem?_cons_zero, List.getElem?_cons_succ]; rfl) (by kernel_rfl) (by kernel_rfl) (by kernel_rfl) (fun _ _ _ h => h) (Or.inl ⟨by rfl, ?_⟩) (by assumption) ?_
          rotate_left 1
          · intro w hSw
            go_simp
            with_reducible rfl
          simp only [Act.put, List.setIfInBounds_toArray, List.set_cons_zero, List.set_cons_succ]
          refine wpAnyH_take (i := 8) (v := ?_) (by simp only [List.getElem?_toArray, List.getElem?_cons_zero, List.getElem?_cons_succ]; rfl) (by kernel_rfl) (by kernel_rfl) (by kernel_rfl) (fun _ _ _ h => h) (Or.inl ⟨by rfl, ?_⟩) (by assumption) ?_
          rotate_left 1
          · intro w hSw
            go_simp
            with_reducible rfl
          simp only [Act.put, List.setIfInBounds_toArray, List.set_cons_zero, List.set_cons_succ]
          refine wpAnyH_take (i := 9) (v := ?_) (by simp only [List.getElem?_toArray, List.getElem?_cons_zero, List.getElem?_cons_succ]; rfl) (by kernel_rfl) (by kernel_rfl) (by kernel_rfl) (fun _ _ _ h => h) (Or.inl ⟨by rfl, ?_⟩) (by assumption) ?_
          rotate_left 1
          · intro w hSw
            have hc := HC2.out w hSw
            go_simp
            with_reducible rfl
          simp only [Act.put, List.setIfInBounds_toArray, List.set_cons_zero, List.set_cons_succ]
          refine wpAnyH_ready (rs := [4]) (by kernel_rfl) (by simp) ?_
          refine AllReadyH.cons (by simp only [List.getElem?_toArray, List.getElem?_cons_zero, List.getElem?_cons_succ]; rfl) (fun K hK => ?_) AllReadyH.nil
          go_simp
          refine (CZ.out _).mono ?_
          rintro e1 w1 ⟨rfl, rfl⟩
          have hz1 := J1d.out
          refine hK.out _ _ hz1 (fun hS => ?_)
          clear hK K hS
          refine wpAnyH_take (i := 10) (v := ?_) (by simp only [List.getElem?_toArray, List.getElem?_cons_zero, List.getElem?_cons_succ]; rfl) (by kernel_rfl) (by kernel_rfl) (by kernel_rfl) (fun _ _ _ h => h) (Or.inl ⟨by rfl, ?_⟩) (by assumption) ?_
          rotate_left 1
          · intro w hSw
            go_simp
            with_reducible rfl
          simp only [Act.put, List.setIfInBounds_toArray, List.set_cons_zero, List.set_cons_succ]
          refine wpAnyH_done (by kernel_rfl) ?_ _
          refine NoPanic.normal ?_
          go_wp2
          go_roundw
          case rel => exact ⟨k + 1, by omega, by have := HJ.out; rw [show 2 * (k + 1) = j + 2 by omega]; rfl, J1.out, J3.out.drew⟩
          case measure => have := HJ.out; simp [intOf]; omega
        · obtain rfl : k = 8 := by omega
          rw [show ((2 * 8 : Nat) : Int) = 16 from rfl]
          obtain ⟨X, HX⟩ : ∃ X, Hid (ba x16 = X) := ⟨_, rfl⟩
          clear hlt hk
          go_wp2_with (fail)
          generalize hBB : World.alloc _ _ = WB
          have HBY : Hid (Bytes WB (.slice (some ⟨wr.heap.size, 0, none⟩) 17 17) b17 (some ⟨wr.heap.size, 0, none⟩) 17 wr.heap.size 0) := by rw [← hBB]; exact hid (bytes_lits wr b17 17 rfl _)
          have BB : Hid (Below w.heap.size w WB) := by rw [← hBB]; exact hid (J3.out.alloc J3.out.size _)
          clear hBB J1 J3
          generalize wr.heap.size = gB at HBY ⊢
          refine (two_any WB (HT.out.kept BB.out HPOS.out)).mono ?_
          rintro e1 w1 ⟨own, p, rfl, htw, how, hb1⟩
          have TW1 := hid htw
          have B1 := hid (BB.out.trans (hb1.mono BB.out.size))
          have Y1 := hid (HBY.out.kept hb1 (Nat.le_refl _))
          have O1 : Hid (∀ g, own g → w.heap.size ≤ g) := fun g hg => Nat.le_trans BB.out.size (how g hg)
          clear htw how hb1
          go_wp2_with (fail)
          refine (rep_x _).mono ?_
          rintro e2 w2 ⟨rfl, hb2⟩
          rw [HX.out]
          have TW2 := hid (TW1.out.on hb2 (Nat.le_refl _))
          have B2 := hid (B1.out.trans (hb2.mono B1.out.size))
          have Y2 := hid (Y1.out.kept hb2 (Nat.le_refl _))
          clear hb2
          go_wp2_with (fail)
          refine (awake_any w2 (HT.out.kept B2.out HPOS.out)).mono ?_
          rintro e3 w3 ⟨rfl, hb3⟩
          have TW3 := hid (TW2.out.on hb3 (Nat.le_refl _))
          have B3 := hid (B2.out.trans (hb3.mono B2.out.size))
          have Y3 := hid (Y2.out.kept hb3 (Nat.le_refl _))
          clear hb3
          have CP0 := part_any _ b17 _ _ _ _ 0 w3 Y3.out
          rw [show partI b17 0 = [97, 98, 99, 100, 101, 102, 103, 104, 105, 106, 107, 108, 109, 110, 111, 112] from rfl] at CP0
          go_wp2_with (fail)
          refine CP0.mono ?_
          rintro e4 w4 ⟨v4, rfl, hf4, hb4⟩
          have TW4 := hid (TW3.out.on hb4 (Nat.le_refl _))
          have B4 := hid (B3.out.trans (hb4.mono B3.out.size))
          have Y4 := hid (Y3.out.kept hb4 (Nat.le_refl _))
          obtain ⟨A4, c4, b4, hy4, _, _⟩ := hf4.bytes (Nat.lt_of_lt_of_le HPOS.out B4.out.size)
          have hcv4 : (convert 25 9 v4).run Tryd.prog w4 = .ok (.string ⟨#[97, 98, 99, 100, 101, 102, 103, 104, 105, 106, 107, 108, 109, 110, 111, 112]⟩) w4 := conv_back hy4
          have CP1 := part_any _ b17 _ _ _ _ 1 w4 Y4.out
          rw [show partI b17 1 = [113] from rfl] at CP1
          clear hf4 hb4 hy4 CP0
          go_wp2_with (fail)
          refine CP1.mono ?_
          rintro e5 w5 ⟨v5, rfl, hf5, hb5⟩
          have TW5 := hid (TW4.out.on hb5 (Nat.le_refl _))
          have B5 := hid (B4.out.trans (hb5.mono B4.out.size))
          have Y5 := hid (Y4.out.kept hb5 (Nat.le_refl _))
          obtain ⟨A5, c5, b5, hy5, _, _⟩ := hf5.bytes (Nat.lt_of_lt_of_le HPOS.out B5.out.size)
          have hcv5 : (convert 25 9 v5).run Tryd.prog w5 = .ok (.string ⟨#[113]⟩) w5 := conv_back hy5
          have CP2 := part_any _ b17 _ _ _ _ 2 w5 Y5.out
          rw [show partI b17 2 = [] from rfl] at CP2
          clear hf5 hb5 hy5 CP1 hcv4
          go_wp2_with (fail)
          refine CP2.mono ?_
          rintro e6 w6 ⟨v6, rfl, hf6, hb6⟩
          have TW6 := hid (TW5.out.on hb6 (Nat.le_refl _))
          have B6 := hid (B5.out.trans (hb6.mono B5.out.size))
          have Y6 := hid (Y5.out.kept hb6 (Nat.le_refl _))
          obtain ⟨A6, c6, b6, hy6, _, _⟩ := hf6.bytes (Nat.lt_of_lt_of_le HPOS.out B6.out.size)
          obtain rfl := hy6.form
          have CP3 := part_any _ b17 _ _ _ _ (-1) w6 Y6.out
          rw [show partI b17 (-1) = [] from rfl] at CP3
          clear hf6 hb6 hy6 CP2 hcv5
          go_wp2_with (fail)
          refine CP3.mono ?_
          rintro e7 w7 ⟨v7, rfl, hf7, hb7⟩
          have TW7 := hid (TW6.out.on hb7 (Nat.le_refl _))
          have B7 := hid (B6.out.trans (hb7.mono B6.out.size))
          obtain ⟨A7, c7, b7, hy7, _, _⟩ := hf7.bytes (Nat.lt_of_lt_of_le HPOS.out B7.out.size)
          obtain rfl := hy7.form
          clear hf7 hb7 hy7 CP3
          go_wp2_with (fail)
          refine (len_any TW7.out).mono ?_
          rintro e8 w8 ⟨rfl, rfl⟩
          have CF := forget_any TW7.out (HT.out.kept B7.out HPOS.out) (fun e => by have := O1.out 0 e; have := HPOS.out; omega) [97] (by decide) (by omega)
          rw [F2_a] at CF
          go_wp2_with (fail)
          refine CF.mono ?_
          rintro e9 w9 ⟨rfl, hp9⟩
          have B9 := hid (B7.out.trans (hp9.below O1.out B7.out.size))
          obtain ⟨own9, hf9, ht9, hs9, hn9⟩ := hp9
          have FN9 := hid hf9
          have O9 : Hid (∀ g, own9 g → w.heap.size ≤ g) := fun g hg => by rcases hn9 g hg with h | h; exact O1.out g h; exact Nat.le_trans B7.out.size h
          clear hf9 ht9 hs9 hn9 CF
          have CF2 := forget_no FN9.out [97] (by decide) (by unfold delF; simp)
          go_wp2_with (fail)
          refine CF2.mono ?_
          rintro e10 w10 ⟨rfl, rfl⟩
          have CB := fin_b FN9.out (HT.out.kept B9.out HPOS.out)
          rw [HX.out] at CB
          clear CF2
          go_wp2_with (fail)
          refine CB.mono ?_
          rintro e11 w11 ⟨rfl, hb11⟩
          have FN11 := hid (FN9.out.on hb11 (Nat.le_refl _))
          have B11 := hid (B9.out.trans (hb11.mono B9.out.size))
          clear hb11 CB
          have CN := len_any FN11.out
          rw [show fgc F2 [97] 2 = 1 by unfold fgc; rw [F2_a]] at CN
          go_wp2_with (fail)
          refine CN.mono ?_
          rintro e12 w12 ⟨rfl, rfl⟩
          clear CN
          obtain ⟨Z, HZ, hmk⟩ := make_long
          have HZZ := hid HZ
          clear HZ
          go_wp2_with (fail)
          have hbz : Below w11.heap.size w11 (w11.alloc (.cells Z 5)) := (Below.refl _ _).alloc (Nat.le_refl _) _
          have CLL := list_long _ _ _ _ _ _ _ (bytes_long Z HZZ.out w11) (by rw [List.length_replicate]; omega)
          have FN13 := hid (FN11.out.on hbz (Nat.le_refl _))
          have B13 := hid (B11.out.trans (hbz.mono B11.out.size))
          generalize w11.alloc (.cells Z 5) = WZ at CLL FN13 B13 ⊢
          clear hbz
          refine CLL.mono ?_
          rintro e13 w13 ⟨rfl, rfl⟩
          clear CLL
          go_wp2_with (fail)
          have hnf : NoF (WZ.alloc (.cells #[.map none, .map none] 66)) (.pointer (some ⟨WZ.heap.size, 0, none⟩)) := .inr ⟨_, rfl, (Has.fresh WZ 66 #[.map none, .map none]).at_ 0, by simp⟩
          have hbf : Below WZ.heap.size WZ (WZ.alloc (.cells #[.map none, .map none] 66)) := (Below.refl _ _).alloc (Nat.le_refl _) _
          have FN14 := hid (FN13.out.on hbf (Nat.le_refl _))
          have B14 := hid (B13.out.trans (hbf.mono B13.out.size))
          have HNF := hid hnf
          generalize WZ.alloc (.cells #[.map none, .map none] 66) = WF at HNF FN14 B14 ⊢
          clear hnf hbf
          generalize WZ.heap.size = gz at HNF ⊢
          have P14 := Nat.lt_of_lt_of_le HPOS.out B14.out.size
          refine (sum_any (.slice none 0 0) [] none 0 0 0 WF (HT.out.kept B14.out HPOS.out) (Bytes.nil WF P14) (by simp)).mono ?_
          rintro e15 w15 ⟨rfl, hb15⟩
          have FN15 := hid (FN14.out.on hb15 (Nat.le_refl _))
          have B15 := hid (B14.out.trans (hb15.mono B14.out.size))
          have NF15 := hid (HNF.out.on hb15)
          clear hb15
          generalize dg [] = dn
          go_wp2_with (fail)
          refine (nof_find (w := w15) (v := .pointer none) (.inl rfl) dn).mono ?_
          rintro e16 w16 ⟨rfl, hb16⟩
          have FN16 := hid (FN15.out.on hb16 (Nat.le_refl _))
          have B16 := hid (B15.out.trans (hb16.mono B15.out.size))
          have NF16 := hid (NF15.out.on hb16)
          clear hb16
          go_wp2_with (first
            | (refine wpList_store_row rfl 54 (.tmp 13) (.tmp 121) rfl w16.heap.size zpl rfl rfl 54 zpl (Has.fresh w16 54 _) (by kernel_rfl) rfl (by simp [zpl, Value.oneCell']) ?_
               generalize hG : World.setRow _ _ _ = W1
               obtain ⟨W0, hG0, X2⟩ := box_z w16
               obtain rfl : W0 = W1 := hG0.symm.trans hG
               clear hG hG0)
            | fail)
          have FN17 := hid (FN16.out.on X2.out (Nat.le_refl _))
          have B17 := hid (B16.out.trans (X2.out.mono B16.out.size))
          have NF17 := hid (NF16.out.on X2.out)
          have P17 := Nat.lt_of_lt_of_le HPOS.out B17.out.size
          refine (sum_any (.slice none 0 0) [] none 0 0 0 W0 (HT.out.kept B17.out HPOS.out) (Bytes.nil W0 P17) (by simp)).mono ?_
          rintro e18 w18 ⟨rfl, hb18⟩
          have FN18 := hid (FN17.out.on hb18 (Nat.le_refl _))
          have B18 := hid (B17.out.trans (hb18.mono B17.out.size))
          have NF18 := hid (NF17.out.on hb18)
          clear hb18 X2
          generalize dg [] = dm
          go_wp2_with (fail)
          refine (nof_find NF18.out dm).mono ?_
          rintro e19 w19 ⟨rfl, hb19⟩
          have FN19 := hid (FN18.out.on hb19 (Nat.le_refl _))
          have B19 := hid (B18.out.trans (hb19.mono B18.out.size))
          have NF19 := hid (NF18.out.on hb19)
          clear hb19
          go_wp2_with (first
            | (refine wpList_store_row rfl 54 (.tmp 16) (.tmp 128) rfl w19.heap.size zpl rfl rfl 54 zpl (Has.fresh w19 54 _) (by kernel_rfl) rfl (by simp [zpl, Value.oneCell']) ?_
               generalize hG : World.setRow _ _ _ = W1
               obtain ⟨W2, hG0, X2⟩ := box_z w19
               obtain rfl : W2 = W1 := hG0.symm.trans hG
               clear hG hG0)
            | fail)
          have FN20 := hid (FN19.out.on X2.out (Nat.le_refl _))
          have B20 := hid (B19.out.trans (X2.out.mono B19.out.size))
          have NF20 := hid (NF19.out.on X2.out)
          clear X2
          have hbz : Below W2.heap.size W2 (W2.alloc (.cells Z 5)) := (Below.refl _ _).alloc (Nat.le_refl _) _
          have FN21 := hid (FN20.out.on hbz (Nat.le_refl _))
          have B21 := hid (B20.out.trans (hbz.mono B20.out.size))
          have NF21 := hid (NF20.out.on hbz)
          have CAL := add_long FN21.out [99] _ _ _ _ _ _ (bytes_long Z HZZ.out W2) (by rw [List.length_replicate]; omega)
          generalize W2.alloc (.cells Z 5) = WY at CAL FN21 B21 NF21 ⊢
          clear hbz
          refine CAL.mono ?_
          rintro e22 w22 ⟨rfl, rfl⟩
          clear CAL
          have CN := len_any FN21.out
          rw [show fgc F2 [97] 2 = 1 by unfold fgc; rw [F2_a]] at CN
          go_wp2_with (fail)
          refine CN.mono ?_
          rintro e23 w23 ⟨rfl, rfl⟩
          clear CN
          go_wp2_with (fail)
          refine (nof_add (w := WY) (v := .pointer none) (.inl rfl) _ _).mono ?_
          rintro e24 w24 ⟨rfl, rfl⟩
          go_wp2_with (fail)
          refine (nof_add NF21.out _ _).mono ?_
          rintro e25 w25 ⟨rfl, rfl⟩
          go_wp2_with (fail)
          refine (nof_forget (w := WY) (v := .pointer none) (.inl rfl) _).mono ?_
          rintro e26 w26 ⟨rfl, rfl⟩
          go_wp2_with (fail)
          refine (nof_forget NF21.out _).mono ?_
          rintro e27 w27 ⟨rfl, rfl⟩
          go_wp2_with (fail)
          refine (nof_len (w := WY) (v := .pointer none) (.inl rfl)).mono ?_
          rintro e28 w28 ⟨rfl, rfl⟩
          go_wp2_with (fail)
          refine (nof_len NF21.out).mono ?_
          rintro e29 w29 ⟨rfl, rfl⟩
          go_wp2
          go_ret
          exact ⟨rfl, B21.out⟩
end Go.Proofs.YtlcdkponegmcdaaDoor
