/- The law GlobKnown: its walk. No conditions. -/
import Derived.Test.YtbbbopdlefeffaaKJ
import Derived.Test.YtbbbopdlefeffaaShelf
import Derived.Deep.DeepCutAuto
namespace Go.Proofs.Ytbbbopdlefeffaa.Glob
open Go.RowKit
theorem rep_any (x : UInt8) (c : Nat) (h2 : 2 ≤ c) (h3 : c ≤ 1000) (w : World) : Calls Try.prog 19 #[.string ⟨#[x]⟩, .int .i64 (c : Int)] w fun e w' => e = .returned (.string (ba (List.replicate c x))) ∧ Below w.heap.size w w' := by
  refine (Try.strings_Repeat ⟨#[x]⟩ c w (by omega) (by show 1 * c ≤ _; omega)).mono fun e w' ⟨h1, h2⟩ => ⟨?_, h2⟩
  rw [h1]
  have : Lib.repeatL [x] c = List.replicate c x := by
    have := Lib.repeatL_replicate x 1 c
    simpa using this
  show Ending.returned (.string ⟨(Lib.repeatL [x] c).toArray⟩) = _
  rw [this]; rfl
theorem row_at (L : List By) (j : Nat) (h : j < L.length) : ((L.map fun l => Value.string (ba l)).toArray)[j]? = some (.string (ba (L.getD j []))) := by
  simp [List.getD, List.getElem?_eq_getElem h]
set_option maxRecDepth 100000 in
set_option maxHeartbeats 8000000 in
theorem known_any (w : World) : Calls Try.prog 5 #[] w fun e w' => e = .returned (.bool true) ∧ Below w.heap.size w w' := by
  obtain ⟨r160, h160⟩ : ∃ r, List.replicate 160 (97 : UInt8) = r := ⟨_, rfl⟩
  obtain ⟨r161, h161⟩ : ∃ r, List.replicate 161 (97 : UInt8) = r := ⟨_, rfl⟩
  obtain ⟨r129, h129⟩ : ∃ r, List.replicate 129 (97 : UInt8) = r := ⟨_, rfl⟩
  obtain ⟨r128, h128⟩ : ∃ r, List.replicate 128 (42 : UInt8) = r := ⟨_, rfl⟩
  have C1 : Hid (∀ W, Calls Try.prog 19 #[.string ⟨#[97]⟩, .int .i64 160] W fun e w' => e = .returned (.string (ba r160)) ∧ Below W.heap.size W w') := fun W => h160 ▸ rep_any 97 160 (by omega) (by omega) W
  have C2 : Hid (∀ W, Calls Try.prog 19 #[.string ⟨#[97]⟩, .int .i64 161] W fun e w' => e = .returned (.string (ba r161)) ∧ Below W.heap.size W w') := fun W => h161 ▸ rep_any 97 161 (by omega) (by omega) W
  have C3 : Hid (∀ W, Calls Try.prog 19 #[.string ⟨#[97]⟩, .int .i64 129] W fun e w' => e = .returned (.string (ba r129)) ∧ Below W.heap.size W w') := fun W => h129 ▸ rep_any 97 129 (by omega) (by omega) W
  have C4 : Hid (∀ W, Calls Try.prog 19 #[.string ⟨#[42]⟩, .int .i64 128] W fun e w' => e = .returned (.string (ba r128)) ∧ Below W.heap.size W w') := fun W => h128 ▸ rep_any 42 128 (by omega) (by omega) W
  have K1 : Hid (∀ j, j < 13 → ofB ((L1 r160).getD (2 * j) []) ((L1 r160).getD (2 * j + 1) []) = true) := h160 ▸ known1
  have K2 : Hid (∀ j, j < 8 → ofB ((L2 r161).getD (2 * j) []) ((L2 r161).getD (2 * j + 1) []) = false) := h161 ▸ known2
  have K129 : Hid (perr r129 = 3) := h129 ▸ k129
  have K128 : Hid (perr r128 = 0) := h128 ▸ k128
  have CP7 : Hid (∀ W, Calls Try.prog 9 #[.string ⟨#[40, 63, 100, 41, 33, 40, 63, 105, 41, 47, 97]⟩] W fun e w' => ParseIs t7 e w' ∧ Below W.heap.size W w') := fun W => parse_any t7 W
  have N1 : Hid ((L1 r160).length = 26) := rfl
  have N2 : Hid ((L2 r161).length = 16) := rfl
  clear h160 h161 h129 h128
  go_enter Try.func5, Try.ntmps5
  go_wp2_with (fail)
  refine (C1.out _).mono ?_
  rintro e1 w1 ⟨rfl, hb1⟩
  obtain ⟨W1, hW1⟩ : ∃ W1, w1.alloc (.cells #[.string ⟨#[97, 42, 99]⟩, .string ⟨#[97, 99]⟩, .string ⟨#[97, 42, 99]⟩, .string ⟨#[97, 98, 99]⟩, .string ⟨#[47, 97, 42, 99]⟩, .string ⟨#[97, 98, 99]⟩, .string ⟨#[47, 97, 42, 99]⟩, .string ⟨#[97, 98, 99, 47, 121]⟩, .string ⟨#[40, 63, 105, 41, 88, 63]⟩, .string ⟨#[120, 121]⟩, .string ⟨#[40, 63, 105, 41, 88, 63]⟩, .string ⟨#[88, 89]⟩, .string ⟨#[40, 63, 105, 41, 88, 63]⟩, .string ⟨#[122, 47, 120, 121]⟩, .string ⟨#[91, 33, 97, 45, 99, 93, 120]⟩, .string ⟨#[100, 120]⟩, .string ⟨#[97, 91, 98, 45, 93, 92, 42]⟩, .string ⟨#[97, 45, 42]⟩, .string ⟨#[97, 91, 98, 45, 93, 92, 42]⟩, .string ⟨#[97, 98, 42]⟩, .string ⟨#[91, 97, 45, 99, 93]⟩, .string ⟨#[98]⟩, .string ⟨#[40, 63, 105, 41, 91, 97, 45, 99, 93]⟩, .string ⟨#[66]⟩, .string ⟨#[42, 42]⟩, .string (ba r160)] 9) = W1 := ⟨_, rfl⟩
  obtain ⟨g1, hg1⟩ : ∃ g1, w1.heap.size = g1 := ⟨_, rfl⟩
  have X1 : Hid (g1 < W1.heap.size ∧ ∀ j, j < 26 → W1.cell? ⟨g1, j, none⟩ = some (.string (ba ((L1 r160).getD j [])))) := by
    rw [← hg1]
    refine ⟨by rw [← hW1]; simp, fun j hj => ?_⟩
    rw [← hW1]
    exact ((Has.fresh w1 9 _).at_ j).trans (row_at (L1 r160) j (by rw [N1.out]; exact hj))
  have B1 : Hid (Below w.heap.size w W1) := hW1 ▸ hb1.alloc hb1.size _
  clear hb1
  go_wp2_with (fail)
  refine (C2.out _).mono ?_
  rintro e2 w2 ⟨rfl, hb2⟩
  obtain ⟨W2, hW2⟩ : ∃ W2, w2.alloc (.cells #[.string ⟨#[97, 42, 99]⟩, .string ⟨#[97, 98, 99, 100]⟩, .string ⟨#[40, 63, 105, 41, 88, 63]⟩, .string ⟨#[120, 47, 121]⟩, .string ⟨#[40, 63, 105, 41, 88, 63]⟩, .string ⟨#[120]⟩, .string ⟨#[91, 33, 97, 45, 99, 93, 120]⟩, .string ⟨#[97, 120]⟩, .string ⟨#[91, 33, 97, 45, 99, 93, 120]⟩, .string ⟨#[47, 120]⟩, .string ⟨#[97, 91, 98, 45, 93, 92, 42]⟩, .string ⟨#[97, 45, 98]⟩, .string ⟨#[42, 42]⟩, .string (ba r161), .string ⟨#[40, 63, 105, 41, 91, 33, 97, 45, 99, 93]⟩, .string ⟨#[66]⟩] 9) = W2 := ⟨_, rfl⟩
  obtain ⟨g2, hg2⟩ : ∃ g2, w2.heap.size = g2 := ⟨_, rfl⟩
  have X2 : Hid (g2 < W2.heap.size ∧ ∀ j, j < 16 → W2.cell? ⟨g2, j, none⟩ = some (.string (ba ((L2 r161).getD j [])))) := by
    rw [← hg2]
    refine ⟨by rw [← hW2]; simp, fun j hj => ?_⟩
    rw [← hW2]
    exact ((Has.fresh w2 9 _).at_ j).trans (row_at (L2 r161) j (by rw [N2.out]; exact hj))
  have B12 : Hid (Below W1.heap.size W1 W2) := hW2 ▸ hb2.alloc hb2.size _
  have B2 : Hid (Below w.heap.size w W2) := B1.out.thenG B12.out
  have X12 : Hid (g1 < W2.heap.size ∧ ∀ j, j < 26 → W2.cell? ⟨g1, j, none⟩ = some (.string (ba ((L1 r160).getD j [])))) := ⟨Nat.lt_of_lt_of_le X1.out.1 B12.out.size, fun j hj => (B12.out.cell (p := ⟨g1, j, none⟩) X1.out.1).trans (X1.out.2 j hj)⟩
  clear hb2 C1 C2 N1 N2 X1 B1
  go_wp2
  clear hW1 hW2 hg1 hg2 B12
  go_loopw [3] (fun v wr => ∃ (i j : Nat), v = .int .i64 (i : Int) ∧ Hid (i = 2 * j) ∧ j ≤ 13 ∧ Hid (Below W2.heap.size W2 wr))
    (fun v _ => 26 - (intOf v).toNat)
  case atStart => exact ⟨0, 0, rfl, rfl, by omega, Below.refl _ _⟩
  case round =>
    obtain ⟨i, j, rfl, HI, hj, HB⟩ := hrel
    by_cases hlt : j < 13
    · have hi : i < 26 := by have := HI.out; omega
      have hii : (i : Int) < 26 := by omega
      have hi1 : (i : Int) + 1 < 26 := by have := HI.out; omega
      have hi0 : (0 : Int) ≤ (i : Int) := by omega
      have hi3 : (0 : Int) ≤ (i : Int) + 1 := by omega
      have wi : IntKind.i64.wrap ((i : Int) + 1) = (i : Int) + 1 := i64in _ (by omega) (by omega)
      have ti : ((i : Int) + 1).toNat = i + 1 := by omega
      have XA : Hid (∀ W, Below W2.heap.size W2 W → W.cell? ⟨g1, i, none⟩ = some (.string (ba ((L1 r160).getD (2 * j) [])))) := fun W h => HI.out ▸ (h.cell (p := ⟨g1, i, none⟩) X12.out.1).trans (X12.out.2 i hi)
      have XB : Hid (∀ W, Below W2.heap.size W2 W → W.cell? ⟨g1, i + 1, none⟩ = some (.string (ba ((L1 r160).getD (2 * j + 1) [])))) := fun W h => HI.out ▸ (h.cell (p := ⟨g1, i + 1, none⟩) X12.out.1).trans (X12.out.2 (i + 1) (by have := HI.out; omega))
      have CO : Hid (∀ W, Calls Try.prog 20 #[.string (ba ((L1 r160).getD (2 * j) [])), .string (ba ((L1 r160).getD (2 * j + 1) []))] W fun e w' => e = .returned (.bool true) ∧ Below W.heap.size W w') := fun W => (K1.out j hlt) ▸ of_any _ _ W
      generalize (L1 r160).getD (2 * j) [] = sa at XA CO
      generalize (L1 r160).getD (2 * j + 1) [] = sb at XB CO
      have z0 : Below W2.heap.size W2 wr.drew := HB.out.drew
      have HN : Hid (∀ W, Below W2.heap.size W2 W → ∃ i' j' : Nat, (i : Int) + 2 = (i' : Int) ∧ Hid (i' = 2 * j') ∧ j' ≤ 13 ∧ Hid (Below W2.heap.size W2 W)) := fun W h => ⟨i + 2, j + 1, by omega, by show _ = _; have := HI.out; omega, by omega, h⟩
      clear hi K1 K2
      go_wp2
      refine wp_region_noPanic ?_
      refine wp_region_held_drew (S := Below W2.heap.size W2) (by kernel_rfl) (z0) (fun hS => ?_)
      refine wpAnyH_take (i := 0) (v := ?_) (by simp only [List.getElem?_toArray, List.getElem?_cons_zero]; rfl) (by kernel_rfl) (by kernel_rfl) (by kernel_rfl) (fun _ _ _ h => h) (Or.inl ⟨by rfl, ?_⟩) (by assumption) ?_
      rotate_left 1
      · intro w hSw
        go_simp
        with_reducible rfl
      simp only [Act.put, List.setIfInBounds_toArray, List.set_cons_zero, List.set_cons_succ]
      refine wpAnyH_take (i := 1) (v := ?_) (by simp only [List.getElem?_toArray, List.getElem?_cons_zero, List.getElem?_cons_succ]; rfl) (by kernel_rfl) (by kernel_rfl) (by kernel_rfl) (fun _ _ _ h => h) (Or.inl ⟨by rfl, ?_⟩) (by assumption) ?_
      rotate_left 1
      · intro w hSw
        go_simp
        with_reducible rfl
      simp only [Act.put, List.setIfInBounds_toArray, List.set_cons_zero, List.set_cons_succ]
      refine wpAnyH_take (i := 2) (v := ?_) (by simp only [List.getElem?_toArray, List.getElem?_cons_zero, List.getElem?_cons_succ]; rfl) (by kernel_rfl) (by kernel_rfl) (by kernel_rfl) (fun _ _ _ h => h) (Or.inl ⟨by rfl, ?_⟩) (by assumption) ?_
      rotate_left 1
      · intro w hSw
        go_simp
        with_reducible rfl
      simp only [Act.put, List.setIfInBounds_toArray, List.set_cons_zero, List.set_cons_succ]
      refine wpAnyH_take (i := 3) (v := ?_) (by simp only [List.getElem?_toArray, List.getElem?_cons_zero, List.getElem?_cons_succ]; rfl) (by kernel_rfl) (by kernel_rfl) (by kernel_rfl) (fun _ _ _ h => h) (Or.inl ⟨by rfl, ?_⟩) (by assumption) ?_
      rotate_left 1
      · intro w hSw
        have q := XA.out w hSw
        go_simp
        with_reducible rfl
      simp only [Act.put, List.setIfInBounds_toArray, List.set_cons_zero, List.set_cons_succ]
      refine wpAnyH_take (i := 4) (v := ?_) (by simp only [List.getElem?_toArray, List.getElem?_cons_zero, List.getElem?_cons_succ]; rfl) (by kernel_rfl) (by kernel_rfl) (by kernel_rfl) (fun _ _ _ h => h) (Or.inl ⟨by rfl, ?_⟩) (by assumption) ?_
      rotate_left 1
      · intro w hSw
        go_simp
        with_reducible rfl
      simp only [Act.put, List.setIfInBounds_toArray, List.set_cons_zero, List.set_cons_succ]
      refine wpAnyH_take (i := 5) (v := ?_) (by simp only [List.getElem?_toArray, List.getElem?_cons_zero, List.getElem?_cons_succ]; rfl) (by kernel_rfl) (by kernel_rfl) (by kernel_rfl) (fun _ _ _ h => h) (Or.inl ⟨by rfl, ?_⟩) (by assumption) ?_
      rotate_left 1
      · intro w hSw
        go_simp
        with_reducible rfl
      simp only [Act.put, List.setIfInBounds_toArray, List.set_cons_zero, List.set_cons_succ]
      refine wpAnyH_take (i := 6) (v := ?_) (by simp only [List.getElem?_toArray, List.getElem?_cons_zero, List.getElem?_cons_succ]; rfl) (by kernel_rfl) (by kernel_rfl) (by kernel_rfl) (fun _ _ _ h => h) (Or.inl ⟨by rfl, ?_⟩) (by assumption) ?_
      rotate_left 1
      · intro w hSw
        go_simp
        with_reducible rfl
      simp only [Act.put, List.setIfInBounds_toArray, List.set_cons_zero, List.set_cons_succ]
      refine wpAnyH_take (i := 7) (v := ?_) (by simp only [List.getElem?_toArray, List.getElem?_cons_zero, List.getElem?_cons_succ]; rfl) (by kernel_rfl) (by kernel_rfl) (by kernel_rfl) (fun _ _ _ h => h) (Or.inl ⟨by rfl, ?_⟩) (by assumption) ?_
      rotate_left 1
      · intro w hSw
        go_simp
        with_reducible rfl
      simp only [Act.put, List.setIfInBounds_toArray, List.set_cons_zero, List.set_cons_succ]
      refine wpAnyH_take (i := 8) (v := ?_) (by simp only [List.getElem?_toArray, List.getElem?_cons_zero, List.getElem?_cons_succ]; rfl) (by kernel_rfl) (by kernel_rfl) (by kernel_rfl) (fun _ _ _ h => h) (Or.inl ⟨by rfl, ?_⟩) (by assumption) ?_
      rotate_left 1
      · intro w hSw
        have q := XB.out w hSw
        go_simp
        with_reducible rfl
      simp only [Act.put, List.setIfInBounds_toArray, List.set_cons_zero, List.set_cons_succ]
      refine wpAnyH_ready (rs := [9]) (by kernel_rfl) (by simp) ?_
      refine AllReadyH.cons (by simp only [List.getElem?_toArray, List.getElem?_cons_zero, List.getElem?_cons_succ]; rfl) (fun K hK => ?_) (AllReadyH.nil)
      go_simp
      refine (CO.out _).mono ?_
      rintro e9 y9 ⟨rfl, hb9⟩
      have hz1 := z0.trans (hb9.mono z0.size)
      refine hK.out _ _ hz1 (fun hS => ?_)
      clear hK K hS
      refine wpAnyH_take (i := 10) (v := ?_) (by simp only [List.getElem?_toArray, List.getElem?_cons_zero, List.getElem?_cons_succ]; rfl) (by kernel_rfl) (by kernel_rfl) (by kernel_rfl) (fun _ _ _ h => h) (Or.inl ⟨by rfl, ?_⟩) (by assumption) ?_
      rotate_left 1
      · intro w hSw
        go_simp
        with_reducible rfl
      simp only [Act.put, List.setIfInBounds_toArray, List.set_cons_zero, List.set_cons_succ]
      refine wpAnyH_done (by kernel_rfl) ?_ _
      refine NoPanic.normal ?_
      go_wp2
      exact ⟨⟨i + 2, j + 1, by go_num, by show _ = _; have := HI.out; omega, by omega, hz1⟩, by simp [intOf]; omega⟩
    · have hii : ¬ ((i : Int) < 26) := by have := HI.out; omega
      clear hlt HI hj
      go_wp2
      go_loopw [4] (fun v wr => ∃ (i j : Nat), v = .int .i64 (i : Int) ∧ Hid (i = 2 * j) ∧ j ≤ 8 ∧ Hid (Below W2.heap.size W2 wr))
        (fun v _ => 16 - (intOf v).toNat)
      case atStart => exact ⟨0, 0, rfl, rfl, by omega, HB.out⟩
      case round =>
        clear hii
        obtain ⟨i, j, rfl, HI, hj, HB⟩ := hrel
        by_cases hlt : j < 8
        · have hi : i < 16 := by have := HI.out; omega
          have hii : (i : Int) < 16 := by omega
          have hi1 : (i : Int) + 1 < 16 := by have := HI.out; omega
          have hi0 : (0 : Int) ≤ (i : Int) := by omega
          have hi3 : (0 : Int) ≤ (i : Int) + 1 := by omega
          have wi : IntKind.i64.wrap ((i : Int) + 1) = (i : Int) + 1 := i64in _ (by omega) (by omega)
          have ti : ((i : Int) + 1).toNat = i + 1 := by omega
          have XA : Hid (∀ W, Below W2.heap.size W2 W → W.cell? ⟨g2, i, none⟩ = some (.string (ba ((L2 r161).getD (2 * j) [])))) := fun W h => HI.out ▸ (h.cell (p := ⟨g2, i, none⟩) X2.out.1).trans (X2.out.2 i hi)
          have XB : Hid (∀ W, Below W2.heap.size W2 W → W.cell? ⟨g2, i + 1, none⟩ = some (.string (ba ((L2 r161).getD (2 * j + 1) [])))) := fun W h => HI.out ▸ (h.cell (p := ⟨g2, i + 1, none⟩) X2.out.1).trans (X2.out.2 (i + 1) (by have := HI.out; omega))
          have CO : Hid (∀ W, Calls Try.prog 20 #[.string (ba ((L2 r161).getD (2 * j) [])), .string (ba ((L2 r161).getD (2 * j + 1) []))] W fun e w' => e = .returned (.bool false) ∧ Below W.heap.size W w') := fun W => (K2.out j hlt) ▸ of_any _ _ W
          generalize (L2 r161).getD (2 * j) [] = sa at XA CO
          generalize (L2 r161).getD (2 * j + 1) [] = sb at XB CO
          have z0 : Below W2.heap.size W2 wr.drew := HB.out.drew
          clear hi K1 K2
          go_wp2
          refine wp_region_noPanic ?_
          refine wp_region_held_drew (S := Below W2.heap.size W2) (by kernel_rfl) (z0) (fun hS => ?_)
          refine wpAnyH_take (i := 0) (v := ?_) (by simp only [List.getElem?_toArray, List.getElem?_cons_zero]; rfl) (by kernel_rfl) (by kernel_rfl) (by kernel_rfl) (fun _ _ _ h => h) (Or.inl ⟨by rfl, ?_⟩) (by assumption) ?_
          rotate_left 1
          · intro w hSw
            go_simp
            with_reducible rfl
          simp only [Act.put, List.setIfInBounds_toArray, List.set_cons_zero, List.set_cons_succ]
          refine wpAnyH_take (i := 1) (v := ?_) (by simp only [List.getElem?_toArray, List.getElem?_cons_zero, List.getElem?_cons_succ]; rfl) (by kernel_rfl) (by kernel_rfl) (by kernel_rfl) (fun _ _ _ h => h) (Or.inl ⟨by rfl, ?_⟩) (by assumption) ?_
          rotate_left 1
          · intro w hSw
            go_simp
            with_reducible rfl
          simp only [Act.put, List.setIfInBounds_toArray, List.set_cons_zero, List.set_cons_succ]
          refine wpAnyH_take (i := 2) (v := ?_) (by simp only [List.getElem?_toArray, List.getElem?_cons_zero, List.getElem?_cons_succ]; rfl) (by kernel_rfl) (by kernel_rfl) (by kernel_rfl) (fun _ _ _ h => h) (Or.inl ⟨by rfl, ?_⟩) (by assumption) ?_
          rotate_left 1
          · intro w hSw
            go_simp
            with_reducible rfl
          simp only [Act.put, List.setIfInBounds_toArray, List.set_cons_zero, List.set_cons_succ]
          refine wpAnyH_take (i := 3) (v := ?_) (by simp only [List.getElem?_toArray, List.getElem?_cons_zero, List.getElem?_cons_succ]; rfl) (by kernel_rfl) (by kernel_rfl) (by kernel_rfl) (fun _ _ _ h => h) (Or.inl ⟨by rfl, ?_⟩) (by assumption) ?_
          rotate_left 1
          · intro w hSw
            have q := XA.out w hSw
            go_simp
            with_reducible rfl
          simp only [Act.put, List.setIfInBounds_toArray, List.set_cons_zero, List.set_cons_succ]
          refine wpAnyH_take (i := 4) (v := ?_) (by simp only [List.getElem?_toArray, List.getElem?_cons_zero, List.getElem?_cons_succ]; rfl) (by kernel_rfl) (by kernel_rfl) (by kernel_rfl) (fun _ _ _ h => h) (Or.inl ⟨by rfl, ?_⟩) (by assumption) ?_
          rotate_left 1
          · intro w hSw
            go_simp
            with_reducible rfl
          simp only [Act.put, List.setIfInBounds_toArray, List.set_cons_zero, List.set_cons_succ]
          refine wpAnyH_take (i := 5) (v := ?_) (by simp only [List.getElem?_toArray, List.getElem?_cons_zero, List.getElem?_cons_succ]; rfl) (by kernel_rfl) (by kernel_rfl) (by kernel_rfl) (fun _ _ _ h => h) (Or.inl ⟨by rfl, ?_⟩) (by assumption) ?_
          rotate_left 1
          · intro w hSw
            go_simp
            with_reducible rfl
          simp only [Act.put, List.setIfInBounds_toArray, List.set_cons_zero, List.set_cons_succ]
          refine wpAnyH_take (i := 6) (v := ?_) (by simp only [List.getElem?_toArray, List.getElem?_cons_zero, List.getElem?_cons_succ]; rfl) (by kernel_rfl) (by kernel_rfl) (by kernel_rfl) (fun _ _ _ h => h) (Or.inl ⟨by rfl, ?_⟩) (by assumption) ?_
          rotate_left 1
          · intro w hSw
            go_simp
            with_reducible rfl
          simp only [Act.put, List.setIfInBounds_toArray, List.set_cons_zero, List.set_cons_succ]
          refine wpAnyH_take (i := 7) (v := ?_) (by simp only [List.getElem?_toArray, List.getElem?_cons_zero, List.getElem?_cons_succ]; rfl) (by kernel_rfl) (by kernel_rfl) (by kernel_rfl) (fun _ _ _ h => h) (Or.inl ⟨by rfl, ?_⟩) (by assumption) ?_
          rotate_left 1
          · intro w hSw
            go_simp
            with_reducible rfl
          simp only [Act.put, List.setIfInBounds_toArray, List.set_cons_zero, List.set_cons_succ]
          refine wpAnyH_take (i := 8) (v := ?_) (by simp only [List.getElem?_toArray, List.getElem?_cons_zero, List.getElem?_cons_succ]; rfl) (by kernel_rfl) (by kernel_rfl) (by kernel_rfl) (fun _ _ _ h => h) (Or.inl ⟨by rfl, ?_⟩) (by assumption) ?_
          rotate_left 1
          · intro w hSw
            have q := XB.out w hSw
            go_simp
            with_reducible rfl
          simp only [Act.put, List.setIfInBounds_toArray, List.set_cons_zero, List.set_cons_succ]
          refine wpAnyH_ready (rs := [9]) (by kernel_rfl) (by simp) ?_
          refine AllReadyH.cons (by simp only [List.getElem?_toArray, List.getElem?_cons_zero, List.getElem?_cons_succ]; rfl) (fun K hK => ?_) (AllReadyH.nil)
          go_simp
          refine (CO.out _).mono ?_
          rintro e9 y9 ⟨rfl, hb9⟩
          have hz1 := z0.trans (hb9.mono z0.size)
          refine hK.out _ _ hz1 (fun hS => ?_)
          clear hK K hS
          refine wpAnyH_done (by kernel_rfl) ?_ _
          refine NoPanic.normal ?_
          go_wp2
          exact ⟨⟨i + 2, j + 1, by go_num, by show _ = _; have := HI.out; omega, by omega, hz1⟩, by simp [intOf]; omega⟩
        · have hi6 : ¬ ((i : Int) < 16) := by have := HI.out; omega
          clear hlt HI hj K1 K2 X12 X2
          obtain ⟨W3, hW3⟩ : ∃ W3, wr.alloc (.cells #[.string ⟨#[]⟩, .string ⟨#[33]⟩, .string ⟨#[47]⟩, .string ⟨#[33, 33, 97]⟩, .string ⟨#[91]⟩, .string ⟨#[91, 93]⟩, .string ⟨#[91, 98, 45, 97, 93]⟩, .string ⟨#[92]⟩, .string ⟨#[92, 47]⟩, .string ⟨#[91, 97, 47, 93]⟩, .string ⟨#[40, 63, 105, 41, 40, 63, 105, 41, 97]⟩, .string ⟨#[40, 63, 100, 41, 33, 40, 63, 100, 41, 97]⟩, .string ⟨#[91, 33, 93]⟩, .string ⟨#[91, 97, 45, 47, 93]⟩, .string ⟨#[91, 92]⟩] 9) = W3 := ⟨_, rfl⟩
          obtain ⟨g3, hg3⟩ : ∃ g3, wr.heap.size = g3 := ⟨_, rfl⟩
          have X3 : Hid (g3 < W3.heap.size ∧ ∀ j, j < 15 → W3.cell? ⟨g3, j, none⟩ = some (.string (ba (L3.getD j [])))) := by
            rw [← hg3]
            refine ⟨by rw [← hW3]; simp, fun j hj => ?_⟩
            rw [← hW3]
            exact ((Has.fresh wr 9 _).at_ j).trans (row_at L3 j hj)
          have B3 : Hid (Below w.heap.size w W3) := B2.out.thenG (hW3 ▸ HB.out.alloc HB.out.size _)
          go_wp2
          clear hW3 hg3
          go_loopw [6] (fun v wr => ∃ (i : Nat), v = .int .i64 (i : Int) ∧ i ≤ 15 ∧ Hid (Below W3.heap.size W3 wr))
            (fun v _ => 15 - (intOf v).toNat)
          case atStart => exact ⟨0, rfl, by omega, Below.refl _ _⟩
          case round =>
            clear hi6
            obtain ⟨i, rfl, hi, HB3⟩ := hrel
            by_cases hlt : i < 15
            · have hii : (i : Int) < 15 := by omega
              have hi0 : (0 : Int) ≤ (i : Int) := by omega
              have q := (HB3.out.cell (p := ⟨g3, i, none⟩) X3.out.1).trans (X3.out.2 i hlt)
              have CO : Hid (∀ W, Calls Try.prog 21 #[.string (ba (L3.getD i []))] W fun e w' => e = .returned (.bool true) ∧ Below W.heap.size W w') := fun W => (known3 i hlt) ▸ form_any _ W
              generalize L3.getD i [] = sa at q CO
              go_wp2_with (go_at_call 21; refine (CO.out _).mono ?_; rintro e1 w1 ⟨rfl, hb1⟩)
              exact ⟨⟨i + 1, by go_num, by omega, HB3.out.thenG hb1⟩, by simp [intOf]; omega⟩
            · have hi15 : ¬ ((i : Int) < 15) := by omega
              clear hlt X3
              have HB4 : Hid (Below w.heap.size w wr) := B3.out.thenG HB3.out
              go_wp2_with (fail)
              refine (CP7.out _).mono ?_
              rintro e5 w5 ⟨h5, hb5⟩
              have HB5 : Hid (Below w.heap.size w w5) := HB4.out.thenG hb5
              clear hb5
              rcases parse_cases h5 with ⟨k, hk, hpe, rfl⟩ | ⟨p, g, hl, hpl, hpe, rfl, hpat⟩
              · exact absurd (hpe.symm.trans k7) hk
              · obtain rfl : p = ⟨7, true, [.byt 97]⟩ := Option.some.inj (hpl.symm.trans k7p)
                have HPAT := hid hpat
                clear h5 hl hpl hpe hpat
                go_wp2_with (fail)
                refine (C3.out _).mono ?_
                rintro e6 w6 ⟨rfl, hb6⟩
                go_wp2_with (fail)
                refine (parse_any r129 _).mono ?_
                rintro e7 w7 ⟨h7, hb7⟩
                have HB57 : Hid (Below w5.heap.size w5 w7) := hb6.thenG hb7
                clear hb6 hb7
                rcases parse_cases h7 with ⟨k, hk, hpe, rfl⟩ | ⟨p, g', hl, hpl, hpe, rfl, hpat⟩
                · obtain rfl : k = 3 := hpe.symm.trans K129.out
                  clear h7 hk hpe K129
                  go_wp2_with (fail)
                  refine (C4.out _).mono ?_
                  rintro e8 w8 ⟨rfl, hb8⟩
                  go_wp2_with (fail)
                  refine (parse_any r128 _).mono ?_
                  rintro e9 w9 ⟨h9, hb9⟩
                  have HB59 : Hid (Below w5.heap.size w5 w9) := (HB57.out.thenG hb8).thenG hb9
                  clear hb8 hb9
                  rcases parse_cases h9 with ⟨k, hk, hpe, rfl⟩ | ⟨p, g', hl, hpl, hpe, rfl, hpat⟩
                  · exact absurd (hpe.symm.trans K128.out) hk
                  · clear h9 hl hpl hpe hpat K128
                    obtain ⟨V, hV⟩ : ∃ V, w9.alloc (.cells #[.string ⟨#[]⟩, .int .i64 0, .bool false, .slice none 0 0] 41) = V := ⟨_, rfl⟩
                    obtain ⟨gn, hgn⟩ : ∃ gn, w9.heap.size = gn := ⟨_, rfl⟩
                    have XN : Hid (Has V gn 41 #[.string ⟨#[]⟩, .int .i64 0, .bool false, .slice none 0 0]) := hV ▸ Has.fresh' _ _ _ hgn.symm
                    have BV : Hid (Below w5.heap.size w5 V) := hV ▸ HB59.out.alloc HB59.out.size _
                    have PV : Hid (PatIs V g t7 ⟨7, true, [.byt 97]⟩) := HPAT.out.stays BV.out
                    go_wp2_with (fail)
                    refine (awake_any _).mono ?_
                    rintro ea wa ⟨rfl, hba⟩
                    have PA := PV.out.stays hba
                    have Y1 : Hid (Calls Try.prog 12 #[.pointer (some ⟨g, 0, none⟩)] wa fun e w' => e = .returned (.bool true) ∧ wa = w') := Negated_yes PA
                    have Y2 : Hid (Calls Try.prog 13 #[.pointer (some ⟨g, 0, none⟩)] wa fun e w' => e = .returned (.bool true) ∧ wa = w') := Deletable_yes PA
                    have Y3 : Hid (Calls Try.prog 14 #[.pointer (some ⟨g, 0, none⟩)] wa fun e w' => e = .returned (.bool true) ∧ wa = w') := Folded_yes PA
                    have Y4 : Hid (Calls Try.prog 15 #[.pointer (some ⟨g, 0, none⟩)] wa fun e w' => e = .returned (.bool true) ∧ wa = w') := Rooted_yes PA
                    have Y5 : Hid (Calls Try.prog 16 #[.pointer (some ⟨g, 0, none⟩)] wa fun e w' => e = .returned (.string ⟨#[40, 63, 100, 41, 33, 40, 63, 105, 41, 47, 97]⟩) ∧ wa = w') := Text_yes PA
                    have Y6 : Hid (Calls Try.prog 17 #[.pointer (some ⟨g, 0, none⟩), .string ⟨#[65]⟩] wa fun e w' => e = .returned (.bool true) ∧ Below wa.heap.size wa w') := by
                      have := match_any g t7 ⟨7, true, [.byt 97]⟩ [65] wa PA
                      rw [show mB (Pt.rooted ⟨7, true, [.byt 97]⟩) (Pt.hs ⟨7, true, [.byt 97]⟩) [65] = true from k7m] at this
                      exact this
                    have NN : Hid (∀ W, NoPat W (.pointer none)) := fun W => .inl rfl
                    have XW : Hid (∀ W, Below wa.heap.size wa W → NoPat W (.pointer (some ⟨gn, 0, none⟩))) := fun W h => .inr ⟨gn, rfl, (XN.out.stays hba).stays h⟩
                    have HBA : Hid (Below w.heap.size w wa) := HB5.out.thenG (BV.out.thenG hba)
                    clear hba PA hV hgn XN BV PV HPAT HB57 HB59 CP7 C3 C4
                    go_wp2_with (first
                      | (go_at_call 12; refine Y1.out.mono ?_; rintro f1 x1 ⟨rfl, rfl⟩)
                      | (go_at_call 13; refine Y2.out.mono ?_; rintro f1 x1 ⟨rfl, rfl⟩)
                      | (go_at_call 14; refine Y3.out.mono ?_; rintro f1 x1 ⟨rfl, rfl⟩)
                      | (go_at_call 15; refine Y4.out.mono ?_; rintro f1 x1 ⟨rfl, rfl⟩)
                      | (go_at_call 16; refine Y5.out.mono ?_; rintro f1 x1 ⟨rfl, rfl⟩))
                    refine Y6.out.mono ?_
                    rintro em wm ⟨rfl, hbm⟩
                    have HE := hid (XW.out wm hbm)
                    have HBM : Hid (Below w.heap.size w wm) := HBA.out.thenG hbm
                    have M1 : Hid (Calls Try.prog 17 #[.pointer none, .string ⟨#[97]⟩] wm fun e w' => e = .returned (.bool false) ∧ wm = w') := match_no (NN.out wm) [97]
                    have M2 : Hid (Calls Try.prog 17 #[.pointer (some ⟨gn, 0, none⟩), .string ⟨#[]⟩] wm fun e w' => e = .returned (.bool false) ∧ wm = w') := match_no HE.out []
                    have Z1 := hid (Negated_no (NN.out wm))
                    have Z2 := hid (Deletable_no (NN.out wm))
                    have Z3 := hid (Folded_no (NN.out wm))
                    have Z4 := hid (Rooted_no (NN.out wm))
                    have Z5 := hid (Text_no (NN.out wm))
                    have Z6 := hid (Text_no HE.out)
                    clear hbm Y1 Y2 Y3 Y4 Y5 Y6 XW NN HE
                    go_wp2_with (fail)
                    refine M1.out.mono ?_
                    rintro f1 x1 ⟨rfl, rfl⟩
                    go_wp2_with (fail)
                    refine M2.out.mono ?_
                    rintro f2 x2 ⟨rfl, rfl⟩
                    go_wp2_with (first
                      | (go_at_call 12; refine Z1.out.mono ?_; rintro f1 x1 ⟨rfl, rfl⟩)
                      | (go_at_call 13; refine Z2.out.mono ?_; rintro f1 x1 ⟨rfl, rfl⟩)
                      | (go_at_call 14; refine Z3.out.mono ?_; rintro f1 x1 ⟨rfl, rfl⟩)
                      | (go_at_call 15; refine Z4.out.mono ?_; rintro f1 x1 ⟨rfl, rfl⟩))
                    refine Z5.out.mono ?_
                    rintro f3 x3 ⟨rfl, rfl⟩
                    go_wp2_with (fail)
                    refine Z6.out.mono ?_
                    rintro f4 x4 ⟨rfl, rfl⟩
                    go_wp2
                    go_ret
                    exact ⟨rfl, HBM.out⟩
                · exact absurd (hpe.symm.trans K129.out) (by decide)
end Go.Proofs.Ytbbbopdlefeffaa.Glob
