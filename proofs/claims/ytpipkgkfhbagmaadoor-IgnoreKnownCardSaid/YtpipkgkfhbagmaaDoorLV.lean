/- The law IgnoreKnown: its walk. Conditions: a world in shape. -/
import Derived.Test.YtpipkgkfhbagmaaDoorLM
namespace Go.Proofs.YtpipkgkfhbagmaaDoor.Glob
open Go.RowKit Go.Maps
theorem lines_nil (w : World) : Calls Tryd.prog 15 #[.pointer none] w fun e w' => e = .returned (.slice none 0 0) ∧ w = w' := by
  have HLN := hid (len_nil w)
  go_enter Tryd.func15, Tryd.ntmps15
  go_wp2_with (go_at_call 13; refine HLN.out.mono ?_; rintro e1 w1 ⟨rfl, rfl⟩)
  refine wp_loop_rounds 1 ?_
  rw [rounds_succ]
  go_wp2
  go_ret
  exact ⟨rfl, rfl⟩
def kL1 : List By := [[33, 107, 101, 101, 112, 46, 116, 109, 112], [42, 46, 116, 109, 112]]
def kL2 : List By := [[97], [98], [33, 98]]
def kL3 : List By := List.replicate 64 [97]
def kP : List By := [[120, 46, 116, 109, 112], [107, 101, 101, 112, 46, 116, 109, 112], [100, 47, 107, 101, 101, 112, 46, 116, 109, 112], [120], [120, 46, 116, 109, 112, 47, 121], [47, 47, 120, 46, 116, 109, 112]]
def kW : List Bool := [true, false, false, false, true, false]
def kS : By := (List.replicate 64 ([97, 10] : By)).flatten
set_option maxRecDepth 100000 in
theorem kn1 : isOk (readL [([105], [47, 47, 32, 97, 108, 108, 10, 33, 107, 101, 101, 112, 46, 116, 109, 112, 10, 32, 32, 42, 46, 116, 109, 112, 9, 10, 10]), ([105], [91])] 4 [] [105] []) kL1 = true := by decide +kernel
set_option maxRecDepth 100000 in
theorem kn2 : ∀ j : Fin 6, matL kL1 (kP.getD j.val []) = (kW.getD j.val false, false) := by decide +kernel
set_option maxRecDepth 100000 in
theorem kn3 : isOk (readL [([105], [35, 105, 110, 99, 108, 117, 100, 101, 32, 106, 10, 33, 98]), ([106], [97, 10, 98])] 4 [] [105] []) kL2 = true := by decide +kernel
set_option maxRecDepth 100000 in
theorem kn4 : matL kL2 [98] = (true, false) := by decide +kernel
set_option maxRecDepth 100000 in
theorem kn5 : isErr (readL [([105], [35, 105, 110, 99, 108, 117, 100, 101, 32, 105])] 4 [] [105] []) 22 = true := by decide +kernel
set_option maxRecDepth 100000 in
theorem kn6 : isErr (readL [([105], [35, 105, 110, 99, 108, 117, 100, 101, 32, 107])] 4 [] [105] []) 5 = true := by decide +kernel
set_option maxRecDepth 100000 in
theorem kn7 : isErr (readL [([105], [91])] 4 [] [105] []) 4 = true := by decide +kernel
set_option maxRecDepth 100000 in
theorem kn8 : isErr (readL [] 4 [] [105] []) 5 = true := by decide +kernel
set_option maxRecDepth 100000 in
theorem kn9 : isOk (readL [([105], kS)] 4 [] [105] []) kL3 = true := by decide +kernel
set_option maxRecDepth 100000 in
theorem kn10 : isErr (readL [([105], kS ++ [97])] 4 [] [105] []) 3 = true := by decide +kernel
set_option maxRecDepth 100000 in
theorem kn11 : isOk (readL [([105], [35, 105, 110, 99, 108, 117, 100, 101, 32, 106, 10, 35, 105, 110, 99, 108, 117, 100, 101, 32, 106]), ([106], [97])] 4 [] [105] []) [[97], [97]] = true := by decide +kernel
theorem kS_snoc (k : Nat) : (List.replicate (k + 1) ([97, 10] : By)).flatten = (List.replicate k ([97, 10] : By)).flatten ++ [97, 10] := by rw [List.replicate_succ', List.flatten_append]; simp
theorem kS_len (k : Nat) : ((List.replicate k ([97, 10] : By)).flatten).length = 2 * k := by
  induction k with
  | zero => rfl
  | succ k ih => rw [kS_snoc, List.length_append, ih]; rfl
/-- Parse of no file. -/
theorem parse_nil (name : By) (w : World) (hG : Gd w) (hm : name.length ≤ 100000) : Calls Tryd.prog 9 #[.slice none 0 0, .string (ba name)] w fun e W => ParseOut w.heap.size [] name e W ∧ Below w.heap.size w W :=
  iparse_any [] name _ w hG (World.ownsRow_nil _ _ _ _) (by simp) (fun i hi => by simp at hi) (fun i hi => by simp at hi) (by omega)
theorem row_strs (w : World) (cs : Array Value) (n : Nat) (k : Nat) (v : Value) (h : cs[k]? = some v) : (w.alloc (.cells cs 9)).cell? ⟨w.heap.size, k, none⟩ = some v := by rw [(Has.fresh w 9 cs).at_]; exact h
set_option maxRecDepth 100000 in
set_option maxHeartbeats 16000000 in
theorem known_any (w : World) (hG : Gd w) : Calls Tryd.prog 8 #[] w fun e w' => e = .returned (.bool true) ∧ Below w.heap.size w w' := by
  have HG := hid hG
  have HWK := hid (fun W (h : Below w.heap.size w W) => works_any W (hG.kept h))
  clear hG
  have B0 := hid (Below.refl w.heap.size w)
  have HP1 : Hid (Calls Tryd.prog 9 #[.slice (some ⟨w.heap.size, 0, none⟩) 2 2, .string ⟨#[105]⟩] (w.alloc (.cells #[.string ⟨#[105]⟩, .string ⟨#[47, 47, 32, 97, 108, 108, 10, 33, 107, 101, 101, 112, 46, 116, 109, 112, 10, 32, 32, 42, 46, 116, 109, 112, 9, 10, 10]⟩, .string ⟨#[105]⟩, .string ⟨#[91]⟩] 38)) fun e W => ParseOut w.heap.size [([105], [47, 47, 32, 97, 108, 108, 10, 33, 107, 101, 101, 112, 46, 116, 109, 112, 10, 32, 32, 42, 46, 116, 109, 112, 9, 10, 10]), ([105], [91])] [105] e W ∧ Below w.heap.size w W) := parse_two [105] [47, 47, 32, 97, 108, 108, 10, 33, 107, 101, 101, 112, 46, 116, 109, 112, 10, 32, 32, 42, 46, 116, 109, 112, 9, 10, 10] [105] [91] [105] w (HG.out.kept B0.out) (by decide) (by decide) (by decide) (by decide) (by decide)
  go_enter Tryd.func8, Tryd.ntmps8
  go_wp2_with (fail)
  refine HP1.out.mono ?_
  rintro e1 w1 ⟨h1, hb1⟩
  unfold ParseOut at h1
  rw [isOk_eq kn1] at h1
  obtain ⟨L1, rfl, _, hL1, _⟩ := h1
  have B1 := hid hb1
  have HL1 := hid hL1
  have HLE : Hid (Calls Tryd.prog 13 #[ptrV L1] w1 fun e w' => e = .returned (.int .i64 2) ∧ w1 = w') := len_any _ L1 kL1 w1 hL1
  unfold ptrV at HLE
  unfold ptrV
  clear hb1 hL1
  go_wp2_with (fail)
  refine HLE.out.mono ?_
  rintro e2 w2 ⟨rfl, rfl⟩
  obtain ⟨Wa, hWa⟩ : ∃ W, w1.alloc (.cells #[.string ⟨#[120, 46, 116, 109, 112]⟩, .string ⟨#[107, 101, 101, 112, 46, 116, 109, 112]⟩, .string ⟨#[100, 47, 107, 101, 101, 112, 46, 116, 109, 112]⟩, .string ⟨#[120]⟩, .string ⟨#[120, 46, 116, 109, 112, 47, 121]⟩, .string ⟨#[47, 47, 120, 46, 116, 109, 112]⟩] 9) = W := ⟨_, rfl⟩
  obtain ⟨Wb, hWb⟩ : ∃ W, Wa.alloc (.cells #[.bool true, .bool false, .bool false, .bool false, .bool true, .bool false] 4) = W := ⟨_, rfl⟩
  have sa : Wa.heap.size = w1.heap.size + 1 := by rw [← hWa]; simp
  have ba1 : Below w1.heap.size w1 Wa := hWa ▸ (Below.refl _ _).alloc (Nat.le_refl _) _
  have bb1 : Below Wa.heap.size Wa Wb := hWb ▸ (Below.refl _ _).alloc (Nat.le_refl _) _
  have HSA : Hid (Has Wb w1.heap.size 9 #[.string ⟨#[120, 46, 116, 109, 112]⟩, .string ⟨#[107, 101, 101, 112, 46, 116, 109, 112]⟩, .string ⟨#[100, 47, 107, 101, 101, 112, 46, 116, 109, 112]⟩, .string ⟨#[120]⟩, .string ⟨#[120, 46, 116, 109, 112, 47, 121]⟩, .string ⟨#[47, 47, 120, 46, 116, 109, 112]⟩]) := (hWa ▸ Has.fresh w1 9 _ : Has Wa w1.heap.size 9 _).stays bb1
  have HSB : Hid (Has Wb (w1.heap.size + 1) 4 #[.bool true, .bool false, .bool false, .bool false, .bool true, .bool false]) := hWb ▸ Has.fresh' Wa 4 _ sa.symm
  have BB : Hid (Below w.heap.size w Wb) := (B1.out.thenG ba1).thenG bb1
  have HLB := hid (HL1.out.below (ba1.thenG bb1))
  clear ba1 bb1
  go_wp2
  go_loopw [5] (fun i wr => ∃ k : Nat, i = .int .i64 (k : Int) ∧ k ≤ 6 ∧ Hid (Below Wb.heap.size Wb wr))
    (fun i _ => 6 - (intOf i).toNat)
  case atStart => exact ⟨0, rfl, by omega, Below.refl _ _⟩
  case round =>
    obtain ⟨k, rfl, hk6, HB⟩ := hrel
    by_cases hlt : k < 6
    · have hki : (k : Int) < 6 := by omega
      have c0 : wr.cell? ⟨w1.heap.size, k, none⟩ = some (.string (ba (kP.getD k []))) := by
        rw [(HSA.out.stays HB.out).at_]
        match k, hlt with
        | 0, _ => rfl
        | 1, _ => rfl
        | 2, _ => rfl
        | 3, _ => rfl
        | 4, _ => rfl
        | 5, _ => rfl
      have HCM := hid (imatch_any _ L1 kL1 (kP.getD k []) wr (HG.out.kept (BB.out.thenG HB.out)) (HLB.out.below HB.out) (by decide) (by
        match k, hlt with
        | 0, _ => decide
        | 1, _ => decide
        | 2, _ => decide
        | 3, _ => decide
        | 4, _ => decide
        | 5, _ => decide))
      rw [show matL kL1 (kP.getD k []) = (kW.getD k false, false) from kn2 ⟨k, hlt⟩] at HCM
      have HC1 : Hid (∀ W, Below Wb.heap.size Wb W → W.cell? ⟨w1.heap.size + 1, k, none⟩ = some (.bool (kW.getD k false))) := fun W h => by
        rw [(HSB.out.stays h).at_]
        match k, hlt with
        | 0, _ => rfl
        | 1, _ => rfl
        | 2, _ => rfl
        | 3, _ => rfl
        | 4, _ => rfl
        | 5, _ => rfl
      generalize kP.getD k [] = u at c0 HCM
      generalize kW.getD k false = x at HCM HC1
      unfold ptrV at HCM
      have hxx : (x == x) = true := by simp
      have hxn : (x != x) = false := by simp
      go_wp2_with (fail)
      refine HCM.out.mono ?_
      rintro e3 w3 ⟨rfl, hb3⟩
      have HB3 := hid (HB.out.thenG hb3)
      have c1 := HC1.out w3 HB3.out
      clear hb3
      go_wp2
      exact ⟨⟨k + 1, by go_num, by omega, HB3.out⟩, by simp [intOf]; omega⟩
    · have hki : ¬ ((k : Int) < 6) := by omega
      have B4 := hid (BB.out.thenG HB.out)
      clear HB
      have HP2 : Hid (Calls Tryd.prog 9 #[.slice (some ⟨wr.heap.size, 0, none⟩) 2 2, .string ⟨#[105]⟩] (wr.alloc (.cells #[.string ⟨#[105]⟩, .string ⟨#[35, 105, 110, 99, 108, 117, 100, 101, 32, 106, 10, 33, 98]⟩, .string ⟨#[106]⟩, .string ⟨#[97, 10, 98]⟩] 38)) fun e W => ParseOut wr.heap.size [([105], [35, 105, 110, 99, 108, 117, 100, 101, 32, 106, 10, 33, 98]), ([106], [97, 10, 98])] [105] e W ∧ Below wr.heap.size wr W) := parse_two [105] [35, 105, 110, 99, 108, 117, 100, 101, 32, 106, 10, 33, 98] [106] [97, 10, 98] [105] wr (HG.out.kept B4.out) (by decide) (by decide) (by decide) (by decide) (by decide)
      go_wp2_with (fail)
      refine HP2.out.mono ?_
      rintro e5 w5 ⟨h5, hb5⟩
      unfold ParseOut at h5
      rw [isOk_eq kn3] at h5
      obtain ⟨M, rfl, _, hM, _⟩ := h5
      have B5 := hid (B4.out.thenG hb5)
      have HM := hid hM
      have HLI := hid (ilines_any _ M kL2 w5 hM (by decide))
      unfold ptrV at HLI
      unfold ptrV
      clear hb5 hM
      go_wp2_with (fail)
      refine HLI.out.mono ?_
      rintro e6 w6 ⟨⟨vl, rfl, hvl⟩, hb6⟩
      have B6 := hid (B5.out.thenG hb6)
      have HJ : Hid (Calls Tryd.prog 16 #[vl] w6 fun e w' => e = .returned (.string ⟨#[97, 10, 98, 10, 33, 98, 10]⟩) ∧ w6 = w') := joined_any _ vl kL2 w6 hvl (by decide) (by decide)
      have HMM : Hid (Calls Tryd.prog 17 #[ptrV M, .string ⟨#[98]⟩] w6 fun e w' => e = .returned (.tuple #[.bool true, .bool false]) ∧ Below w6.heap.size w6 w') := by
        have := imatch_any _ M kL2 [98] w6 (HG.out.kept B6.out) (HM.out.below hb6) (by decide) (by decide)
        rw [kn4] at this; exact this
      obtain ⟨Al, cl, hvle⟩ := own_form hvl
      obtain ⟨nq, hnq⟩ : ∃ nq, kL2.length = nq := ⟨_, rfl⟩
      rw [hnq] at hvle
      subst hvle
      unfold ptrV at HMM
      clear hb6 hvl hnq
      go_wp2_with (fail)
      refine HJ.out.mono ?_
      rintro e7 w7 ⟨rfl, rfl⟩
      go_wp2_with (fail)
      refine HMM.out.mono ?_
      rintro e8 w8 ⟨rfl, hb8⟩
      have B8 := hid (B6.out.thenG hb8)
      clear hb8
      have HP9 : Hid (Calls Tryd.prog 9 #[.slice (some ⟨w8.heap.size, 0, none⟩) 1 1, .string ⟨#[105]⟩] (w8.alloc (.cells #[.string ⟨#[105]⟩, .string ⟨#[35, 105, 110, 99, 108, 117, 100, 101, 32, 105]⟩] 38)) fun e W => ParseOut w8.heap.size [([105], [35, 105, 110, 99, 108, 117, 100, 101, 32, 105])] [105] e W ∧ Below w8.heap.size w8 W) := parse_one [105] [35, 105, 110, 99, 108, 117, 100, 101, 32, 105] [105] w8 (HG.out.kept B8.out) (by decide) (by decide) (by decide)
      go_wp2_with (fail)
      refine HP9.out.mono ?_
      rintro e9 w9 ⟨h9, hb9⟩
      unfold ParseOut at h9
      rw [isErr_eq kn5] at h9
      obtain ⟨rfl, _⟩ := h9
      have B9 := hid (B8.out.thenG hb9)
      clear hb9
      have HP10 : Hid (Calls Tryd.prog 9 #[.slice (some ⟨w9.heap.size, 0, none⟩) 1 1, .string ⟨#[105]⟩] (w9.alloc (.cells #[.string ⟨#[105]⟩, .string ⟨#[35, 105, 110, 99, 108, 117, 100, 101, 32, 107]⟩] 38)) fun e W => ParseOut w9.heap.size [([105], [35, 105, 110, 99, 108, 117, 100, 101, 32, 107])] [105] e W ∧ Below w9.heap.size w9 W) := parse_one [105] [35, 105, 110, 99, 108, 117, 100, 101, 32, 107] [105] w9 (HG.out.kept B9.out) (by decide) (by decide) (by decide)
      go_wp2_with (fail)
      refine HP10.out.mono ?_
      rintro e10 w10 ⟨h10, hb10⟩
      unfold ParseOut at h10
      rw [isErr_eq kn6] at h10
      obtain ⟨rfl, _⟩ := h10
      have B10 := hid (B9.out.thenG hb10)
      clear hb10
      have HP11 : Hid (Calls Tryd.prog 9 #[.slice (some ⟨w10.heap.size, 0, none⟩) 1 1, .string ⟨#[105]⟩] (w10.alloc (.cells #[.string ⟨#[105]⟩, .string ⟨#[91]⟩] 38)) fun e W => ParseOut w10.heap.size [([105], [91])] [105] e W ∧ Below w10.heap.size w10 W) := parse_one [105] [91] [105] w10 (HG.out.kept B10.out) (by decide) (by decide) (by decide)
      go_wp2_with (fail)
      refine HP11.out.mono ?_
      rintro e11 w11 ⟨h11, hb11⟩
      unfold ParseOut at h11
      rw [isErr_eq kn7] at h11
      obtain ⟨rfl, _⟩ := h11
      have B11 := hid (B10.out.thenG hb11)
      clear hb11
      have HP12 : Hid (Calls Tryd.prog 9 #[.slice none 0 0, .string ⟨#[105]⟩] w11 fun e W => ParseOut w11.heap.size [] [105] e W ∧ Below w11.heap.size w11 W) := parse_nil [105] w11 (HG.out.kept B11.out) (by decide)
      go_wp2_with (fail)
      refine HP12.out.mono ?_
      rintro e12 w12 ⟨h12, hb12⟩
      unfold ParseOut at h12
      rw [isErr_eq kn8] at h12
      obtain ⟨rfl, _⟩ := h12
      have B12 := hid (B11.out.thenG hb12)
      clear hb12
      go_wp2
      go_loopw [20, 21] (fun s0 i wr => ∃ k : Nat, i = .int .i64 (k : Int) ∧ s0 = .string (ba (List.replicate k ([97, 10] : By)).flatten) ∧ k ≤ 64 ∧ w12 = wr)
        (fun _ i _ => 64 - (intOf i).toNat)
      case atStart => exact ⟨0, rfl, rfl, by omega, rfl⟩
      case round =>
        obtain ⟨k, rfl, rfl, hk, rfl⟩ := hrel
        by_cases hlt : k < 64
        · have hki : (k : Int) < 64 := by omega
          have hl := kS_len k
          have hs := kS_snoc k
          generalize (List.replicate k ([97, 10] : By)).flatten = u at hl hs
          have zu := ba_size u
          have a1 : ba u ++ (⟨#[97, 10]⟩ : ByteArray) = ba (u ++ [97, 10]) := ba_app u [97, 10]
          go_wp2
          exact ⟨⟨k + 1, by go_num, by rw [hs], by omega, trivial⟩, by simp [intOf]; omega⟩
        · have hk64 : k = 64 := by omega
          have hki : ¬ ((k : Int) < 64) := by omega
          have hSe : (List.replicate k ([97, 10] : By)).flatten = kS := by rw [hk64]; rfl
          have hSl : kS.length = 128 := kS_len 64
          rw [hSe]
          have zS := ba_size kS
          rw [hSl] at zS
          have a1 : ba kS ++ (⟨#[97]⟩ : ByteArray) = ba (kS ++ [97]) := ba_app kS [97]
          have HP13 : Hid (Calls Tryd.prog 9 #[.slice (some ⟨w12.heap.size, 0, none⟩) 1 1, .string ⟨#[105]⟩] (w12.alloc (.cells #[.string ⟨#[105]⟩, .string (ba kS)] 38)) fun e W => ParseOut w12.heap.size [([105], kS)] [105] e W ∧ Below w12.heap.size w12 W) := parse_one [105] kS [105] w12 (HG.out.kept B12.out) (by decide) (by omega) (by decide)
          have HSL := hid hSl
          generalize hXX : ba kS = X at zS a1 HP13
          clear hk64 hSe hSl hlt
          go_wp2_with (fail)
          refine HP13.out.mono ?_
          rintro e13 w13 ⟨h13, hb13⟩
          unfold ParseOut at h13
          rw [isOk_eq kn9] at h13
          obtain ⟨NN, rfl, _, hNN, _⟩ := h13
          have B13 := hid (B12.out.thenG hb13)
          have HNN := hid hNN
          have HP14 : Hid (Calls Tryd.prog 9 #[.slice (some ⟨w13.heap.size, 0, none⟩) 1 1, .string ⟨#[105]⟩] (w13.alloc (.cells #[.string ⟨#[105]⟩, .string (ba (kS ++ [97]))] 38)) fun e W => ParseOut w13.heap.size [([105], kS ++ [97])] [105] e W ∧ Below w13.heap.size w13 W) := parse_one [105] (kS ++ [97]) [105] w13 (HG.out.kept B13.out) (by decide) (by rw [List.length_append, HSL.out]; decide) (by decide)
          unfold ptrV
          clear hb13 hNN
          go_wp2_with (fail)
          refine HP14.out.mono ?_
          rintro e14 w14 ⟨h14, hb14⟩
          unfold ParseOut at h14
          rw [isErr_eq kn10] at h14
          obtain ⟨rfl, _⟩ := h14
          have B14 := hid (B13.out.thenG hb14)
          have HNN4 := hid (HNN.out.below hb14)
          clear hb14
          have HP15 : Hid (Calls Tryd.prog 9 #[.slice (some ⟨w14.heap.size, 0, none⟩) 2 2, .string ⟨#[105]⟩] (w14.alloc (.cells #[.string ⟨#[105]⟩, .string ⟨#[35, 105, 110, 99, 108, 117, 100, 101, 32, 106, 10, 35, 105, 110, 99, 108, 117, 100, 101, 32, 106]⟩, .string ⟨#[106]⟩, .string ⟨#[97]⟩] 38)) fun e W => ParseOut w14.heap.size [([105], [35, 105, 110, 99, 108, 117, 100, 101, 32, 106, 10, 35, 105, 110, 99, 108, 117, 100, 101, 32, 106]), ([106], [97])] [105] e W ∧ Below w14.heap.size w14 W) := parse_two [105] [35, 105, 110, 99, 108, 117, 100, 101, 32, 106, 10, 35, 105, 110, 99, 108, 117, 100, 101, 32, 106] [106] [97] [105] w14 (HG.out.kept B14.out) (by decide) (by decide) (by decide) (by decide) (by decide)
          go_wp2_with (fail)
          refine HP15.out.mono ?_
          rintro e15 w15 ⟨h15, hb15⟩
          unfold ParseOut at h15
          rw [isOk_eq kn11] at h15
          obtain ⟨QQ, rfl, _, hQQ, _⟩ := h15
          have B15 := hid (B14.out.thenG hb15)
          have HMN : Hid (Calls Tryd.prog 17 #[.pointer none, .string ⟨#[97]⟩] w15 fun e w' => e = .returned (.tuple #[.bool false, .bool false]) ∧ Below w15.heap.size w15 w') := match_nil [97] w15
          have HQ := hid hQQ
          have HN5 := hid (HNN4.out.below hb15)
          unfold ptrV
          clear hb15 hQQ
          go_wp2_with (fail)
          refine HMN.out.mono ?_
          rintro e16 w16 ⟨rfl, hb16⟩
          have B16 := hid (B15.out.thenG hb16)
          have HL64 : Hid (Calls Tryd.prog 13 #[ptrV NN] w16 fun e w' => e = .returned (.int .i64 64) ∧ w16 = w') := len_any _ NN kL3 w16 (HN5.out.below hb16)
          have HL2 : Hid (Calls Tryd.prog 13 #[ptrV QQ] w16 fun e w' => e = .returned (.int .i64 2) ∧ w16 = w') := len_any _ QQ [[97], [97]] w16 (HQ.out.below hb16)
          have HL0 := hid (len_nil w16)
          have HLI0 := hid (lines_nil w16)
          have HW16 := hid (HWK.out w16 B16.out)
          unfold ptrV at HL64 HL2
          clear hb16
          go_wp2_with (fail)
          refine HL64.out.mono ?_
          rintro e17 w17 ⟨rfl, rfl⟩
          go_wp2_with (fail)
          refine HL2.out.mono ?_
          rintro e18 w18 ⟨rfl, rfl⟩
          go_wp2_with (fail)
          refine HL0.out.mono ?_
          rintro e19 w19 ⟨rfl, rfl⟩
          go_wp2_with (fail)
          refine HLI0.out.mono ?_
          rintro e20 w20 ⟨rfl, rfl⟩
          go_wp2_with (go_at_call 12; refine HW16.out.mono ?_; rintro e21 w21 ⟨rfl, hb21⟩)
          go_ret
          exact ⟨rfl, B16.out.thenG hb21⟩
end Go.Proofs.YtpipkgkfhbagmaaDoor.Glob
