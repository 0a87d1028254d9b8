/- The law FrameKnown: what its call does. Conditions: a heap that has a block. -/
import Derived.Test.YtakgbopkkechgaaFS
namespace Go.Proofs.Ytakgbopkkechgaa
open Go.RowKit
theorem put_of (kind : Int) (v : Value) (body : List UInt8) (A : Option Addr) (cap bb off : Nat) (W : World) (hy : Bytes W v body A cap bb off) (E : Int) (l : List UInt8) (h1 : putE kind body = E) (h2 : putL kind body = l) :
    Calls Try.prog 11 #[.int .i64 kind, v] W fun e w' => ∃ A n c bb, e = .returned (.tuple #[.slice A n c, .int .i64 E]) ∧ Bytes w' (.slice A n c) l A c bb 0 ∧ Below W.heap.size W w' := by
  refine (fput_any kind v body A cap bb off W hy).mono ?_
  rintro e w' ⟨v', rfl, hf, hb⟩
  rw [h2] at hf
  obtain ⟨A', c', b', y, _, _⟩ := hf.bytes (Nat.lt_of_lt_of_le (Nat.lt_of_le_of_lt (Nat.zero_le _) hy.blk) hb.size)
  have ey := y.form
  subst ey
  exact ⟨A', _, c', b', by rw [h1], y, hb⟩
/-- The heads that are tried. -/
def heads : List (List UInt8) := [[0, 0, 0, 0], [0, 0, 0, 3, 10], [0, 0, 64, 2], [0, 0, 0, 3, 0], [0, 0, 64, 1], [0, 0, 0, 3]]
theorem heads_out (j : Nat) (h : j < 6) : (heads.getD j []).length ≤ 5 ∧ ((j < 4 ∧ outL (heads.getD j []) = .bad) ∨ (¬ j < 4 ∧ outL (heads.getD j []) = .wait)) := by
  obtain rfl | rfl | rfl | rfl | rfl | rfl : j = 0 ∨ j = 1 ∨ j = 2 ∨ j = 3 ∨ j = 4 ∨ j = 5 := by omega
  · exact ⟨by decide, .inl ⟨by decide, rfl⟩⟩
  · exact ⟨by decide, .inl ⟨by decide, rfl⟩⟩
  · exact ⟨by decide, .inl ⟨by decide, rfl⟩⟩
  · exact ⟨by decide, .inl ⟨by decide, rfl⟩⟩
  · exact ⟨by decide, .inr ⟨by decide, rfl⟩⟩
  · exact ⟨by decide, .inr ⟨by decide, rfl⟩⟩
theorem up_lit (V : World) (x : Obj) : Below V.heap.size V (V.alloc x) := (Below.refl _ _).alloc (Nat.le_refl _) _
/-- The six rows of the heads, and the row over them. -/
theorem heads_laid (W : World) : ∃ W9, (((((((W.alloc (.cells #[.int .u8 0, .int .u8 0, .int .u8 0, .int .u8 0] 5)).alloc (.cells #[.int .u8 0, .int .u8 0, .int .u8 0, .int .u8 3, .int .u8 10] 5)).alloc (.cells #[.int .u8 0, .int .u8 0, .int .u8 64, .int .u8 2] 5)).alloc (.cells #[.int .u8 0, .int .u8 0, .int .u8 0, .int .u8 3, .int .u8 0] 5)).alloc (.cells #[.int .u8 0, .int .u8 0, .int .u8 64, .int .u8 1] 5)).alloc (.cells #[.int .u8 0, .int .u8 0, .int .u8 0, .int .u8 3] 5)).alloc
      (.cells #[.slice (some ⟨W.heap.size, 0, none⟩) 4 4, .slice (some ⟨W.heap.size + 1, 0, none⟩) 5 5, .slice (some ⟨W.heap.size + 1 + 1, 0, none⟩) 4 4, .slice (some ⟨W.heap.size + 1 + 1 + 1, 0, none⟩) 5 5, .slice (some ⟨W.heap.size + 1 + 1 + 1 + 1, 0, none⟩) 4 4, .slice (some ⟨W.heap.size + 1 + 1 + 1 + 1 + 1, 0, none⟩) 4 4] 22)) = W9 ∧
    Hid (Rows1 W9 (W.heap.size + 1 + 1 + 1 + 1 + 1 + 1) heads) ∧ Hid (Below W.heap.size W W9) := by
  refine ⟨_, rfl, ?_, ?_⟩
  · generalize hC7 : (Obj.cells #[Value.slice (some ⟨W.heap.size, 0, none⟩) 4 4, .slice (some ⟨W.heap.size + 1, 0, none⟩) 5 5, .slice (some ⟨W.heap.size + 1 + 1, 0, none⟩) 4 4, .slice (some ⟨W.heap.size + 1 + 1 + 1, 0, none⟩) 5 5, .slice (some ⟨W.heap.size + 1 + 1 + 1 + 1, 0, none⟩) 4 4, .slice (some ⟨W.heap.size + 1 + 1 + 1 + 1 + 1, 0, none⟩) 4 4] 22) = O7
    obtain ⟨W1, h1⟩ : ∃ x, W.alloc (.cells #[.int .u8 0, .int .u8 0, .int .u8 0, .int .u8 0] 5) = x := ⟨_, rfl⟩
    have y1 := lit_bytes W [0, 0, 0, 0] _ 4 rfl rfl
    rw [show bvec [0, 0, 0, 0] = #[Value.int .u8 0, .int .u8 0, .int .u8 0, .int .u8 0] from rfl, h1] at y1
    have s1 : W1.heap.size = W.heap.size + 1 := by rw [← h1]; simp
    rw [h1]
    obtain ⟨W2, h2⟩ : ∃ x, W1.alloc (.cells #[.int .u8 0, .int .u8 0, .int .u8 0, .int .u8 3, .int .u8 10] 5) = x := ⟨_, rfl⟩
    have y2 := lit_bytes W1 [0, 0, 0, 3, 10] _ 5 rfl rfl
    rw [show bvec [0, 0, 0, 3, 10] = #[Value.int .u8 0, .int .u8 0, .int .u8 0, .int .u8 3, .int .u8 10] from rfl, h2, s1] at y2
    have s2 : W2.heap.size = W.heap.size + 1 + 1 := by rw [← h2]; simp [s1]
    have b2 : Below W1.heap.size W1 W2 := by rw [← h2]; exact up_lit _ _
    rw [h2]
    obtain ⟨W3, h3⟩ : ∃ x, W2.alloc (.cells #[.int .u8 0, .int .u8 0, .int .u8 64, .int .u8 2] 5) = x := ⟨_, rfl⟩
    have y3 := lit_bytes W2 [0, 0, 64, 2] _ 4 rfl rfl
    rw [show bvec [0, 0, 64, 2] = #[Value.int .u8 0, .int .u8 0, .int .u8 64, .int .u8 2] from rfl, h3, s2] at y3
    have s3 : W3.heap.size = W.heap.size + 1 + 1 + 1 := by rw [← h3]; simp [s2]
    have b3 : Below W2.heap.size W2 W3 := by rw [← h3]; exact up_lit _ _
    rw [h3]
    obtain ⟨W4, h4⟩ : ∃ x, W3.alloc (.cells #[.int .u8 0, .int .u8 0, .int .u8 0, .int .u8 3, .int .u8 0] 5) = x := ⟨_, rfl⟩
    have y4 := lit_bytes W3 [0, 0, 0, 3, 0] _ 5 rfl rfl
    rw [show bvec [0, 0, 0, 3, 0] = #[Value.int .u8 0, .int .u8 0, .int .u8 0, .int .u8 3, .int .u8 0] from rfl, h4, s3] at y4
    have s4 : W4.heap.size = W.heap.size + 1 + 1 + 1 + 1 := by rw [← h4]; simp [s3]
    have b4 : Below W3.heap.size W3 W4 := by rw [← h4]; exact up_lit _ _
    rw [h4]
    obtain ⟨W5, h5⟩ : ∃ x, W4.alloc (.cells #[.int .u8 0, .int .u8 0, .int .u8 64, .int .u8 1] 5) = x := ⟨_, rfl⟩
    have y5 := lit_bytes W4 [0, 0, 64, 1] _ 4 rfl rfl
    rw [show bvec [0, 0, 64, 1] = #[Value.int .u8 0, .int .u8 0, .int .u8 64, .int .u8 1] from rfl, h5, s4] at y5
    have s5 : W5.heap.size = W.heap.size + 1 + 1 + 1 + 1 + 1 := by rw [← h5]; simp [s4]
    have b5 : Below W4.heap.size W4 W5 := by rw [← h5]; exact up_lit _ _
    rw [h5]
    obtain ⟨W6, h6⟩ : ∃ x, W5.alloc (.cells #[.int .u8 0, .int .u8 0, .int .u8 0, .int .u8 3] 5) = x := ⟨_, rfl⟩
    have y6 := lit_bytes W5 [0, 0, 0, 3] _ 4 rfl rfl
    rw [show bvec [0, 0, 0, 3] = #[Value.int .u8 0, .int .u8 0, .int .u8 0, .int .u8 3] from rfl, h6, s5] at y6
    have s6 : W6.heap.size = W.heap.size + 1 + 1 + 1 + 1 + 1 + 1 := by rw [← h6]; simp [s5]
    have b6 : Below W5.heap.size W5 W6 := by rw [← h6]; exact up_lit _ _
    rw [h6]
    have b7 := up_lit W6 O7
    have hH : Has (W6.alloc O7) W6.heap.size 22 #[.slice (some ⟨W.heap.size, 0, none⟩) 4 4, .slice (some ⟨W.heap.size + 1, 0, none⟩) 5 5, .slice (some ⟨W.heap.size + 1 + 1, 0, none⟩) 4 4, .slice (some ⟨W.heap.size + 1 + 1 + 1, 0, none⟩) 5 5, .slice (some ⟨W.heap.size + 1 + 1 + 1 + 1, 0, none⟩) 4 4, .slice (some ⟨W.heap.size + 1 + 1 + 1 + 1 + 1, 0, none⟩) 4 4] := by rw [← hC7]; exact Has.fresh W6 22 _
    rw [s6] at hH
    have z6 := y6.kept b7 (Nat.le_refl _)
    have z5 := (y5.kept b6 (Nat.le_refl _)).kept b7 (Nat.le_refl _)
    have z4 := ((y4.kept b5 (Nat.le_refl _)).kept b6 (Nat.le_refl _)).kept b7 (Nat.le_refl _)
    have z3 := (((y3.kept b4 (Nat.le_refl _)).kept b5 (Nat.le_refl _)).kept b6 (Nat.le_refl _)).kept b7 (Nat.le_refl _)
    have z2 := ((((y2.kept b3 (Nat.le_refl _)).kept b4 (Nat.le_refl _)).kept b5 (Nat.le_refl _)).kept b6 (Nat.le_refl _)).kept b7 (Nat.le_refl _)
    have z1 := (((((y1.kept b2 (Nat.le_refl _)).kept b3 (Nat.le_refl _)).kept b4 (Nat.le_refl _)).kept b5 (Nat.le_refl _)).kept b6 (Nat.le_refl _)).kept b7 (Nat.le_refl _)
    intro i hi
    have hi6 : i < 6 := hi
    obtain rfl | rfl | rfl | rfl | rfl | rfl : i = 0 ∨ i = 1 ∨ i = 2 ∨ i = 3 ∨ i = 4 ∨ i = 5 := by omega
    · exact ⟨_, 4, _, _, _, hH.at_ 0, rfl, z1⟩
    · exact ⟨_, 5, _, _, _, hH.at_ 1, rfl, z2⟩
    · exact ⟨_, 4, _, _, _, hH.at_ 2, rfl, z3⟩
    · exact ⟨_, 5, _, _, _, hH.at_ 3, rfl, z4⟩
    · exact ⟨_, 4, _, _, _, hH.at_ 4, rfl, z5⟩
    · exact ⟨_, 4, _, _, _, hH.at_ 5, rfl, z6⟩
  · exact ((((((up_lit W _).alloc (by simp) _).alloc (by simp; omega) _).alloc (by simp; omega) _).alloc (by simp; omega) _).alloc (by simp; omega) _).alloc (by simp; omega) _
set_option maxRecDepth 100000 in
set_option maxHeartbeats 8000000 in
theorem known_law (w : World) (hp : 0 < w.heap.size) : Calls Try.prog 10 #[] w fun e w' => e = .returned (.bool true) ∧ Below w.heap.size w w' := by
  have HP := hid hp
  have P1 := hid (put_of 8 (.slice none 0 0) [] none 0 0 0 w (Bytes.nil w hp) 0 [0, 0, 0, 1, 8] (by rfl) (by rfl))
  have P2 : Hid (∀ W : World, Calls Try.prog 11 #[.int .i64 5, .slice (some ⟨W.heap.size, 0, none⟩) 2 2] (W.alloc (.cells #[.int .u8 171, .int .u8 205] 5)) fun e w' => ∃ A n c bb, e = .returned (.tuple #[.slice A n c, .int .i64 0]) ∧ Bytes w' (.slice A n c) [0, 0, 0, 3, 5, 171, 205] A c bb 0 ∧ Below W.heap.size W w') := fun W => by
    refine (put_of 5 _ [171, 205] _ _ _ _ _ (lit_bytes W [171, 205] _ 2 rfl rfl) 0 [0, 0, 0, 3, 5, 171, 205] (by rfl) (by rfl)).mono ?_
    rintro e w' ⟨A, n, c, bb, h1, h2, h3⟩
    exact ⟨A, n, c, bb, h1, h2, (up_lit W _).trans (h3.mono (up_lit W _).size)⟩
  have P3 : Hid (∀ W : World, 0 < W.heap.size → Calls Try.prog 11 #[.int .i64 0, .slice none 0 0] W fun e w' => ∃ A n c bb, e = .returned (.tuple #[.slice A n c, .int .i64 2]) ∧ Bytes w' (.slice A n c) [] A c bb 0 ∧ Below W.heap.size W w') := fun W h => put_of 0 (.slice none 0 0) [] none 0 0 0 W (Bytes.nil W h) 2 [] (by rfl) (by rfl)
  have P4 : Hid (∀ W : World, 0 < W.heap.size → Calls Try.prog 11 #[.int .i64 10, .slice none 0 0] W fun e w' => ∃ A n c bb, e = .returned (.tuple #[.slice A n c, .int .i64 2]) ∧ Bytes w' (.slice A n c) [] A c bb 0 ∧ Below W.heap.size W w') := fun W h => put_of 10 (.slice none 0 0) [] none 0 0 0 W (Bytes.nil W h) 2 [] (by rfl) (by rfl)
  clear hp
  go_enter Try.func10, Try.ntmps10
  go_wp2_with (fail)
  refine P1.out.mono ?_
  rintro e1 w1 ⟨A1, n1, c1, b1, rfl, y1, hb1⟩
  have Y1 := hid y1
  have B1 := hid hb1
  clear y1 hb1
  go_wp2_with (fail)
  refine (P2.out _).mono ?_
  rintro e2 w2 ⟨A2, n2, c2, b2, rfl, y2, hb2⟩
  have Y2 := hid y2
  have Z2 := hid (Y1.out.kept hb2 (Nat.le_refl _))
  have B2 := hid (B1.out.trans (hb2.mono B1.out.size))
  clear y2 hb2
  go_wp2_with (fail)
  refine (P3.out _ (Nat.lt_of_lt_of_le HP.out B2.out.size)).mono ?_
  rintro e3 w3 ⟨A3, n3, c3, b3, rfl, y3, hb3⟩
  have Y3 := hid (Y2.out.kept hb3 (Nat.le_refl _))
  have Z3 := hid (Z2.out.kept hb3 (Nat.le_refl _))
  have B3 := hid (B2.out.trans (hb3.mono B2.out.size))
  clear y3 hb3
  go_wp2_with (fail)
  refine (P4.out _ (Nat.lt_of_lt_of_le HP.out B3.out.size)).mono ?_
  rintro e4 w4 ⟨A4, n4, c4, b4, rfl, y4, hb4⟩
  have k2 := conv_list (s := ⟨#[0, 0, 0, 3, 5, 171, 205]⟩) (Y3.out.kept hb4 (Nat.le_refl _)) rfl
  have k1 := conv_list (s := ⟨#[0, 0, 0, 1, 8]⟩) (Z3.out.kept hb4 (Nat.le_refl _)) rfl
  have B4 := hid (B3.out.trans (hb4.mono B3.out.size))
  have CN := hid (ses_new B4.out (Nat.lt_of_lt_of_le HP.out B4.out.size))
  obtain ⟨p, hpe⟩ : ∃ p, w4.heap.size = p := ⟨_, rfl⟩
  rw [hpe] at CN
  clear y4 hb4 hpe
  go_wp2_with (fail)
  refine CN.out.mono ?_
  rintro e5 w5 ⟨rfl, h5, _⟩
  have S5 := hid h5
  have C5 : Hid (Calls Try.prog 15 #[.pointer (some ⟨p, 0, none⟩), .slice (some ⟨w5.heap.size, 0, none⟩) 6 6] (w5.alloc (.cells #[.int .u8 0, .int .u8 0, .int .u8 0, .int .u8 3, .int .u8 5, .int .u8 171] 5)) fun e w' => e = .returned (.int .i64 0) ∧ ∃ o', Ses w w' p (false, [0, 0, 0, 3, 5, 171]) o') := by
    refine (ses_push (S5.out.alloc _) (lit_bytes w5 [0, 0, 0, 3, 5, 171] _ 6 rfl rfl) (by decide)).mono ?_
    rintro e w' ⟨rfl, o', hs, _⟩
    exact ⟨rfl, o', hs⟩
  clear h5 k1 k2 CN
  go_wp2_with (fail)
  refine C5.out.mono ?_
  rintro e6 w6 ⟨rfl, o6, h6⟩
  have C6 := hid (ses_wait h6 (by rfl))
  clear h6 C5
  go_wp2_with (fail)
  refine C6.out.mono ?_
  rintro e7 w7 ⟨rfl, h7, _⟩
  have C7 : Hid (Calls Try.prog 15 #[.pointer (some ⟨p, 0, none⟩), .slice (some ⟨w7.heap.size, 0, none⟩) 3 3] (w7.alloc (.cells #[.int .u8 205, .int .u8 0, .int .u8 0] 5)) fun e w' => e = .returned (.int .i64 0) ∧ ∃ o', Ses w w' p (false, [0, 0, 0, 3, 5, 171, 205, 0, 0]) o') := by
    refine (ses_push (h7.alloc _) (lit_bytes w7 [205, 0, 0] _ 3 rfl rfl) (by decide)).mono ?_
    rintro e w' ⟨rfl, o', hs, _⟩
    exact ⟨rfl, o', hs⟩
  clear h7 C6
  go_wp2_with (fail)
  refine C7.out.mono ?_
  rintro e8 w8 ⟨rfl, o8, h8⟩
  have C8 := hid (ses_one h8 (k := 5) (body := [171, 205]) (rest := [0, 0]) (by rfl))
  clear h8 C7
  go_wp2_with (fail)
  refine C8.out.mono ?_
  rintro e9 w9 ⟨v9, A9, c9, b9, rfl, y9, _, h9, _⟩
  have ey9 := y9.form
  subst ey9
  have Y9 := hid y9
  have C9 := hid (ses_wait h9 (by rfl))
  clear h9 C8 y9
  go_wp2_with (fail)
  refine C9.out.mono ?_
  rintro eA wA ⟨rfl, hA, hbA⟩
  have kA : (convert 22 9 (.slice A9 2 c9)).run Try.prog wA = .ok (.string ⟨#[171, 205]⟩) wA := conv_list (s := ⟨#[171, 205]⟩) (Y9.out.kept hbA (Nat.le_refl _)) rfl
  have CA := hid (ses_held hA)
  clear hA hbA C9
  go_wp2_with (fail)
  refine CA.out.mono ?_
  rintro eB wB ⟨rfl, hB, _⟩
  have BB := hid hB.below
  obtain ⟨wC, hC, RC, BC⟩ := heads_laid wB
  have BW := hid (BB.out.trans (BC.out.mono BB.out.size))
  obtain ⟨g, hg⟩ : ∃ g, wB.heap.size + 1 + 1 + 1 + 1 + 1 + 1 = g := ⟨_, rfl⟩
  rw [hg] at RC
  clear hB CA kA
  go_wp2_with (fail)
  clear hC hg BC
  go_loopw [25] (fun i wr => ∃ j : Nat, j ≤ 6 ∧ i = .int .i64 (j : Int) ∧ Hid (Below w.heap.size w wr ∧ Rows1 wr g heads)) (fun i _ => 6 - (intOf i).toNat)
  case atStart => exact ⟨0, by omega, rfl, BW.out, RC.out⟩
  case round =>
    obtain ⟨j, hj, rfl, HX⟩ := hrel
    have HPW : Hid (0 < wr.heap.size) := Nat.lt_of_lt_of_le HP.out HX.out.1.size
    by_cases hlt : j < 6
    · obtain ⟨A5, n5, cp5, b5, o5, d5, l5, y5⟩ := HX.out.2 j hlt
      obtain ⟨hl, ho⟩ := heads_out j hlt
      obtain ⟨ys, hys⟩ : ∃ ys, heads.getD j [] = ys := ⟨_, rfl⟩
      rw [hys] at y5 hl ho
      have hgw : Hid (g < wr.heap.size) := block_lt_of_cell d5
      have HD5 : Hid (∀ W, Below wr.heap.size wr W → W.cell? ⟨g, j, none⟩ = some (.slice A5 n5 cp5)) := fun W hb => (hb.cell (p := ⟨g, j, none⟩) hgw.out).trans d5
      have CP : Hid (∀ W, Ses wr W wr.heap.size (false, []) none → Calls Try.prog 15 #[.pointer (some ⟨wr.heap.size, 0, none⟩), .slice A5 n5 cp5] W fun e w' => e = .returned (.int .i64 0) ∧ ∃ o', Ses wr w' wr.heap.size (false, ys) o') := fun W hs => by
        have hnl : ¬ 131072 < ys.length := by omega
        refine (ses_push hs (y5.kept hs.below (Nat.le_refl _)) (by omega)).mono ?_
        rintro e w' ⟨rfl, o', h2, _⟩
        have e1 : pushE (false, []) ys = 0 := by simp only [pushE, List.length_nil, Nat.zero_add, if_neg hnl]; rfl
        have e2 : pushR (false, []) ys = (false, ys) := by simp only [pushR, List.length_nil, Nat.zero_add, if_neg hnl]; rfl
        rw [e2] at h2
        exact ⟨by rw [e1], o', h2⟩
      have CN := hid (ses_new (w0 := wr) (Below.refl _ _) HPW.out)
      have g0 : (0 : Int) ≤ (j : Int) := by omega
      have g1 : (j : Int) < 6 := by omega
      have gs : ((j : Int) < 4 ∧ outL ys = .bad) ∨ (¬ (j : Int) < 4 ∧ outL ys = .wait) := by
        rcases ho with ⟨h1, h2⟩ | ⟨h1, h2⟩
        · exact .inl ⟨by omega, h2⟩
        · exact .inr ⟨by omega, h2⟩
      clear l5 y5 d5 hl ho hys hlt
      rcases gs with ⟨gj, hO⟩ | ⟨gj, hO⟩
      · have HO := hid hO
        clear hO
        go_wp2_with (fail)
        refine CN.out.mono ?_
        rintro e1 w1 ⟨rfl, h1, _⟩
        have S1 := hid h1
        have d6 := HD5.out _ S1.out.below
        clear h1 CN
        go_wp2_with (fail)
        refine (CP.out _ S1.out).mono ?_
        rintro e2 w2 ⟨rfl, o2, h2⟩
        have C3 := hid (ses_stop h2 (.inr HO.out))
        clear h2 CP
        go_wp2_with (fail)
        refine C3.out.mono ?_
        rintro e3 w3 ⟨rfl, o3, h3, _⟩
        have S3 := hid h3
        have C4 : Hid (Calls Try.prog 20 #[.pointer (some ⟨wr.heap.size, 0, none⟩)] w3 fun e w' => e = .returned (.bool true) ∧ w3 = w') := ses_broken S3.out
        clear h3 C3
        go_wp2_with (fail)
        refine C4.out.mono ?_
        rintro e4 w4 ⟨rfl, rfl⟩
        clear C4
        go_wp2
        go_roundw
        case rel => exact ⟨j + 1, by omega, by go_num, HX.out.1.trans (S3.out.below.mono HX.out.1.size), HX.out.2.kept S3.out.below (Nat.le_refl _)⟩
        case measure => simp [intOf]; omega
      · have HO := hid hO
        clear hO
        go_wp2_with (fail)
        refine CN.out.mono ?_
        rintro e1 w1 ⟨rfl, h1, _⟩
        have S1 := hid h1
        have d6 := HD5.out _ S1.out.below
        clear h1 CN
        go_wp2_with (fail)
        refine (CP.out _ S1.out).mono ?_
        rintro e2 w2 ⟨rfl, o2, h2⟩
        have C3 := hid (ses_wait h2 HO.out)
        clear h2 CP
        go_wp2_with (fail)
        refine C3.out.mono ?_
        rintro e3 w3 ⟨rfl, h3, _⟩
        have S3 := hid h3
        have C4 : Hid (Calls Try.prog 20 #[.pointer (some ⟨wr.heap.size, 0, none⟩)] w3 fun e w' => e = .returned (.bool false) ∧ w3 = w') := ses_broken S3.out
        clear h3 C3
        go_wp2_with (fail)
        refine C4.out.mono ?_
        rintro e4 w4 ⟨rfl, rfl⟩
        clear C4
        go_wp2
        go_roundw
        case rel => exact ⟨j + 1, by omega, by go_num, HX.out.1.trans (S3.out.below.mono HX.out.1.size), HX.out.2.kept S3.out.below (Nat.le_refl _)⟩
        case measure => simp [intOf]; omega
    · have g1 : ¬ (j : Int) < 6 := by omega
      have CX := hid (next_nord none (wr.alloc (.cells #[.bool false, .slice none 0 0, .int .i64 0] 61)) (.inl rfl))
      clear hj hlt
      go_wp2_with (fail)
      refine CX.out.mono ?_
      rintro eN wN ⟨rfl, hbN⟩
      have HH : Hid (NoRd wN (.pointer (some ⟨wr.heap.size, 0, none⟩))) := .inr ⟨wr.heap.size, _, _, rfl, (Has.fresh wr 61 #[.bool false, .slice none 0 0, .int .i64 0]).kept hbN (by simp)⟩
      have BN : Hid (Below w.heap.size w wN) := (HX.out.1.alloc HX.out.1.size _).trans (hbN.mono (Nat.le_trans HX.out.1.size (by simp)))
      have D1 := hid (push_none (.pointer none) (.slice none 0 0) wN (.inl rfl))
      have D2 := hid (held_none (.pointer none) wN (.inl rfl))
      have D3 := hid (broken_none (.pointer none) wN (.inl rfl))
      have D4 := hid (push_none (.pointer (some ⟨wr.heap.size, 0, none⟩)) (.slice none 0 0) wN HH.out)
      have D5 := hid (broken_none (.pointer (some ⟨wr.heap.size, 0, none⟩)) wN HH.out)
      have D6 := hid (works_any wN (Nat.lt_of_lt_of_le HP.out BN.out.size))
      clear hbN CX
      go_wp2_with (fail)
      refine D1.out.mono ?_
      rintro ea wa ⟨rfl, rfl⟩
      go_wp2_with (fail)
      refine D2.out.mono ?_
      rintro ea wa ⟨rfl, rfl⟩
      go_wp2_with (fail)
      refine D3.out.mono ?_
      rintro ea wa ⟨rfl, rfl⟩
      go_wp2_with (fail)
      refine D4.out.mono ?_
      rintro ea wa ⟨rfl, rfl⟩
      go_wp2_with (fail)
      refine D5.out.mono ?_
      rintro ea wa ⟨rfl, rfl⟩
      go_wp2_with (fail)
      refine D6.out.mono ?_
      rintro ea wa ⟨rfl, hba⟩
      have BZ : Hid (Below w.heap.size w wa) := BN.out.trans (hba.mono BN.out.size)
      clear hba
      go_wp2
      go_ret
      exact ⟨rfl, BZ.out⟩
end Go.Proofs.Ytakgbopkkechgaa
