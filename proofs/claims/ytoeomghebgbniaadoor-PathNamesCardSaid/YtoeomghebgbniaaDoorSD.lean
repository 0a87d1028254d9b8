/- sha.fold: one step of the digest. Conditions: eight words, sixty-four bytes, the listed table of roots. -/
import Derived.Test.YtoeomghebgbniaaDoorSC
namespace Go.Proofs.YtoeomghebgbniaaDoor.Sha
open Go.RowKit
def kList : List (BitVec 32) := [0x428a2f98, 0x71374491, 0xb5c0fbcf, 0xe9b5dba5, 0x3956c25b, 0x59f111f1, 0x923f82a4, 0xab1c5ed5,
  0xd807aa98, 0x12835b01, 0x243185be, 0x550c7dc3, 0x72be5d74, 0x80deb1fe, 0x9bdc06a7, 0xc19bf174,
  0xe49b69c1, 0xefbe4786, 0x0fc19dc6, 0x240ca1cc, 0x2de92c6f, 0x4a7484aa, 0x5cb0a9dc, 0x76f988da,
  0x983e5152, 0xa831c66d, 0xb00327c8, 0xbf597fc7, 0xc6e00bf3, 0xd5a79147, 0x06ca6351, 0x14292967,
  0x27b70a85, 0x2e1b2138, 0x4d2c6dfc, 0x53380d13, 0x650a7354, 0x766a0abb, 0x81c2c92e, 0x92722c85,
  0xa2bfe8a1, 0xa81a664b, 0xc24b8b70, 0xc76c51a3, 0xd192e819, 0xd6990624, 0xf40e3585, 0x106aa070,
  0x19a4c116, 0x1e376c08, 0x2748774c, 0x34b0bcb5, 0x391c0cb3, 0x4ed8aa4a, 0x5b9cca4f, 0x682e6ff3,
  0x748f82ee, 0x78a5636f, 0x84c87814, 0x8cc70208, 0x90befffa, 0xa4506ceb, 0xbef9a3f7, 0xc67178f2]
/-- The variable caravan/sha.roots holds the listed table. -/
def Tab (w : World) : Prop := ∀ i, i < 64 → w.cell? ⟨0, i, none⟩ = some (.int .u32 (u (at32 kList i)))
theorem Tab.pos {w : World} (h : Tab w) : 0 < w.heap.size := block_lt_of_cell (h 0 (by omega))
theorem Tab.kept {w w' : World} {B : Nat} (h : Tab w) (hb : Below B w w') (hB : 0 < B) : Tab w' := fun i hi => (hb.cell (p := ⟨0, i, none⟩) hB).trans (h i hi)
/-- The eight words of the state, within a step. -/
structure S8 where
  a : BitVec 32
  b : BitVec 32
  c : BitVec 32
  d : BitVec 32
  e : BitVec 32
  f : BitVec 32
  g : BitVec 32
  h : BitVec 32
def sx (s : S8) (kk ww : BitVec 32) : BitVec 32 := s.h + (rotR s.e 6 ^^^ rotR s.e 11 ^^^ rotR s.e 25) + ((s.e &&& s.f) ^^^ (~~~s.e &&& s.g)) + kk + ww
def sy (s : S8) : BitVec 32 := (rotR s.a 2 ^^^ rotR s.a 13 ^^^ rotR s.a 22) + ((s.a &&& s.b) ^^^ (s.a &&& s.c) ^^^ (s.b &&& s.c))
def stepS (s : S8) (kk ww : BitVec 32) : S8 := ⟨sx s kk ww + sy s, s.a, s.b, s.c, s.d + sx s kk ww, s.e, s.f, s.g⟩
def sched (l : List (BitVec 32)) : Nat → List (BitVec 32)
  | 0 => l
  | k + 1 => if 16 ≤ k then (sched l k).set (k % 16) (nextW (sched l k) k) else sched l k
def run8 (l : List (BitVec 32)) (s : S8) : Nat → S8
  | 0 => s
  | k + 1 => stepS (run8 l s k) (at32 kList k) (at32 (sched l (k + 1)) (k % 16))
theorem sched_low (l : List (BitVec 32)) (k : Nat) (h : k < 16) : sched l (k + 1) = sched l k := by rw [sched, if_neg (by omega)]
theorem sched_high (l : List (BitVec 32)) (k : Nat) (h : 16 ≤ k) : sched l (k + 1) = (sched l k).set (k % 16) (nextW (sched l k) k) := by rw [sched, if_pos h]
theorem sched_len (l : List (BitVec 32)) (hl : l.length = 16) (k : Nat) : (sched l k).length = 16 := by
  induction k with
  | zero => exact hl
  | succ k ih => unfold sched; split <;> simp [ih]
theorem add3 (a b c : BitVec 32) : (u a + u b + u c) % 4294967296 = u (a + b + c) := by rw [← Int.emod_add_emod, add32, add32]
theorem add5 (a b c d e : BitVec 32) : (u a + u b + u c + u d + u e) % 4294967296 = u (a + b + c + d + e) := by
  rw [← Int.emod_add_emod, ← Int.emod_add_emod (u a + u b + u c), add3, add32, add32]
theorem ones32 : (if IntKind.u32.signed = true then (-1 : Int) else IntKind.u32.max) = 4294967295 := by decide
theorem sx_num (s : S8) (kk ww : BitVec 32) :
    (u s.h + bits BinOp.xor IntKind.u32 (bits BinOp.xor IntKind.u32 (u (rotR s.e 6)) (u (rotR s.e 11))) (u (rotR s.e 25)) +
      bits BinOp.xor IntKind.u32 (bits BinOp.and IntKind.u32 (u s.e) (u s.f)) (bits BinOp.and IntKind.u32 (bits BinOp.xor IntKind.u32 (if IntKind.u32.signed = true then -1 else IntKind.u32.max) (u s.e)) (u s.g)) +
      u kk + u ww) % 4294967296 = u (sx s kk ww) := by
  rw [ones32]
  simp only [xor32, and32, not32, add5]
  rfl
theorem sy_num (s : S8) :
    (bits BinOp.xor IntKind.u32 (bits BinOp.xor IntKind.u32 (u (rotR s.a 2)) (u (rotR s.a 13))) (u (rotR s.a 22)) +
      bits BinOp.xor IntKind.u32 (bits BinOp.xor IntKind.u32 (bits BinOp.and IntKind.u32 (u s.a) (u s.b)) (bits BinOp.and IntKind.u32 (u s.a) (u s.c))) (bits BinOp.and IntKind.u32 (u s.b) (u s.c))) % 4294967296 = u (sy s) := by
  simp only [xor32, and32, add32]
  rfl
theorem val32 {x y : Int} (h : x = y) : Value.int .u32 x = Value.int .u32 y := by rw [h]
theorem run8_next (l : List (BitVec 32)) (s : S8) (k j : Nat) (W : List (BitVec 32)) (hj : Hid (k % 16 = j)) (hW : Hid (sched l (k + 1) = W)) :
    run8 l s (k + 1) = stepS (run8 l s k) (at32 kList k) (at32 W j) := by rw [run8, hW.out, hj.out]
/-- The state behind a step of the digest. -/
def sums (l : List (BitVec 32)) (R : S8) : List (BitVec 32) :=
  [at32 l 0 + R.a, at32 l 1 + R.b, at32 l 2 + R.c, at32 l 3 + R.d, at32 l 4 + R.e, at32 l 5 + R.f, at32 l 6 + R.g, at32 l 7 + R.h]
def foldL (l : List (BitVec 32)) (p : List UInt8) : List (BitVec 32) :=
  sums l (run8 (words p 16) ⟨at32 l 0, at32 l 1, at32 l 2, at32 l 3, at32 l 4, at32 l 5, at32 l 6, at32 l 7⟩ 64)
set_option maxRecDepth 100000 in
set_option maxHeartbeats 1000000 in
theorem fold_any (a b c d e f g h : BitVec 32) (p : List UInt8) (hp : p.length = 64) (w : World) (hT : Tab w) :
    Calls Tryd.prog 57 #[.agg (vec [a, b, c, d, e, f, g, h]), .agg (bvec p)] w fun e' w' => e' = .returned (.agg (vec (foldL [a, b, c, d, e, f, g, h] p))) ∧ Below w.heap.size w w' := by
  have Z2 : Hid ((Tryd.prog.info? 66).map (·.size) = some (bvec p).size) := by rw [bvec_size, hp]; exact i35
  have Z3 : Hid ((Tryd.prog.info? 87).map (·.size) = some (vec (words p 16)).size) := by rw [vec_size, words_len]; exact i66
  have Z4 : Hid (16 = (vec (words p 16)).size) := by rw [vec_size, words_len]; rfl
  have hp0 := hT.pos
  have HT := hid hT
  clear hT
  go_enter Tryd.func57, Tryd.ntmps57
  go_wp2_with (first
    | (refine wpList_load_row rfl 66 _ rfl (w.heap.size + 1) rfl 66 _ (0, 0) _ (Has.more (Has.fresh' _ 66 (bvec p) (by simp)) _) Tryd.underlying66 rfl Z2.out ?_)
    | (go_at_call 71; refine (sixteen_any p hp _).mono ?_; rintro e1 w1 ⟨rfl, hb1⟩)
    | (refine wpList_store_row rfl 87 _ _ rfl w1.heap.size _ rfl rfl 87 _ (Has.fresh w1 87 _) Z3.out Z4.out (vec_one _) ?_
       generalize hG : World.setRow _ _ _ = W2))
  have hb0 : Below w.heap.size w w1 :=
    ((((Below.refl _ _).alloc (Nat.le_refl _) _).alloc (by simp) _).alloc (by simp; omega) _).trans (hb1.mono (by simp; omega))
  have hs0 : w.heap.size + 3 ≤ w1.heap.size := by have := hb1.size; simp at this; omega
  have K2 : Hid (Has W2 w.heap.size 59 (vec [a, b, c, d, e, f, g, h])) := by
    rw [← hG]
    exact ((((((Has.fresh w 59 (vec [a, b, c, d, e, f, g, h])).more _).more _).kept hb1 (by simp; omega))).more _).rowOther (by omega)
  have K4 : Hid (∃ z, Has W2 (w.heap.size + 1 + 1) 59 (vec z) ∧ z.length = 8) := by
    rw [← hG]
    exact ⟨List.replicate 8 0, (((Has.fresh' _ 59 (vec (List.replicate 8 0)) (by simp)).kept hb1 (by simp)).more _).rowOther (by omega), rfl⟩
  have K5 : Hid (Has W2 w1.heap.size 87 (vec (words p 16))) := by
    rw [← hG]
    exact (Has.fresh w1 87 _).row
  have KB : Hid (Below w.heap.size w W2) := by
    rw [← hG]
    exact ((hb0.alloc hb0.size _).rowK (by omega) _)
  clear hG hb1 hb0
  have hw2 := K2.out.at_
  have hw0 : W2.cell? ⟨w.heap.size, 0, none⟩ = some (.int .u32 (u a)) := hw2 0
  have hw1 : W2.cell? ⟨w.heap.size, 1, none⟩ = some (.int .u32 (u b)) := hw2 1
  have hw3 : W2.cell? ⟨w.heap.size, 2, none⟩ = some (.int .u32 (u c)) := hw2 2
  have hw4 : W2.cell? ⟨w.heap.size, 3, none⟩ = some (.int .u32 (u d)) := hw2 3
  have hw5 : W2.cell? ⟨w.heap.size, 4, none⟩ = some (.int .u32 (u e)) := hw2 4
  have hw6 : W2.cell? ⟨w.heap.size, 5, none⟩ = some (.int .u32 (u f)) := hw2 5
  have hw7 : W2.cell? ⟨w.heap.size, 6, none⟩ = some (.int .u32 (u g)) := hw2 6
  have hw8 : W2.cell? ⟨w.heap.size, 7, none⟩ = some (.int .u32 (u h)) := hw2 7
  clear hw2
  go_quiet (fail)
  go_wp2
  go_quiet (fail)
  go_wp2
  clear hw0 hw1 hw3 hw4 hw5 hw6 hw7 hw8
  generalize hl0 : words p 16 = l0 at K5 Z3 Z4
  have HL0 : Hid (words p 16 = l0) := hl0
  have HLN : Hid (l0.length = 16) := by rw [← hl0]; exact words_len _ _
  clear hl0
  obtain ⟨s0, HS0⟩ : ∃ s0 : S8, Hid (s0 = ⟨a, b, c, d, e, f, g, h⟩) := ⟨_, rfl⟩
  obtain ⟨N, HN⟩ : ∃ N, Hid (N = w1.heap.size) := ⟨_, rfl⟩
  have K5' : Hid (Has W2 N 87 (vec l0)) := by rw [HN.out]; exact K5
  have hsN : w.heap.size + 3 ≤ N := by rw [HN.out]; exact hs0
  rw [← HN.out]
  clear K5 hs0
  go_loopw [6, 7, 8, 9, 10, 11, 12, 13, 35] (fun v6 v7 v8 v9 v10 v11 v12 v13 i wr => ∃ k : Nat, k ≤ 64 ∧ i = .int .i64 (k : Int) ∧
      v6 = .int .u32 (u (run8 l0 s0 k).a) ∧ v7 = .int .u32 (u (run8 l0 s0 k).b) ∧ v8 = .int .u32 (u (run8 l0 s0 k).c) ∧ v9 = .int .u32 (u (run8 l0 s0 k).d) ∧
      v10 = .int .u32 (u (run8 l0 s0 k).e) ∧ v11 = .int .u32 (u (run8 l0 s0 k).f) ∧ v12 = .int .u32 (u (run8 l0 s0 k).g) ∧ v13 = .int .u32 (u (run8 l0 s0 k).h) ∧
      Hid (Has wr w.heap.size 59 (vec [a, b, c, d, e, f, g, h])) ∧ Hid (∃ z, Has wr (w.heap.size + 1 + 1) 59 (vec z) ∧ z.length = 8) ∧ Hid (Has wr N 87 (vec (sched l0 k))) ∧ Hid (Below w.heap.size w wr))
    (fun _ _ _ _ _ _ _ _ i _ => 64 - (intOf i).toNat)
  case atStart =>
    rw [HS0.out]
    exact ⟨0, by omega, rfl, rfl, rfl, rfl, rfl, rfl, rfl, rfl, rfl, hid K2.out, K4, hid K5'.out, hid ((KB.out.drewN' _).drewN' _)⟩
  case round =>
    obtain ⟨k, hk, rfl, rfl, rfl, rfl, rfl, rfl, rfl, rfl, rfl, J2, J4, J5, JB⟩ := hrel
    by_cases hlt : k < 64
    · by_cases h16 : 16 ≤ k
      · obtain ⟨j0, m0, b0, H0⟩ := modE k
        have hsc : Hid (sched l0 (k + 1) = (sched l0 k).set j0 (nextW (sched l0 k) k)) := by rw [sched_high _ _ h16, H0.out]; rfl
        have SL : Hid ((sched l0 k).length = 16) := sched_len l0 HLN.out k
        have S1 : Hid ((Tryd.prog.info? 87).map (·.size) = some (vec (sched l0 k)).size) := by rw [vec_size, SL.out]; exact i66
        go_wp2_with (first
          | (refine wpList_load_row rfl 87 _ rfl N rfl 87 _ (0, 0) _ J5.out Tryd.underlying87 rfl S1.out ?_)
          | (go_at_call 72; refine (next_any (sched l0 k) SL.out k hlt _).mono ?_; rintro e2 w2 ⟨rfl, hb2⟩
             have Q5 : Hid (Has w2 N 87 (vec (sched l0 k))) := J5.out.kept hb2 J5.out.inside
             have fj := Q5.out.free j0
             have cj := (Q5.out.at_ j0).trans (vec_get _ j0 (by rw [SL.out]; exact b0))))
        generalize hG : World.setCell w2 _ _ = W3
        have R5 : Hid (Has W3 N 87 (vec (sched l0 (k + 1)))) := by
          rw [← hG, hsc.out, ← vec_set]; exact Q5.out.put j0 _
        have R2 : Hid (Has W3 w.heap.size 59 (vec [a, b, c, d, e, f, g, h])) := by
          rw [← hG]; exact (J2.out.kept hb2 J2.out.inside).other (p := ⟨N, j0, none⟩) (by show w.heap.size ≠ N; omega) _
        have R4 : Hid (∃ z, Has W3 (w.heap.size + 1 + 1) 59 (vec z) ∧ z.length = 8) := by
          obtain ⟨z, Ja, Jb⟩ := J4.out
          rw [← hG]; exact ⟨z, (Ja.kept hb2 Ja.inside).other (p := ⟨N, j0, none⟩) (by show w.heap.size + 1 + 1 ≠ N; omega) _, Jb⟩
        have RB : Hid (Below w.heap.size w W3) := by
          rw [← hG]; exact (JB.out.trans (hb2.mono JB.out.size)).setCell (p := ⟨N, j0, none⟩) (by show w.heap.size ≤ N; omega) _
        clear hG hb2 fj cj
        have ct : W3.cell? ⟨0, k, none⟩ = some (.int .u32 (u (at32 kList k))) := (HT.out.kept RB.out hp0) k hlt
        have cw : W3.cell? ⟨N, j0, none⟩ = some (.int .u32 (u (at32 (sched l0 (k + 1)) j0))) :=
          (R5.out.at_ j0).trans (vec_get _ j0 (by rw [sched_len l0 HLN.out]; exact b0))
        go_quiet ((go_at_call 73; exact Calls.quiet_of_same (right_s _ _ (by decide) _)))
        go_wp2_with (go_at_call 73; refine (right_c _ _ (by decide) _).mono ?_; rintro e w' ⟨rfl, rfl⟩)
        go_roundw
        case rel =>
          have hn := run8_next l0 s0 k j0 _ H0 (hid rfl)
          refine ⟨k + 1, by omega, by go_num, ?_, ?_, ?_, ?_, ?_, ?_, ?_, ?_, hid (R2.out.drawn _), R4, hid (R5.out.drawn _), hid (RB.out.drewN' _)⟩
          · rw [hn]; exact val32 (by rw [sx_num, sy_num, add32]; rfl)
          · rw [hn]; rfl
          · rw [hn]; rfl
          · rw [hn]; rfl
          · rw [hn]; exact val32 (by rw [sx_num, add32]; rfl)
          · rw [hn]; rfl
          · rw [hn]; rfl
          · rw [hn]; rfl
        case measure => simp [intOf]; omega
      · obtain ⟨j0, m0, b0, H0⟩ := modE k
        have hsc : Hid (sched l0 (k + 1) = sched l0 k) := sched_low _ _ (by omega)
        have ct : wr.cell? ⟨0, k, none⟩ = some (.int .u32 (u (at32 kList k))) := (HT.out.kept JB.out hp0) k hlt
        have cw : wr.cell? ⟨N, j0, none⟩ = some (.int .u32 (u (at32 (sched l0 k) j0))) :=
          (J5.out.at_ j0).trans (vec_get _ j0 (by rw [sched_len l0 HLN.out]; exact b0))
        go_wp2
        go_quiet ((go_at_call 73; exact Calls.quiet_of_same (right_s _ _ (by decide) _)))
        go_wp2_with (go_at_call 73; refine (right_c _ _ (by decide) _).mono ?_; rintro e w' ⟨rfl, rfl⟩)
        go_roundw
        case rel =>
          have hn := run8_next l0 s0 k j0 _ H0 hsc
          refine ⟨k + 1, by omega, by go_num, ?_, ?_, ?_, ?_, ?_, ?_, ?_, ?_, hid (J2.out.drawn _), J4, ?_, hid (JB.out.drewN' _)⟩
          · rw [hn]; exact val32 (by rw [sx_num, sy_num, add32]; rfl)
          · rw [hn]; rfl
          · rw [hn]; rfl
          · rw [hn]; rfl
          · rw [hn]; exact val32 (by rw [sx_num, add32]; rfl)
          · rw [hn]; rfl
          · rw [hn]; rfl
          · rw [hn]; rfl
          · rw [hsc.out]; exact hid (J5.out.drawn _)
        case measure => simp [intOf]; omega
    · obtain rfl : k = 64 := by omega
      obtain ⟨z, J4a, J4b⟩ := J4.out
      clear J4
      have Y1 : Hid ((Tryd.prog.info? 59).map (·.size) = some 8) := i34
      have hw2 := J2.out.at_
      have hw0 : wr.cell? ⟨w.heap.size, 0, none⟩ = some (.int .u32 (u a)) := hw2 0
      have hw1 : wr.cell? ⟨w.heap.size, 1, none⟩ = some (.int .u32 (u b)) := hw2 1
      have hw3 : wr.cell? ⟨w.heap.size, 2, none⟩ = some (.int .u32 (u c)) := hw2 2
      have hw4 : wr.cell? ⟨w.heap.size, 3, none⟩ = some (.int .u32 (u d)) := hw2 3
      have hw5 : wr.cell? ⟨w.heap.size, 4, none⟩ = some (.int .u32 (u e)) := hw2 4
      have hw6 : wr.cell? ⟨w.heap.size, 5, none⟩ = some (.int .u32 (u f)) := hw2 5
      have hw7 : wr.cell? ⟨w.heap.size, 6, none⟩ = some (.int .u32 (u g)) := hw2 6
      have hw8 : wr.cell? ⟨w.heap.size, 7, none⟩ = some (.int .u32 (u h)) := hw2 7
      clear hw2
      have Y2 : Hid (Has wr (w.heap.size + 1 + 1) 59 (vec z)) := J4a
      have Y3 : Hid (z.length = 8) := J4b
      have Y4 : Hid ((vec z).size = 8) := by rw [vec_size, J4b]; rfl
      clear J4a J4b
      have Y5 : Hid (vec (sums [a, b, c, d, e, f, g, h] (run8 l0 s0 64)) = #[.int .u32 ((u a + u (run8 l0 s0 64).a) % 4294967296), .int .u32 ((u b + u (run8 l0 s0 64).b) % 4294967296), .int .u32 ((u c + u (run8 l0 s0 64).c) % 4294967296), .int .u32 ((u d + u (run8 l0 s0 64).d) % 4294967296), .int .u32 ((u e + u (run8 l0 s0 64).e) % 4294967296), .int .u32 ((u f + u (run8 l0 s0 64).f) % 4294967296), .int .u32 ((u g + u (run8 l0 s0 64).g) % 4294967296), .int .u32 ((u h + u (run8 l0 s0 64).h) % 4294967296)]) := by
        simp only [vec, sums, List.map_cons, List.map_nil, add32]; rfl
      have Y6 : Hid (Array.all (α := Value) #[.int .u32 ((u a + u (run8 l0 s0 64).a) % 4294967296), .int .u32 ((u b + u (run8 l0 s0 64).b) % 4294967296), .int .u32 ((u c + u (run8 l0 s0 64).c) % 4294967296), .int .u32 ((u d + u (run8 l0 s0 64).d) % 4294967296), .int .u32 ((u e + u (run8 l0 s0 64).e) % 4294967296), .int .u32 ((u f + u (run8 l0 s0 64).f) % 4294967296), .int .u32 ((u g + u (run8 l0 s0 64).g) % 4294967296), .int .u32 ((u h + u (run8 l0 s0 64).h) % 4294967296)] (·.oneCell') = true) := by rw [← Y5.out]; exact vec_one _
      go_wp2_with (refine wpList_store_row rfl 59 (.tmp 4) (.tmp 139) rfl (w.heap.size + 1 + 1) #[.int .u32 ((u a + u (run8 l0 s0 64).a) % 4294967296), .int .u32 ((u b + u (run8 l0 s0 64).b) % 4294967296), .int .u32 ((u c + u (run8 l0 s0 64).c) % 4294967296), .int .u32 ((u d + u (run8 l0 s0 64).d) % 4294967296), .int .u32 ((u e + u (run8 l0 s0 64).e) % 4294967296), .int .u32 ((u f + u (run8 l0 s0 64).f) % 4294967296), .int .u32 ((u g + u (run8 l0 s0 64).g) % 4294967296), .int .u32 ((u h + u (run8 l0 s0 64).h) % 4294967296)] rfl rfl 59 (vec z) Y2.out Y1.out Y4.out Y6.out ?_)
      refine bodyPost_ret (results_cell_row rfl _ _ (w.heap.size + 1 + 1) 59 #[.int .u32 ((u a + u (run8 l0 s0 64).a) % 4294967296), .int .u32 ((u b + u (run8 l0 s0 64).b) % 4294967296), .int .u32 ((u c + u (run8 l0 s0 64).c) % 4294967296), .int .u32 ((u d + u (run8 l0 s0 64).d) % 4294967296), .int .u32 ((u e + u (run8 l0 s0 64).e) % 4294967296), .int .u32 ((u f + u (run8 l0 s0 64).f) % 4294967296), .int .u32 ((u g + u (run8 l0 s0 64).g) % 4294967296), .int .u32 ((u h + u (run8 l0 s0 64).h) % 4294967296)] (0, 0) _ rfl Y2.out.row Tryd.underlying59 rfl Y1.out) rfl ⟨?_, JB.out.rowK (by omega) _⟩
      rw [← Y5.out, foldL, HL0.out]
      rw [HS0.out]; rfl
end Go.Proofs.YtoeomghebgbniaaDoor.Sha
