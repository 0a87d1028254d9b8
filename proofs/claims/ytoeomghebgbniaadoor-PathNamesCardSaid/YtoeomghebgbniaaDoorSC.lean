/- sha.firstSixteen: the sixteen words of sixty-four bytes. Conditions: sixty-four bytes. -/
import Derived.Test.YtoeomghebgbniaaDoorSB
import Derived.StillTailTactics
namespace Go.Proofs.YtoeomghebgbniaaDoor.Sha
open Go.RowKit

def be4 (l : List UInt8) (k : Nat) : BitVec 32 :=
  shL (wd (at8 l (4 * k))) 24 ||| shL (wd (at8 l (4 * k + 1))) 16 ||| shL (wd (at8 l (4 * k + 2))) 8 ||| wd (at8 l (4 * k + 3))
theorem b8m (x : UInt8) : b8 x % 4294967296 = u (wd x) := by
  rw [← b8_u]; have := b8_nonneg x; have := b8_lt x; omega
theorem shl24 (x : BitVec 32) : u x * 16777216 % 4294967296 = u (shL x 24) := shl32 x 24
theorem shl16 (x : BitVec 32) : u x * 65536 % 4294967296 = u (shL x 16) := shl32 x 16
theorem shl8 (x : BitVec 32) : u x * 256 % 4294967296 = u (shL x 8) := shl32 x 8
/-- The first k of the sixteen words, the others 0. -/
def words (l : List UInt8) (k : Nat) : List (BitVec 32) := (List.range 16).map fun i => if i < k then be4 l i else 0
theorem words_len (l : List UInt8) (k : Nat) : (words l k).length = 16 := by simp [words]
theorem words_set (l : List UInt8) (k : Nat) : (words l k).set k (be4 l k) = words l (k + 1) := by
  apply List.ext_getElem
  · simp [words]
  · intro i h1 h2
    simp only [words, List.getElem_set, List.getElem_map, List.getElem_range]
    by_cases h : k = i
    · subst h; simp
    · rw [if_neg h]
      by_cases h3 : i < k
      · rw [if_pos h3, if_pos (by omega)]
      · rw [if_neg h3, if_neg (by omega)]
set_option maxRecDepth 100000 in
set_option maxHeartbeats 400000 in
theorem sixteen_any (l : List UInt8) (hl : l.length = 64) (w : World) :
    Calls Tryd.prog 71 #[.agg (bvec l)] w fun e w' => e = .returned (.agg (vec (words l 16))) ∧ Below w.heap.size w w' := by
  go_enter Tryd.func71, Tryd.ntmps71
  go_wp2
  go_loopw [6] (fun i wr => ∃ k : Nat, k ≤ 16 ∧ i = .int .i64 (k : Int) ∧ Has wr w.heap.size 66 (bvec l) ∧ Has wr (w.heap.size + 1) 87 (vec (List.replicate 16 0)) ∧ Has wr (w.heap.size + 1 + 1) 87 (vec (words l k)) ∧ Below w.heap.size w wr)
    (fun i _ => 16 - (intOf i).toNat)
  case atStart =>
    refine ⟨0, by omega, rfl, ?_, ?_, ?_, ?_⟩
    · exact ((Has.fresh _ _ _).more _).more _
    · exact (Has.fresh' _ 87 (vec (List.replicate 16 0)) (by simp)).more _
    · exact Has.fresh' _ 87 (vec (words l 0)) (by simp)
    · exact (((Below.refl _ _).alloc (by simp) _).alloc (by simp) _).alloc (by simp; omega) _
  case round =>
    obtain ⟨k, hk, rfl, h1, h2, h3, hb⟩ := hrel
    by_cases hlt : k < 16
    · obtain ⟨q0, e0, E0⟩ : ∃ q : Nat, 4 * (k : Int) = (q : Int) ∧ Hid (4 * k = q) := ⟨4 * k, by omega, rfl⟩
      obtain ⟨q1, e1, E1⟩ : ∃ q : Nat, (q0 : Int) + 1 = (q : Int) ∧ Hid (q0 + 1 = q) := ⟨q0 + 1, by omega, rfl⟩
      obtain ⟨q2, e2, E2⟩ : ∃ q : Nat, (q0 : Int) + 2 = (q : Int) ∧ Hid (q0 + 2 = q) := ⟨q0 + 2, by omega, rfl⟩
      obtain ⟨q3, e3, E3⟩ : ∃ q : Nat, (q0 : Int) + 3 = (q : Int) ∧ Hid (q0 + 3 = q) := ⟨q0 + 3, by omega, rfl⟩
      have HB := hid hb
      have H1 := hid h1
      have H2 := hid h2
      have H3 := hid h3
      have d0 := (h1.at_ q0).trans (bvec_get l q0 (by omega))
      have d1 := (h1.at_ q1).trans (bvec_get l q1 (by omega))
      have d2 := (h1.at_ q2).trans (bvec_get l q2 (by omega))
      have d3 := (h1.at_ q3).trans (bvec_get l q3 (by omega))
      have f3 := h3.free k
      have c3 := (h3.at_ k).trans (vec_get _ k (by rw [words_len]; omega))
      have g0 : (q0 : Int) < 64 := by omega
      have g1 : (q1 : Int) < 64 := by omega
      have g2 : (q2 : Int) < 64 := by omega
      have g3 : (q3 : Int) < 64 := by omega
      have n0 : (0 : Int) ≤ (q0 : Int) := by omega
      clear hb h1 h2 h3
      go_wp2
      go_region
      go_wp2
      go_roundw
      case rel =>
        have e : ∀ z : Int, z = u (be4 l k) → Has (wr.setCell ⟨w.heap.size + 1 + 1, k, none⟩ (.int .u32 z)) (w.heap.size + 1 + 1) 87 (vec (words l (k + 1))) := by
          intro z hz
          rw [hz, ← words_set, ← vec_set]
          exact H3.out.put k _
        refine ⟨k + 1, by omega, by go_num, H1.out.other (p := ⟨w.heap.size + 1 + 1, k, none⟩) (by show w.heap.size ≠ w.heap.size + 1 + 1; omega) _, H2.out.other (p := ⟨w.heap.size + 1 + 1, k, none⟩) (by simp) _, e _ ?_, ?_⟩
        · simp only [b8m, shl24, shl16, shl8, or32, be4, ← E1.out, ← E2.out, ← E3.out, ← E0.out]
        · exact (HB.out.setCell (p := ⟨w.heap.size + 1 + 1, k, none⟩) (by simp; omega) _).drew
      case measure => simp [intOf]; omega
    · obtain rfl : k = 16 := by omega
      have HB := hid hb
      have H3 := hid h3
      have H2 := hid h2
      have S1 : Hid ((Tryd.prog.info? 87).map (·.size) = some (vec (words l 16)).size) := by rw [vec_size, words_len]; exact i66
      have S2 : Hid ((vec (List.replicate 16 0)).size = (vec (words l 16)).size) := by rw [vec_size, vec_size, words_len]; rfl
      clear hb h1 h2 h3
      go_wp2_with (first
        | (refine wpList_load_row rfl 87 _ rfl (w.heap.size + 1 + 1) rfl 87 _ (0, 0) _ H3.out Tryd.underlying87 rfl S1.out ?_)
        | (refine wpList_store_row rfl 87 _ _ rfl (w.heap.size + 1) _ rfl rfl 87 _ H2.out S1.out S2.out (vec_one _) ?_))
      refine bodyPost_ret (results_cell_row rfl _ _ (w.heap.size + 1) 87 (vec (words l 16)) (0, 0) _ rfl H2.out.row Tryd.underlying87 rfl S1.out) rfl ⟨rfl, ?_⟩
      exact HB.out.rowK (by omega) _
end Go.Proofs.YtoeomghebgbniaaDoor.Sha
