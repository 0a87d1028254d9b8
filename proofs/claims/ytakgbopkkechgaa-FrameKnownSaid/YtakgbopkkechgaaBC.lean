/- caravanref04.Num: the document's bytes of a number. No conditions. -/
import Derived.Test.YtakgbopkkechgaaBB
namespace Go.Proofs.Ytakgbopkkechgaa
open Go.RowKit
def bvec (l : List UInt8) : Array Value := (l.map V8).toArray
theorem bvec_size (l : List UInt8) : (bvec l).size = l.length := by simp [bvec]
theorem bvec_get (l : List UInt8) (i : Nat) (h : i < l.length) : (bvec l)[i]? = some (V8 (at8 l i)) := by
  simp [bvec, at8, List.getElem?_eq_getElem h, List.getD]
theorem bvec_set (l : List UInt8) (i : Nat) (x : UInt8) : (bvec l).setIfInBounds i (V8 x) = bvec (l.set i x) := by
  simp [bvec, List.map_set]
theorem made_bytes (m : Nat) : madeCells #[Value.int .u8 0] m = bvec (List.replicate m 0) := by
  apply Array.ext
  · simp [madeCells, bvec]
  · intro i h1 h2
    simp [madeCells, bvec, Nat.mod_one]; rfl
theorem u64in (x : Nat) (h : x < 18446744073709551616) : IntKind.u64.wrap (x : Int) = x := by
  simp [IntKind.wrap, IntKind.signed, IntKind.bits]; omega
/-- The m bytes when the last j have been laid. -/
def lasts (n m j : Nat) : List UInt8 := List.replicate (m - j) 0 ++ (highs n m m).drop (m - j)
theorem lasts_len (n m j : Nat) (h : j ≤ m) : (lasts n m j).length = m := by rw [lasts, List.length_append, List.length_replicate, List.length_drop, highs_len]; omega
theorem lasts_next (n m j : Nat) (h : j < m) : lasts n m (j + 1) = (lasts n m j).set (m - 1 - j) (lowB n j) := by
  have e1 : m - j = (m - 1 - j) + 1 := by omega
  have e2 : m - (j + 1) = m - 1 - j := by omega
  have e3 : (highs n m m).drop (m - 1 - j) = lowB n j :: (highs n m m).drop (m - 1 - j + 1) := by
    rw [List.drop_eq_getElem_cons (by rw [highs_len]; omega)]
    congr 1
    simp [highs]
    congr 1; omega
  rw [lasts, lasts, e1, e2, e3, List.set_append_left _ _ (by simp)]
  have e4 : (List.replicate (m - 1 - j + 1) (0 : UInt8)).set (m - 1 - j) (lowB n j) = List.replicate (m - 1 - j) 0 ++ [lowB n j] := by
    rw [List.replicate_succ', List.set_append_right _ _ (by simp)]
    simp
  rw [e4]; simp
theorem made_row (n m : Nat) (w : World) : (w.alloc (.cells (bvec (List.replicate m 0)) 5)).heap.size = w.heap.size + 1 ∧ Hid (Has (w.alloc (.cells (bvec (List.replicate m 0)) 5)) w.heap.size 5 (bvec (lasts n m 0))) := by
  refine ⟨by simp, ?_⟩
  have e : lasts n m 0 = List.replicate m 0 := by simp [lasts, highs_len]
  rw [e]
  exact Has.fresh w 5 _
set_option maxRecDepth 100000 in
set_option maxHeartbeats 1000000 in
theorem rNum_any (k : Int) (n : Nat) (hn : n < 18446744073709551616) (w : World) :
    Calls Try.prog 24 #[.int .i64 k, .int .u64 (n : Int)] w fun e w' => ∃ v, e = .returned v ∧ w'.ownsRow w.heap.size 5 1 v (numL k n).length ((numL k n).map V8) ∧ Below w.heap.size w w' := by
  have HN := hid hn
  clear hn
  rcases hw : wid k with _ | _
  · have HL : Hid (numL k n = []) := by show _ = _; rw [numL, hw]; rfl
    rw [HL.out]
    have C := hid (may_any k w)
    rw [hw] at C
    clear hw
    go_enter Try.func24, Try.ntmps24
    go_wp2_with (go_at_call 31; refine C.out.mono ?_; rintro e w' ⟨rfl, rfl⟩)
    go_ret
    exact ⟨_, rfl, World.ownsRow_nil _ _ _ _, Below.refl _ _⟩
  · obtain ⟨m, rfl, hm0, hm8⟩ : ∃ m : Nat, k = (m : Int) ∧ 1 ≤ m ∧ m ≤ 8 := by
      rcases wid_cases hw with rfl | rfl | rfl | rfl
      · exact ⟨1, rfl, by omega, by omega⟩
      · exact ⟨2, rfl, by omega, by omega⟩
      · exact ⟨4, rfl, by omega, by omega⟩
      · exact ⟨8, rfl, by omega, by omega⟩
    have HL : Hid (numL m n = highs n m m) := by show _ = _; rw [numL, hw]; rfl
    rw [HL.out, highs_len]
    have C := hid (may_any m w)
    rw [hw] at C
    clear hw
    obtain ⟨i0, hi, hz0, hz1, hz2⟩ := info_parts info5
    have w1 : IntKind.i64.wrap ((m : Int) - 1) = (m : Int) - 1 := i64in _ (by omega) (by omega)
    have hmk : ∀ w : World, (Instr.makeSlice 22 (.int .i64 (m : Int)) (.int .i64 (m : Int))).run Try.prog w = .ok (.slice (some ⟨w.heap.size, 0, none⟩) m m) (w.alloc (.cells (bvec (List.replicate m 0)) 5)) := by
      intro w
      have := run_make (P := Try.prog) w 22 5 i0 (.int .u8 0) Try.underlying22 hi hz0 .i64 .i64 (m : Int) (m : Int) (by omega) (by omega) (by rw [hz2]; omega) (by omega)
      rw [this]
      simp only [Int.toNat_natCast, hz1, Nat.mul_one]
      rw [show (Value.int IntKind.u8 0).cells = #[Value.int .u8 0] from rfl, made_bytes]
    go_enter Try.func24, Try.ntmps24
    go_wp2_with (go_at_call 31; refine C.out.mono ?_; rintro e w' ⟨rfl, rfl⟩)
    go_loopw [1, 6] (fun u v wr => ∃ (j : Nat) (q : Int) (y : Nat), j ≤ m ∧ v = .int .i64 q ∧ u = .int .u64 (y : Int) ∧ Hid (y = n / 256 ^ j) ∧ Hid (q = (m : Int) - 1 - (j : Int)) ∧ Hid (Has wr w.heap.size 5 (bvec (lasts n m j))) ∧ Hid (Below w.heap.size w wr))
      (fun _ i _ => (intOf i + 1).toNat)
    case atStart => exact ⟨0, _, n, by omega, rfl, rfl, by show _ = _; simp, by show _ = _; omega, (made_row n m w).2, (Below.refl _ _).alloc (Nat.le_refl _) _⟩
    case round =>
      obtain ⟨j, q, y, hj, rfl, rfl, HY, HQ, HO, HB⟩ := hrel
      by_cases hlt : j < m
      · obtain ⟨i, rfl, HI⟩ : ∃ i : Nat, q = (i : Int) ∧ Hid (i = m - 1 - j) := ⟨m - 1 - j, by have := HQ.out; omega, rfl⟩
        have hi1 : i < m := by have := HI.out; omega
        have c1 := (HO.out.at_ i).trans (bvec_get _ i (by rw [lasts_len _ _ _ (by omega)]; exact hi1))
        have f1 := HO.out.free i
        have hy0 : (0 : Int) ≤ (y : Int) := by omega
        have m1 : (y : Int).tmod 256 = ((y % 256 : Nat) : Int) := by rw [Int.tmod_eq_emod_of_nonneg (by omega)]; omega
        have m2 : (y : Int).tdiv 256 = ((y / 256 : Nat) : Int) := by rw [Int.tdiv_eq_ediv_of_nonneg (by omega)]; omega
        have hib : (0 : Int) ≤ (i : Int) := by omega
        have N5 : Hid (Value.int .u8 ((y : Int) % 256) = V8 (lowB n j)) := by
          show Value.int _ _ = Value.int _ _
          rw [lowB, b8_ofNat, ← HY.out]
          norm_cast
        go_wp2
        go_roundw
        case rel =>
          refine ⟨j + 1, (i : Int) - 1, y / 256, by omega, rfl, ?_, ?_, by show _ = _; have := HQ.out; omega, ?_, HB.out.setCell (p := ⟨w.heap.size, i, none⟩) (Nat.le_refl _) _⟩
          · rw [show (y : Int) / 256 = ((y / 256 : Nat) : Int) from by norm_cast, u64in]
            have h1 := HN.out; have h2 := HY.out; have h3 := Nat.div_le_self n (256 ^ j)
            omega
          · show _ = _
            rw [HY.out, Nat.pow_succ, Nat.div_div_eq_div_mul]
          · rw [lasts_next _ _ _ hlt, ← bvec_set, ← HI.out]
            have := HO.out.put i (V8 (lowB n j))
            rw [← N5.out] at this
            rw [← N5.out]
            exact this
        case measure => simp [intOf]
      · obtain rfl : j = m := by omega
        have hq : q < 0 := by have := HQ.out; omega
        go_wp2
        go_ret
        have e : lasts n j j = highs n j j := by simp [lasts]
        rw [e] at HO
        refine ⟨_, rfl, ⟨by simp [highs_len], .inr ⟨w.heap.size, j, _, rfl, Nat.le_refl _, HO.out, Nat.le_refl _, by unfold maxLen; omega, by rw [bvec_size, highs_len, Nat.mul_one], ?_⟩⟩, HB.out⟩
        show List.take _ (List.map _ _) = _
        rw [List.take_of_length_le (by simp [highs_len])]
end Go.Proofs.Ytakgbopkkechgaa
