/- bytes.isWidth, caravanref04.May, bytes.number, caravanref04.Num: a number's bytes. No conditions. -/
import Derived.Test.YtakgbopkkechgaaBA
namespace Go.Proofs.Ytakgbopkkechgaa
open Go.RowKit
/-- May a number have the width? -/
def wid (k : Int) : Bool := k == 1 || k == 2 || k == 4 || k == 8
theorem wid_cases {k : Int} (h : wid k = true) : k = 1 ∨ k = 2 ∨ k = 4 ∨ k = 8 := by
  simp only [wid, Bool.or_eq_true, beq_iff_eq] at h; omega
theorem wid_no {k : Int} (h : wid k = false) : k ≠ 1 ∧ k ≠ 2 ∧ k ≠ 4 ∧ k ≠ 8 := by
  simp only [wid, Bool.or_eq_false_iff, beq_eq_false_iff_ne] at h; omega
set_option maxHeartbeats 400000 in
theorem isWidth_any (k : Int) (w : World) : Calls Try.prog 35 #[.int .i64 k] w fun e w' => e = .returned (.bool (wid k)) ∧ w = w' := by
  rcases hw : wid k with _ | _
  · obtain ⟨h1, h2, h3, h4⟩ := wid_no hw
    have HW := hid hw
    clear hw
    go_enter Try.func35, Try.ntmps35
    go_wp2
    go_ret
    exact ⟨by rw [← HW.out]; rfl, rfl⟩
  · rcases wid_cases hw with rfl | rfl | rfl | rfl
    all_goals
      clear hw
      go_enter Try.func35, Try.ntmps35
      go_wp2
      go_ret
      exact ⟨rfl, rfl⟩
set_option maxHeartbeats 400000 in
theorem may_any (k : Int) (w : World) : Calls Try.prog 31 #[.int .i64 k] w fun e w' => e = .returned (.bool (wid k)) ∧ w = w' := by
  rcases hw : wid k with _ | _
  · obtain ⟨h1, h2, h3, h4⟩ := wid_no hw
    have HW := hid hw
    clear hw
    go_enter Try.func31, Try.ntmps31
    go_wp2
    go_ret
    exact ⟨by rw [← HW.out]; rfl, rfl⟩
  · rcases wid_cases hw with rfl | rfl | rfl | rfl
    all_goals
      clear hw
      go_enter Try.func31, Try.ntmps31
      go_wp2
      go_ret
      exact ⟨rfl, rfl⟩
/-- Byte j, from the lowest one on. -/
def lowB (n j : Nat) : UInt8 := UInt8.ofNat (n / 256 ^ j)
/-- The first j of the m bytes of a number, the highest first. -/
def highs (n m j : Nat) : List UInt8 := (List.range j).map fun i => lowB n (m - 1 - i)
theorem highs_next (n m j : Nat) : highs n m (j + 1) = highs n m j ++ [lowB n (m - 1 - j)] := by simp [highs, List.range_succ]
theorem highs_len (n m j : Nat) : (highs n m j).length = j := by simp [highs]
/-- A number's bytes; none of a width that is none. -/
def numL (k : Int) (n : Nat) : List UInt8 := if wid k then highs n k.toNat k.toNat else []
theorem numL_len (k : Int) (n : Nat) : (numL k n).length ≤ 8 := by
  unfold numL
  split
  · rename_i h
    rw [highs_len]
    rcases wid_cases h with rfl | rfl | rfl | rfl <;> decide
  · simp
set_option maxRecDepth 100000 in
set_option maxHeartbeats 1000000 in
theorem number_any (k : Int) (n : Nat) (hn : n < 18446744073709551616) (w : World) :
    Calls Try.prog 29 #[.int .i64 k, .int .u64 (n : Int)] w fun e w' => ∃ v, e = .returned v ∧ w'.ownsRow w.heap.size 5 1 v (numL k n).length ((numL k n).map V8) ∧ Below w.heap.size w w' := by
  have HN := hid hn
  clear hn
  rcases hw : wid k with _ | _
  · have HL : Hid (numL k n = []) := by show _ = _; rw [numL, hw]; rfl
    rw [HL.out]
    have C := hid (isWidth_any k w)
    rw [hw] at C
    clear hw
    go_enter Try.func29, Try.ntmps29
    go_wp2_with (go_at_call 35; refine C.out.mono ?_; rintro e w' ⟨rfl, rfl⟩)
    go_ret
    exact ⟨_, rfl, World.ownsRow_nil _ _ _ _, Below.refl _ _⟩
  · obtain ⟨m, rfl, hm0, hm8⟩ : ∃ m : Nat, k = (m : Int) ∧ 1 ≤ m ∧ m ≤ 8 := by
      rcases wid_cases hw with rfl | rfl | rfl | rfl
      · exact ⟨1, rfl, by omega, by omega⟩
      · exact ⟨2, rfl, by omega, by omega⟩
      · exact ⟨4, rfl, by omega, by omega⟩
      · exact ⟨8, rfl, by omega, by omega⟩
    have HL : Hid (numL m n = highs n m m) := by show _ = _; rw [numL, hw]; rfl
    rw [HL.out, highs_len]
    have C := hid (isWidth_any m w)
    rw [hw] at C
    clear hw
    obtain ⟨i0, hi, hz0, hz1, hz2⟩ := info_parts info5
    have w1 : IntKind.i64.wrap ((m : Int) - 1) = (m : Int) - 1 := i64in _ (by omega) (by omega)
    have w2 : IntKind.i64.wrap (8 * ((m : Int) - 1)) = 8 * ((m : Int) - 1) := i64in _ (by omega) (by omega)
    go_enter Try.func29, Try.ntmps29
    go_wp2_with (go_at_call 35; refine C.out.mono ?_; rintro e w' ⟨rfl, rfl⟩)
    go_loopw [5, 6] (fun v i wr => ∃ (j : Nat) (q : Int), j ≤ m ∧ i = .int .i64 q ∧ Hid (q = 8 * ((m : Int) - 1 - (j : Int))) ∧ Hid (wr.ownsRow w.heap.size 5 1 v j ((highs n m j).map V8)) ∧ Hid (Below w.heap.size w wr))
      (fun _ i _ => (intOf i + 8).toNat)
    case atStart => exact ⟨0, _, by omega, rfl, by show _ = _; omega, World.ownsRow_nil _ _ _ _, Below.refl _ _⟩
    case round =>
      obtain ⟨j, q, hj, rfl, HQ, HO, HB⟩ := hrel
      by_cases hlt : j < m
      · obtain ⟨sh, rfl⟩ : ∃ sh : Nat, q = (sh : Int) := ⟨8 * (m - 1 - j), by have := HQ.out; omega⟩
        have hsh : (0 : Int) ≤ (sh : Int) := by omega
        have hsh2 : (sh : Int) ≤ 56 := by have := HQ.out; omega
        have N1 : Hid (∀ u ∈ [Value.int .u8 ((n : Int) / 2 ^ sh % 256)], u.oneCell' = true) := by
          intro u hu
          rw [List.mem_singleton] at hu
          subst hu; rfl
        have N2 : Hid (j + 1 ≤ maxLen) := by show _ ≤ _; unfold maxLen; omega
        have N3 : Hid ((j + 1) * 1 ≤ 140737488355328) := by show _ ≤ _; omega
        have N4 : Hid (∀ o, w.heap.size ≤ (wr.alloc o).heap.size) := by intro o; have := HB.out.size; simp; omega
        have N5 : Hid (Value.int .u8 ((n : Int) / 2 ^ sh % 256) = V8 (lowB n (m - 1 - j))) := by
          have e : sh = 8 * (m - 1 - j) := by have := HQ.out; omega
          show Value.int _ _ = Value.int _ _
          have e2 : (256 : Nat) ^ (m - 1 - j) = 2 ^ (8 * (m - 1 - j)) := by rw [Nat.pow_mul]
          rw [lowB, b8_ofNat, e, e2]
          norm_cast
        go_wp2_with (at_builtin; refine wpList_append_own _ rfl _ _ 22 rfl w.heap.size 5 i0 (.int .u8 0) 1 1 Try.underlying22 hi hz0 hz1 hz2 rfl (by omega) _ _ _ rfl (HO.out.alloc _) ⟨wr.heap.size, 0, none⟩ 1 1 [Value.int .u8 ((n : Int) / 2 ^ sh % 256)] rfl rfl (cell_one_new _ _ _) N1.out N2.out N3.out (N4.out _) ?_; intro v' w1 hown' hgrow _)
        have HO2 : Hid (w1.ownsRow w.heap.size 5 1 v' (j + 1) ((highs n m (j + 1)).map V8)) := by
          rw [N5.out] at hown'
          rw [highs_next, List.map_append]
          exact hown'
        have HB2 : Hid (Below w.heap.size w w1) :=
          ((HB.out.alloc HB.out.size _).grown hgrow (N4.out _) (fun g hg => by
            rcases HO.out.2 with ⟨rfl, _⟩ | ⟨g', _, _, rfl, hle, _⟩
            · cases hg
            · obtain rfl := Option.some.inj hg; exact hle))
        clear hown' hgrow
        go_wp2
        go_roundw
        case rel => exact ⟨j + 1, (sh : Int) - 8, by omega, rfl, by show _ = _; have := HQ.out; omega, HO2, HB2⟩
        case measure => simp [intOf]; omega
      · obtain rfl : j = m := by omega
        have hq : q < 0 := by have := HQ.out; omega
        go_wp2
        go_ret
        exact ⟨_, rfl, HO.out, HB.out⟩
end Go.Proofs.Ytakgbopkkechgaa

