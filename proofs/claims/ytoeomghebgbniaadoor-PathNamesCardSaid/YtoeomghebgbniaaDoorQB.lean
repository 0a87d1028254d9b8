/- path.IsConflict: what it answers of any text. Conditions: at most 4000 bytes. -/
import Derived.Test.YtoeomghebgbniaaDoorQA
namespace Go.Proofs.YtoeomghebgbniaaDoor
open Go.RowKit
def shapeL : List UInt8 := [46, 115, 121, 110, 99, 45, 99, 111, 110, 102, 108, 105, 99, 116, 45, 35, 35, 35, 35, 35, 35, 35, 35, 35, 35, 45, 35, 35]
theorem shape_at (j : Nat) (hj : j < 28) (w : World) : (Instr.index 9 (.string ⟨#[46, 115, 121, 110, 99, 45, 99, 111, 110, 102, 108, 105, 99, 116, 45, 35, 35, 35, 35, 35, 35, 35, 35, 35, 35, 45, 35, 35]⟩) (.int .i64 (j : Int))).run Tryd.prog w = .ok (.int .u8 (b8 (at8 shapeL j))) w :=
  index_str ⟨#[46, 115, 121, 110, 99, 45, 99, 111, 110, 102, 108, 105, 99, 116, 45, 35, 35, 35, 35, 35, 35, 35, 35, 35, 35, 45, 35, 35]⟩ j hj w
/-- Do so many bytes from a place on fit the shape? -/
def upTo (l : List UInt8) (i m : Nat) : Bool := (List.range m).all fun j => fitsB (at8 l (i + j)) (at8 shapeL j)
theorem upTo_next (l : List UInt8) (i m : Nat) : upTo l i (m + 1) = (upTo l i m && fitsB (at8 l (i + m)) (at8 shapeL m)) := by simp [upTo, List.range_succ]
theorem upTo_no {l : List UInt8} {i m : Nat} (hm : m < 28) (h : fitsB (at8 l (i + m)) (at8 shapeL m) = false) : upTo l i 28 = false := by
  rw [upTo, List.all_eq_false]
  exact ⟨m, List.mem_range.2 hm, by rw [h]; simp⟩
/-- Does a part have a conflict's mark somewhere? -/
def markB (l : List UInt8) : Bool := (List.range (l.length - 27)).any fun i => upTo l i 28
def isConfB (l : List UInt8) : Bool := markB (lastP l)
theorem markB_yes {l : List UInt8} {i : Nat} (hi : i < l.length - 27) (h : upTo l i 28 = true) : markB l = true := by
  rw [markB, List.any_eq_true]; exact ⟨i, List.mem_range.2 hi, h⟩
theorem markB_no {l : List UInt8} (h : ∀ i, i < l.length - 27 → upTo l i 28 = false) : markB l = false := by
  rw [markB, List.any_eq_false]; intro i hi; rw [h i (List.mem_range.1 hi)]; simp
set_option maxRecDepth 100000 in
set_option maxHeartbeats 1000000 in
theorem isConflict_any (s : ByteArray) (w : World) (hs : s.size ≤ 4000) :
    Calls Tryd.prog 11 #[.string s] w fun e w' => e = .returned (.bool (isConfB (tl s))) ∧ Below w.heap.size w w' := by
  obtain ⟨r, HR⟩ : ∃ r, Hid (ba (lastP (tl s)) = r) := ⟨_, rfl⟩
  have HC : Hid (∀ W, Calls Tryd.prog 31 #[.string s] W fun e w' => e = .returned (.string r) ∧ W = w') := by intro W; rw [← HR.out]; exact last_any s W hs
  have hr : r.size ≤ 4000 := by rw [← HR.out, ba_size]; have := lastP_len (tl s); rw [tl_length] at this; omega
  have HV : Hid (isConfB (tl s) = markB (tl r)) := by show _ = _; rw [isConfB, ← HR.out, tl_ba]
  have HL : Hid ((tl r).length = r.size) := tl_length r
  obtain ⟨N, HN⟩ : ∃ N, Hid (N = r.size - 27) := ⟨_, rfl⟩
  go_enter Tryd.func11, Tryd.ntmps11
  go_wp2
  go_step3
  go_wp2_with (go_at_call 31; refine (HC.out _).mono ?_; rintro e1 w1 ⟨rfl, rfl⟩)
  go_step3
  go_wp2
  go_loopg [12] N (fun g iv wr => ∃ k : Nat, k + g = N ∧ iv = .int .i64 (k : Int) ∧ Hid (∀ i, i < k → upTo (tl r) i 28 = false) ∧ Hid (Below w.heap.size w wr))
  case atStart => exact ⟨0, by omega, rfl, fun i hi => by omega, Below.refl _ _⟩
  case round =>
    obtain ⟨k, hkg, rfl, HK, HB⟩ := hrel
    cases gk with
    | zero =>
      have hk2 : ¬ ((k : Int) < (r.size : Int) - 28 + 1) := by have := HN.out; omega
      go_wp2
      try rw [Exit.noGoto_ret]
      go_ret
      refine ⟨ret_bool ?_, HB.out⟩
      rw [HV.out, markB_no]
      intro i hi
      rw [HL.out] at hi
      exact HK.out i (by have := HN.out; omega)
    | succ g =>
      have hk2 : (k : Int) < (r.size : Int) - 28 + 1 := by have := HN.out; omega
      go_wp2
      go_loopg [15] 28 (fun g2 jv wr2 => ∃ m : Nat, m + g2 = 28 ∧ jv = .int .i64 (m : Int) ∧ Hid (upTo (tl r) k m = true) ∧ Hid (Below w.heap.size w wr2))
      case atStart => exact ⟨0, by omega, rfl, rfl, HB⟩
      case round =>
        obtain ⟨m, hmg, rfl, HM, HB2⟩ := hrel
        cases gk with
        | zero =>
          obtain rfl : m = 28 := by omega
          go_wp2
          try rw [Exit.noGoto_ret]
          go_ret
          refine ⟨ret_bool ?_, HB2.out⟩
          rw [HV.out, markB_yes (i := k) (by rw [HL.out]; have := HN.out; omega) HM.out]
        | succ g2 =>
          have hm : m < 28 := by omega
          obtain ⟨n, Hn⟩ : ∃ n, Hid (k + m = n) := ⟨_, rfl⟩
          have hn : n < r.size := by have := Hn.out; have := HN.out; omega
          have i1 := index_str r n hn
          have i2 := shape_at m hm
          have HY := hid (upTo_next (tl r) k m)
          have HX := hid (fun h => upTo_no (l := tl r) (i := k) hm h)
          rw [Hn.out] at HY HX
          generalize at8 (tl r) n = c at i1 HY HX
          generalize at8 shapeL m = d at i2 HY HX
          have hs1 : (k : Int) + (m : Int) = (n : Int) := by have := Hn.out; omega
          have hs2 : IntKind.i64.wrap ((k : Int) + (m : Int)) = (n : Int) := by rw [hs1]; exact i64in _ (by omega) (by omega)
          have hs3 : (0 : Int) ≤ (n : Int) := by omega
          have hs4 : (n : Int) < (r.size : Int) := by omega
          have hm0 : (0 : Int) ≤ (m : Int) := by omega
          have hm1 : (m : Int) < 28 := by omega
          cases hv : fitsB c d with
          | true =>
            have HF : Hid (∀ W, Calls Tryd.prog 32 #[.int .u8 (b8 c), .int .u8 (b8 d)] W fun e w' => e = .returned (.bool true) ∧ w' = W) := by intro W; rw [← hv]; exact fits_any c d W
            have HY2 : Hid (upTo (tl r) k (m + 1) = true) := by show _ = _; rw [HY.out, HM.out, hv]; rfl
            clear hv HY HX
            go_wp2
            go_quiet ((go_at_call 32; exact Calls.quiet_of_same (HF.out _)))
            clear hs1 hs2
            go_wp2
            go_roundg g2
            case rel => exact ⟨m + 1, by omega, by go_num, HY2, HB2.out.drewN' _⟩
            case measure => omega
          | false =>
            have HF : Hid (∀ W, Calls Tryd.prog 32 #[.int .u8 (b8 c), .int .u8 (b8 d)] W fun e w' => e = .returned (.bool false) ∧ w' = W) := by intro W; rw [← hv]; exact fits_any c d W
            have HX2 := hid (HX.out hv)
            clear hv HY HX
            go_wp2
            go_quiet ((go_at_call 32; exact Calls.quiet_of_same (HF.out _)))
            clear hs1 hs2
            go_wp2
            go_roundg g
            case rel => exact ⟨k + 1, by omega, by go_num, fun i hi => by
              rcases Nat.lt_or_ge i k with h | h
              · exact HK.out i h
              · obtain rfl : i = k := by omega
                exact HX2.out, HB2.out.drewN' _⟩
            case measure => omega
end Go.Proofs.YtoeomghebgbniaaDoor
