/- slices.Grow of nil, slices.Concat of rows of bytes, slices.Clone: what each call does. Conditions: at most 100000 bytes in all. -/
import Derived.Test.YtakgbopkkechgaaBC
namespace Go.Proofs.Ytakgbopkkechgaa
open Go.RowKit
theorem zero_size (n m : Nat) : (Builtin.zeroCells (Value.int IntKind.u8 0).cells n ++ Builtin.zeroCells (Value.int IntKind.u8 0).cells m).size = n + m := by
  rw [Array.size_append, size_zeroCells, size_zeroCells]
  simp [Value.cells]
set_option maxRecDepth 100000 in
set_option maxHeartbeats 400000 in
theorem grow_any (n : Nat) (hn : n ≤ 100000) (w : World) :
    Calls Try.prog 30 #[.slice none 0 0, .int .i64 (n : Int)] w fun e w' => ∃ v, e = .returned v ∧ w'.ownsRow w.heap.size 5 1 v 0 [] ∧ Below w.heap.size w w' := by
  have h0 : ¬ (n : Int) < 0 := by omega
  have w1 : IntKind.i64.wrap (n : Int) = n := i64in _ (by omega) (by omega)
  by_cases hz : n = 0
  · subst hz
    go_enter Try.func30, Try.ntmps30
    go_wp2
    go_ret
    exact ⟨_, rfl, World.ownsRow_nil _ _ _ _, Below.refl _ _⟩
  · have hp : (0 : Int) < (n : Int) := by omega
    obtain ⟨i0, hi, hz0, hz1, hz2⟩ := info_parts info5
    have HR : Hid (∀ w : World, (Builtin.append_ #[22, 3] 22 #[.slice none 0 0, .int .i64 n]).run Try.prog w =
      .ok (.slice (some ⟨w.heap.size, 0, none⟩) n (grownCap w n 0 5)) (w.drew.alloc (.cells (Builtin.zeroCells (Value.int IntKind.u8 0).cells n ++ Builtin.zeroCells (Value.int IntKind.u8 0).cells (grownCap w n 0 5 - n)) 5))) := fun w =>
      Lib.run_append_nil_zeros (P := Try.prog) w 22 3 22 5 i0 (.int .u8 0) .i64 .i64 Try.underlying22 Try.underlying3 hi hz0 n (by omega) (by omega) (by omega) (by rw [hz2]; omega)
    have hge := grownCap_ge w n 0 5
    have hle := grownCap_le_maxLen w n 0 5 (by unfold maxLen; omega)
    generalize hc : grownCap w n 0 5 = c at hge hle
    have HC := hid hc
    have HLE := hid hle
    clear hc hle
    go_enter Try.func30, Try.ntmps30
    go_wp2_with (refine wpList_append_run rfl (.tmp 20) (.tmp 21) 22 3 rfl ⟨_, _, HR.out _, ?_⟩; rw [HC.out])
    go_ret
    refine ⟨_, rfl, ?_, ?_⟩
    · exact World.ownsRow_made w.drew _ c (Nat.le_refl _) HLE.out ((zero_size n (c - n)).trans (by omega))
    · exact (Below.refl _ _).drew.alloc (Nat.le_refl _) _
/-- Rows of bytes in a block. -/
def Rows1 (w : World) (g : Nat) (xss : List (List UInt8)) : Prop := ∀ i, i < xss.length → ∃ A n cap bb off, w.cell? ⟨g, i, none⟩ = some (.slice A n cap) ∧ n = (xss.getD i []).length ∧ Bytes w (.slice A n cap) (xss.getD i []) A cap bb off
theorem Rows1.kept {w w' : World} {g B : Nat} {xss : List (List UInt8)} (h : Rows1 w g xss) (hb : Below B w w') (hB : w.heap.size ≤ B) : Rows1 w' g xss := fun i hi => by
  obtain ⟨A, n, cap, bb, off, h1, h2, h3⟩ := h i hi
  exact ⟨A, n, cap, bb, off, (hb.cell (Nat.lt_of_lt_of_le (block_lt_of_cell h1) hB)).trans h1, h2, h3.kept hb hB⟩
def pre (xss : List (List UInt8)) (i : Nat) : List UInt8 := (xss.take i).flatten
theorem pre_next (xss : List (List UInt8)) (i : Nat) (h : i < xss.length) : pre xss (i + 1) = pre xss i ++ xss.getD i [] := by
  have e : xss.getD i [] = xss[i] := by rw [List.getD, List.getElem?_eq_getElem h]; rfl
  rw [e, pre, pre, List.take_succ_eq_append_getElem h, List.flatten_append, List.flatten_singleton]
theorem pre_le (xss : List (List UInt8)) (i : Nat) : (pre xss i).length ≤ xss.flatten.length := by
  have h : xss.flatten = pre xss i ++ (xss.drop i).flatten := by rw [pre, ← List.flatten_append, List.take_append_drop]
  rw [h, List.length_append]; omega
theorem pre_all (xss : List (List UInt8)) : pre xss xss.length = xss.flatten := by simp [pre]
set_option maxRecDepth 100000 in
set_option maxHeartbeats 1000000 in
theorem concat_any (g k c : Nat) (xss : List (List UInt8)) (hk : xss.length = k) (hbig : xss.flatten.length ≤ 100000) (w : World) (hr : Rows1 w g xss) (hkc : k ≤ 1000) :
    Calls Try.prog 23 #[.slice (some ⟨g, 0, none⟩) k c] w fun e w' => ∃ v, e = .returned v ∧ w'.ownsRow w.heap.size 5 1 v xss.flatten.length (xss.flatten.map V8) ∧ Below w.heap.size w w' := by
  have HK := hid hk
  have HBIG := hid hbig
  have HR := hid hr
  have HPL := hid (pre_le xss)
  have HPA := hid (pre_all xss)
  clear hbig hr hk
  go_enter Try.func23, Try.ntmps23
  go_wp2
  go_loopw [3, 11] (fun s i wr => ∃ (j m : Nat), j ≤ k ∧ i = .int .i64 (j : Int) ∧ s = .int .i64 (m : Int) ∧ Hid (m = (pre xss j).length) ∧ w = wr) (fun _ i _ => k - (intOf i).toNat)
  case atStart => exact ⟨0, 0, by omega, rfl, rfl, rfl, rfl⟩
  case round =>
    obtain ⟨j, m, hj, rfl, rfl, HM, rfl⟩ := hrel
    by_cases hlt : j < k
    · obtain ⟨A, n, cap, bb, off, h1, h2, h3⟩ := HR.out j (by rw [HK.out]; exact hlt)
      have HN : Hid (m + n = (pre xss (j + 1)).length) := by
        show _ = _
        rw [pre_next _ _ (by rw [HK.out]; exact hlt), List.length_append, ← HM.out, ← h2]
      have hb : (m : Int) + (n : Int) ≤ 100000 := by
        have e1 := HN.out; have e2 := HPL.out (j + 1); have e3 := HBIG.out
        omega
      have w1 : IntKind.i64.wrap ((m : Int) + (n : Int)) = (m : Int) + (n : Int) := i64in _ (by omega) (by omega)
      have hneg : ¬ (m : Int) + (n : Int) < 0 := by omega
      clear h2 h3
      go_wp2
      go_roundw
      case rel => exact ⟨j + 1, m + n, by omega, by go_num, by push_cast; rfl, HN, trivial⟩
      case measure => simp [intOf]; omega
    · obtain rfl : j = k := by omega
      have hm : m ≤ 100000 := by
        have e1 := HM.out; have e2 := HPL.out j; have e3 := HBIG.out
        omega
      have G := hid (grow_any m hm w)
      clear hm
      go_wp2_with (go_at_call 30; refine G.out.mono ?_; rintro e w1 ⟨v0, rfl, ho0, hb0⟩)
      have HO0 := hid ho0
      have HB0 := hid hb0
      clear ho0 hb0
      go_loopw [6, 27] (fun s i w2 => ∃ (j2 : Nat), j2 ≤ j ∧ i = .int .i64 (j2 : Int) ∧ Hid (w2.ownsRow w.heap.size 5 1 s (pre xss j2).length ((pre xss j2).map V8)) ∧ Hid (Below w.heap.size w w2)) (fun _ i _ => j - (intOf i).toNat)
      case atStart => exact ⟨0, by omega, rfl, HO0, HB0⟩
      case round =>
        obtain ⟨j2, hj2, rfl, HO, HB⟩ := hrel
        by_cases hlt : j2 < j
        · obtain ⟨A, n, cap, bb, off, h1, h2, h3⟩ := (HR.out.kept HB.out (Nat.le_refl _)) j2 (by rw [HK.out]; exact hlt)
          have HN : Hid ((pre xss (j2 + 1)) = pre xss j2 ++ xss.getD j2 []) := pre_next _ _ (by rw [HK.out]; exact hlt)
          have HL : Hid ((pre xss j2).length + (xss.getD j2 []).length ≤ 1000000) := by
            show _ ≤ _
            have e2 := HPL.out (j2 + 1); have e3 := HBIG.out
            rw [HN.out, List.length_append] at e2; omega
          have H3 := hid h3
          clear h2 h3
          go_wp2_with (refine wpList_append_run rfl (.tmp 31) (.tmp 32) 22 22 rfl ?_; obtain ⟨v', w', hr, ho, hg, _, _⟩ := append_bytes _ _ _ _ _ HO.out H3.out HL.out HB.out.size; refine ⟨v', w', hr, ?_⟩)
          have HO2 : Hid (w'.ownsRow w.heap.size 5 1 v' (pre xss (j2 + 1)).length ((pre xss (j2 + 1)).map V8)) := by
            rw [HN.out, List.length_append, List.map_append]; exact ho
          have HB2 : Hid (Below w.heap.size w w') := HB.out.grown hg HB.out.size (fun x hx => (HO.out.lt x hx).1)
          clear hr ho hg
          go_wp2
          go_roundw
          case rel => exact ⟨j2 + 1, by omega, by go_num, HO2, HB2⟩
          case measure => simp [intOf]; omega
        · obtain rfl : j2 = j := by omega
          go_wp2
          go_ret
          refine ⟨_, rfl, ?_, HB.out⟩
          rw [← HPA.out, HK.out]; exact HO.out
end Go.Proofs.Ytakgbopkkechgaa
