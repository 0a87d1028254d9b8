/- sha.Of: the digest whose text a string is. No conditions but what every string meets. -/
import Derived.Test.YthhclcjocakdlaaDoorSL
namespace Go.Proofs.YthhclcjocakdlaaDoor.Sha
open Go.RowKit
theorem run_cell_tmp {fn : Func} {p t : Tmp} {ty : TypeId} (h : fn.results = #[.cell p ty, .tmp t]) (tmps : Array Value) (P : Program) (w : World) (g : Nat) (_T : TypeId) (cs : Array Value) (_fr : Nat × Nat) (b : Value)
    (hl : (loadVar ty ⟨g, 0, none⟩).run P w = .ok (.agg cs) w) (hp : tmps.getD p undef = .pointer (some ⟨g, 0, none⟩)) (hb : tmps.getD t undef = b) :
    (results fn tmps).run P w = .ok (.tuple #[.agg cs, b]) w := by
  rw [results_cell_tmp h, hp, hb]
  simp [asAddr, hl]
theorem load_hash {w : World} {g : Nat} {l : List UInt8} (h : Has w g 25 (bvec l)) (hl : l.length = 32) : (loadVar 25 ⟨g, 0, none⟩).run Tryd.prog w = .ok (.agg (bvec l)) w :=
  run_loadVar_row w g 25 25 (bvec l) (0, 0) _ h Tryd.underlying25 rfl (by rw [bvec_size, hl]; exact i25)
theorem index_text (s : ByteArray) (i : Nat) (hi : i < s.data.toList.length) (w : World) :
    (Instr.index 9 (.string s) (.int .i64 (i : Int))).run Tryd.prog w = .ok (.int .u8 (b8 (at8 s.data.toList i))) w := by
  have hs : i < s.size := by rw [Array.length_toList] at hi; exact hi
  rw [run_index_string (P := Tryd.prog) w 9 s .i64 (i : Int) Tryd.underlying9, dif_pos ⟨by omega, by omega⟩]
  have e : s[(i : Int).toNat]'(by simp; exact hs) = at8 s.data.toList i := by
    rw [at8, List.getD, List.getElem?_eq_getElem hi]
    rfl
  rw [e]; rfl
theorem size_list (s : ByteArray) : s.data.toList.length = s.size := by rw [Array.length_toList]; rfl
theorem of_start (w : World) : ∃ W1, ((w.alloc (.cells zero32 25)).alloc (.cells zero32 25)).setRow (w.heap.size + 1) zero32 = W1 ∧
    Hid (Has W1 w.heap.size 25 (bvec (List.replicate 32 0))) ∧ Hid (Has W1 (w.heap.size + 1) 25 (bvec (List.replicate 32 0))) ∧ Hid (Below w.heap.size w W1) := by
  refine ⟨_, rfl, ?_, ?_, ?_⟩
  · exact ((Has.fresh w 25 zero32).more _).rowOther (by omega)
  · exact Has.row (Has.fresh' (w.alloc _) 25 zero32 (by simp))
  · exact (((Below.refl _ _).alloc (Nat.le_refl _) _).alloc (by simp) _).rowK (by omega) _
theorem size1 (w : World) : Hid (∀ o, w.heap.size + 1 = (w.alloc o).heap.size) := by intro o; simp
set_option maxRecDepth 100000 in
set_option maxHeartbeats 400000 in
theorem of_other (s : ByteArray) (l : List UInt8) (hs : s.data.toList = l) (hn : s.size ≠ 64) (w : World) :
    Calls Tryd.prog 44 #[.string s] w fun e w' => e = .returned (.tuple #[.agg (bvec (hexV (ofL l))), .bool (ofL l).isSome]) ∧ Below w.heap.size w w' := by
  have HL : Hid (ofL l = none) := by
    show _ = _
    unfold ofL
    rw [if_neg (by rw [← hs, size_list]; exact hn)]
  have ht : ((s.size : Int) != 64) = true := by simp; omega
  have Z1 := size1 w
  rw [HL.out]
  clear hs hn
  go_enter Tryd.func44, Tryd.ntmps44
  go_wp2_with (first
    | (refine wpList_store_row rfl 25 (.tmp 4) (.tmp 9) rfl (w.heap.size + 1) zero32 rfl rfl 25 zero32 (Has.fresh' (w.alloc _) 25 zero32 (Z1.out _)) i25 rfl zero32_one.out ?_
       generalize hG : World.setRow _ _ _ = W1
       obtain ⟨W0, hG0, R1, R2, B1⟩ := of_start w
       obtain rfl : W0 = W1 := hG0.symm.trans hG
       clear hG0 hG)
    | (refine wpList_store_row rfl 25 (.tmp 2) (.tmp 13) rfl w.heap.size zero32 rfl rfl 25 _ R1.out i25 rfl zero32_one.out ?_))
  refine bodyPost_ret (run_cell_tmp rfl _ _ _ w.heap.size 25 (bvec (List.replicate 32 0)) (0, 0) _ (load_hash (Has.row R1.out) (by simp)) rfl rfl) rfl ⟨rfl, B1.out.rowK (Nat.le_refl _) _⟩
set_option maxRecDepth 100000 in
set_option maxHeartbeats 1000000 in
theorem of_same (s : ByteArray) (l : List UInt8) (hs : s.data.toList = l) (hn : s.size = 64) (w : World) :
    Calls Tryd.prog 44 #[.string s] w fun e w' => e = .returned (.tuple #[.agg (bvec (hexV (ofL l))), .bool (ofL l).isSome]) ∧ Below w.heap.size w w' := by
  have HL : Hid (ofL l = hexUp l 32) := by
    show _ = _
    unfold ofL
    rw [if_pos (by rw [← hs, size_list]; exact hn)]
  have ht : ((s.size : Int) != 64) = false := by simp; omega
  have HX : Hid (∀ i : Nat, i < 64 → ∀ w, (Instr.index 9 (.string s) (.int .i64 (i : Int))).run Tryd.prog w = .ok (.int .u8 (b8 (at8 l i))) w) := by
    intro i hi w
    rw [← hs]
    exact index_text s i (by rw [size_list, hn]; exact hi) w
  have Z1 := size1 w
  rw [HL.out]
  clear hs hn
  go_enter Tryd.func44, Tryd.ntmps44
  go_wp2_with (first
    | (refine wpList_store_row rfl 25 (.tmp 4) (.tmp 9) rfl (w.heap.size + 1) zero32 rfl rfl 25 zero32 (Has.fresh' (w.alloc _) 25 zero32 (Z1.out _)) i25 rfl zero32_one.out ?_
       generalize hG : World.setRow _ _ _ = W1
       obtain ⟨W0, hG0, R1, R2, B1⟩ := of_start w
       obtain rfl : W0 = W1 := hG0.symm.trans hG
       clear hG0 hG))
  clear ht Z1
  go_loopw [14, 7] (fun i b wr => ∃ (k : Nat) (h : List UInt8), k ≤ 32 ∧ i = .int .i64 (k : Int) ∧ Hid (hexUp l k = some h) ∧ Hid (Has wr (w.heap.size + 1) 25 (bvec h)) ∧ Hid (Has wr w.heap.size 25 (bvec (List.replicate 32 0))) ∧ Hid (Below w.heap.size w wr))
    (fun i _ _ => 32 - (intOf i).toNat)
  case atStart => exact ⟨0, _, by omega, rfl, rfl, R2, R1, B1⟩
  case round =>
    obtain ⟨k, h, hk, rfl, J0, J1, J2, J3⟩ := hrel
    by_cases hlt : k < 32
    · obtain ⟨q0, e0, E0⟩ : ∃ q : Nat, 2 * (k : Int) = (q : Int) ∧ Hid (2 * k = q) := ⟨2 * k, by omega, rfl⟩
      obtain ⟨q1, e1, E1⟩ : ∃ q : Nat, (q0 : Int) + 1 = (q : Int) ∧ Hid (q0 + 1 = q) := ⟨q0 + 1, by omega, rfl⟩
      have hi0 := HX.out q0 (by have := E0.out; omega)
      have hi1 := HX.out q1 (by have := E0.out; have := E1.out; omega)
      have dk := (J1.out.at_ k).trans (bvec_get h k (by rw [hexUp_len l k h J0.out]; exact hlt))
      have fk := J1.out.free k
      rcases ha : dV (at8 l q0) with _ | a
      · have HN : Hid (hexUp l 32 = none) := hexUp_no1 hlt (by rw [E0.out]; exact ha)
        have HA := hid ha
        clear ha
        go_wp2_with (first
          | (go_at_call 80; ((with_reducible refine (digit_none _ HA.out _).mono ?_); rintro e2 w2 ⟨rfl, rfl⟩))
          | (refine wpList_store_row rfl 25 (.tmp 2) (.tmp 27) rfl w.heap.size zero32 rfl rfl 25 _ J2.out i25 rfl zero32_one.out ?_))
        refine bodyPost_ret (run_cell_tmp rfl _ _ _ w.heap.size 25 (bvec (List.replicate 32 0)) (0, 0) _ (load_hash (Has.row J2.out) (by simp)) rfl rfl) rfl ⟨?_, J3.out.rowK (Nat.le_refl _) _⟩
        rw [HN.out]; rfl
      · have HA := hid ha
        clear ha
        rcases hb : dV (at8 l q1) with _ | b
        · have HN : Hid (hexUp l 32 = none) := hexUp_no2 hlt (by rw [E0.out, E1.out]; exact hb)
          have HB := hid hb
          clear hb
          go_wp2_with (first
            | (go_at_call 80; ((with_reducible refine (digit_some _ _ HA.out _).mono ?_); rintro e2 w2 ⟨rfl, rfl⟩))
            | (go_at_call 80; ((with_reducible refine (digit_none _ HB.out _).mono ?_); rintro e2 w2 ⟨rfl, rfl⟩))
            | (refine wpList_store_row rfl 25 (.tmp 2) (.tmp 39) rfl w.heap.size zero32 rfl rfl 25 _ J2.out i25 rfl zero32_one.out ?_))
          refine bodyPost_ret (run_cell_tmp rfl _ _ _ w.heap.size 25 (bvec (List.replicate 32 0)) (0, 0) _ (load_hash (Has.row J2.out) (by simp)) rfl rfl) rfl ⟨?_, J3.out.rowK (Nat.le_refl _) _⟩
          rw [HN.out]; rfl
        · have HB := hid hb
          clear hb
          have HO : Hid (bits .or .u8 (b8 a * 16 % 256) (b8 b) = b8 (a * 16 + b)) := or_byte (dV_some HA.out) (dV_some HB.out)
          go_wp2_with (first
            | (go_at_call 80; ((with_reducible refine (digit_some _ _ HA.out _).mono ?_); rintro e2 w2 ⟨rfl, rfl⟩))
            | (go_at_call 80; ((with_reducible refine (digit_some _ _ HB.out _).mono ?_); rintro e2 w2 ⟨rfl, rfl⟩)))
          go_roundw
          case rel =>
            refine ⟨k + 1, h.set k (a * 16 + b), by omega, by go_num, hexUp_next J0.out (by rw [E0.out]; exact HA.out) (by rw [E0.out, E1.out]; exact HB.out), ?_, ?_, ?_⟩
            · rw [HO.out, ← bvec_set]
              exact Has.put J1.out k _
            · exact Has.other (p := ⟨w.heap.size + 1, k, none⟩) J2.out (by show w.heap.size ≠ w.heap.size + 1; omega) _
            · exact J3.out.setCell (p := ⟨w.heap.size + 1, k, none⟩) (by show w.heap.size ≤ w.heap.size + 1; omega) _
          case measure => simp [intOf]; omega
    · obtain rfl : k = 32 := by omega
      have Z8 := size_dig h (hexUp_len l 32 h J0.out)
      have Z9 : Hid ((bvec (List.replicate 32 0)).size = (bvec h).size) := by show _ = _; rw [bvec_size, bvec_size, hexUp_len l 32 h J0.out]; rfl
      go_wp2_with (first
        | (refine wpList_load_row rfl 25 (.tmp 4) rfl (w.heap.size + 1) rfl 25 (bvec h) (0, 0) _ J1.out Tryd.underlying25 rfl Z8.out ?_)
        | (refine wpList_store_row rfl 25 (.tmp 2) (.tmp 47) rfl w.heap.size (bvec h) rfl rfl 25 _ J2.out Z8.out Z9.out (bvec_one _) ?_))
      refine bodyPost_ret (run_cell_tmp rfl _ _ _ w.heap.size 25 (bvec h) (0, 0) _ (load_hash (Has.row J2.out) (hexUp_len l 32 h J0.out)) rfl rfl) rfl ⟨?_, J3.out.rowK (Nat.le_refl _) _⟩
      rw [J0.out]; rfl
theorem of_any (s : ByteArray) (l : List UInt8) (hs : s.data.toList = l) (w : World) :
    Calls Tryd.prog 44 #[.string s] w fun e w' => e = .returned (.tuple #[.agg (bvec (hexV (ofL l))), .bool (ofL l).isSome]) ∧ Below w.heap.size w w' := by
  by_cases hn : s.size = 64
  · exact of_same s l hs hn w
  · exact of_other s l hs hn w
end Go.Proofs.YthhclcjocakdlaaDoor.Sha
