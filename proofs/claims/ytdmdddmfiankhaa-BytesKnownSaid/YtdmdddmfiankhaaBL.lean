/- caravanref04.Text; the law BytesLong: what its call does. Conditions: a heap that has a block. -/
import Derived.Test.YtdmdddmfiankhaaBK
namespace Go.Proofs.Ytdmdddmfiankhaa
open Go.RowKit
theorem index_at (s : ByteArray) (i : Nat) (h : i < s.size) (w : World) : (Instr.index 9 (.string s) (.int .i64 (i : Int))).run Try.prog w = .ok (.int .u8 (b8 (at8 (tl s) i))) w := by
  have hi : i < s.data.toList.length := by simpa using h
  rw [run_index_string (P := Try.prog) w 9 s .i64 (i : Int) Try.underlying9, dif_pos ⟨by omega, by omega⟩]
  have e : s[(i : Int).toNat]'(by simpa using h) = at8 (tl s) i := by
    rw [at8, List.getD, List.getElem?_eq_getElem hi]
    rfl
  rw [e]; rfl
set_option maxRecDepth 100000 in
set_option maxHeartbeats 400000 in
theorem rText_long (s : ByteArray) (hs : 65535 < s.size) (w : World) : Calls Try.prog 15 #[.string s] w fun e w' => e = .returned (.tuple #[.slice none 0 0, .int .i64 3]) ∧ w = w' := by
  have h1 : (65535 : Int) < (s.size : Int) := by omega
  clear hs
  go_enter Try.func15, Try.ntmps15
  go_wp2
  go_ret2
  exact ⟨rfl, rfl⟩
set_option maxRecDepth 100000 in
set_option maxHeartbeats 1000000 in
theorem rText_any (s : ByteArray) (hs : s.size ≤ 65535) (w : World) :
    Calls Try.prog 15 #[.string s] w fun e w' => ∃ v, e = .returned (.tuple #[v, .int .i64 0]) ∧ Fresh w.heap.size w' v (textL (tl s)) ∧ Below w.heap.size w w' := by
  obtain ⟨i0, hi, hz0, hz1, hz2⟩ := info_parts info5
  have h1 : ¬ (65535 : Int) < (s.size : Int) := by omega
  have CN := hid (rNum_any 2 s.size (by omega) w)
  have w1 : IntKind.u64.wrap (s.size : Int) = s.size := u64in _ (by omega)
  have HX : Hid (∀ i, i < s.size → ∀ w, (Instr.index 9 (.string s) (.int .i64 (i : Int))).run Try.prog w = .ok (.int .u8 (b8 (at8 (tl s) i))) w) := fun i h w => index_at s i h w
  have HTL := hid (tl_length s)
  have HTE : Hid (textL (tl s) = numL 2 s.size ++ tl s) := by show _ = _; rw [textL, tl_length]
  have HN8 := hid (numL_len 2 s.size)
  have HS := hid hs
  go_enter Try.func15, Try.ntmps15
  go_wp2_with (first
    | (go_at_call 16; refine CN.out.mono ?_; rintro e1 w1 ⟨v1, rfl, ho1, hb1⟩
       have O1 := hid ho1
       have B1 := hid hb1
       clear ho1 hb1))
  go_loopw [4, 5] (fun v i wr => ∃ (j : Nat), j ≤ s.size ∧ i = .int .i64 (j : Int) ∧ Hid (wr.ownsRow w.heap.size 5 1 v ((numL 2 s.size).length + j) ((numL 2 s.size ++ (tl s).take j).map V8)) ∧ Hid (Below w.heap.size w wr))
    (fun _ i _ => s.size - (intOf i).toNat)
  case atStart => exact ⟨0, by omega, rfl, by show World.ownsRow _ _ _ _ _ _ _; simpa using O1.out, B1⟩
  case round =>
    obtain ⟨j, hj, rfl, HO, HB⟩ := hrel
    by_cases hlt : j < s.size
    · have hx := HX.out j hlt
      have N1 : Hid (∀ u ∈ [Value.int .u8 (b8 (at8 (tl s) j))], u.oneCell' = true) := by
        intro u hu
        rw [List.mem_singleton] at hu
        subst hu; rfl
      have N2 : Hid ((numL 2 s.size).length + j + 1 ≤ maxLen) := by show _ ≤ _; have := HN8.out; have := HS.out; unfold maxLen; omega
      have N3 : Hid (((numL 2 s.size).length + j + 1) * 1 ≤ 140737488355328) := by show _ ≤ _; have := HN8.out; have := HS.out; omega
      have N4 : Hid (∀ o, w.heap.size ≤ (wr.alloc o).heap.size) := by intro o; have := HB.out.size; simp; omega
      have N5 : Hid ((numL 2 s.size ++ (tl s).take (j + 1)).map V8 = (numL 2 s.size ++ (tl s).take j).map V8 ++ [Value.int .u8 (b8 (at8 (tl s) j))]) := by
        show _ = _
        rw [take_snoc _ _ (by rw [HTL.out]; exact hlt), ← List.append_assoc, List.map_append]; rfl
      go_wp2_with (at_builtin; refine wpList_append_own _ rfl _ _ 24 rfl w.heap.size 5 i0 (.int .u8 0) 1 1 Try.underlying24 hi hz0 hz1 hz2 rfl (by omega) _ _ _ rfl (HO.out.alloc _) ⟨wr.heap.size, 0, none⟩ 1 1 [Value.int .u8 (b8 (at8 (tl s) j))] rfl rfl (cell_one_new _ _ _) N1.out N2.out N3.out (N4.out _) ?_; intro v' w1 hown' hgrow _)
      have HO2 : Hid (w1.ownsRow w.heap.size 5 1 v' ((numL 2 s.size).length + (j + 1)) ((numL 2 s.size ++ (tl s).take (j + 1)).map V8)) := by
        rw [N5.out]; exact hown'
      have HB2 : Hid (Below w.heap.size w w1) :=
        ((HB.out.alloc HB.out.size _).grown hgrow (N4.out _) (fun g hg => (HO.out.lt g hg).1))
      clear hown' hgrow
      go_wp2
      go_roundw
      case rel => exact ⟨j + 1, by omega, by go_num, HO2, HB2⟩
      case measure => simp [intOf]; omega
    · obtain rfl : j = s.size := by omega
      go_wp2
      go_ret2
      refine ⟨_, rfl, ?_, HB.out⟩
      rw [HTE.out]
      have := HO.out
      rw [List.take_of_length_le (Nat.le_of_eq HTL.out)] at this
      unfold Fresh
      rw [List.length_append, HTL.out]
      exact this
/-- The row of c while it is laid. -/
def laid (c : UInt8) (m j : Nat) : List UInt8 := List.replicate j c ++ List.replicate (m - j) 0
theorem laid_len (c : UInt8) (m j : Nat) (h : j ≤ m) : (laid c m j).length = m := by simp [laid]; omega
theorem laid_next (c : UInt8) (m j : Nat) (h : j < m) : laid c m (j + 1) = (laid c m j).set j c := by
  obtain ⟨d, hd⟩ : ∃ d, m - j = d + 1 := ⟨m - j - 1, by omega⟩
  have e : m - (j + 1) = d := by omega
  rw [laid, laid, hd, e, List.set_append_right _ _ (by simp)]
  simp only [List.length_replicate, Nat.sub_self, List.replicate_succ, List.set_cons_zero]
  rw [← List.replicate_succ, List.replicate_succ']; simp
theorem laid_all (c : UInt8) (m : Nat) : laid c m m = List.replicate m c := by simp [laid]
set_option maxRecDepth 100000 in
set_option maxHeartbeats 1000000 in
theorem long_any (n : Nat) (c : UInt8) (w : World) (hp : 0 < w.heap.size) :
    Calls Try.prog 4 #[.int .u32 (n : Int), .int .u8 (b8 c)] w fun e w' => e = .returned (.bool true) ∧ Below w.heap.size w w' := by
  obtain ⟨i0, hi, hz0, hz1, hz2⟩ := info_parts info5
  obtain ⟨m, hm1, hm⟩ : ∃ m : Nat, (n : Int).tmod 70000 = (m : Int) ∧ m < 70000 := ⟨n % 70000, by rw [Int.tmod_eq_emod_of_nonneg (by omega)]; omega, by omega⟩
  have hmk : ∀ w : World, (Instr.makeSlice 24 (.int .u32 (m : Int)) (.int .u32 (m : Int))).run Try.prog w = .ok (.slice (some ⟨w.heap.size, 0, none⟩) m m) (w.alloc (.cells (bvec (List.replicate m 0)) 5)) := by
    intro w
    have := run_make (P := Try.prog) w 24 5 i0 (.int .u8 0) Try.underlying24 hi hz0 .u32 .u32 (m : Int) (m : Int) (by omega) (by omega) (by rw [hz2]; omega) (by omega)
    rw [this]
    simp only [Int.toNat_natCast, hz1, Nat.mul_one]
    rw [show (Value.int IntKind.u8 0).cells = #[Value.int .u8 0] from rfl, made_bytes]
  have HP := hid hp
  have hn0 : (0 : Int) ≤ (n : Int) := by omega
  have S1 : Hid (Has (w.alloc (.cells (bvec (List.replicate m 0)) 5)) w.heap.size 5 (bvec (laid c m 0))) := by
    have e : laid c m 0 = List.replicate m 0 := by simp [laid]
    rw [e]; exact Has.fresh w 5 _
  have HM := hid hm
  clear hp hm
  go_enter Try.func4, Try.ntmps4
  go_wp2
  go_loopw [6] (fun i wr => ∃ j : Nat, j ≤ m ∧ i = .int .i64 (j : Int) ∧ Hid (Has wr w.heap.size 5 (bvec (laid c m j))) ∧ Hid (Below w.heap.size w wr)) (fun i _ => m - (intOf i).toNat)
  case atStart => exact ⟨0, by omega, rfl, S1, (Below.refl _ _).alloc (Nat.le_refl _) _⟩
  case round =>
    obtain ⟨j, hj, rfl, HO, HB⟩ := hrel
    by_cases hlt : j < m
    · have c1 := (HO.out.at_ j).trans (bvec_get _ j (by rw [laid_len _ _ _ (by omega)]; exact hlt))
      have f1 := HO.out.free j
      have hm9 : m < 70000 := HM.out
      go_wp2
      go_roundw
      case rel =>
        refine ⟨j + 1, by omega, by go_num, ?_, HB.out.setCell (p := ⟨w.heap.size, j, none⟩) (Nat.le_refl _) _⟩
        rw [laid_next _ _ _ hlt, ← bvec_set]
        exact HO.out.put j (V8 c)
      case measure => simp [intOf]; omega
    · obtain rfl : j = m := by omega
      rw [laid_all] at HO
      obtain ⟨ys, HY⟩ : ∃ ys, Hid (List.replicate j c = ys) := ⟨_, rfl⟩
      rw [HY.out] at HO
      have HL : Hid (ys.length = j) := by show _ = _; rw [← HY.out, List.length_replicate]
      have hb : Bytes wr (.slice (some ⟨w.heap.size, 0, none⟩) j j) ys (some ⟨w.heap.size, 0, none⟩) j w.heap.size 0 := by
        refine ⟨by rw [HL.out], by rw [HL.out]; exact Nat.le_refl _, (fun h => by cases h), fun a ha i hi => ?_, HO.out.inside, fun _ => rfl⟩
        cases ha
        rw [add_at, Nat.zero_add]
        exact (HO.out.at_ i).trans (bvec_get _ _ hi)
      have kc := conv_back hb
      have hsz : (ba ys).size = j := by rw [ba_size]; exact HL.out
      have HP2 : Hid (0 < wr.heap.size) := Nat.lt_of_lt_of_le HP.out HB.out.size
      have B0 := hid HB.out
      clear hb hlt hj HY
      generalize ba ys = s at kc hsz
      rcases Nat.lt_or_ge 65535 s.size with hbig | hsm
      · have C1 := hid (putText_long (.slice none 0 0) s hbig wr)
        have C2 := hid (rText_long s hbig wr)
        have CW := hid (works_any wr HP2.out)
        have kn := conv_nil wr
        clear hbig
        go_wp2_with (first
          | (go_at_call 14; refine C1.out.mono ?_; rintro e1 w1 ⟨rfl, rfl⟩)
          | (go_at_call 15; refine C2.out.mono ?_; rintro e2 w2 ⟨rfl, rfl⟩)
          | (go_at_call 17; refine CW.out.mono ?_; rintro e3 w3 ⟨rfl, hb3⟩))
        go_ret
        exact ⟨rfl, B0.out.trans (hb3.mono B0.out.size)⟩
      · have C1 := hid (putText_any (.slice none 0 0) [] none 0 0 0 s hsm (by decide) wr (Bytes.nil wr HP2.out))
        have C2 : Hid (∀ w2, Calls Try.prog 15 #[.string s] w2 fun e w' => ∃ v, e = .returned (.tuple #[v, .int .i64 0]) ∧ Fresh w2.heap.size w' v (textL (tl s)) ∧ Below w2.heap.size w2 w') := fun w2 => rText_any s hsm w2
        clear hsm
        go_wp2_with (first
          | (go_at_call 14; refine C1.out.mono ?_; rintro e1 w1 ⟨v1, rfl, ho1, hb1⟩
             have O1 := hid ho1
             have B1 : Hid (Below w.heap.size w w1) := B0.out.trans (hb1.mono B0.out.size)
             have P1 : Hid (0 < w1.heap.size) := Nat.lt_of_lt_of_le HP2.out hb1.size
             clear ho1 hb1)
          | (go_at_call 15; refine (C2.out _).mono ?_; rintro e2 w2 ⟨v2, rfl, ho2, hb2⟩
             obtain ⟨A1, cap1, bb1, y1, _, _⟩ := O1.out.bytes P1.out
             have P2 : Hid (0 < w2.heap.size) := Nat.lt_of_lt_of_le P1.out hb2.size
             obtain ⟨A2, cap2, bb2, y2, _, _⟩ := ho2.bytes P2.out
             have k1 := conv_eq (y1.kept hb2 (Nat.le_refl _)) (List.nil_append _)
             have k2 := conv_back y2
             have B2 : Hid (Below w.heap.size w w2) := B1.out.trans (hb2.mono B1.out.size)
             have CW := hid (works_any w2 P2.out)
             clear ho2 hb2 y1 y2)
          | (go_at_call 17; refine CW.out.mono ?_; rintro e3 w3 ⟨rfl, hb3⟩))
        go_ret
        exact ⟨rfl, B2.out.trans (hb3.mono B2.out.size)⟩
end Go.Proofs.Ytdmdddmfiankhaa
