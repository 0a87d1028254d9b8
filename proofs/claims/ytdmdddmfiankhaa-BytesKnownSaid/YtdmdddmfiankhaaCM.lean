/- bytes.Row over the laws' functions: what each call does. Conditions: a tape that NewTape made. -/
import Derived.Test.YtdmdddmfiankhaaCL
namespace Go.Proofs.Ytdmdddmfiankhaa
open Go.RowKit
theorem Grw.low {g : Nat} {w0 w w' : World} (h : Grw g w0 w) (hb : Below w0.heap.size w w') : Grw g w0 w' :=
  ⟨hb.os.trans h.os, hb.tape.trans h.tape, hb.output.trans h.output, Nat.le_trans h.size hb.size, fun i hi hn => (hb.block i hi).trans (h.block i hi hn)⟩
set_option maxRecDepth 100000 in
set_option maxHeartbeats 1000000 in
theorem rowRows_less (g gx : Nat) (s : St) (most width : Int) (hm : most < 0) (w : World) (h : Tp w g s) :
    Calls Try.prog 21 #[.pointer (some ⟨g, 0, none⟩), .int .i64 most, .func (.func 22) #[] #[.pointer (some ⟨gx, 0, none⟩)]] w fun e w' => ∃ v, e = .returned v ∧ w'.ownsRow w.heap.size 22 1 v (rowS s most width).1.length ((rowS s most width).1.map V64) ∧ Tp w' g (rowS s most width).2 ∧ Grw g w w' := by
  have CT := hid (tear_any g s w h)
  have he : rowS s most width = ([], tear s) := by rw [rowS, if_pos hm]
  rw [he]
  clear h he
  go_enter Try.func21, Try.ntmps21
  go_wp2_with (go_at_call 35; refine CT.out.mono ?_; rintro e w' ⟨rfl, ht, hg⟩)
  go_ret
  exact ⟨_, rfl, World.ownsRow_nil _ _ _ _, ht, hg⟩
set_option maxRecDepth 100000 in
set_option maxHeartbeats 1000000 in
theorem rowRows_more (g gx : Nat) (s : St) (m : Nat) (him : m < 9223372036854775808) (width : Int) (w : World) (h : Tp w g s) (most : Int) (hx : Has w gx 38 #[.int .i64 most, .int .i64 width]) (hne : gx ≠ g) :
    Calls Try.prog 21 #[.pointer (some ⟨g, 0, none⟩), .int .i64 (m : Int), .func (.func 22) #[] #[.pointer (some ⟨gx, 0, none⟩)]] w fun e w' => ∃ v, e = .returned v ∧ w'.ownsRow w.heap.size 22 1 v (rowS s (m : Int) width).1.length ((rowS s (m : Int) width).1.map V64) ∧ Tp w' g (rowS s (m : Int) width).2 ∧ Grw g w w' := by
  obtain ⟨i0, hi, hz0, hz1, hz2⟩ := info_parts info64
  have CB := hid (Low.below_any g s 2 m w (Low.Tp.up h))
  have he : rowS s (m : Int) width = rowL width (belowS s 2 m).1 (belowS s 2 m).2 [] := by rw [rowS, if_neg (by omega), Int.toNat_natCast]
  rw [he]
  obtain ⟨h65, htn⟩ := below_small s m
  generalize belowS s 2 m = q at CB h65 htn ⊢
  obtain ⟨c, s1⟩ := q
  simp only at CB h65 htn ⊢
  have w1 : IntKind.u64.wrap (m : Int) = m := u64in _ (by omega)
  have hm0 : ¬ (m : Int) < 0 := by omega
  have HI := hid h.inside
  have H65 := hid h65
  have HX0 := hid hx
  have HNE := hid hne
  have HXI := hid hx.inside
  clear hx hne
  clear h he him htn
  obtain ⟨R, HR⟩ : ∃ R, Hid (rowL width c s1 [] = R) := ⟨_, rfl⟩
  rw [HR.out]
  go_enter Try.func21, Try.ntmps21
  go_wp2_with (go_at_call 36; refine CB.out.mono ?_; rintro e1 w1 ⟨rfl, ht, hg⟩)
  have T1 := hid ht
  have G1 := hid hg
  have HX1 := hid (HX0.out.grw hg HNE.out)
  clear ht hg
  go_loopw [7, 17] (fun v i wr => ∃ (j : Nat) (st : St) (acc : List Nat), j ≤ c ∧ i = .int .i64 (j : Int) ∧ Hid (rowL width (c - j) st acc = R) ∧ Hid (wr.ownsRow w.heap.size 22 1 v j (acc.map V64)) ∧ Hid (Low.Tp w.heap.size wr g st) ∧ Hid (Grw g w wr) ∧ Hid (Has wr gx 38 #[.int .i64 most, .int .i64 width])) (fun _ i _ => c - (intOf i).toNat)
  case atStart => exact ⟨0, s1, [], by omega, rfl, HR, World.ownsRow_nil _ _ _ _, T1, G1, HX1⟩
  case round =>
    obtain ⟨j, st, acc, hj, rfl, HL, HO, HT, HG, HX⟩ := hrel
    by_cases hlt : j < c
    · have CK := hid (Low.takeRows_any g gx st most width _ HT.out HX.out)
      obtain ⟨d, hd⟩ : ∃ d, c - j = d + 1 := ⟨c - j - 1, by omega⟩
      have hl := HL.out
      rw [hd, rowL] at hl
      generalize numS st width = q at CK hl
      obtain ⟨x, st2⟩ := q
      simp only at CK hl
      have CE : Hid (∀ w1, Low.Tp w.heap.size w1 g st2 → Calls Try.prog 27 #[.pointer (some ⟨g, 0, none⟩)] w1 fun e w' => e = .returned (.int .i64 (errS st2)) ∧ w1 = w') := fun w1 h => Low.err_any g st2 w1 h
      rcases ht : st2.1 with _ | _
      · rw [ht] at hl
        simp only [Bool.false_eq_true, if_false] at hl
        have HE : Hid (errS st2 = 0) := by show _ = _; rw [errS, ht]; rfl
        rw [HE.out] at CE
        have hd2 : c - (j + 1) = d := by omega
        have HL2 : Hid (rowL width (c - (j + 1)) st2 (acc ++ [x]) = R) := by rw [hd2]; exact hl
        have N1 : Hid (∀ u ∈ [Value.int .u64 (x : Int)], u.oneCell' = true) := by
          intro u hu
          rw [List.mem_singleton] at hu
          subst hu; rfl
        have hj9 : j < 65535 := by have := H65.out; omega
        have N2 : Hid (j + 1 ≤ maxLen) := by show _ ≤ _; unfold maxLen; omega
        have N3 : Hid ((j + 1) * 8 ≤ 140737488355328) := by show _ ≤ _; omega
        have N5 : Hid ((acc ++ [x]).map V64 = acc.map V64 ++ [Value.int .u64 (x : Int)]) := by show _ = _; rw [List.map_append]; rfl
        have NW : Hid (∀ w2 : World, Grw g wr w2 → ∀ o, w.heap.size ≤ (w2.alloc o).heap.size) := by
          intro w2 hg o
          have h1 := HG.out.size; have h2 := hg.size
          simp; omega
        clear hl hd hd2 ht
        go_wp2_with (first
          | (go_at_call 47; refine CK.out.mono ?_; rintro e2 w2 ⟨rfl, ht, hg⟩
             have T2 := hid ht
             have G2 := hid hg
             have O2 := hid (own_aside HO.out hg HI.out)
             clear ht hg)
          | (go_at_call 27; refine (CE.out _ T2.out).mono ?_; rintro e3 w3 ⟨rfl, rfl⟩)
          | (at_builtin; refine wpList_append_own _ rfl _ _ 46 rfl w.heap.size 22 i0 (.int .u64 0) 1 8 Try.underlying46 hi hz0 hz1 hz2 rfl (by omega) _ _ _ rfl (O2.out.alloc _) ⟨w2.heap.size, 0, none⟩ 1 1 [Value.int .u64 (x : Int)] rfl rfl (cell_one_new _ _ _) N1.out N2.out N3.out (NW.out _ G2.out _) ?_; intro v' w4 hown' hgrow _))
        have O4 : Hid (w4.ownsRow w.heap.size 22 1 v' (j + 1) ((acc ++ [x]).map V64)) := by rw [N5.out]; exact hown'
        have B4 : Hid (Below w.heap.size w2 w4) := ((Below.refl _ _).alloc (Nat.le_trans HG.out.size G2.out.size) _).grown hgrow (NW.out _ G2.out _) (fun z hz => (O2.out.lt z hz).1)
        have T4 : Hid (Low.Tp w.heap.size w4 g st2) := T2.out.low HI.out B4.out
        have G4 : Hid (Grw g w w4) := (HG.out.trans G2.out).low B4.out
        have HX4 : Hid (Has w4 gx 38 #[.int .i64 most, .int .i64 width]) := (HX.out.grw G2.out HNE.out).kept B4.out HXI.out
        clear hown' hgrow
        go_wp2
        go_roundw
        case rel => exact ⟨j + 1, st2, acc ++ [x], by omega, by go_num, HL2, O4, T4, G4, HX4⟩
        case measure => simp [intOf]; omega
      · rw [ht] at hl
        simp only [if_true] at hl
        have HE : Hid (errS st2 = 4) := by show _ = _; rw [errS, ht]; rfl
        rw [HE.out] at CE
        have HRE : Hid (R = ([], st2)) := hl.symm
        clear hl hd ht
        go_wp2_with (first
          | (go_at_call 47; refine CK.out.mono ?_; rintro e2 w2 ⟨rfl, ht, hg⟩
             have T2 := hid ht
             have G2 := hid hg
             clear ht hg)
          | (go_at_call 27; refine (CE.out _ T2.out).mono ?_; rintro e3 w3 ⟨rfl, rfl⟩))
        go_ret
        rw [HRE.out]
        exact ⟨_, rfl, World.ownsRow_nil _ _ _ _, T2.out.down, HG.out.trans G2.out⟩
    · obtain rfl : j = c := by omega
      have hl := HL.out
      rw [Nat.sub_self, rowL] at hl
      have HRE : Hid (R = (acc, st)) := hl.symm
      have HAL : Hid (acc.length = j) := by
        have := HO.out.1
        show _ = _
        simpa using this
      clear hl hlt
      go_wp2
      go_ret
      rw [HRE.out]
      refine ⟨_, rfl, ?_, HT.out.down, HG.out⟩
      show World.ownsRow _ _ _ _ _ acc.length _
      rw [HAL.out]
      exact HO.out
set_option maxRecDepth 100000 in
set_option maxHeartbeats 1000000 in
theorem rowKnown_less (g : Nat) (s : St) (most : Int) (hm : most < 0) (w : World) (h : Tp w g s) :
    Calls Try.prog 21 #[.pointer (some ⟨g, 0, none⟩), .int .i64 most, .func (.func 39) #[] #[]] w fun e w' => ∃ v, e = .returned v ∧ w'.ownsRow w.heap.size 22 1 v (rowS s most 1).1.length ((rowS s most 1).1.map V64) ∧ Tp w' g (rowS s most 1).2 ∧ Grw g w w' := by
  have CT := hid (tear_any g s w h)
  have he : rowS s most 1 = ([], tear s) := by rw [rowS, if_pos hm]
  rw [he]
  clear h he
  go_enter Try.func21, Try.ntmps21
  go_wp2_with (go_at_call 35; refine CT.out.mono ?_; rintro e w' ⟨rfl, ht, hg⟩)
  go_ret
  exact ⟨_, rfl, World.ownsRow_nil _ _ _ _, ht, hg⟩
set_option maxRecDepth 100000 in
set_option maxHeartbeats 1000000 in
theorem rowKnown_more (g : Nat) (s : St) (m : Nat) (him : m < 9223372036854775808) (w : World) (h : Tp w g s) :
    Calls Try.prog 21 #[.pointer (some ⟨g, 0, none⟩), .int .i64 (m : Int), .func (.func 39) #[] #[]] w fun e w' => ∃ v, e = .returned v ∧ w'.ownsRow w.heap.size 22 1 v (rowS s (m : Int) 1).1.length ((rowS s (m : Int) 1).1.map V64) ∧ Tp w' g (rowS s (m : Int) 1).2 ∧ Grw g w w' := by
  obtain ⟨i0, hi, hz0, hz1, hz2⟩ := info_parts info64
  have CB := hid (Low.below_any g s 2 m w (Low.Tp.up h))
  have he : rowS s (m : Int) 1 = rowL 1 (belowS s 2 m).1 (belowS s 2 m).2 [] := by rw [rowS, if_neg (by omega), Int.toNat_natCast]
  rw [he]
  obtain ⟨h65, htn⟩ := below_small s m
  generalize belowS s 2 m = q at CB h65 htn ⊢
  obtain ⟨c, s1⟩ := q
  simp only at CB h65 htn ⊢
  have w1 : IntKind.u64.wrap (m : Int) = m := u64in _ (by omega)
  have hm0 : ¬ (m : Int) < 0 := by omega
  have HI := hid h.inside
  have H65 := hid h65
  clear h he him htn
  obtain ⟨R, HR⟩ : ∃ R, Hid (rowL 1 c s1 [] = R) := ⟨_, rfl⟩
  rw [HR.out]
  go_enter Try.func21, Try.ntmps21
  go_wp2_with (go_at_call 36; refine CB.out.mono ?_; rintro e1 w1 ⟨rfl, ht, hg⟩)
  have T1 := hid ht
  have G1 := hid hg
  clear ht hg
  go_loopw [7, 17] (fun v i wr => ∃ (j : Nat) (st : St) (acc : List Nat), j ≤ c ∧ i = .int .i64 (j : Int) ∧ Hid (rowL 1 (c - j) st acc = R) ∧ Hid (wr.ownsRow w.heap.size 22 1 v j (acc.map V64)) ∧ Hid (Low.Tp w.heap.size wr g st) ∧ Hid (Grw g w wr)) (fun _ i _ => c - (intOf i).toNat)
  case atStart => exact ⟨0, s1, [], by omega, rfl, HR, World.ownsRow_nil _ _ _ _, T1, G1⟩
  case round =>
    obtain ⟨j, st, acc, hj, rfl, HL, HO, HT, HG⟩ := hrel
    by_cases hlt : j < c
    · have CK := hid (Low.takeKnown_any g st _ HT.out)
      obtain ⟨d, hd⟩ : ∃ d, c - j = d + 1 := ⟨c - j - 1, by omega⟩
      have hl := HL.out
      rw [hd, rowL] at hl
      generalize numS st 1 = q at CK hl
      obtain ⟨x, st2⟩ := q
      simp only at CK hl
      have CE : Hid (∀ w1, Low.Tp w.heap.size w1 g st2 → Calls Try.prog 27 #[.pointer (some ⟨g, 0, none⟩)] w1 fun e w' => e = .returned (.int .i64 (errS st2)) ∧ w1 = w') := fun w1 h => Low.err_any g st2 w1 h
      rcases ht : st2.1 with _ | _
      · rw [ht] at hl
        simp only [Bool.false_eq_true, if_false] at hl
        have HE : Hid (errS st2 = 0) := by show _ = _; rw [errS, ht]; rfl
        rw [HE.out] at CE
        have hd2 : c - (j + 1) = d := by omega
        have HL2 : Hid (rowL 1 (c - (j + 1)) st2 (acc ++ [x]) = R) := by rw [hd2]; exact hl
        have N1 : Hid (∀ u ∈ [Value.int .u64 (x : Int)], u.oneCell' = true) := by
          intro u hu
          rw [List.mem_singleton] at hu
          subst hu; rfl
        have hj9 : j < 65535 := by have := H65.out; omega
        have N2 : Hid (j + 1 ≤ maxLen) := by show _ ≤ _; unfold maxLen; omega
        have N3 : Hid ((j + 1) * 8 ≤ 140737488355328) := by show _ ≤ _; omega
        have N5 : Hid ((acc ++ [x]).map V64 = acc.map V64 ++ [Value.int .u64 (x : Int)]) := by show _ = _; rw [List.map_append]; rfl
        have NW : Hid (∀ w2 : World, Grw g wr w2 → ∀ o, w.heap.size ≤ (w2.alloc o).heap.size) := by
          intro w2 hg o
          have h1 := HG.out.size; have h2 := hg.size
          simp; omega
        clear hl hd hd2 ht
        go_wp2_with (first
          | (go_at_call 47; refine CK.out.mono ?_; rintro e2 w2 ⟨rfl, ht, hg⟩
             have T2 := hid ht
             have G2 := hid hg
             have O2 := hid (own_aside HO.out hg HI.out)
             clear ht hg)
          | (go_at_call 27; refine (CE.out _ T2.out).mono ?_; rintro e3 w3 ⟨rfl, rfl⟩)
          | (at_builtin; refine wpList_append_own _ rfl _ _ 46 rfl w.heap.size 22 i0 (.int .u64 0) 1 8 Try.underlying46 hi hz0 hz1 hz2 rfl (by omega) _ _ _ rfl (O2.out.alloc _) ⟨w2.heap.size, 0, none⟩ 1 1 [Value.int .u64 (x : Int)] rfl rfl (cell_one_new _ _ _) N1.out N2.out N3.out (NW.out _ G2.out _) ?_; intro v' w4 hown' hgrow _))
        have O4 : Hid (w4.ownsRow w.heap.size 22 1 v' (j + 1) ((acc ++ [x]).map V64)) := by rw [N5.out]; exact hown'
        have B4 : Hid (Below w.heap.size w2 w4) := ((Below.refl _ _).alloc (Nat.le_trans HG.out.size G2.out.size) _).grown hgrow (NW.out _ G2.out _) (fun z hz => (O2.out.lt z hz).1)
        have T4 : Hid (Low.Tp w.heap.size w4 g st2) := T2.out.low HI.out B4.out
        have G4 : Hid (Grw g w w4) := (HG.out.trans G2.out).low B4.out
        clear hown' hgrow
        go_wp2
        go_roundw
        case rel => exact ⟨j + 1, st2, acc ++ [x], by omega, by go_num, HL2, O4, T4, G4⟩
        case measure => simp [intOf]; omega
      · rw [ht] at hl
        simp only [if_true] at hl
        have HE : Hid (errS st2 = 4) := by show _ = _; rw [errS, ht]; rfl
        rw [HE.out] at CE
        have HRE : Hid (R = ([], st2)) := hl.symm
        clear hl hd ht
        go_wp2_with (first
          | (go_at_call 47; refine CK.out.mono ?_; rintro e2 w2 ⟨rfl, ht, hg⟩
             have T2 := hid ht
             have G2 := hid hg
             clear ht hg)
          | (go_at_call 27; refine (CE.out _ T2.out).mono ?_; rintro e3 w3 ⟨rfl, rfl⟩))
        go_ret
        rw [HRE.out]
        exact ⟨_, rfl, World.ownsRow_nil _ _ _ _, T2.out.down, HG.out.trans G2.out⟩
    · obtain rfl : j = c := by omega
      have hl := HL.out
      rw [Nat.sub_self, rowL] at hl
      have HRE : Hid (R = (acc, st)) := hl.symm
      have HAL : Hid (acc.length = j) := by
        have := HO.out.1
        show _ = _
        simpa using this
      clear hl hlt
      go_wp2
      go_ret
      rw [HRE.out]
      refine ⟨_, rfl, ?_, HT.out.down, HG.out⟩
      show World.ownsRow _ _ _ _ _ acc.length _
      rw [HAL.out]
      exact HO.out
end Go.Proofs.Ytdmdddmfiankhaa
