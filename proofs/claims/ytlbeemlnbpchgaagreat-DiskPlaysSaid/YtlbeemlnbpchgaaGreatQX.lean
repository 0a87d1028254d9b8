/- Several texts in one: TV. Conditions: those said at each. -/
import Derived.Test.YtlbeemlnbpchgaaGreatQW
import Derived.Test.YtlbeemlnbpchgaaGreatQT
/- looks, alike: both disks tell the same where their plain disk is the same. Conditions: as at the disk. -/
namespace Go.Proofs.YtlbeemlnbpchgaaGreat
open Go.RowKit Go.Maps
theorem listM_len {room : Nat} {L : Tr} (hW : WFT room L) (hl : L.length ≤ 16384) (s : By) : (listM L s).1.length ≤ 100000 := by
  unfold listM
  split
  · simp
  · split
    · simp only
      unfold sortL
      rw [List.length_mergeSort]
      unfold childL
      refine Nat.le_trans (List.length_filter_le _ _) ?_
      unfold innerL
      split
      · unfold restsL
        exact Nat.le_trans (List.length_filterMap_le _ _) (by omega)
      · simp
    · simp
set_option maxRecDepth 100000 in
set_option maxHeartbeats 8000000 in
theorem looks_any {o1 o2 : Nat → Prop} {w : World} {p q : Nat} {M : Mo} (h1 : Dsk o1 w p M) (h2 : RDk o2 w q M) (hG : Gd w) (s : By) (hs : s.length ≤ 4000) :
    Calls Tryz.prog 15 #[.pointer (some ⟨p, 0, none⟩), .pointer (some ⟨q, 0, none⟩), kS s] w fun e w' => e = .returned (.bool true) ∧ Below w.heap.size w w' := by
  have hll : (listM M.now s).1.length ≤ 100000 := by
    obtain ⟨_, _, _, _, _, _, h⟩ := h2
    exact listM_len h.good.good.w1 h.short s
  have R1 : Hid (∀ W, Below w.heap.size w W → Calls Tryz.prog 34 #[.pointer (some ⟨p, 0, none⟩), kS s] W fun e w' => ReadP W (readM M.now s) e w') := fun W hb => dRead_any (h1.on hb) (hG.kept hb) s hs
  have R2 : Hid (∀ W, Below w.heap.size w W → Calls Tryz.prog 50 #[.pointer (some ⟨q, 0, none⟩), kS s] W fun e w' => ReadP W (readM M.now s) e w') := fun W hb => rRead_any (h2.on hb) s hs
  have L1 : Hid (∀ W, Below w.heap.size w W → Calls Tryz.prog 25 #[.pointer (some ⟨p, 0, none⟩), kS s] W fun e w' => ListP W (listM M.now s) e w') := fun W hb => dList_any (h1.on hb) (hG.kept hb) s hs
  have L2 : Hid (∀ W, Below w.heap.size w W → Calls Tryz.prog 51 #[.pointer (some ⟨q, 0, none⟩), kS s] W fun e w' => ListP W (listM M.now s) e w') := fun W hb => rList_any (h2.on hb) s hs
  obtain ⟨rr, hrr⟩ : ∃ rr, readM M.now s = rr := ⟨_, rfl⟩
  obtain ⟨ll, hlx⟩ : ∃ ll, listM M.now s = ll := ⟨_, rfl⟩
  rw [hrr] at R1 R2
  rw [hlx] at L1 L2 hll
  obtain ⟨⟨kd, d, t, tm⟩, rc⟩ := rr
  obtain ⟨xs, lc⟩ := ll
  simp only at hll
  have HLL := hid hll
  have B0 : Hid (Below w.heap.size w w) := Below.refl _ _
  have qr : (rc == rc) = true := by simp
  have ql : (lc == lc) = true := by simp
  clear h1 h2 hG hs hrr hlx hll
  go_enter Tryz.func15, Tryz.ntmps15
  go_wp2_with fail
  refine (R1.out _ B0.out).mono ?_; rintro e1 w1 ⟨rfl, hb1⟩
  obtain ⟨y1, HY1⟩ : ∃ y, Hid (w1.alloc (.cells #[.int .i64 kd, kS d, kS t, .int .i64 tm] 64) = y) := ⟨_, rfl⟩
  obtain ⟨b1, HB1⟩ : ∃ b, Hid (w1.heap.size = b) := ⟨_, rfl⟩
  have Y1 : Hid (Below w.heap.size w y1) := by rw [← HY1.out]; exact hb1.alloc hb1.size _
  have X1 : Hid (Has y1 b1 64 (ndA kd d t tm)) := by rw [← HY1.out, ← HB1.out]; exact Has.fresh _ _ _
  have g1 := HY1.out
  have g2 := HB1.out
  clear hb1
  simp only [nodeV]
  go_wp2_with fail
  clear g1 g2
  refine (R2.out _ Y1.out).mono ?_; rintro e2 w2 ⟨rfl, hb2⟩
  obtain ⟨y2, HY2⟩ : ∃ y, Hid (w2.alloc (.cells #[.int .i64 kd, kS d, kS t, .int .i64 tm] 64) = y) := ⟨_, rfl⟩
  obtain ⟨b2, HB2⟩ : ∃ b, Hid (w2.heap.size = b) := ⟨_, rfl⟩
  have yb2 : Below y1.heap.size y1 y2 := by rw [← HY2.out]; exact hb2.alloc hb2.size _
  have Y2 : Hid (Below w.heap.size w y2) := Y1.out.trans (yb2.mono Y1.out.size)
  have X2 : Hid (Has y2 b2 64 (ndA kd d t tm)) := by rw [← HY2.out, ← HB2.out]; exact Has.fresh _ _ _
  have X12 := hid (X1.out.kept yb2 X1.out.inside)
  have g1 := HY2.out
  have g2 := HB2.out
  clear hb2 yb2
  simp only [nodeV]
  go_wp2_with fail
  clear g1 g2
  refine (L1.out _ Y2.out).mono ?_; rintro e3 w3 ⟨A3, c3, g3, rfl, hn3, hb3⟩
  have Y3 : Hid (Below w.heap.size w w3) := Y2.out.trans (hb3.mono Y2.out.size)
  have N3 := hid hn3
  have X13 := hid (X12.out.kept hb3 X12.out.inside)
  have X23 := hid (X2.out.kept hb3 X2.out.inside)
  clear hb3 hn3
  go_wp2_with fail
  refine (L2.out _ Y3.out).mono ?_; rintro e4 w4 ⟨A4, c4, g4, rfl, hn4, hb4⟩
  have Y4 : Hid (Below w.heap.size w w4) := Y3.out.trans (hb4.mono Y3.out.size)
  have N4 := hid hn4
  have N34 := hid (N3.out.on hb4)
  have X14 := hid (X13.out.kept hb4 X13.out.inside)
  have X24 := hid (X23.out.kept hb4 X23.out.inside)
  have CS := hid (rSame_any w4 A3 A4 c3 c4 g3 g4 xs N34.out N4.out HLL.out)
  clear hb4 hn4
  go_wp2_with (first
    | (refine wpList_load_nodeC rfl (.tmp 7) rfl b1 rfl kd d t tm X14.out ?_)
    | (refine wpList_load_nodeC rfl (.tmp 9) rfl b2 rfl kd d t tm X24.out ?_)
    | (refine wpList_eql_node (by rfl) (.tmp 39) (.tmp 40) rfl ⟨kd, d, t, tm⟩ ⟨kd, d, t, tm⟩ rfl rfl true (by simp) ?_))
  refine CS.out.mono ?_; rintro e5 w5 ⟨rfl, hb5⟩
  have Y5 : Hid (Below w.heap.size w w5) := Y4.out.trans (hb5.mono Y4.out.size)
  clear hb5
  go_wp2
  go_ret
  exact ⟨rfl, Y5.out⟩
/-- What alike reads of the document's disk. -/
structure AlS (q tl n c : Nat) (A : Option Addr) (sv : Value) (room : Nat) (W : World) : Prop where
  c0 : W.cell? ⟨q, 0, none⟩ = some (.pointer (some ⟨tl, 0, none⟩))
  c2 : W.cell? ⟨q, 2, none⟩ = some sv
  d0 : W.cell? ⟨tl, 0, none⟩ = some (.slice A n c)
  d1 : W.cell? ⟨tl, 1, none⟩ = some (.int .i64 (room : Int))
/-- What a round of alike reads. -/
structure AlN (q tl g1 g n c k b : Nat) (x : By) (nd : Nd) (W : World) : Prop where
  c0 : W.cell? ⟨q, 0, none⟩ = some (.pointer (some ⟨tl, 0, none⟩))
  d0 : W.cell? ⟨tl, 0, none⟩ = some (.slice (some ⟨g, 0, none⟩) n c)
  e1 : W.cell? ⟨g1, k, none⟩ = some (kS x)
  at_ : AtAt W g (k * 5) (x, nd)
  h : Has W b 64 (ndA nd.kind nd.data nd.target nd.time)
set_option maxRecDepth 100000 in
set_option maxHeartbeats 16000000 in
theorem alike_any {o1 o2 : Nat → Prop} {w : World} {p q : Nat} {M : Mo} (h1 : Dsk o1 w p M) (h2 : RDk o2 w q M) (hG : Gd w) :
    Calls Tryz.prog 16 #[.pointer (some ⟨p, 0, none⟩), .pointer (some ⟨q, 0, none⟩)] w fun e w' => e = .returned (.bool true) ∧ Below w.heap.size w w' := by
  obtain ⟨L, HLM⟩ : ∃ L, Hid (M.now = L) := ⟨_, rfl⟩
  have HW : Hid (WFT M.room L) := by rw [← HLM.out]; exact h1.good.w1
  have P1 : Hid (Calls Tryz.prog 26 #[.pointer (some ⟨p, 0, none⟩)] w fun e w' => NamesP w (pathsL L) e w') := by rw [← HLM.out]; exact dPaths_any h1
  have R1 : Hid (∀ W s, Below w.heap.size w W → s.length ≤ 4000 → Calls Tryz.prog 34 #[.pointer (some ⟨p, 0, none⟩), kS s] W fun e w' => ReadP W (readM L s) e w') := fun W s hb hs => by rw [← HLM.out]; exact dRead_any (h1.on hb) (hG.kept hb) s hs
  have HD1 := hid h1
  have HD2 := hid h2
  obtain ⟨tl, ts, sv, es, fused, left, hI⟩ := h2
  have HI := hid hI
  have hlen : L.length ≤ 16384 := by rw [← HLM.out]; exact hI.short
  have HPL : Hid ((pathsL L).length = L.length) := by show _ = _; unfold pathsL; rw [List.length_map]
  obtain ⟨A, n, c, hv⟩ := hI.t1.tree.view
  rw [HLM.out] at hv
  have HV := hid hv
  obtain ⟨A6, c6, hsv⟩ := hI.row.form
  have HES : Hid (es.length = M.since.length) := by show _ = _; rw [← hI.effs, List.length_map]
  rw [HES.out] at hsv
  have HSV := hid hsv
  have hn : n ≤ 16384 := by rw [← HV.out.len]; exact hlen
  have HUL : Hid (usedL L ≤ 1000000000) := by have h1 := HW.out.used; have h2 := hI.r1; show _ ≤ _; omega
  clear h1 hG hI hv hsv hlen
  go_enter Tryz.func16, Tryz.ntmps16
  go_wp2_with fail
  refine P1.out.mono ?_; rintro e1 w1 ⟨A1, c1, g1, rfl, hn1, hb1⟩
  have N1 := hid hn1
  have B1 : Hid (Below w.heap.size w w1) := hb1
  have B1d := hid B1.out.drew
  have BD12 : Hid (Below w1.heap.size w1 w1.drew) := (Below.refl _ _).drew
  rw [HPL.out, HV.out.len]
  clear hn1 hb1
  have CU1 : Hid (Calls Tryz.prog 27 #[.pointer (some ⟨p, 0, none⟩)] w1.drew fun e w' => e = .returned (.int .i64 ((usedL L : Nat) : Int)) ∧ w1.drew = w') := by rw [← HLM.out]; exact dUsed_any (HD1.out.on B1d.out)
  have CU2 : Hid (Calls Tryz.prog 53 #[.pointer (some ⟨tl, 0, none⟩)] w1.drew fun e w' => e = .returned (.int .i64 ((usedL L : Nat) : Int)) ∧ w1.drew = w') := by
    have := HI.out.t1.tree
    rw [HLM.out] at this
    exact rUsed_any (this.on B1d.out) HUL.out
  have CP1 := hid (dPending_any (HD1.out.on B1d.out))
  have CO1 := hid (dOff_is (HD1.out.on B1d.out))
  have CO2 := hid (rOff_any (HD2.out.on B1d.out))
  have CR1 := hid (dRoom_any (HD1.out.on B1d.out))
  obtain ⟨u, HU⟩ : ∃ u : Int, Hid (((usedL L : Nat) : Int) = u) := ⟨_, rfl⟩
  rw [HU.out] at CU1 CU2
  obtain ⟨ns, HNS⟩ : ∃ z : Nat, Hid (M.since.length = z) := ⟨_, rfl⟩
  rw [HNS.out] at CP1 HSV
  obtain ⟨ff, HFF⟩ : ∃ z : Bool, Hid ((M.fuse == 0) = z) := ⟨_, rfl⟩
  rw [HFF.out] at CO1 CO2
  obtain ⟨rm, HRM⟩ : ∃ z : Nat, Hid (M.room = z) := ⟨_, rfl⟩
  have SD : Hid (AlS q tl n c A (.slice A6 ns c6) rm w1.drew) := by
    have hI := HI.out.kept B1d.out.size (fun g hg => B1d.out.block g (HI.out.low g hg))
    have hv := HV.out.on B1d.out
    refine ⟨hI.has.at_ 0, ?_, hv.c0, by rw [← HRM.out]; exact hv.c1⟩
    rw [← HSV.out]; exact hI.has.at_ 2
  rw [HRM.out] at CR1
  have en : ((n : Int) != (n : Int)) = false := by simp
  have eu : (u != u) = false := by simp
  have es' : ((ns : Int) != (ns : Int)) = false := by simp
  have ef : (ff != ff) = false := by simp
  have er : ((rm : Int) != (rm : Int)) = false := by simp
  go_wp2
  refine wp_region_noPanic ?_
  refine wp_region_held_drew (S := AlS q tl n c A (.slice A6 ns c6) rm) (by kernel_rfl) (SD.out) (fun hS => ?_)
  generalize w1.drew = w2 at *
  refine wpAnyH_take (i := 0) (v := ?_) (by simp only [List.getElem?_toArray, List.getElem?_cons_zero]; rfl) (by kernel_rfl) (by kernel_rfl) (by kernel_rfl) (fun _ _ _ h => h) (Or.inl ⟨by rfl, ?_⟩) (by assumption) ?_
  rotate_left 1
  · intro w hSw
    have hc := hSw.c0
    have hd := hSw.d0
    have h2 := hSw.c2
    have h1 := hSw.d1
    go_simp
    with_reducible rfl
  simp only [Act.put, List.setIfInBounds_toArray, List.set_cons_zero, List.set_cons_succ]
  refine wpAnyH_take (i := 1) (v := ?_) (by simp only [List.getElem?_toArray, List.getElem?_cons_zero, List.getElem?_cons_succ]; rfl) (by kernel_rfl) (by kernel_rfl) (by kernel_rfl) (fun _ _ _ h => h) (Or.inl ⟨by rfl, ?_⟩) (by assumption) ?_
  rotate_left 1
  · intro w hSw
    have hc := hSw.c0
    have hd := hSw.d0
    have h2 := hSw.c2
    have h1 := hSw.d1
    go_simp
    with_reducible rfl
  simp only [Act.put, List.setIfInBounds_toArray, List.set_cons_zero, List.set_cons_succ]
  refine wpAnyH_take (i := 2) (v := ?_) (by simp only [List.getElem?_toArray, List.getElem?_cons_zero, List.getElem?_cons_succ]; rfl) (by kernel_rfl) (by kernel_rfl) (by kernel_rfl) (fun _ _ _ h => h) (Or.inl ⟨by rfl, ?_⟩) (by assumption) ?_
  rotate_left 1
  · intro w hSw
    have hc := hSw.c0
    have hd := hSw.d0
    have h2 := hSw.c2
    have h1 := hSw.d1
    go_simp
    with_reducible rfl
  simp only [Act.put, List.setIfInBounds_toArray, List.set_cons_zero, List.set_cons_succ]
  refine wpAnyH_take (i := 3) (v := ?_) (by simp only [List.getElem?_toArray, List.getElem?_cons_zero, List.getElem?_cons_succ]; rfl) (by kernel_rfl) (by kernel_rfl) (by kernel_rfl) (fun _ _ _ h => h) (Or.inl ⟨by rfl, ?_⟩) (by assumption) ?_
  rotate_left 1
  · intro w hSw
    have hc := hSw.c0
    have hd := hSw.d0
    have h2 := hSw.c2
    have h1 := hSw.d1
    go_simp
    with_reducible rfl
  simp only [Act.put, List.setIfInBounds_toArray, List.set_cons_zero, List.set_cons_succ]
  refine wpAnyH_take (i := 4) (v := ?_) (by simp only [List.getElem?_toArray, List.getElem?_cons_zero, List.getElem?_cons_succ]; rfl) (by kernel_rfl) (by kernel_rfl) (by kernel_rfl) (fun _ _ _ h => h) (Or.inl ⟨by rfl, ?_⟩) (by assumption) ?_
  rotate_left 1
  · intro w hSw
    have hc := hSw.c0
    have hd := hSw.d0
    have h2 := hSw.c2
    have h1 := hSw.d1
    go_simp
    with_reducible rfl
  simp only [Act.put, List.setIfInBounds_toArray, List.set_cons_zero, List.set_cons_succ]
  refine wpAnyH_take (i := 5) (v := ?_) (by simp only [List.getElem?_toArray, List.getElem?_cons_zero, List.getElem?_cons_succ]; rfl) (by kernel_rfl) (by kernel_rfl) (by kernel_rfl) (fun _ _ _ h => h) (Or.inl ⟨by rfl, ?_⟩) (by assumption) ?_
  rotate_left 1
  · intro w hSw
    have hc := hSw.c0
    have hd := hSw.d0
    have h2 := hSw.c2
    have h1 := hSw.d1
    go_simp
    with_reducible rfl
  simp only [Act.put, List.setIfInBounds_toArray, List.set_cons_zero, List.set_cons_succ]
  refine wpAnyH_take (i := 6) (v := ?_) (by simp only [List.getElem?_toArray, List.getElem?_cons_zero, List.getElem?_cons_succ]; rfl) (by kernel_rfl) (by kernel_rfl) (by kernel_rfl) (fun _ _ _ h => h) (Or.inl ⟨by rfl, ?_⟩) (by assumption) ?_
  rotate_left 1
  · intro w hSw
    have hc := hSw.c0
    have hd := hSw.d0
    have h2 := hSw.c2
    have h1 := hSw.d1
    go_simp
    with_reducible rfl
  simp only [Act.put, List.setIfInBounds_toArray, List.set_cons_zero, List.set_cons_succ]
  refine wpAnyH_take (i := 7) (v := ?_) (by simp only [List.getElem?_toArray, List.getElem?_cons_zero, List.getElem?_cons_succ]; rfl) (by kernel_rfl) (by kernel_rfl) (by kernel_rfl) (fun _ _ _ h => h) (Or.inl ⟨by rfl, ?_⟩) (by assumption) ?_
  rotate_left 1
  · intro w hSw
    have hc := hSw.c0
    have hd := hSw.d0
    have h2 := hSw.c2
    have h1 := hSw.d1
    go_simp
    with_reducible rfl
  simp only [Act.put, List.setIfInBounds_toArray, List.set_cons_zero, List.set_cons_succ]
  refine wpAnyH_take (i := 8) (v := ?_) (by simp only [List.getElem?_toArray, List.getElem?_cons_zero, List.getElem?_cons_succ]; rfl) (by kernel_rfl) (by kernel_rfl) (by kernel_rfl) (fun _ _ _ h => h) (Or.inl ⟨by rfl, ?_⟩) (by assumption) ?_
  rotate_left 1
  · intro w hSw
    have hc := hSw.c0
    have hd := hSw.d0
    have h2 := hSw.c2
    have h1 := hSw.d1
    go_simp
    with_reducible rfl
  simp only [Act.put, List.setIfInBounds_toArray, List.set_cons_zero, List.set_cons_succ]
  refine wpAnyH_take (i := 9) (v := ?_) (by simp only [List.getElem?_toArray, List.getElem?_cons_zero, List.getElem?_cons_succ]; rfl) (by kernel_rfl) (by kernel_rfl) (by kernel_rfl) (fun _ _ _ h => h) (Or.inl ⟨by rfl, ?_⟩) (by assumption) ?_
  rotate_left 1
  · intro w hSw
    have hc := hSw.c0
    have hd := hSw.d0
    have h2 := hSw.c2
    have h1 := hSw.d1
    go_simp
    with_reducible rfl
  simp only [Act.put, List.setIfInBounds_toArray, List.set_cons_zero, List.set_cons_succ]
  refine wpAnyH_take (i := 10) (v := ?_) (by simp only [List.getElem?_toArray, List.getElem?_cons_zero, List.getElem?_cons_succ]; rfl) (by kernel_rfl) (by kernel_rfl) (by kernel_rfl) (fun _ _ _ h => h) (Or.inl ⟨by rfl, ?_⟩) (by assumption) ?_
  rotate_left 1
  · intro w hSw
    have hc := hSw.c0
    have hd := hSw.d0
    have h2 := hSw.c2
    have h1 := hSw.d1
    go_simp
    with_reducible rfl
  simp only [Act.put, List.setIfInBounds_toArray, List.set_cons_zero, List.set_cons_succ]
  refine wpAnyH_take (i := 11) (v := ?_) (by simp only [List.getElem?_toArray, List.getElem?_cons_zero, List.getElem?_cons_succ]; rfl) (by kernel_rfl) (by kernel_rfl) (by kernel_rfl) (fun _ _ _ h => h) (Or.inl ⟨by rfl, ?_⟩) (by assumption) ?_
  rotate_left 1
  · intro w hSw
    have hc := hSw.c0
    have hd := hSw.d0
    have h2 := hSw.c2
    have h1 := hSw.d1
    go_simp
    with_reducible rfl
  simp only [Act.put, List.setIfInBounds_toArray, List.set_cons_zero, List.set_cons_succ]
  refine wpAnyH_take (i := 12) (v := ?_) (by simp only [List.getElem?_toArray, List.getElem?_cons_zero, List.getElem?_cons_succ]; rfl) (by kernel_rfl) (by kernel_rfl) (by kernel_rfl) (fun _ _ _ h => h) (Or.inl ⟨by rfl, ?_⟩) (by assumption) ?_
  rotate_left 1
  · intro w hSw
    have hc := hSw.c0
    have hd := hSw.d0
    have h2 := hSw.c2
    have h1 := hSw.d1
    go_simp
    with_reducible rfl
  simp only [Act.put, List.setIfInBounds_toArray, List.set_cons_zero, List.set_cons_succ]
  refine wpAnyH_take (i := 14) (v := ?_) (by simp only [List.getElem?_toArray, List.getElem?_cons_zero, List.getElem?_cons_succ]; rfl) (by kernel_rfl) (by kernel_rfl) (by kernel_rfl) (fun _ _ _ h => h) (Or.inl ⟨by rfl, ?_⟩) (by assumption) ?_
  rotate_left 1
  · intro w hSw
    have hc := hSw.c0
    have hd := hSw.d0
    have h2 := hSw.c2
    have h1 := hSw.d1
    go_simp
    with_reducible rfl
  simp only [Act.put, List.setIfInBounds_toArray, List.set_cons_zero, List.set_cons_succ]
  refine wpAnyH_take (i := 15) (v := ?_) (by simp only [List.getElem?_toArray, List.getElem?_cons_zero, List.getElem?_cons_succ]; rfl) (by kernel_rfl) (by kernel_rfl) (by kernel_rfl) (fun _ _ _ h => h) (Or.inl ⟨by rfl, ?_⟩) (by assumption) ?_
  rotate_left 1
  · intro w hSw
    have hc := hSw.c0
    have hd := hSw.d0
    have h2 := hSw.c2
    have h1 := hSw.d1
    go_simp
    with_reducible rfl
  simp only [Act.put, List.setIfInBounds_toArray, List.set_cons_zero, List.set_cons_succ]
  refine wpAnyH_take (i := 16) (v := ?_) (by simp only [List.getElem?_toArray, List.getElem?_cons_zero, List.getElem?_cons_succ]; rfl) (by kernel_rfl) (by kernel_rfl) (by kernel_rfl) (fun _ _ _ h => h) (Or.inl ⟨by rfl, ?_⟩) (by assumption) ?_
  rotate_left 1
  · intro w hSw
    have hc := hSw.c0
    have hd := hSw.d0
    have h2 := hSw.c2
    have h1 := hSw.d1
    go_simp
    with_reducible rfl
  simp only [Act.put, List.setIfInBounds_toArray, List.set_cons_zero, List.set_cons_succ]
  refine wpAnyH_take (i := 17) (v := ?_) (by simp only [List.getElem?_toArray, List.getElem?_cons_zero, List.getElem?_cons_succ]; rfl) (by kernel_rfl) (by kernel_rfl) (by kernel_rfl) (fun _ _ _ h => h) (Or.inl ⟨by rfl, ?_⟩) (by assumption) ?_
  rotate_left 1
  · intro w hSw
    have hc := hSw.c0
    have hd := hSw.d0
    have h2 := hSw.c2
    have h1 := hSw.d1
    go_simp
    with_reducible rfl
  simp only [Act.put, List.setIfInBounds_toArray, List.set_cons_zero, List.set_cons_succ]
  refine wpAnyH_ready (rs := [13]) (by kernel_rfl) (by simp) ?_
  refine AllReadyH.cons (by simp only [List.getElem?_toArray, List.getElem?_cons_zero, List.getElem?_cons_succ]; rfl) (fun K hK => ?_) AllReadyH.nil
  go_simp
  refine (CU1.out).mono ?_
  rintro e3 w3 ⟨rfl, rfl⟩
  have hz1 := SD.out
  refine hK.out _ _ hz1 (fun hS => ?_)
  clear hK K hS
  refine wpAnyH_ready (rs := [18]) (by kernel_rfl) (by simp) ?_
  refine AllReadyH.cons (by simp only [List.getElem?_toArray, List.getElem?_cons_zero, List.getElem?_cons_succ]; rfl) (fun K hK => ?_) AllReadyH.nil
  go_simp
  refine (CU2.out).mono ?_
  rintro e4 w4 ⟨rfl, rfl⟩
  have hz2 := SD.out
  refine hK.out _ _ hz2 (fun hS => ?_)
  clear hK K hS
  refine wpAnyH_take (i := 19) (v := ?_) (by simp only [List.getElem?_toArray, List.getElem?_cons_zero, List.getElem?_cons_succ]; rfl) (by kernel_rfl) (by kernel_rfl) (by kernel_rfl) (fun _ _ _ h => h) (Or.inl ⟨by rfl, ?_⟩) (by assumption) ?_
  rotate_left 1
  · intro w hSw
    have hc := hSw.c0
    have hd := hSw.d0
    have h2 := hSw.c2
    have h1 := hSw.d1
    go_simp
    with_reducible rfl
  simp only [Act.put, List.setIfInBounds_toArray, List.set_cons_zero, List.set_cons_succ]
  refine wpAnyH_take (i := 20) (v := ?_) (by simp only [List.getElem?_toArray, List.getElem?_cons_zero, List.getElem?_cons_succ]; rfl) (by kernel_rfl) (by kernel_rfl) (by kernel_rfl) (fun _ _ _ h => h) (Or.inl ⟨by rfl, ?_⟩) (by assumption) ?_
  rotate_left 1
  · intro w hSw
    have hc := hSw.c0
    have hd := hSw.d0
    have h2 := hSw.c2
    have h1 := hSw.d1
    go_simp
    with_reducible rfl
  simp only [Act.put, List.setIfInBounds_toArray, List.set_cons_zero, List.set_cons_succ]
  refine wpAnyH_take (i := 21) (v := ?_) (by simp only [List.getElem?_toArray, List.getElem?_cons_zero, List.getElem?_cons_succ]; rfl) (by kernel_rfl) (by kernel_rfl) (by kernel_rfl) (fun _ _ _ h => h) (Or.inl ⟨by rfl, ?_⟩) (by assumption) ?_
  rotate_left 1
  · intro w hSw
    have hc := hSw.c0
    have hd := hSw.d0
    have h2 := hSw.c2
    have h1 := hSw.d1
    go_simp
    with_reducible rfl
  simp only [Act.put, List.setIfInBounds_toArray, List.set_cons_zero, List.set_cons_succ]
  refine wpAnyH_take (i := 22) (v := ?_) (by simp only [List.getElem?_toArray, List.getElem?_cons_zero, List.getElem?_cons_succ]; rfl) (by kernel_rfl) (by kernel_rfl) (by kernel_rfl) (fun _ _ _ h => h) (Or.inl ⟨by rfl, ?_⟩) (by assumption) ?_
  rotate_left 1
  · intro w hSw
    have hc := hSw.c0
    have hd := hSw.d0
    have h2 := hSw.c2
    have h1 := hSw.d1
    go_simp
    with_reducible rfl
  simp only [Act.put, List.setIfInBounds_toArray, List.set_cons_zero, List.set_cons_succ]
  refine wpAnyH_take (i := 24) (v := ?_) (by simp only [List.getElem?_toArray, List.getElem?_cons_zero, List.getElem?_cons_succ]; rfl) (by kernel_rfl) (by kernel_rfl) (by kernel_rfl) (fun _ _ _ h => h) (Or.inl ⟨by rfl, ?_⟩) (by assumption) ?_
  rotate_left 1
  · intro w hSw
    have hc := hSw.c0
    have hd := hSw.d0
    have h2 := hSw.c2
    have h1 := hSw.d1
    go_simp
    with_reducible rfl
  simp only [Act.put, List.setIfInBounds_toArray, List.set_cons_zero, List.set_cons_succ]
  refine wpAnyH_take (i := 25) (v := ?_) (by simp only [List.getElem?_toArray, List.getElem?_cons_zero, List.getElem?_cons_succ]; rfl) (by kernel_rfl) (by kernel_rfl) (by kernel_rfl) (fun _ _ _ h => h) (Or.inl ⟨by rfl, ?_⟩) (by assumption) ?_
  rotate_left 1
  · intro w hSw
    have hc := hSw.c0
    have hd := hSw.d0
    have h2 := hSw.c2
    have h1 := hSw.d1
    go_simp
    with_reducible rfl
  simp only [Act.put, List.setIfInBounds_toArray, List.set_cons_zero, List.set_cons_succ]
  refine wpAnyH_take (i := 26) (v := ?_) (by simp only [List.getElem?_toArray, List.getElem?_cons_zero, List.getElem?_cons_succ]; rfl) (by kernel_rfl) (by kernel_rfl) (by kernel_rfl) (fun _ _ _ h => h) (Or.inl ⟨by rfl, ?_⟩) (by assumption) ?_
  rotate_left 1
  · intro w hSw
    have hc := hSw.c0
    have hd := hSw.d0
    have h2 := hSw.c2
    have h1 := hSw.d1
    go_simp
    with_reducible rfl
  simp only [Act.put, List.setIfInBounds_toArray, List.set_cons_zero, List.set_cons_succ]
  refine wpAnyH_take (i := 27) (v := ?_) (by simp only [List.getElem?_toArray, List.getElem?_cons_zero, List.getElem?_cons_succ]; rfl) (by kernel_rfl) (by kernel_rfl) (by kernel_rfl) (fun _ _ _ h => h) (Or.inl ⟨by rfl, ?_⟩) (by assumption) ?_
  rotate_left 1
  · intro w hSw
    have hc := hSw.c0
    have hd := hSw.d0
    have h2 := hSw.c2
    have h1 := hSw.d1
    go_simp
    with_reducible rfl
  simp only [Act.put, List.setIfInBounds_toArray, List.set_cons_zero, List.set_cons_succ]
  refine wpAnyH_take (i := 28) (v := ?_) (by simp only [List.getElem?_toArray, List.getElem?_cons_zero, List.getElem?_cons_succ]; rfl) (by kernel_rfl) (by kernel_rfl) (by kernel_rfl) (fun _ _ _ h => h) (Or.inl ⟨by rfl, ?_⟩) (by assumption) ?_
  rotate_left 1
  · intro w hSw
    have hc := hSw.c0
    have hd := hSw.d0
    have h2 := hSw.c2
    have h1 := hSw.d1
    go_simp
    with_reducible rfl
  simp only [Act.put, List.setIfInBounds_toArray, List.set_cons_zero, List.set_cons_succ]
  refine wpAnyH_ready (rs := [23]) (by kernel_rfl) (by simp) ?_
  refine AllReadyH.cons (by simp only [List.getElem?_toArray, List.getElem?_cons_zero, List.getElem?_cons_succ]; rfl) (fun K hK => ?_) AllReadyH.nil
  go_simp
  refine (CP1.out).mono ?_
  rintro e5 w5 ⟨rfl, rfl⟩
  have hz3 := SD.out
  refine hK.out _ _ hz3 (fun hS => ?_)
  clear hK K hS
  refine wpAnyH_take (i := 29) (v := ?_) (by simp only [List.getElem?_toArray, List.getElem?_cons_zero, List.getElem?_cons_succ]; rfl) (by kernel_rfl) (by kernel_rfl) (by kernel_rfl) (fun _ _ _ h => h) (Or.inl ⟨by rfl, ?_⟩) (by assumption) ?_
  rotate_left 1
  · intro w hSw
    have hc := hSw.c0
    have hd := hSw.d0
    have h2 := hSw.c2
    have h1 := hSw.d1
    go_simp
    with_reducible rfl
  simp only [Act.put, List.setIfInBounds_toArray, List.set_cons_zero, List.set_cons_succ]
  refine wpAnyH_take (i := 30) (v := ?_) (by simp only [List.getElem?_toArray, List.getElem?_cons_zero, List.getElem?_cons_succ]; rfl) (by kernel_rfl) (by kernel_rfl) (by kernel_rfl) (fun _ _ _ h => h) (Or.inl ⟨by rfl, ?_⟩) (by assumption) ?_
  rotate_left 1
  · intro w hSw
    have hc := hSw.c0
    have hd := hSw.d0
    have h2 := hSw.c2
    have h1 := hSw.d1
    go_simp
    with_reducible rfl
  simp only [Act.put, List.setIfInBounds_toArray, List.set_cons_zero, List.set_cons_succ]
  refine wpAnyH_take (i := 31) (v := ?_) (by simp only [List.getElem?_toArray, List.getElem?_cons_zero, List.getElem?_cons_succ]; rfl) (by kernel_rfl) (by kernel_rfl) (by kernel_rfl) (fun _ _ _ h => h) (Or.inl ⟨by rfl, ?_⟩) (by assumption) ?_
  rotate_left 1
  · intro w hSw
    have hc := hSw.c0
    have hd := hSw.d0
    have h2 := hSw.c2
    have h1 := hSw.d1
    go_simp
    with_reducible rfl
  simp only [Act.put, List.setIfInBounds_toArray, List.set_cons_zero, List.set_cons_succ]
  refine wpAnyH_take (i := 32) (v := ?_) (by simp only [List.getElem?_toArray, List.getElem?_cons_zero, List.getElem?_cons_succ]; rfl) (by kernel_rfl) (by kernel_rfl) (by kernel_rfl) (fun _ _ _ h => h) (Or.inl ⟨by rfl, ?_⟩) (by assumption) ?_
  rotate_left 1
  · intro w hSw
    have hc := hSw.c0
    have hd := hSw.d0
    have h2 := hSw.c2
    have h1 := hSw.d1
    go_simp
    with_reducible rfl
  simp only [Act.put, List.setIfInBounds_toArray, List.set_cons_zero, List.set_cons_succ]
  refine wpAnyH_take (i := 34) (v := ?_) (by simp only [List.getElem?_toArray, List.getElem?_cons_zero, List.getElem?_cons_succ]; rfl) (by kernel_rfl) (by kernel_rfl) (by kernel_rfl) (fun _ _ _ h => h) (Or.inl ⟨by rfl, ?_⟩) (by assumption) ?_
  rotate_left 1
  · intro w hSw
    have hc := hSw.c0
    have hd := hSw.d0
    have h2 := hSw.c2
    have h1 := hSw.d1
    go_simp
    with_reducible rfl
  simp only [Act.put, List.setIfInBounds_toArray, List.set_cons_zero, List.set_cons_succ]
  refine wpAnyH_ready (rs := [33]) (by kernel_rfl) (by simp) ?_
  refine AllReadyH.cons (by simp only [List.getElem?_toArray, List.getElem?_cons_zero, List.getElem?_cons_succ]; rfl) (fun K hK => ?_) AllReadyH.nil
  go_simp
  refine (CO1.out).mono ?_
  rintro e6 w6 ⟨rfl, rfl⟩
  have hz4 := SD.out
  refine hK.out _ _ hz4 (fun hS => ?_)
  clear hK K hS
  refine wpAnyH_ready (rs := [35]) (by kernel_rfl) (by simp) ?_
  refine AllReadyH.cons (by simp only [List.getElem?_toArray, List.getElem?_cons_zero, List.getElem?_cons_succ]; rfl) (fun K hK => ?_) AllReadyH.nil
  go_simp
  refine (CO2.out).mono ?_
  rintro e7 w7 ⟨rfl, rfl⟩
  have hz5 := SD.out
  refine hK.out _ _ hz5 (fun hS => ?_)
  clear hK K hS
  refine wpAnyH_take (i := 36) (v := ?_) (by simp only [List.getElem?_toArray, List.getElem?_cons_zero, List.getElem?_cons_succ]; rfl) (by kernel_rfl) (by kernel_rfl) (by kernel_rfl) (fun _ _ _ h => h) (Or.inl ⟨by rfl, ?_⟩) (by assumption) ?_
  rotate_left 1
  · intro w hSw
    have hc := hSw.c0
    have hd := hSw.d0
    have h2 := hSw.c2
    have h1 := hSw.d1
    go_simp
    with_reducible rfl
  simp only [Act.put, List.setIfInBounds_toArray, List.set_cons_zero, List.set_cons_succ]
  refine wpAnyH_take (i := 37) (v := ?_) (by simp only [List.getElem?_toArray, List.getElem?_cons_zero, List.getElem?_cons_succ]; rfl) (by kernel_rfl) (by kernel_rfl) (by kernel_rfl) (fun _ _ _ h => h) (Or.inl ⟨by rfl, ?_⟩) (by assumption) ?_
  rotate_left 1
  · intro w hSw
    have hc := hSw.c0
    have hd := hSw.d0
    have h2 := hSw.c2
    have h1 := hSw.d1
    go_simp
    with_reducible rfl
  simp only [Act.put, List.setIfInBounds_toArray, List.set_cons_zero, List.set_cons_succ]
  refine wpAnyH_take (i := 38) (v := ?_) (by simp only [List.getElem?_toArray, List.getElem?_cons_zero, List.getElem?_cons_succ]; rfl) (by kernel_rfl) (by kernel_rfl) (by kernel_rfl) (fun _ _ _ h => h) (Or.inl ⟨by rfl, ?_⟩) (by assumption) ?_
  rotate_left 1
  · intro w hSw
    have hc := hSw.c0
    have hd := hSw.d0
    have h2 := hSw.c2
    have h1 := hSw.d1
    go_simp
    with_reducible rfl
  simp only [Act.put, List.setIfInBounds_toArray, List.set_cons_zero, List.set_cons_succ]
  refine wpAnyH_take (i := 39) (v := ?_) (by simp only [List.getElem?_toArray, List.getElem?_cons_zero, List.getElem?_cons_succ]; rfl) (by kernel_rfl) (by kernel_rfl) (by kernel_rfl) (fun _ _ _ h => h) (Or.inl ⟨by rfl, ?_⟩) (by assumption) ?_
  rotate_left 1
  · intro w hSw
    have hc := hSw.c0
    have hd := hSw.d0
    have h2 := hSw.c2
    have h1 := hSw.d1
    go_simp
    with_reducible rfl
  simp only [Act.put, List.setIfInBounds_toArray, List.set_cons_zero, List.set_cons_succ]
  refine wpAnyH_take (i := 41) (v := ?_) (by simp only [List.getElem?_toArray, List.getElem?_cons_zero, List.getElem?_cons_succ]; rfl) (by kernel_rfl) (by kernel_rfl) (by kernel_rfl) (fun _ _ _ h => h) (Or.inl ⟨by rfl, ?_⟩) (by assumption) ?_
  rotate_left 1
  · intro w hSw
    have hc := hSw.c0
    have hd := hSw.d0
    have h2 := hSw.c2
    have h1 := hSw.d1
    go_simp
    with_reducible rfl
  simp only [Act.put, List.setIfInBounds_toArray, List.set_cons_zero, List.set_cons_succ]
  refine wpAnyH_take (i := 42) (v := ?_) (by simp only [List.getElem?_toArray, List.getElem?_cons_zero, List.getElem?_cons_succ]; rfl) (by kernel_rfl) (by kernel_rfl) (by kernel_rfl) (fun _ _ _ h => h) (Or.inl ⟨by rfl, ?_⟩) (by assumption) ?_
  rotate_left 1
  · intro w hSw
    have hc := hSw.c0
    have hd := hSw.d0
    have h2 := hSw.c2
    have h1 := hSw.d1
    go_simp
    with_reducible rfl
  simp only [Act.put, List.setIfInBounds_toArray, List.set_cons_zero, List.set_cons_succ]
  refine wpAnyH_take (i := 43) (v := ?_) (by simp only [List.getElem?_toArray, List.getElem?_cons_zero, List.getElem?_cons_succ]; rfl) (by kernel_rfl) (by kernel_rfl) (by kernel_rfl) (fun _ _ _ h => h) (Or.inl ⟨by rfl, ?_⟩) (by assumption) ?_
  rotate_left 1
  · intro w hSw
    have hc := hSw.c0
    have hd := hSw.d0
    have h2 := hSw.c2
    have h1 := hSw.d1
    go_simp
    with_reducible rfl
  simp only [Act.put, List.setIfInBounds_toArray, List.set_cons_zero, List.set_cons_succ]
  refine wpAnyH_take (i := 44) (v := ?_) (by simp only [List.getElem?_toArray, List.getElem?_cons_zero, List.getElem?_cons_succ]; rfl) (by kernel_rfl) (by kernel_rfl) (by kernel_rfl) (fun _ _ _ h => h) (Or.inl ⟨by rfl, ?_⟩) (by assumption) ?_
  rotate_left 1
  · intro w hSw
    have hc := hSw.c0
    have hd := hSw.d0
    have h2 := hSw.c2
    have h1 := hSw.d1
    go_simp
    with_reducible rfl
  simp only [Act.put, List.setIfInBounds_toArray, List.set_cons_zero, List.set_cons_succ]
  refine wpAnyH_take (i := 45) (v := ?_) (by simp only [List.getElem?_toArray, List.getElem?_cons_zero, List.getElem?_cons_succ]; rfl) (by kernel_rfl) (by kernel_rfl) (by kernel_rfl) (fun _ _ _ h => h) (Or.inl ⟨by rfl, ?_⟩) (by assumption) ?_
  rotate_left 1
  · intro w hSw
    have hc := hSw.c0
    have hd := hSw.d0
    have h2 := hSw.c2
    have h1 := hSw.d1
    go_simp
    with_reducible rfl
  simp only [Act.put, List.setIfInBounds_toArray, List.set_cons_zero, List.set_cons_succ]
  refine wpAnyH_take (i := 46) (v := ?_) (by simp only [List.getElem?_toArray, List.getElem?_cons_zero, List.getElem?_cons_succ]; rfl) (by kernel_rfl) (by kernel_rfl) (by kernel_rfl) (fun _ _ _ h => h) (Or.inl ⟨by rfl, ?_⟩) (by assumption) ?_
  rotate_left 1
  · intro w hSw
    have hc := hSw.c0
    have hd := hSw.d0
    have h2 := hSw.c2
    have h1 := hSw.d1
    go_simp
    with_reducible rfl
  simp only [Act.put, List.setIfInBounds_toArray, List.set_cons_zero, List.set_cons_succ]
  refine wpAnyH_take (i := 47) (v := ?_) (by simp only [List.getElem?_toArray, List.getElem?_cons_zero, List.getElem?_cons_succ]; rfl) (by kernel_rfl) (by kernel_rfl) (by kernel_rfl) (fun _ _ _ h => h) (Or.inl ⟨by rfl, ?_⟩) (by assumption) ?_
  rotate_left 1
  · intro w hSw
    have hc := hSw.c0
    have hd := hSw.d0
    have h2 := hSw.c2
    have h1 := hSw.d1
    go_simp
    with_reducible rfl
  simp only [Act.put, List.setIfInBounds_toArray, List.set_cons_zero, List.set_cons_succ]
  refine wpAnyH_ready (rs := [40]) (by kernel_rfl) (by simp) ?_
  refine AllReadyH.cons (by simp only [List.getElem?_toArray, List.getElem?_cons_zero, List.getElem?_cons_succ]; rfl) (fun K hK => ?_) AllReadyH.nil
  go_simp
  refine (CR1.out).mono ?_
  rintro e8 w8 ⟨rfl, rfl⟩
  have hz6 := SD.out
  refine hK.out _ _ hz6 (fun hS => ?_)
  clear hK K hS
  refine wpAnyH_take (i := 48) (v := ?_) (by simp only [List.getElem?_toArray, List.getElem?_cons_zero, List.getElem?_cons_succ]; rfl) (by kernel_rfl) (by kernel_rfl) (by kernel_rfl) (fun _ _ _ h => h) (Or.inl ⟨by rfl, ?_⟩) (by assumption) ?_
  rotate_left 1
  · intro w hSw
    have hc := hSw.c0
    have hd := hSw.d0
    have h2 := hSw.c2
    have h1 := hSw.d1
    go_simp
    with_reducible rfl
  simp only [Act.put, List.setIfInBounds_toArray, List.set_cons_zero, List.set_cons_succ]
  refine wpAnyH_take (i := 49) (v := ?_) (by simp only [List.getElem?_toArray, List.getElem?_cons_zero, List.getElem?_cons_succ]; rfl) (by kernel_rfl) (by kernel_rfl) (by kernel_rfl) (fun _ _ _ h => h) (Or.inl ⟨by rfl, ?_⟩) (by assumption) ?_
  rotate_left 1
  · intro w hSw
    have hc := hSw.c0
    have hd := hSw.d0
    have h2 := hSw.c2
    have h1 := hSw.d1
    go_simp
    with_reducible rfl
  simp only [Act.put, List.setIfInBounds_toArray, List.set_cons_zero, List.set_cons_succ]
  refine wpAnyH_done (by kernel_rfl) ?_ _
  refine NoPanic.normal ?_
  clear en eu es' ef er
  go_wp2
  go_loopw [6] (fun v6 wr => ∃ k : Nat, v6 = .int .i64 (k : Int) ∧ k ≤ n ∧ Hid (Below w2.heap.size w2 wr)) (fun v6 _ => n - (intOf v6).toNat)
  case atStart => exact ⟨0, rfl, by omega, Below.refl _ _⟩
  case round =>
    obtain ⟨k, rfl, hk, J1⟩ := hrel
    by_cases hlt : k < n
    · have hkL : k < L.length := by rw [HV.out.len]; exact hlt
      have hkl : k < (pathsL L).length := by rw [HPL.out]; exact hkL
      obtain ⟨nd, hnd, hrd, hs⟩ := path_at HW.out k hkl
      have hxk : (pathsL L)[k] = (L.getD k at0).1 := by rw [getD_at hkL]; exact List.getElem_map _
      have hnk : nd = (L.getD k at0).2 := by
        rw [hxk, lookD HW.out.srt hkL] at hnd; injection hnd with hnd; exact hnd.symm
      have n1 := N1.out.on (BD12.out.trans (J1.out.mono BD12.out.size))
      have a1 := n1.ad (by omega)
      subst a1
      have e1 := n1.cell k hkl
      have BW : Hid (Below w.heap.size w wr) := B1d.out.trans (J1.out.mono B1d.out.size)
      have hvr := HV.out.on BW.out
      obtain ⟨g, hA, hat⟩ := hvr.row (by omega)
      subst hA
      have ha := hat k hlt
      have hc0 : wr.cell? ⟨q, 0, none⟩ = some (.pointer (some ⟨tl, 0, none⟩)) := (HI.out.kept BW.out.size (fun g hg => BW.out.block g (HI.out.low g hg))).has.at_ 0
      have SW0 : Hid (wr.cell? ⟨q, 0, none⟩ = some (.pointer (some ⟨tl, 0, none⟩)) ∧ wr.cell? ⟨tl, 0, none⟩ = some (.slice (some ⟨g, 0, none⟩) n c) ∧ wr.cell? ⟨g1, k, none⟩ = some (kS (L.getD k at0).1) ∧ AtAt wr g (k * 5) ((L.getD k at0).1, (L.getD k at0).2)) := ⟨hc0, hvr.c0, by rw [← hxk]; exact e1, ha⟩
      obtain ⟨x, hx⟩ : ∃ x, x = (L.getD k at0).1 := ⟨_, rfl⟩
      rw [hxk, ← hx] at hrd hs e1
      rw [← hx, ← hnk] at SW0
      obtain ⟨kd, d, t, tm⟩ := nd
      have CRD := hid (R1.out wr x BW.out hs)
      rw [hrd] at CRD
      have hlt' : (k : Int) < (n : Int) := by omega
      have h0 : (0 : Int) ≤ (k : Int) := by omega
      have w1' : IntKind.i64.wrap ((k : Int) + 1) = (k : Int) + 1 := i64in _ (by omega) (by omega)
      have qx : ((ba x).toList == (ba x).toList) = true := by simp
      have qx2 : ((ba x).toList != (ba x).toList) = false := by simp
      clear n1 hnd hrd hs hxk hnk hkL hkl hvr hat ha hc0 hx
      go_wp2_with fail
      refine CRD.out.mono ?_; rintro e5 w5 ⟨rfl, hb5⟩
      have YB5 : Below wr.heap.size wr (w5.alloc (.cells (ndA kd d t tm) 64)).drew := (hb5.alloc hb5.size _).drew
      have Y5 := hid YB5
      have S5 : Hid (AlN q tl g1 g n c k w5.heap.size x ⟨kd, d, t, tm⟩ (w5.alloc (.cells (ndA kd d t tm) 64)).drew) := by
        obtain ⟨z1, z2, z3, z4⟩ := SW0.out
        exact ⟨(YB5.cell (p := ⟨q, 0, none⟩) (block_lt_of_cell (a := ⟨q, 0, none⟩) z1)).trans z1, (YB5.cell (p := ⟨tl, 0, none⟩) (block_lt_of_cell (a := ⟨tl, 0, none⟩) z2)).trans z2, (YB5.cell (p := ⟨g1, k, none⟩) (block_lt_of_cell (a := ⟨g1, k, none⟩) z3)).trans z3, z4.on YB5, Has.fresh w5 _ _⟩
      clear hb5 YB5 e1
      simp only [nodeV]
      go_wp2
      refine wp_region_noPanic ?_
      refine wp_region_held_drew (S := AlN q tl g1 g n c k w5.heap.size x ⟨kd, d, t, tm⟩) (by kernel_rfl) (S5.out) (fun hS => ?_)
      generalize (w5.alloc (.cells (ndA kd d t tm) 64)).drew = w6 at *
      refine wpAnyH_take (i := 0) (v := ?_) (by simp only [List.getElem?_toArray, List.getElem?_cons_zero]; rfl) (by kernel_rfl) (by kernel_rfl) (by kernel_rfl) (fun _ _ _ h => h) (Or.inl ⟨by rfl, ?_⟩) (by assumption) ?_
      rotate_left 1
      · intro w hSw
        have hc := hSw.c0
        have hd := hSw.d0
        have he := hSw.e1
        have ha := hSw.at_.c0
        go_simp
        with_reducible rfl
      simp only [Act.put, List.setIfInBounds_toArray, List.set_cons_zero, List.set_cons_succ]
      refine wpAnyH_take (i := 1) (v := ?_) (by simp only [List.getElem?_toArray, List.getElem?_cons_zero, List.getElem?_cons_succ]; rfl) (by kernel_rfl) (by kernel_rfl) (by kernel_rfl) (fun _ _ _ h => h) (Or.inl ⟨by rfl, ?_⟩) (by assumption) ?_
      rotate_left 1
      · intro w hSw
        have hc := hSw.c0
        have hd := hSw.d0
        have he := hSw.e1
        have ha := hSw.at_.c0
        go_simp
        with_reducible rfl
      simp only [Act.put, List.setIfInBounds_toArray, List.set_cons_zero, List.set_cons_succ]
      refine wpAnyH_take (i := 2) (v := ?_) (by simp only [List.getElem?_toArray, List.getElem?_cons_zero, List.getElem?_cons_succ]; rfl) (by kernel_rfl) (by kernel_rfl) (by kernel_rfl) (fun _ _ _ h => h) (Or.inl ⟨by rfl, ?_⟩) (by assumption) ?_
      rotate_left 1
      · intro w hSw
        have hc := hSw.c0
        have hd := hSw.d0
        have he := hSw.e1
        have ha := hSw.at_.c0
        go_simp
        with_reducible rfl
      simp only [Act.put, List.setIfInBounds_toArray, List.set_cons_zero, List.set_cons_succ]
      refine wpAnyH_take (i := 3) (v := ?_) (by simp only [List.getElem?_toArray, List.getElem?_cons_zero, List.getElem?_cons_succ]; rfl) (by kernel_rfl) (by kernel_rfl) (by kernel_rfl) (fun _ _ _ h => h) (Or.inl ⟨by rfl, ?_⟩) (by assumption) ?_
      rotate_left 1
      · intro w hSw
        have hc := hSw.c0
        have hd := hSw.d0
        have he := hSw.e1
        have ha := hSw.at_.c0
        go_simp
        with_reducible rfl
      simp only [Act.put, List.setIfInBounds_toArray, List.set_cons_zero, List.set_cons_succ]
      refine wpAnyH_take (i := 4) (v := ?_) (by simp only [List.getElem?_toArray, List.getElem?_cons_zero, List.getElem?_cons_succ]; rfl) (by kernel_rfl) (by kernel_rfl) (by kernel_rfl) (fun _ _ _ h => h) (Or.inl ⟨by rfl, ?_⟩) (by assumption) ?_
      rotate_left 1
      · intro w hSw
        have hc := hSw.c0
        have hd := hSw.d0
        have he := hSw.e1
        have ha := hSw.at_.c0
        go_simp
        with_reducible rfl
      simp only [Act.put, List.setIfInBounds_toArray, List.set_cons_zero, List.set_cons_succ]
      refine wpAnyH_take (i := 5) (v := ?_) (by simp only [List.getElem?_toArray, List.getElem?_cons_zero, List.getElem?_cons_succ]; rfl) (by kernel_rfl) (by kernel_rfl) (by kernel_rfl) (fun _ _ _ h => h) (Or.inl ⟨by rfl, ?_⟩) (by assumption) ?_
      rotate_left 1
      · intro w hSw
        have hc := hSw.c0
        have hd := hSw.d0
        have he := hSw.e1
        have ha := hSw.at_.c0
        go_simp
        with_reducible rfl
      simp only [Act.put, List.setIfInBounds_toArray, List.set_cons_zero, List.set_cons_succ]
      refine wpAnyH_take (i := 6) (v := ?_) (by simp only [List.getElem?_toArray, List.getElem?_cons_zero, List.getElem?_cons_succ]; rfl) (by kernel_rfl) (by kernel_rfl) (by kernel_rfl) (fun _ _ _ h => h) (Or.inl ⟨by rfl, ?_⟩) (by assumption) ?_
      rotate_left 1
      · intro w hSw
        have hc := hSw.c0
        have hd := hSw.d0
        have he := hSw.e1
        have ha := hSw.at_.c0
        go_simp
        with_reducible rfl
      simp only [Act.put, List.setIfInBounds_toArray, List.set_cons_zero, List.set_cons_succ]
      refine wpAnyH_take (i := 7) (v := ?_) (by simp only [List.getElem?_toArray, List.getElem?_cons_zero, List.getElem?_cons_succ]; rfl) (by kernel_rfl) (by kernel_rfl) (by kernel_rfl) (fun _ _ _ h => h) (Or.inl ⟨by rfl, ?_⟩) (by assumption) ?_
      rotate_left 1
      · intro w hSw
        have hc := hSw.c0
        have hd := hSw.d0
        have he := hSw.e1
        have ha := hSw.at_.c0
        go_simp
        with_reducible rfl
      simp only [Act.put, List.setIfInBounds_toArray, List.set_cons_zero, List.set_cons_succ]
      refine wpAnyH_take (i := 8) (v := ?_) (by simp only [List.getElem?_toArray, List.getElem?_cons_zero, List.getElem?_cons_succ]; rfl) (by kernel_rfl) (by kernel_rfl) (by kernel_rfl) (fun _ _ _ h => h) (Or.inl ⟨by rfl, ?_⟩) (by assumption) ?_
      rotate_left 1
      · intro w hSw
        have hc := hSw.c0
        have hd := hSw.d0
        have he := hSw.e1
        have ha := hSw.at_.c0
        go_simp
        with_reducible rfl
      simp only [Act.put, List.setIfInBounds_toArray, List.set_cons_zero, List.set_cons_succ]
      refine wpAnyH_take (i := 9) (v := ?_) (by simp only [List.getElem?_toArray, List.getElem?_cons_zero, List.getElem?_cons_succ]; rfl) (by kernel_rfl) (by kernel_rfl) (by kernel_rfl) (fun _ _ _ h => h) (Or.inl ⟨by rfl, ?_⟩) (by assumption) ?_
      rotate_left 1
      · intro w hSw
        have hc := hSw.c0
        have hd := hSw.d0
        have he := hSw.e1
        have ha := hSw.at_.c0
        go_simp
        with_reducible rfl
      simp only [Act.put, List.setIfInBounds_toArray, List.set_cons_zero, List.set_cons_succ]
      refine wpAnyH_take (i := 10) (v := ?_) (by simp only [List.getElem?_toArray, List.getElem?_cons_zero, List.getElem?_cons_succ]; rfl) (by kernel_rfl) (by kernel_rfl) (by kernel_rfl) (fun _ _ _ h => h) (Or.inl ⟨by rfl, ?_⟩) (by assumption) ?_
      rotate_left 1
      · intro w hSw
        have hc := hSw.c0
        have hd := hSw.d0
        have he := hSw.e1
        have ha := hSw.at_.c0
        go_simp
        with_reducible rfl
      simp only [Act.put, List.setIfInBounds_toArray, List.set_cons_zero, List.set_cons_succ]
      refine wpAnyH_take (i := 11) (v := ?_) (by simp only [List.getElem?_toArray, List.getElem?_cons_zero, List.getElem?_cons_succ]; rfl) (by kernel_rfl) (by kernel_rfl) (by kernel_rfl) (fun _ _ _ h => h) (Or.inl ⟨by rfl, ?_⟩) (by assumption) ?_
      rotate_left 1
      · intro w hSw
        have hc := hSw.c0
        have hd := hSw.d0
        have he := hSw.e1
        have ha := hSw.at_.c0
        go_simp
        with_reducible rfl
      simp only [Act.put, List.setIfInBounds_toArray, List.set_cons_zero, List.set_cons_succ]
      refine wpAnyH_take (i := 12) (v := ?_) (by simp only [List.getElem?_toArray, List.getElem?_cons_zero, List.getElem?_cons_succ]; rfl) (by kernel_rfl) (by kernel_rfl) (by kernel_rfl) (fun _ _ _ h => h) (Or.inl ⟨by rfl, ?_⟩) (by assumption) ?_
      rotate_left 1
      · intro w hSw
        have hc := hSw.c0
        have hd := hSw.d0
        have he := hSw.e1
        have ha := hSw.at_.c0
        go_simp
        with_reducible rfl
      simp only [Act.put, List.setIfInBounds_toArray, List.set_cons_zero, List.set_cons_succ]
      refine wpAnyH_take (i := 13) (v := ?_) (by simp only [List.getElem?_toArray, List.getElem?_cons_zero, List.getElem?_cons_succ]; rfl) (by kernel_rfl) (by kernel_rfl) (by kernel_rfl) (fun _ _ _ h => h) (Or.inl ⟨by rfl, ?_⟩) (by assumption) ?_
      rotate_left 1
      · intro w hSw
        have hc := hSw.c0
        have hd := hSw.d0
        have he := hSw.e1
        have ha := hSw.at_.c0
        go_simp
        with_reducible rfl
      simp only [Act.put, List.setIfInBounds_toArray, List.set_cons_zero, List.set_cons_succ]
      refine wpAnyH_take (i := 14) (v := ?_) (by simp only [List.getElem?_toArray, List.getElem?_cons_zero, List.getElem?_cons_succ]; rfl) (by kernel_rfl) (by kernel_rfl) (by kernel_rfl) (fun _ _ _ h => h) (Or.inl ⟨by rfl, ?_⟩) (by assumption) ?_
      rotate_left 1
      · intro w hSw
        have hc := hSw.c0
        have hd := hSw.d0
        have he := hSw.e1
        have ha := hSw.at_.c0
        go_simp
        with_reducible rfl
      simp only [Act.put, List.setIfInBounds_toArray, List.set_cons_zero, List.set_cons_succ]
      refine wpAnyH_take (i := 15) (v := ?_) (by simp only [List.getElem?_toArray, List.getElem?_cons_zero, List.getElem?_cons_succ]; rfl) (by kernel_rfl) (by kernel_rfl) (by kernel_rfl) (fun _ _ _ h => h) (Or.inl ⟨by rfl, ?_⟩) (by assumption) ?_
      rotate_left 1
      · intro w hSw
        have hc := hSw.c0
        have hd := hSw.d0
        have he := hSw.e1
        have ha := hSw.at_.c0
        go_simp
        with_reducible rfl
      simp only [Act.put, List.setIfInBounds_toArray, List.set_cons_zero, List.set_cons_succ]
      refine wpAnyH_take (i := 16) (v := ?_) (by simp only [List.getElem?_toArray, List.getElem?_cons_zero, List.getElem?_cons_succ]; rfl) (by kernel_rfl) (by kernel_rfl) (by kernel_rfl) (fun _ _ _ h => h) (Or.inl ⟨by rfl, ?_⟩) (by assumption) ?_
      rotate_left 1
      · intro w hSw
        have hc := hSw.c0
        have hd := hSw.d0
        have he := hSw.e1
        have ha := hSw.at_.c0
        go_simp
        with_reducible rfl
      simp only [Act.put, List.setIfInBounds_toArray, List.set_cons_zero, List.set_cons_succ]
      refine wpAnyH_take (i := 17) (v := ?_) (by simp only [List.getElem?_toArray, List.getElem?_cons_zero, List.getElem?_cons_succ]; rfl) (by kernel_rfl) (by kernel_rfl) (by kernel_rfl) (fun _ _ _ h => h) (Or.inl ⟨by rfl, ?_⟩) (by assumption) ?_
      rotate_left 1
      · intro w hSw
        have hc := hSw.c0
        have hd := hSw.d0
        have he := hSw.e1
        have ha := hSw.at_.c0
        go_simp
        with_reducible rfl
      simp only [Act.put, List.setIfInBounds_toArray, List.set_cons_zero, List.set_cons_succ]
      refine wpAnyH_take (i := 18) (v := ?_) (by simp only [List.getElem?_toArray, List.getElem?_cons_zero, List.getElem?_cons_succ]; rfl) (by kernel_rfl) (by kernel_rfl) (by kernel_rfl) (fun _ _ _ h => h) (Or.inl ⟨by rfl, ?_⟩) (by assumption) ?_
      rotate_left 1
      · intro w hSw
        have hc := hSw.c0
        have hd := hSw.d0
        have he := hSw.e1
        have ha := hSw.at_.c0
        go_simp
        with_reducible rfl
      simp only [Act.put, List.setIfInBounds_toArray, List.set_cons_zero, List.set_cons_succ]
      refine wpAnyH_take (i := 19) (v := ?_) (by simp only [List.getElem?_toArray, List.getElem?_cons_zero, List.getElem?_cons_succ]; rfl) (by kernel_rfl) (by kernel_rfl) (by kernel_rfl) (fun _ _ _ h => h) (Or.inl ⟨by rfl, ?_⟩) (by assumption) ?_
      rotate_left 1
      · intro w hSw
        have hc := hSw.c0
        have hd := hSw.d0
        have he := hSw.e1
        have ha := hSw.at_.c0
        go_simp
        with_reducible rfl
      simp only [Act.put, List.setIfInBounds_toArray, List.set_cons_zero, List.set_cons_succ]
      refine wpAnyH_take (i := 20) (v := ?_) (by simp only [List.getElem?_toArray, List.getElem?_cons_zero, List.getElem?_cons_succ]; rfl) (by kernel_rfl) (by kernel_rfl) (by kernel_rfl) (fun _ _ _ h => h) (Or.inl ⟨by rfl, ?_⟩) (by assumption) ?_
      rotate_left 1
      · intro w hSw
        have hc := hSw.c0
        have hd := hSw.d0
        have he := hSw.e1
        have ha := hSw.at_.c0
        go_simp
        with_reducible rfl
      simp only [Act.put, List.setIfInBounds_toArray, List.set_cons_zero, List.set_cons_succ]
      refine' wpAnyH_take (i := 21) (v := _) (by simp only [List.getElem?_toArray, List.getElem?_cons_zero, List.getElem?_cons_succ]; rfl) (by kernel_rfl) (by kernel_rfl) (by kernel_rfl) (fun _ _ _ h => h) (yields_loadA (by rfl) 64 (.tmp 7) rfl w5.heap.size 0 rfl (ndA kd d t tm) (fun w hSw => load_nodeC hSw.h)) (by assumption) ?_
      simp only [Act.put, List.setIfInBounds_toArray, List.set_cons_zero, List.set_cons_succ]
      refine wpAnyH_take (i := 22) (v := ?_) (by simp only [List.getElem?_toArray, List.getElem?_cons_zero, List.getElem?_cons_succ]; rfl) (by kernel_rfl) (by kernel_rfl) (by kernel_rfl) (fun _ _ _ h => h) (Or.inl ⟨by rfl, ?_⟩) (by assumption) ?_
      rotate_left 1
      · intro w hSw
        have hc := hSw.c0
        have hd := hSw.d0
        have he := hSw.e1
        have ha := hSw.at_.c0
        go_simp
        with_reducible rfl
      simp only [Act.put, List.setIfInBounds_toArray, List.set_cons_zero, List.set_cons_succ]
      refine wpAnyH_take (i := 23) (v := ?_) (by simp only [List.getElem?_toArray, List.getElem?_cons_zero, List.getElem?_cons_succ]; rfl) (by kernel_rfl) (by kernel_rfl) (by kernel_rfl) (fun _ _ _ h => h) (Or.inl ⟨by rfl, ?_⟩) (by assumption) ?_
      rotate_left 1
      · intro w hSw
        have hc := hSw.c0
        have hd := hSw.d0
        have he := hSw.e1
        have ha := hSw.at_.c0
        go_simp
        with_reducible rfl
      simp only [Act.put, List.setIfInBounds_toArray, List.set_cons_zero, List.set_cons_succ]
      refine wpAnyH_take (i := 24) (v := ?_) (by simp only [List.getElem?_toArray, List.getElem?_cons_zero, List.getElem?_cons_succ]; rfl) (by kernel_rfl) (by kernel_rfl) (by kernel_rfl) (fun _ _ _ h => h) (Or.inl ⟨by rfl, ?_⟩) (by assumption) ?_
      rotate_left 1
      · intro w hSw
        have hc := hSw.c0
        have hd := hSw.d0
        have he := hSw.e1
        have ha := hSw.at_.c0
        go_simp
        with_reducible rfl
      simp only [Act.put, List.setIfInBounds_toArray, List.set_cons_zero, List.set_cons_succ]
      refine wpAnyH_take (i := 25) (v := ?_) (by simp only [List.getElem?_toArray, List.getElem?_cons_zero, List.getElem?_cons_succ]; rfl) (by kernel_rfl) (by kernel_rfl) (by kernel_rfl) (fun _ _ _ h => h) (Or.inl ⟨by rfl, ?_⟩) (by assumption) ?_
      rotate_left 1
      · intro w hSw
        have hc := hSw.c0
        have hd := hSw.d0
        have he := hSw.e1
        have ha := hSw.at_.c0
        go_simp
        with_reducible rfl
      simp only [Act.put, List.setIfInBounds_toArray, List.set_cons_zero, List.set_cons_succ]
      refine wpAnyH_take (i := 26) (v := ?_) (by simp only [List.getElem?_toArray, List.getElem?_cons_zero, List.getElem?_cons_succ]; rfl) (by kernel_rfl) (by kernel_rfl) (by kernel_rfl) (fun _ _ _ h => h) (Or.inl ⟨by rfl, ?_⟩) (by assumption) ?_
      rotate_left 1
      · intro w hSw
        have hc := hSw.c0
        have hd := hSw.d0
        have he := hSw.e1
        have ha := hSw.at_.c0
        go_simp
        with_reducible rfl
      simp only [Act.put, List.setIfInBounds_toArray, List.set_cons_zero, List.set_cons_succ]
      refine wpAnyH_take (i := 27) (v := ?_) (by simp only [List.getElem?_toArray, List.getElem?_cons_zero, List.getElem?_cons_succ]; rfl) (by kernel_rfl) (by kernel_rfl) (by kernel_rfl) (fun _ _ _ h => h) (Or.inl ⟨by rfl, ?_⟩) (by assumption) ?_
      rotate_left 1
      · intro w hSw
        have hc := hSw.c0
        have hd := hSw.d0
        have he := hSw.e1
        have ha := hSw.at_.c0
        go_simp
        with_reducible rfl
      simp only [Act.put, List.setIfInBounds_toArray, List.set_cons_zero, List.set_cons_succ]
      refine wpAnyH_take (i := 28) (v := ?_) (by simp only [List.getElem?_toArray, List.getElem?_cons_zero, List.getElem?_cons_succ]; rfl) (by kernel_rfl) (by kernel_rfl) (by kernel_rfl) (fun _ _ _ h => h) (Or.inl ⟨by rfl, ?_⟩) (by assumption) ?_
      rotate_left 1
      · intro w hSw
        have hc := hSw.c0
        have hd := hSw.d0
        have he := hSw.e1
        have ha := hSw.at_.c0
        go_simp
        with_reducible rfl
      simp only [Act.put, List.setIfInBounds_toArray, List.set_cons_zero, List.set_cons_succ]
      refine wpAnyH_take (i := 29) (v := ?_) (by simp only [List.getElem?_toArray, List.getElem?_cons_zero, List.getElem?_cons_succ]; rfl) (by kernel_rfl) (by kernel_rfl) (by kernel_rfl) (fun _ _ _ h => h) (Or.inl ⟨by rfl, ?_⟩) (by assumption) ?_
      rotate_left 1
      · intro w hSw
        have hc := hSw.c0
        have hd := hSw.d0
        have he := hSw.e1
        have ha := hSw.at_.c0
        go_simp
        with_reducible rfl
      simp only [Act.put, List.setIfInBounds_toArray, List.set_cons_zero, List.set_cons_succ]
      refine wpAnyH_take (i := 30) (v := ?_) (by simp only [List.getElem?_toArray, List.getElem?_cons_zero, List.getElem?_cons_succ]; rfl) (by kernel_rfl) (by kernel_rfl) (by kernel_rfl) (fun _ _ _ h => h) (Or.inl ⟨by rfl, ?_⟩) (by assumption) ?_
      rotate_left 1
      · intro w hSw
        have hc := hSw.c0
        have hd := hSw.d0
        have he := hSw.e1
        have ha := hSw.at_.c0
        go_simp
        with_reducible rfl
      simp only [Act.put, List.setIfInBounds_toArray, List.set_cons_zero, List.set_cons_succ]
      refine wpAnyH_take (i := 31) (v := ?_) (by simp only [List.getElem?_toArray, List.getElem?_cons_zero, List.getElem?_cons_succ]; rfl) (by kernel_rfl) (by kernel_rfl) (by kernel_rfl) (fun _ _ _ h => h) (Or.inl ⟨by rfl, ?_⟩) (by assumption) ?_
      rotate_left 1
      · intro w hSw
        have hc := hSw.c0
        have hd := hSw.d0
        have he := hSw.e1
        have ha := hSw.at_.c0
        go_simp
        with_reducible rfl
      simp only [Act.put, List.setIfInBounds_toArray, List.set_cons_zero, List.set_cons_succ]
      refine' wpAnyH_take (i := 32) (v := _) (by simp only [List.getElem?_toArray, List.getElem?_cons_zero, List.getElem?_cons_succ]; rfl) (by kernel_rfl) (by kernel_rfl) (by kernel_rfl) (fun _ _ _ h => h) (yields_loadA (by rfl) 64 (.tmp 107) rfl g (k * 5 + 1) rfl (ndA kd d t tm) (fun w hSw => hSw.at_.node)) (by assumption) ?_
      simp only [Act.put, List.setIfInBounds_toArray, List.set_cons_zero, List.set_cons_succ]
      refine' wpAnyH_take (i := 33) (v := _) (by simp only [List.getElem?_toArray, List.getElem?_cons_zero, List.getElem?_cons_succ]; rfl) (by kernel_rfl) (by kernel_rfl) (by kernel_rfl) (fun _ _ _ h => h) (yields_neq_node (by rfl) (.tmp 97) (.tmp 108) rfl ⟨kd, d, t, tm⟩ ⟨kd, d, t, tm⟩ rfl rfl false (by simp)) (by assumption) ?_
      simp only [Act.put, List.setIfInBounds_toArray, List.set_cons_zero, List.set_cons_succ]
      refine wpAnyH_take (i := 34) (v := ?_) (by simp only [List.getElem?_toArray, List.getElem?_cons_zero, List.getElem?_cons_succ]; rfl) (by kernel_rfl) (by kernel_rfl) (by kernel_rfl) (fun _ _ _ h => h) (Or.inl ⟨by rfl, ?_⟩) (by assumption) ?_
      rotate_left 1
      · intro w hSw
        have hc := hSw.c0
        have hd := hSw.d0
        have he := hSw.e1
        have ha := hSw.at_.c0
        go_simp
        with_reducible rfl
      simp only [Act.put, List.setIfInBounds_toArray, List.set_cons_zero, List.set_cons_succ]
      refine wpAnyH_done (by kernel_rfl) ?_ _
      refine NoPanic.normal ?_
      go_wp2
      go_roundw
      case rel => exact ⟨k + 1, by go_num, by omega, J1.out.trans (Y5.out.mono J1.out.size)⟩
      case measure => simp [intOf]; omega
    · go_wp2
      go_ret
      exact ⟨rfl, B1d.out.trans (J1.out.mono B1d.out.size)⟩
end Go.Proofs.YtlbeemlnbpchgaaGreat
