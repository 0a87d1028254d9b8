/- Several texts in one: WM, WN, WO. Conditions: those said at each. -/
import Derived.Test.YtlbeemlnbpchgaaGreatQI
import Derived.Deep.MidRow
/- newTree, New, tree.copy, Sync, Fuse: what each does. No conditions but the ones said. -/
namespace Go.Proofs.YtlbeemlnbpchgaaGreat
open Go.RowKit Go.Maps
theorem iTree : (Tryz.prog.info? 59).map (·.size) = some 3 := by kernel_rfl
section
variable {ops : Array Oper} {o : Oper} {a : Act}
theorem step_store_row {w : World} {K : Act → World → Prop} {Q : Exit → Act → World → Prop} {E : Prop} (hw : Region.wanted o (yielded ops a.tmps) = true) (T : TypeId) (x y : Operand) (ho : o.op = .store T x y) (g : Nat) (cs old : Array Value)
    (hx : a.eval x = .pointer (some ⟨g, 0, none⟩)) (hy : a.eval y = .agg cs) (hg : Has w g T old) (hi : (Tryz.prog.info? T).map (·.size) = some cs.size) (hold : old.size = cs.size) (h1 : cs.all (·.oneCell') = true) (hK : K (a.put o.dst undef) (w.setRow g cs)) :
    if Region.wanted o (yielded ops a.tmps) = true then Oper.wp Tryz.prog o a w K Q else E := by
  rw [if_pos hw]
  exact wp_store_row (P := Tryz.prog) T x y ho g cs hx hy T old hg hi hold h1 hK
end
/-- A new tree, by value. -/
def TreeV (w : World) (L : Tr) (u room : Nat) (e : Ending) (w' : World) : Prop :=
  ∃ m, e = .returned (.agg #[.map (some m), .int .i64 (u : Int), .int .i64 (room : Int)]) ∧ MapT w' m L ∧ w.heap.size ≤ m ∧ Below w.heap.size w w'
set_option maxRecDepth 100000 in
set_option maxHeartbeats 2000000 in
theorem newTree_any (room : Nat) (w : World) : Calls Tryz.prog 43 #[.int .i64 (room : Int)] w fun e w' => TreeV w [] 0 room e w' := by
  have hmm := @run_makeMap Tryz.prog
  have M1 : Hid (MapT ((w.alloc (.cells #[.map (some (w.heap.size + 1)), .int .i64 0, .int .i64 (room : Int)] 59)).alloc (.map #[] 0)) (w.heap.size + 1) []) := by
    have := MapT.made (w.alloc (.cells #[.map (some (w.heap.size + 1)), .int .i64 0, .int .i64 (room : Int)] 59))
    show MapT _ _ _
    simpa using this
  have H1 : Hid (Has ((w.alloc (.cells #[.map (some (w.heap.size + 1)), .int .i64 0, .int .i64 (room : Int)] 59)).alloc (.map #[] 0)) w.heap.size 59 #[.map (some (w.heap.size + 1)), .int .i64 0, .int .i64 (room : Int)]) := (Has.fresh _ _ _).more _
  have B1 : Hid (Below w.heap.size w ((w.alloc (.cells #[.map (some (w.heap.size + 1)), .int .i64 0, .int .i64 (room : Int)] 59)).alloc (.map #[] 0))) := ((Below.refl _ _).alloc (Nat.le_refl _) _).alloc (by simp) _
  go_enter Tryz.func43, Tryz.ntmps43
  go_wp2
  refine bodyPost_ret (results_cell_row rfl _ _ w.heap.size 59 _ (0, 0) _ rfl H1.out Tryz.underlying59 rfl iTree) rfl ?_
  exact ⟨w.heap.size + 1, rfl, M1.out, Nat.le_succ _, B1.out⟩
/-- What copy's loads lean on. -/
structure TC (w0 : World) (g o m : Nat) (L : Tr) (u room : Nat) (bx : Nat) (W : World) : Prop where
  c0 : W.cell? ⟨g, o, none⟩ = some (.map (some m))
  c1 : W.cell? ⟨g, o + 1, none⟩ = some (.int .i64 (u : Int))
  c2 : W.cell? ⟨g, o + 2, none⟩ = some (.int .i64 (room : Int))
  mp : MapT W m L
  bx : ∃ cs, Has W bx 59 cs ∧ cs.size = 3
  bl : Below w0.heap.size w0 W
theorem TC.on {w0 W W' : World} {g o m : Nat} {L : Tr} {u room bx : Nat} (h : TC w0 g o m L u room bx W) (hb : Below W.heap.size W W') : TC w0 g o m L u room bx W' := by
  obtain ⟨cs, h1, h2⟩ := h.bx
  have k : g < W.heap.size := block_lt_of_cell (a := ⟨g, o, none⟩) h.c0
  exact ⟨(hb.cell (p := ⟨g, o, none⟩) k).trans h.c0, (hb.cell (p := ⟨g, o + 1, none⟩) k).trans h.c1, (hb.cell (p := ⟨g, o + 2, none⟩) k).trans h.c2, h.mp.kept (hb.block m h.mp.inside), ⟨cs, h1.kept hb h1.inside, h2⟩, h.bl.trans (hb.mono h.bl.size)⟩
theorem TC.store {w0 W : World} {g o m : Nat} {L : Tr} {u room : Nat} (h : TC w0 g o m L u room w0.heap.size W) (hg : g < w0.heap.size) (hm : m < w0.heap.size) (cs' : Array Value) (hs : cs'.size = 3) : TC w0 g o m L u room w0.heap.size (W.setRow w0.heap.size cs') := by
  obtain ⟨cs, h1, h2⟩ := h.bx
  have hr : ∀ k, k ≠ w0.heap.size → (W.setRow w0.heap.size cs').heap[k]? = W.heap[k]? := fun k hk => setRow_other W w0.heap.size k cs' hk
  have hc : ∀ i, (W.setRow w0.heap.size cs').cell? ⟨g, i, none⟩ = W.cell? ⟨g, i, none⟩ := fun i => by
    have := hr g (by omega)
    simp only [World.cell?, this]
  exact ⟨(hc _).trans h.c0, (hc _).trans h.c1, (hc _).trans h.c2, h.mp.kept (hr m (by omega)), ⟨cs', h1.row, hs⟩, h.bl.rowK (Nat.le_refl _) _⟩
set_option maxRecDepth 100000 in
set_option maxHeartbeats 4000000 in
theorem tcopy_any {w : World} {g o m : Nat} {t : TypeId} {cs : Array Value} {L : Tr} {u room : Nat} (h : TreeS w g o m t cs L u room) :
    Calls Tryz.prog 56 #[.pointer (some ⟨g, o, none⟩)] w fun e w' => TreeV w L u room e w' := by
  have S0 : Hid (TC w g o m L u room w.heap.size ((w.alloc (.cells #[.map none, .int .i64 0, .int .i64 0] 59)).drew)) := by
    have hb : Below w.heap.size w ((w.alloc (.cells #[.map none, .int .i64 0, .int .i64 0] 59)).drew) := ((Below.refl _ _).alloc (Nat.le_refl _) _).drew
    have h' := h.on hb (Nat.le_refl _)
    exact ⟨h'.c0, h'.c1, h'.c2, h'.mp, ⟨_, (Has.fresh w 59 _).drawn 1, rfl⟩, hb⟩
  have CC : Hid (Calls Tryz.prog 100 #[.map (some m)] ((w.alloc (.cells #[.map none, .int .i64 0, .int .i64 0] 59)).drew) fun e w' => e = .returned (.map (some (w.heap.size + 1))) ∧ MapT w' (w.heap.size + 1) L ∧ Below ((w.alloc (.cells #[.map none, .int .i64 0, .int .i64 0] 59)).drew).heap.size ((w.alloc (.cells #[.map none, .int .i64 0, .int .i64 0] 59)).drew) w') := by
    have e1 : ((w.alloc (.cells #[.map none, .int .i64 0, .int .i64 0] 59)).drew).heap.size = w.heap.size + 1 := by simp
    refine (clone_any m L _ S0.out.mp).mono fun e w' ⟨h1, h2, _, h4⟩ => ⟨?_, ?_, h4⟩
    · rw [h1, e1]
    · rw [e1] at h2; exact h2
  have HG := hid h.has.inside
  have HM := hid h.mp.inside
  clear h
  go_enter Tryz.func56, Tryz.ntmps56
  go_wp2
  refine wp_region_noPanic ?_
  refine wp_region_held_drew (S := TC w g o m L u room w.heap.size) (by kernel_rfl) (S0.out) (fun hS => ?_)
  refine wpAnyH_take (i := 0) (v := ?_) (by simp only [List.getElem?_toArray, List.getElem?_cons_zero]; rfl) (by kernel_rfl) (by kernel_rfl) (by kernel_rfl) (fun _ _ _ h => h) (Or.inl ⟨by rfl, ?_⟩) (by assumption) ?_
  rotate_left 1
  · intro w hSw
    go_simp
    with_reducible rfl
  simp only [Act.put, List.setIfInBounds_toArray, List.set_cons_zero, List.set_cons_succ]
  refine wpAnyH_take (i := 1) (v := ?_) (by simp only [List.getElem?_toArray, List.getElem?_cons_zero, List.getElem?_cons_succ]; rfl) (by kernel_rfl) (by kernel_rfl) (by kernel_rfl) (fun _ _ _ h => h) (Or.inl ⟨by rfl, ?_⟩) (by assumption) ?_
  rotate_left 1
  · intro w hSw
    go_simp
    with_reducible rfl
  simp only [Act.put, List.setIfInBounds_toArray, List.set_cons_zero, List.set_cons_succ]
  refine wpAnyH_take (i := 2) (v := ?_) (by simp only [List.getElem?_toArray, List.getElem?_cons_zero, List.getElem?_cons_succ]; rfl) (by kernel_rfl) (by kernel_rfl) (by kernel_rfl) (fun _ _ _ h => h) (Or.inl ⟨by rfl, ?_⟩) (by assumption) ?_
  rotate_left 1
  · intro w hSw
    go_simp
    with_reducible rfl
  simp only [Act.put, List.setIfInBounds_toArray, List.set_cons_zero, List.set_cons_succ]
  refine wpAnyH_take (i := 3) (v := ?_) (by simp only [List.getElem?_toArray, List.getElem?_cons_zero, List.getElem?_cons_succ]; rfl) (by kernel_rfl) (by kernel_rfl) (by kernel_rfl) (fun _ _ _ h => h) (Or.inl ⟨by rfl, ?_⟩) (by assumption) ?_
  rotate_left 1
  · intro w hSw
    have hc := hSw.c0
    go_simp
    with_reducible rfl
  simp only [Act.put, List.setIfInBounds_toArray, List.set_cons_zero, List.set_cons_succ]
  refine wpAnyH_take (i := 5) (v := ?_) (by simp only [List.getElem?_toArray, List.getElem?_cons_zero, List.getElem?_cons_succ]; rfl) (by kernel_rfl) (by kernel_rfl) (by kernel_rfl) (fun _ _ _ h => h) (Or.inl ⟨by rfl, ?_⟩) (by assumption) ?_
  rotate_left 1
  · intro w hSw
    go_simp
    with_reducible rfl
  simp only [Act.put, List.setIfInBounds_toArray, List.set_cons_zero, List.set_cons_succ]
  refine wpAnyH_take (i := 6) (v := ?_) (by simp only [List.getElem?_toArray, List.getElem?_cons_zero, List.getElem?_cons_succ]; rfl) (by kernel_rfl) (by kernel_rfl) (by kernel_rfl) (fun _ _ _ h => h) (Or.inl ⟨by rfl, ?_⟩) (by assumption) ?_
  rotate_left 1
  · intro w hSw
    go_simp
    with_reducible rfl
  simp only [Act.put, List.setIfInBounds_toArray, List.set_cons_zero, List.set_cons_succ]
  refine wpAnyH_take (i := 7) (v := ?_) (by simp only [List.getElem?_toArray, List.getElem?_cons_zero, List.getElem?_cons_succ]; rfl) (by kernel_rfl) (by kernel_rfl) (by kernel_rfl) (fun _ _ _ h => h) (Or.inl ⟨by rfl, ?_⟩) (by assumption) ?_
  rotate_left 1
  · intro w hSw
    go_simp
    with_reducible rfl
  simp only [Act.put, List.setIfInBounds_toArray, List.set_cons_zero, List.set_cons_succ]
  refine wpAnyH_take (i := 8) (v := ?_) (by simp only [List.getElem?_toArray, List.getElem?_cons_zero, List.getElem?_cons_succ]; rfl) (by kernel_rfl) (by kernel_rfl) (by kernel_rfl) (fun _ _ _ h => h) (Or.inl ⟨by rfl, ?_⟩) (by assumption) ?_
  rotate_left 1
  · intro w hSw
    have hc := hSw.c1
    go_simp
    with_reducible rfl
  simp only [Act.put, List.setIfInBounds_toArray, List.set_cons_zero, List.set_cons_succ]
  refine wpAnyH_take (i := 9) (v := ?_) (by simp only [List.getElem?_toArray, List.getElem?_cons_zero, List.getElem?_cons_succ]; rfl) (by kernel_rfl) (by kernel_rfl) (by kernel_rfl) (fun _ _ _ h => h) (Or.inl ⟨by rfl, ?_⟩) (by assumption) ?_
  rotate_left 1
  · intro w hSw
    go_simp
    with_reducible rfl
  simp only [Act.put, List.setIfInBounds_toArray, List.set_cons_zero, List.set_cons_succ]
  refine wpAnyH_take (i := 10) (v := ?_) (by simp only [List.getElem?_toArray, List.getElem?_cons_zero, List.getElem?_cons_succ]; rfl) (by kernel_rfl) (by kernel_rfl) (by kernel_rfl) (fun _ _ _ h => h) (Or.inl ⟨by rfl, ?_⟩) (by assumption) ?_
  rotate_left 1
  · intro w hSw
    go_simp
    with_reducible rfl
  simp only [Act.put, List.setIfInBounds_toArray, List.set_cons_zero, List.set_cons_succ]
  refine wpAnyH_take (i := 11) (v := ?_) (by simp only [List.getElem?_toArray, List.getElem?_cons_zero, List.getElem?_cons_succ]; rfl) (by kernel_rfl) (by kernel_rfl) (by kernel_rfl) (fun _ _ _ h => h) (Or.inl ⟨by rfl, ?_⟩) (by assumption) ?_
  rotate_left 1
  · intro w hSw
    go_simp
    with_reducible rfl
  simp only [Act.put, List.setIfInBounds_toArray, List.set_cons_zero, List.set_cons_succ]
  refine wpAnyH_take (i := 12) (v := ?_) (by simp only [List.getElem?_toArray, List.getElem?_cons_zero, List.getElem?_cons_succ]; rfl) (by kernel_rfl) (by kernel_rfl) (by kernel_rfl) (fun _ _ _ h => h) (Or.inl ⟨by rfl, ?_⟩) (by assumption) ?_
  rotate_left 1
  · intro w hSw
    have hc := hSw.c2
    go_simp
    with_reducible rfl
  simp only [Act.put, List.setIfInBounds_toArray, List.set_cons_zero, List.set_cons_succ]
  refine wpAnyH_ready (rs := [4]) (by kernel_rfl) (by simp) ?_
  refine AllReadyH.cons (by simp only [List.getElem?_toArray, List.getElem?_cons_zero, List.getElem?_cons_succ]; rfl) (fun K hK => ?_) AllReadyH.nil
  go_simp
  refine (CC.out).mono ?_
  rintro e1 w1 ⟨rfl, hm1, hb1⟩
  have hz1 := (S0.out.on hb1)
  refine hK.out _ _ hz1 (fun hS => ?_)
  clear hK K hS
  obtain ⟨cs1, hbx1, hbs1⟩ := hz1.bx
  refine wpAnyH_take (i := 13) (v := ?_) (by simp only [List.getElem?_toArray, List.getElem?_cons_zero, List.getElem?_cons_succ]; rfl) (by kernel_rfl) (by kernel_rfl) (by kernel_rfl) (fun _ _ _ h => h) (Or.inl ⟨by rfl, ?_⟩) (by assumption) ?_
  rotate_left 1
  · intro w hSw
    go_simp
    with_reducible rfl
  simp only [Act.put, List.setIfInBounds_toArray, List.set_cons_zero, List.set_cons_succ]
  refine wpAnyH_ready (rs := [14]) (by kernel_rfl) (by simp) ?_
  refine AllReadyH.cons (by simp only [List.getElem?_toArray, List.getElem?_cons_zero, List.getElem?_cons_succ]; rfl) (fun K hK => ?_) AllReadyH.nil
  refine step_store_row (by rfl) 59 (.tmp 2) (.tmp 16) rfl w.heap.size _ cs1 rfl rfl hbx1 (by kernel_rfl) hbs1 (by simp [Value.oneCell']) ?_
  refine hK.out _ _ (hz1.store HG.out HM.out _ rfl) (fun hS => ?_)
  clear hK K hS
  refine wpAnyH_done (by kernel_rfl) ?_ _
  refine NoPanic.normal ?_
  have HR : Hid (Has (w1.setRow w.heap.size #[.map (some (w.heap.size + 1)), .int .i64 (u : Int), .int .i64 (room : Int)]) w.heap.size 59 #[.map (some (w.heap.size + 1)), .int .i64 (u : Int), .int .i64 (room : Int)]) := hbx1.row
  have HM2 : Hid (MapT (w1.setRow w.heap.size #[.map (some (w.heap.size + 1)), .int .i64 (u : Int), .int .i64 (room : Int)]) (w.heap.size + 1) L) := hm1.kept (setRow_other _ _ _ _ (by omega))
  have HB2 := hid ((hz1.store HG.out HM.out #[.map (some (w.heap.size + 1)), .int .i64 (u : Int), .int .i64 (room : Int)] rfl).bl)
  clear hm1 hb1 hbx1 hbs1 hz1
  go_wp2
  refine bodyPost_ret (results_cell_row rfl _ _ w.heap.size 59 _ (0, 0) _ rfl HR.out Tryz.underlying59 rfl iTree) rfl ?_
  exact ⟨w.heap.size + 1, rfl, HM2.out, Nat.le_succ _, HB2.out⟩
/-- A new disk. -/
def NewP (room : Nat) (w : World) (e : Ending) (w' : World) : Prop := ∃ own p, e = .returned (.tuple #[.pointer (some ⟨p, 0, none⟩), .int .i64 0]) ∧ Dsk own w' p (newM room) ∧ (∀ g, own g → w.heap.size ≤ g) ∧ Below w.heap.size w w'
theorem dsk_new {w : World} {m1 m2 room : Nat} (h1 : MapT w m1 []) (h2 : MapT w m2 []) (hne : m1 ≠ m2) (r0 : 1024 ≤ room) (r1 : room ≤ 1048576) (B : Nat) (hB : B ≤ w.heap.size) (b1 : B ≤ m1) (b2 : B ≤ m2) :
    ∃ own, Dsk own (w.alloc (.cells (cellsD m1 m2 (.slice none 0 0) (newM room)) 62)) w.heap.size (newM room) ∧ ∀ g, own g → B ≤ g := by
  have hf := Has.fresh w 62 (cellsD m1 m2 (.slice none 0 0) (newM room))
  have k1 : MapT (w.alloc (.cells (cellsD m1 m2 (.slice none 0 0) (newM room)) 62)) m1 [] := h1.kept (Below.heap_alloc _ _ _ h1.inside)
  have k2 : MapT (w.alloc (.cells (cellsD m1 m2 (.slice none 0 0) (newM room)) 62)) m2 [] := h2.kept (Below.heap_alloc _ _ _ h2.inside)
  refine ⟨fun g => g = w.heap.size ∨ g = m1 ∨ g = m2, ⟨m1, m2, .slice none 0 0, [], ?_⟩, ?_⟩
  · refine ⟨?_, ?_, hf, .inl rfl, .inr (.inl rfl), .inr (.inr rfl), k1, k2, hne, World.ownsRow_nil _ _ _ _, fun b hb => (by cases hb), ⟨rfl, fun i h => (by simp at h)⟩, Good.new room, r0, r1, Nat.zero_le _⟩
    · rintro g (e | e | e) <;> rw [e]
      · exact hf.inside
      · exact k1.inside
      · exact k2.inside
    · rintro g (e | e | e) <;> rw [e]
      · exact hf.loose (by decide)
      · exact k1.loose
      · exact k2.loose
  · rintro g (e | e | e) <;> omega
set_option maxRecDepth 100000 in
set_option maxHeartbeats 4000000 in
theorem dNew_any (room : Nat) (w : World) (r0 : 1024 ≤ room) (r1 : room ≤ 1048576) : Calls Tryz.prog 10 #[.int .i64 (room : Int)] w fun e w' => NewP room w e w' := by
  have C1 := hid (fun W => newTree_any room W)
  have d1 : decide ((room : Int) < 1024) = false := by simp; omega
  have d2 : decide ((1048576 : Int) < (room : Int)) = false := by simp; omega
  have R0 := hid r0
  have R1 := hid r1
  go_enter Tryz.func10, Tryz.ntmps10
  go_wp2_with fail
  refine (C1.out _).mono ?_; rintro e1 w1 ⟨m1, rfl, hm1, hl1, hb1⟩
  have M1 := hid hm1
  have B1 := hid hb1
  have L1 := hid hl1
  clear hm1 hb1 hl1
  go_wp2_with fail
  refine (C1.out _).mono ?_; rintro e2 w2 ⟨m2, rfl, hm2, hl2, hb2⟩
  have M2 := hid hm2
  have M12 : Hid (MapT w2 m1 []) := M1.out.kept (hb2.block m1 M1.out.inside)
  have B2 := hid (B1.out.trans (hb2.mono B1.out.size))
  have L2 := hid hl2
  have HNE : Hid (m1 ≠ m2) := by have := M1.out.inside; show ¬ _; omega
  have HL2 : Hid (w.heap.size ≤ m2) := Nat.le_trans B1.out.size hl2
  clear hm2 hb2 hl2
  go_wp2
  go_ret2
  obtain ⟨own, k1, k2⟩ := dsk_new M12.out M2.out HNE.out R0.out R1.out w.heap.size B2.out.size L1.out HL2.out
  exact ⟨own, w2.heap.size, rfl, k1, k2, B2.out.alloc B2.out.size _⟩
set_option maxRecDepth 100000 in
set_option maxHeartbeats 4000000 in
theorem dNew_no (room : Int) (w : World) (h : room < 1024 ∨ 1048576 < room) : Calls Tryz.prog 10 #[.int .i64 room] w fun e w' => e = .returned (.tuple #[.pointer none, .int .i64 2]) ∧ w = w' := by
  by_cases h1 : room < 1024
  · have d1 : decide (room < 1024) = true := by simpa using h1
    go_enter Tryz.func10, Tryz.ntmps10
    go_wp2
    go_ret2
    exact ⟨rfl, rfl⟩
  · have d1 : decide (room < 1024) = false := by simpa using h1
    have d2 : decide (1048576 < room) = true := by simp; omega
    go_enter Tryz.func10, Tryz.ntmps10
    go_wp2
    go_ret2
    exact ⟨rfl, rfl⟩
end Go.Proofs.YtlbeemlnbpchgaaGreat
/- Disk.Sync, Fuse: each as the plain model says. Conditions: as at the disk. -/
namespace Go.Proofs.YtlbeemlnbpchgaaGreat
open Go.RowKit Go.Maps
/-- A disk whose maps are others, with no effects since. -/
theorem DPost.swap {own : Nat → Prop} {w w1 w3 : World} {p a1 a2 : Nat} {M : Mo} (hT : Turn own w w1) (op : own p) (x1 : MapT w1 a1 M.now) (x2 : MapT w1 a2 M.last) (hne : a1 ≠ a2) (n1 : a1 ≠ p) (n2 : a2 ≠ p)
    (o1 : own a1 ∨ w.heap.size ≤ a1) (o2 : own a2 ∨ w.heap.size ≤ a2) (u3 : Turn (One p) w1 w3) (h3 : Has w3 p 62 (cellsD a1 a2 (.slice none 0 0) M)) (hs : M.since = []) (hg : Good M) (r0 : 1024 ≤ M.room) (r1 : M.room ≤ 1048576) : DPost own w p M w3 := by
  have k1 : MapT w3 a1 M.now := x1.kept (u3.block a1 x1.inside (fun k => n1 k))
  have k2 : MapT w3 a2 M.last := x2.kept (u3.block a2 x2.inside (fun k => n2 k))
  refine ⟨fun g => g = p ∨ g = a1 ∨ g = a2, ⟨a1, a2, .slice none 0 0, [], ?_⟩, hT.then (u3.mono (fun g k => by rw [k]; exact op)), ?_⟩
  · refine ⟨?_, ?_, h3, .inl rfl, .inr (.inl rfl), .inr (.inr rfl), k1, k2, hne, World.ownsRow_nil _ _ _ _, fun b hb => (by cases hb), ⟨by rw [hs]; rfl, fun i h => (by simp at h)⟩, hg, r0, r1, by rw [hs]; simp⟩
    · rintro g (e | e | e) <;> rw [e]
      · exact h3.inside
      · exact k1.inside
      · exact k2.inside
    · rintro g (e | e | e) <;> rw [e]
      · exact h3.loose (by decide)
      · exact k1.loose
      · exact k2.loose
  · rintro g (e | e | e) <;> rw [e]
    · exact .inl op
    · exact o1
    · exact o2
theorem Has.there {w : World} {g : Nat} {t : TypeId} {cs : Array Value} (h : Has w g t cs) (o n : Nat) (hn : o + n ≤ cs.size) : w.there g o n := fun j hj => by
  refine ⟨?_, h.free _⟩
  rw [h.at_, Array.getElem?_eq_getElem (by omega)]; rfl
theorem Has.put3 {w : World} {g : Nat} {t : TypeId} {cs : Array Value} (h : Has w g t cs) (o : Nat) (a b c : Value) : Has (w.setCells g o [a, b, c]) g t (((cs.setIfInBounds o a).setIfInBounds (o + 1) b).setIfInBounds (o + 2) c) :=
  ((h.put o a).put (o + 1) b).put (o + 1 + 1) c
theorem Turn.set3 (w : World) (p o : Nat) (a b c : Value) : Turn (One p) w (w.setCells p o [a, b, c]) :=
  ((Turn.set (own := One p) w p o a rfl).then (Turn.set _ p (o + 1) b rfl)).then (Turn.set _ p (o + 1 + 1) c rfl)
set_option maxRecDepth 100000 in
set_option maxHeartbeats 4000000 in
theorem dFuse_any {own : Nat → Prop} {w : World} {p : Nat} {M : Mo} (h : Dsk own w p M) (n : Int) (hn : n ≤ 9223372036854775807) :
    Calls Tryz.prog 36 #[.pointer (some ⟨p, 0, none⟩), .int .i64 n] w fun e w' => e = .returned (.int .i64 (fuseM M n).1) ∧ DPost own w p (fuseM M n).2 w' := by
  obtain ⟨m1, m2, sv, vs, h⟩ := h
  have C1 := hid h.ready
  have H := hid h
  have HNN := hid hn
  by_cases h0 : n < 0
  · have d0 : decide (n < 0) = true := by simpa using h0
    have HD : Hid (fuseM M n = (2, M)) := by show _ = _; unfold fuseM; rw [if_pos h0]
    have hr : readyE M.fuse = 20 ∨ readyE M.fuse = 0 := by unfold readyE; split <;> simp
    clear h h0 hn
    rcases hr with hr | hr
    all_goals
      rw [hr] at C1
      clear hr
      go_enter Tryz.func36, Tryz.ntmps36
      go_wp2_with (go_at_call 78; refine C1.out.mono ?_; rintro e1 w1 ⟨rfl, rfl⟩)
      go_ret
      rw [HD.out]
      exact ⟨rfl, DPost.refl ⟨_, _, _, _, H.out⟩ (Below.refl _ _)⟩
  · have d0 : decide (n < 0) = false := by simpa using h0
    by_cases hf : M.fuse = 0
    · have HR : Hid (readyE M.fuse = 20) := readyE_off hf
      have HD : Hid (fuseM M n = (20, M)) := by show _ = _; unfold fuseM; rw [if_neg h0, if_pos hf]
      rw [HR.out] at C1
      clear h hf h0 hn
      go_enter Tryz.func36, Tryz.ntmps36
      go_wp2_with (go_at_call 78; refine C1.out.mono ?_; rintro e1 w1 ⟨rfl, rfl⟩)
      go_ret
      rw [HD.out]
      exact ⟨rfl, DPost.refl ⟨_, _, _, _, H.out⟩ (Below.refl _ _)⟩
    · have HR : Hid (readyE M.fuse = 0) := readyE_on hf
      have HD : Hid (fuseM M n = (0, ⟨M.now, M.last, M.since, n, M.room⟩)) := by show _ = _; unfold fuseM; rw [if_neg h0, if_neg hf]
      have HGD : Hid (Good ⟨M.now, M.last, M.since, n, M.room⟩) := by have := h.good.fuse hn; rw [HD.out] at this; exact this
      rw [HR.out] at C1
      have c7 : w.cell? ⟨p, 7, none⟩ = some (.int .i64 M.fuse) := h.has.at_ 7
      have f7 := h.has.free 7
      clear h hf h0 hn
      go_enter Tryz.func36, Tryz.ntmps36
      go_wp2_with (go_at_call 78; refine C1.out.mono ?_; rintro e1 w1 ⟨rfl, rfl⟩)
      go_ret
      rw [HD.out]
      have hu : Turn (One p) w (w.setCell ⟨p, 7, none⟩ (.int .i64 n)) := Turn.set w p 7 _ rfl
      have hh : Has (w.setCell ⟨p, 7, none⟩ (.int .i64 n)) p 62 (cellsD m1 m2 sv ⟨M.now, M.last, M.since, n, M.room⟩) := H.out.has.put 7 _
      have hu2 : Turn own w (w.setCell ⟨p, 7, none⟩ (.int .i64 n)) := hu.mono (fun g k => by rw [k]; exact H.out.op)
      have hsv : ∀ b, sv.ownBlock = some b → b ≠ p := by
        intro b hb e
        obtain ⟨cur, hc⟩ := row_kind H.out.row hb
        have := H.out.has
        unfold Has at this
        rw [← e, hc] at this
        injection this with this; injection this with _ this; revert this; decide
      refine ⟨rfl, own, ⟨m1, m2, sv, vs, ⟨fun g hg => Nat.lt_of_lt_of_le (H.out.low g hg) hu.size, fun g hg => ?_, hh, H.out.op, H.out.o1, H.out.o2, H.out.t1.kept (hu.block m1 H.out.t1.inside (fun k => H.out.pne1 k)), H.out.t2.kept (hu.block m2 H.out.t2.inside (fun k => H.out.pne2 k)), H.out.ne,
        row_of H.out.row (fun b hb => hu.block b (H.out.low b (H.out.osv b hb)) (fun k => hsv b hb k)), H.out.osv, H.out.effs.gx (Gx.of_turn hu2 H.out.loose), HGD.out, H.out.r0, H.out.r1, H.out.len⟩⟩, hu2, fun _ k => .inl k⟩
      by_cases e : g = p
      · rw [e]; exact hh.loose (by decide)
      · intro cs t q ho
        exact H.out.loose g hg cs t q ((hu.block g (H.out.low g hg) e).symm.trans ho)
set_option maxRecDepth 100000 in
set_option maxHeartbeats 4000000 in
theorem dSync_any {own : Nat → Prop} {w : World} {p : Nat} {M : Mo} (h : Dsk own w p M) :
    Calls Tryz.prog 29 #[.pointer (some ⟨p, 0, none⟩)] w fun e w' => e = .returned (.int .i64 (syncM M).1) ∧ DPost own w p (syncM M).2 w' := by
  obtain ⟨m1, m2, sv, vs, h⟩ := h
  have C1 := hid h.ready
  have H := hid h
  by_cases hf : M.fuse = 0
  · have HR : Hid (readyE M.fuse = 20) := readyE_off hf
    have HD : Hid (syncM M = (20, M)) := by show _ = _; unfold syncM; rw [if_pos hf]
    rw [HR.out] at C1
    clear h hf
    go_enter Tryz.func29, Tryz.ntmps29
    go_wp2_with (go_at_call 78; refine C1.out.mono ?_; rintro e1 w1 ⟨rfl, rfl⟩)
    go_ret
    rw [HD.out]
    exact ⟨rfl, DPost.refl ⟨_, _, _, _, H.out⟩ (Below.refl _ _)⟩
  · have HR : Hid (readyE M.fuse = 0) := readyE_on hf
    have HD : Hid (syncM M = (0, ⟨M.now, M.now, [], burnF M.fuse, M.room⟩)) := by show _ = _; unfold syncM; rw [if_neg hf]
    have HGD : Hid (Good ⟨M.now, M.now, [], burnF M.fuse, M.room⟩) := by have := h.good.sync; rw [HD.out] at this; exact this
    rw [HR.out] at C1
    have CC := hid (tcopy_any h.tr1)
    clear h hf
    go_enter Tryz.func29, Tryz.ntmps29
    go_wp2_with fail
    refine C1.out.mono ?_; rintro e1 w1 ⟨rfl, rfl⟩
    go_wp2_with fail
    refine CC.out.mono ?_; rintro e2 w2 ⟨m', rfl, hm', hl', hb2⟩
    have M2 := hid hm'
    have L2 := hid hl'
    have B2 := hid hb2
    have P2 : Hid (Has w2 p 62 (cellsD m1 m2 sv M)) := H.out.has.kept hb2 (H.out.low p H.out.op)
    clear hm' hl' hb2
    obtain ⟨w3, HW3⟩ : ∃ w3, Hid (w2.setCells p 3 [.map (some m'), .int .i64 ((usedL M.now : Nat) : Int), .int .i64 (M.room : Int)] = w3) := ⟨_, rfl⟩
    have P3 : Hid (Has w3 p 62 (cellsD m1 m' sv ⟨M.now, M.now, M.since, M.fuse, M.room⟩)) := by rw [← HW3.out]; exact P2.out.put3 3 _ _ _
    have U3 : Hid (Turn (One p) w2 w3) := by rw [← HW3.out]; exact Turn.set3 _ _ _ _ _ _
    have c6 := P3.out.at_ 6
    have f6 := P3.out.free 6
    have TH := hid (P2.out.there 3 3 (by show 3 + 3 ≤ 8; omega))
    go_wp2_with (refine wpList_store_mid rfl 59 (.tmp 16) (.tmp 14) rfl p 3 #[.map (some m'), .int .i64 ((usedL M.now : Nat) : Int), .int .i64 (M.room : Int)] rfl rfl TH.out (by kernel_rfl) (by simp [Value.oneCell']) ?_; change wpList _ _ _ _ _ (World.setCells w2 p 3 [.map (some m'), .int .i64 ((usedL M.now : Nat) : Int), .int .i64 (M.room : Int)]); rw [HW3.out])
    have P4 : Hid (Has (w3.setCell ⟨p, 6, none⟩ (.slice none 0 0)) p 62 (cellsD m1 m' (.slice none 0 0) ⟨M.now, M.now, [], M.fuse, M.room⟩)) := P3.out.put 6 _
    have CB := hid (dburn_any P4.out (f := M.fuse) rfl H.out.good.f0 H.out.good.f1)
    refine CB.out.mono ?_; rintro e4 w4 ⟨rfl, hu4, h4⟩
    have U4 := hid ((U3.out.then (Turn.set w3 p 6 (.slice none 0 0) rfl)).then hu4)
    have H4 : Hid (Has w4 p 62 (cellsD m1 m' (.slice none 0 0) ⟨M.now, M.now, [], burnF M.fuse, M.room⟩)) := h4
    clear hu4 h4
    go_wp2
    go_ret
    rw [HD.out]
    have hw := H.out.t1.inside
    have hpw := H.out.low p H.out.op
    exact ⟨rfl, DPost.swap (Turn.of_below B2.out) H.out.op (H.out.t1.kept (B2.out.block m1 hw)) M2.out (by have := L2.out; omega) H.out.pne1 (by have := L2.out; omega) (.inl H.out.o1) (.inr L2.out) U4.out H4.out rfl HGD.out H.out.r0 H.out.r1⟩
end Go.Proofs.YtlbeemlnbpchgaaGreat
/- Disk.Crash: as the plain model says. Conditions: as at the disk; at most a billion picks. -/
namespace Go.Proofs.YtlbeemlnbpchgaaGreat
open Go.RowKit Go.Maps
/-- Picks lie there. -/
structure Pk (w : World) (A : Option Addr) (ks : List UInt8) (g off : Nat) : Prop where
  src : 0 < ks.length → A = some ⟨g, off, none⟩
  at_ : ∀ i, i < ks.length → w.cell? ⟨g, off + i, none⟩ = some (.int .u8 (b8 (ks.getD i 0)))
  inside : 0 < ks.length → g < w.heap.size
theorem Pk.turn {own : Nat → Prop} {w w' : World} {A : Option Addr} {ks : List UInt8} {g off : Nat} (h : Pk w A ks g off) (hu : Turn own w w') (hn : 0 < ks.length → ¬ own g) : Pk w' A ks g off :=
  ⟨h.src, fun i hi => by
    rw [← h.at_ i hi]
    have := hu.block g (h.inside (by omega)) (hn (by omega))
    simp only [World.cell?, this], fun h0 => Nat.lt_of_lt_of_le (h.inside h0) hu.size⟩
def nats (ks : List UInt8) : List Nat := ks.map (·.toNat)
/-- What Crash's loop keeps. -/
structure Cr (own : Nat → Prop) (w wr : World) (p m1 m2 : Nat) (sv : Value) (vs : List Value) (M : Mo) (L : Tr) (A : Option Addr) (ks : List UInt8) (g off : Nat) : Prop where
  tr : TreeS wr p 3 m2 62 (cellsD m1 m2 sv ⟨M.now, L, M.since, M.fuse, M.room⟩) L (usedL L) M.room
  wf : WFT M.room L
  tu : Turn own w wr
  ef : AllEff wr vs M.since
  row : wr.ownsRow 0 97 1 sv vs.length vs
  pk : Pk wr A ks g off
theorem Cr.step {own : Nat → Prop} {w wr w2 : World} {p m1 m2 : Nat} {sv : Value} {vs : List Value} {M : Mo} {L L' : Tr} {A : Option Addr} {ks : List UInt8} {g off : Nat} (h : Cr own w wr p m1 m2 sv vs M L A ks g off)
    (op : own p) (o2 : own m2) (hpk : 0 < ks.length → ¬ own g) (hu : Turn (Two p m2) wr w2) (ht : TreeS w2 p 3 m2 62 ((cellsD m1 m2 sv ⟨M.now, L, M.since, M.fuse, M.room⟩).setIfInBounds (3 + 1) (.int .i64 ((usedL L' : Nat) : Int))) L' (usedL L') M.room) (hw : WFT M.room L') :
    Cr own w w2 p m1 m2 sv vs M L' A ks g off where
  tr := ht
  wf := hw
  tu := h.tu.then (hu.mono (fun k hk => by rcases hk with e | e <;> rw [e]; exact op; exact o2))
  ef := h.ef.gx (h.tr.gx hu)
  row := row_of h.row (fun b hb => hu.block b (by obtain ⟨cur, hc⟩ := row_kind h.row hb; exact (Array.getElem?_eq_some_iff.1 hc).1) (fun k => by
    obtain ⟨cur, hc⟩ := row_kind h.row hb
    rcases k with e | e
    · have := h.tr.has
      unfold Has at this
      rw [← e, hc] at this
      injection this with this; injection this with _ this; revert this; decide
    · obtain ⟨es, ck, hh, _⟩ := h.tr.mp
      rw [← e, hc] at hh; cases hh))
  pk := h.pk.turn (hu.mono (fun k hk => by rcases hk with e | e <;> rw [e]; exact op; exact o2)) hpk
theorem row_cell {w : World} {B : Nat} {e : TypeId} {v : Value} {xs : List Value} (h : w.ownsRow B e 1 v xs.length xs) (i : Nat) (hi : i < xs.length) : ∃ g c, v = .slice (some ⟨g, 0, none⟩) xs.length c ∧ w.cell? ⟨g, i, none⟩ = some xs[i] := by
  rcases h.2 with ⟨k1, k2⟩ | ⟨g', c, cur, k1, _, k3, _, _, _, k6⟩
  · omega
  · refine ⟨g', c, k1, ?_⟩
    rw [cell_of_row w g' i cur e (0, 0) k3]
    have e2 : cur.toList[i]? = xs[i]? := by rw [← k6, List.getElem?_take, if_pos (by omega)]
    rw [← Array.getElem?_toList, e2, List.getElem?_eq_getElem hi]
theorem crash_next (room : Nat) (L : Tr) (xs : List Eff) (ks : List UInt8) (k : Nat) (h1 : k < xs.length) (h2 : k < ks.length) :
    crashL room L (xs.take (k + 1)) ((nats ks).take (k + 1)) = pickE room (crashL room L (xs.take k) ((nats ks).take k)) xs[k] (ks.getD k 0).toNat := by
  have e1 : xs.take (k + 1) = xs.take k ++ [xs[k]] := List.take_succ_eq_append_getElem h1
  have e2 : (nats ks).take (k + 1) = (nats ks).take k ++ [(ks.getD k 0).toNat] := by
    rw [List.take_succ_eq_append_getElem (by unfold nats; simpa using h2)]
    simp [nats, List.getD, List.getElem?_eq_getElem h2]
  rw [e1, e2, crash_snoc]
  rw [List.length_take, List.length_take]
  unfold nats
  rw [List.length_map]; omega
set_option maxRecDepth 100000 in
set_option maxHeartbeats 8000000 in
theorem dCrash_any {own : Nat → Prop} {w : World} {p : Nat} {M : Mo} (h : Dsk own w p M) (hG : Gd w) (hlow : ∀ g, own g → 0 < g) (A : Option Addr) (ks : List UInt8) (cp g off : Nat) (hk : Pk w A ks g off) (hpk : 0 < ks.length → ¬ own g) (hkl : ks.length ≤ 9223372036854775807) :
    Calls Tryz.prog 18 #[.pointer (some ⟨p, 0, none⟩), .slice A ks.length cp] w fun e w' => e = .returned (.int .i64 0) ∧ DPost own w p (crashM M (nats ks)) w' := by
  obtain ⟨m1, m2, sv, vs, h⟩ := h
  have H := hid h
  have C1 := hid (dmade_any (m1 := m1) (h.has.at_ 0))
  have c6 : w.cell? ⟨p, 6, none⟩ = some sv := h.has.at_ 6
  obtain ⟨A6, n6, hsv⟩ := row_form h.row
  obtain ⟨nv, HNV⟩ : ∃ n, Hid (vs.length = n) := ⟨_, rfl⟩
  obtain ⟨nk, HNK⟩ : ∃ n, Hid (ks.length = n) := ⟨_, rfl⟩
  rw [HNV.out] at hsv
  rw [hsv] at c6
  rw [HNK.out]
  have HSV := hid hsv
  have hcap : nv ≤ n6 := by
    rcases h.row.2 with ⟨k1, k2⟩ | ⟨g', c, cur, k1, _, k3, k4, k5, k6⟩
    · rw [hsv] at k1; injection k1 with _ k1 k7; omega
    · rw [hsv] at k1; injection k1 with _ k1 k7; omega
  obtain ⟨n, HN⟩ : ∃ n, Hid (min nv nk = n) := ⟨_, rfl⟩
  have hmin : min (nv : Int) (nk : Int) = (n : Int) := by have := HN.out; omega
  have hn1 : n ≤ n6 := by have := HN.out; omega
  have hn2 : n ≤ 100000 := by have := HN.out; have := h.effs.1; have := h.len; have := HNV.out; omega
  have hnv : nv ≤ 100000 := by have := h.effs.1; have := h.len; have := HNV.out; omega
  have hnk : (nk : Int) ≤ 9223372036854775807 := by have := HNK.out; omega
  have HNKL := hid hkl
  have HG := hid hG
  have HK := hid hk
  have HPK := hid hpk
  clear h hG hk hpk hsv hkl
  go_enter Tryz.func18, Tryz.ntmps18
  go_wp2_with (go_at_call 55; refine C1.out.mono ?_; rintro e1 w1 ⟨rfl, rfl⟩)
  go_quiet (fail)
  have S0 : Hid (Cr own w (w.drewN nq) p m1 m2 sv vs M M.last A ks g off) := ⟨H.out.tr2.kept rfl rfl, H.out.good.w2, ⟨rfl, rfl, rfl, Nat.le_refl _, fun _ _ _ => rfl⟩, H.out.effs.gx ⟨Nat.le_refl _, fun _ _ _ _ k _ => k⟩, row_of H.out.row (fun _ _ => rfl), ⟨HK.out.src, HK.out.at_, HK.out.inside⟩⟩
  clear c6 hmin hcap hn1 hnk
  go_wp2
  go_loopw [25] (fun i wr => ∃ k : Nat, i = .int .i64 (k : Int) ∧ k ≤ n ∧ Hid (Cr own w wr p m1 m2 sv vs M (crashL M.room M.last (M.since.take k) ((nats ks).take k)) A ks g off))
    (fun i _ => n - (intOf i).toNat)
  case atStart => exact ⟨0, rfl, Nat.zero_le _, S0⟩
  case round =>
    obtain ⟨k, rfl, hk, HC⟩ := hrel
    by_cases hlt : k < n
    · have hkv : k < vs.length := by have := HN.out; have := HNV.out; omega
      have hks : k < M.since.length := by have := H.out.effs.1; omega
      have hkk : k < ks.length := by have := HN.out; have := HNK.out; omega
      have hkn : k < nk := by have := HN.out; omega
      obtain ⟨g6, c6, e6, hcell⟩ := row_cell HC.out.row k hkv
      have e7 := HSV.out.symm.trans e6
      injection e7 with e7 e8 e9
      clear e8 e9
      subst e7
      have hA := HC.out.pk.src (by omega)
      subst hA
      have hcp := HC.out.pk.at_ k hkk
      have hef := HC.out.ef.2 k hkv hks
      have HNX := hid (crash_next M.room M.last M.since ks k hks hkk)
      obtain ⟨x, hx9⟩ : ∃ x, x = M.since[k] := ⟨_, rfl⟩
      rw [← hx9] at hef HNX
      clear hx9
      obtain ⟨c, HCC⟩ : ∃ c, Hid (ks.getD k 0 = c) := ⟨_, rfl⟩
      rw [HCC.out] at hcp HNX
      obtain ⟨hd, fk, lb, ev, ek, hcall⟩ := hef
      rw [ev] at hcell
      have HCALL := hid (fun most hm => hcall wr p 3 m2 _ _ M.room most (Gx.refl _) HC.out.tr HC.out.wf H.out.r1 (HG.out.below (HC.out.tu.below (B := 1) (fun g hg => hlow g hg) HG.out.pos) (by omega)) hm)
      obtain ⟨L, HLL⟩ : ∃ L, Hid (crashL M.room M.last (M.since.take k) ((nats ks).take k) = L) := ⟨_, rfl⟩
      rw [HLL.out] at HC HCALL HNX
      have b0 := b8_nonneg c
      have b1 := b8_lt c
      have HBN : Hid (b8 c = (c.toNat : Int)) := rfl
      have HDD := hid hd
      clear ev e6 hkv hks hkk hcall hd
      by_cases z0 : b8 c = 0
      · have q0 : (b8 c == 0) = true := by simpa using z0
        have HZ : Hid (pickE M.room L x c.toNat = L) := by show _ = _; unfold pickE; rw [if_pos (by have := HBN.out; omega)]
        clear z0
        go_wp2
        go_roundw
        case rel => exact ⟨k + 1, by go_num, by omega, by show Cr _ _ _ _ _ _ _ _ _ _ _ _ _ _; rw [HNX.out, HZ.out]; exact HC.out⟩
        case measure => simp [intOf]; omega
      · have q0 : (b8 c == 0) = false := by simpa using z0
        by_cases z1 : b8 c = 1
        · have q1 : (b8 c == 1) = true := by simpa using z1
          have HZ : Hid (pickE M.room L x c.toNat = (stepE M.room L x).2) := by show _ = _; unfold pickE; rw [if_neg (by have := HBN.out; omega), if_pos (by have := HBN.out; omega)]
          have CK : Hid (Calls Tryz.prog fk (#[.pointer (some ⟨p, 3, none⟩), .int .i64 9223372036854775807] ++ lb) wr fun e w' => SP wr p 3 m2 62 (cellsD m1 m2 sv ⟨M.now, L, M.since, M.fuse, M.room⟩) M.room (stepE M.room L x) e w') := by
            have := HCALL.out 9223372036854775807 (by omega)
            rw [cutE_all x _ (by have := HDD.out; omega)] at this
            exact this
          clear z0 z1
          go_wp2_with fail
          refine CK.out.mono ?_; rintro e2 w2 ⟨rfl, hu2, ht2⟩
          have HC2 := hid (HC.out.step H.out.op H.out.o2 HPK.out hu2 ht2 (step_wft HC.out.wf x))
          clear hu2 ht2
          go_wp2
          go_roundw
          case rel =>
            have HCF : Hid (Cr own w w2 p m1 m2 sv vs M (crashL M.room M.last (M.since.take (k + 1)) ((nats ks).take (k + 1))) (some ⟨g, off, none⟩) ks g off) := by
              show Cr _ _ _ _ _ _ _ _ _ _ _ _ _ _; rw [HNX.out, HZ.out]; exact HC2.out
            exact ⟨k + 1, by go_num, by omega, HCF⟩
          case measure => simp [intOf]; omega
        · have q1 : (b8 c == 1) = false := by simpa using z1
          have h2 : 2 ≤ b8 c := by omega
          have HZ : Hid (pickE M.room L x c.toNat = (stepE M.room L (cutE x (c.toNat - 2))).2) := by show _ = _; unfold pickE; rw [if_neg (by have := HBN.out; omega), if_neg (by have := HBN.out; omega)]
          have CK : Hid (Calls Tryz.prog fk (#[.pointer (some ⟨p, 3, none⟩), .int .i64 (b8 c - 2)] ++ lb) wr fun e w' => SP wr p 3 m2 62 (cellsD m1 m2 sv ⟨M.now, L, M.since, M.fuse, M.room⟩) M.room (stepE M.room L (cutE x (c.toNat - 2))) e w') := by
            have := HCALL.out (c.toNat - 2) (by have := HBN.out; omega)
            rw [show ((c.toNat - 2 : Nat) : Int) = b8 c - 2 by have := HBN.out; omega] at this
            exact this
          clear z0 z1
          go_wp2_with fail
          refine CK.out.mono ?_; rintro e2 w2 ⟨rfl, hu2, ht2⟩
          have HC2 := hid (HC.out.step H.out.op H.out.o2 HPK.out hu2 ht2 (step_wft HC.out.wf _))
          clear hu2 ht2
          go_wp2
          go_roundw
          case rel =>
            have HCF : Hid (Cr own w w2 p m1 m2 sv vs M (crashL M.room M.last (M.since.take (k + 1)) ((nats ks).take (k + 1))) (some ⟨g, off, none⟩) ks g off) := by
              show Cr _ _ _ _ _ _ _ _ _ _ _ _ _ _; rw [HNX.out, HZ.out]; exact HC2.out
            exact ⟨k + 1, by go_num, by omega, HCF⟩
          case measure => simp [intOf]; omega
    · have HKN : Hid (k = n) := by show _ = _; omega
      have HLN : Hid (crashL M.room M.last (M.since.take k) ((nats ks).take k) = crashL M.room M.last M.since (nats ks)) := by
        show _ = _
        refine (crash_take M.room M.since (nats ks) M.last k ?_).symm
        have e1 := HN.out; have e2 := HNV.out; have e3 := HNK.out; have e4 := H.out.effs.1; have e5 := HKN.out
        unfold nats; rw [List.length_map]; omega
      rw [HLN.out] at HC
      obtain ⟨L, HLL⟩ : ∃ L, Hid (crashL M.room M.last M.since (nats ks) = L) := ⟨_, rfl⟩
      rw [HLL.out] at HC
      have HGD : Hid (Good ⟨L, L, [], -1, M.room⟩) := by have := H.out.good.crash (nats ks); unfold crashM at this; rw [HLL.out] at this; exact this
      have HM : Hid (crashM M (nats ks) = ⟨L, L, [], -1, M.room⟩) := by show _ = _; unfold crashM; rw [HLL.out]
      have CC := hid (tcopy_any HC.out.tr)
      go_wp2_with fail
      refine CC.out.mono ?_; rintro e2 w2 ⟨m', rfl, hm', hl', hb2⟩
      have M2 := hid hm'
      have L2 := hid hl'
      have B2 := hid hb2
      have P2 : Hid (Has w2 p 62 (cellsD m1 m2 sv ⟨M.now, L, M.since, M.fuse, M.room⟩)) := HC.out.tr.has.kept hb2 HC.out.tr.has.inside
      clear hm' hl' hb2
      obtain ⟨w3, HW3⟩ : ∃ w3, Hid (w2.setCells p 0 [.map (some m'), .int .i64 ((usedL L : Nat) : Int), .int .i64 (M.room : Int)] = w3) := ⟨_, rfl⟩
      have P3 : Hid (Has w3 p 62 (cellsD m' m2 sv ⟨L, L, M.since, M.fuse, M.room⟩)) := by rw [← HW3.out]; exact P2.out.put3 0 _ _ _
      have U3 : Hid (Turn (One p) w2 w3) := by rw [← HW3.out]; exact Turn.set3 _ _ _ _ _ _
      have c6 := P3.out.at_ 6
      have f6 := P3.out.free 6
      have c7 := P3.out.at_ 7
      have f7 := P3.out.free 7
      have TH := hid (P2.out.there 0 3 (by show 0 + 3 ≤ 8; omega))
      go_wp2_with (refine wpList_store_mid rfl 59 (.tmp 61) (.tmp 59) rfl p 0 #[.map (some m'), .int .i64 ((usedL L : Nat) : Int), .int .i64 (M.room : Int)] rfl rfl TH.out (by kernel_rfl) (by simp [Value.oneCell']) ?_; change wpList _ _ _ _ _ (World.setCells w2 p 0 [.map (some m'), .int .i64 ((usedL L : Nat) : Int), .int .i64 (M.room : Int)]); rw [HW3.out])
      go_ret
      rw [HM.out]
      have h4 : Has ((w3.setCell ⟨p, 6, none⟩ (.slice none 0 0)).setCell ⟨p, 7, none⟩ (.int .i64 (-1))) p 62 (cellsD m' m2 (.slice none 0 0) ⟨L, L, [], -1, M.room⟩) := (P3.out.put 6 _).put 7 _
      have hm2 := HC.out.tr.mp.inside
      have hpw := HC.out.tr.has.inside
      have hsz := HC.out.tu.size
      exact ⟨rfl, DPost.swap (HC.out.tu.then (Turn.of_below B2.out)) H.out.op M2.out (HC.out.tr.mp.kept (B2.out.block m2 hm2)) (by have := L2.out; omega) (by have := L2.out; omega) HC.out.tr.ne (.inr (by have := L2.out; omega)) (.inl H.out.o2) ((U3.out.then (Turn.set w3 p 6 _ rfl)).then (Turn.set _ p 7 _ rfl)) h4 rfl HGD.out H.out.r0 H.out.r1⟩
end Go.Proofs.YtlbeemlnbpchgaaGreat
