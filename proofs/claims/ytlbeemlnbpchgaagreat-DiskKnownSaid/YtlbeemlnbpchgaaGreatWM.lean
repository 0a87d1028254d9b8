/- newTree, New, tree.copy, Sync, Fuse: what each does. No conditions but the ones said. -/
import Derived.Test.YtlbeemlnbpchgaaGreatWL
import Derived.Deep.MidRow
namespace Go.Proofs.YtlbeemlnbpchgaaGreat
open Go.RowKit Go.Maps
theorem iTree : (Tryz.prog.info? 59).map (·.size) = some 3 := by kernel_rfl
section
variable {ops : Array Oper} {o : Oper} {a : Act}
theorem step_store_row {w : World} {K : Act → World → Prop} {Q : Exit → Act → World → Prop} {E : Prop} (hw : Region.wanted o (yielded ops a.tmps) = true) (T : TypeId) (x y : Operand) (ho : o.op = .store T x y) (g : Nat) (cs old : Array Value)
    (hx : a.eval x = .pointer (some ⟨g, 0, none⟩)) (hy : a.eval y = .agg cs) (hg : Has w g T old) (hi : (Tryz.prog.info? T).map (·.size) = some cs.size) (hold : old.size = cs.size) (h1 : cs.all (·.oneCell') = true) (hK : K (a.put o.dst undef) (w.setRow g cs)) :
    if Region.wanted o (yielded ops a.tmps) = true then Oper.wp Tryz.prog o a w K Q else E := by
  rw [if_pos hw]
  exact wp_store_row (P := Tryz.prog) T x y ho g cs hx hy T old hg hi hold h1 hK
end
/-- A new tree, by value. -/
def TreeV (w : World) (L : Tr) (u room : Nat) (e : Ending) (w' : World) : Prop :=
  ∃ m, e = .returned (.agg #[.map (some m), .int .i64 (u : Int), .int .i64 (room : Int)]) ∧ MapT w' m L ∧ w.heap.size ≤ m ∧ Below w.heap.size w w'
set_option maxRecDepth 100000 in
set_option maxHeartbeats 2000000 in
theorem newTree_any (room : Nat) (w : World) : Calls Tryz.prog 43 #[.int .i64 (room : Int)] w fun e w' => TreeV w [] 0 room e w' := by
  have hmm := @run_makeMap Tryz.prog
  have M1 : Hid (MapT ((w.alloc (.cells #[.map (some (w.heap.size + 1)), .int .i64 0, .int .i64 (room : Int)] 59)).alloc (.map #[] 0)) (w.heap.size + 1) []) := by
    have := MapT.made (w.alloc (.cells #[.map (some (w.heap.size + 1)), .int .i64 0, .int .i64 (room : Int)] 59))
    show MapT _ _ _
    simpa using this
  have H1 : Hid (Has ((w.alloc (.cells #[.map (some (w.heap.size + 1)), .int .i64 0, .int .i64 (room : Int)] 59)).alloc (.map #[] 0)) w.heap.size 59 #[.map (some (w.heap.size + 1)), .int .i64 0, .int .i64 (room : Int)]) := (Has.fresh _ _ _).more _
  have B1 : Hid (Below w.heap.size w ((w.alloc (.cells #[.map (some (w.heap.size + 1)), .int .i64 0, .int .i64 (room : Int)] 59)).alloc (.map #[] 0))) := ((Below.refl _ _).alloc (Nat.le_refl _) _).alloc (by simp) _
  go_enter Tryz.func43, Tryz.ntmps43
  go_wp2
  refine bodyPost_ret (results_cell_row rfl _ _ w.heap.size 59 _ (0, 0) _ rfl H1.out Tryz.underlying59 rfl iTree) rfl ?_
  exact ⟨w.heap.size + 1, rfl, M1.out, Nat.le_succ _, B1.out⟩
/-- What copy's loads lean on. -/
structure TC (w0 : World) (g o m : Nat) (L : Tr) (u room : Nat) (bx : Nat) (W : World) : Prop where
  c0 : W.cell? ⟨g, o, none⟩ = some (.map (some m))
  c1 : W.cell? ⟨g, o + 1, none⟩ = some (.int .i64 (u : Int))
  c2 : W.cell? ⟨g, o + 2, none⟩ = some (.int .i64 (room : Int))
  mp : MapT W m L
  bx : ∃ cs, Has W bx 59 cs ∧ cs.size = 3
  bl : Below w0.heap.size w0 W
theorem TC.on {w0 W W' : World} {g o m : Nat} {L : Tr} {u room bx : Nat} (h : TC w0 g o m L u room bx W) (hb : Below W.heap.size W W') : TC w0 g o m L u room bx W' := by
  obtain ⟨cs, h1, h2⟩ := h.bx
  have k : g < W.heap.size := block_lt_of_cell (a := ⟨g, o, none⟩) h.c0
  exact ⟨(hb.cell (p := ⟨g, o, none⟩) k).trans h.c0, (hb.cell (p := ⟨g, o + 1, none⟩) k).trans h.c1, (hb.cell (p := ⟨g, o + 2, none⟩) k).trans h.c2, h.mp.kept (hb.block m h.mp.inside), ⟨cs, h1.kept hb h1.inside, h2⟩, h.bl.trans (hb.mono h.bl.size)⟩
theorem TC.store {w0 W : World} {g o m : Nat} {L : Tr} {u room : Nat} (h : TC w0 g o m L u room w0.heap.size W) (hg : g < w0.heap.size) (hm : m < w0.heap.size) (cs' : Array Value) (hs : cs'.size = 3) : TC w0 g o m L u room w0.heap.size (W.setRow w0.heap.size cs') := by
  obtain ⟨cs, h1, h2⟩ := h.bx
  have hr : ∀ k, k ≠ w0.heap.size → (W.setRow w0.heap.size cs').heap[k]? = W.heap[k]? := fun k hk => setRow_other W w0.heap.size k cs' hk
  have hc : ∀ i, (W.setRow w0.heap.size cs').cell? ⟨g, i, none⟩ = W.cell? ⟨g, i, none⟩ := fun i => by
    have := hr g (by omega)
    simp only [World.cell?, this]
  exact ⟨(hc _).trans h.c0, (hc _).trans h.c1, (hc _).trans h.c2, h.mp.kept (hr m (by omega)), ⟨cs', h1.row, hs⟩, h.bl.rowK (Nat.le_refl _) _⟩
set_option maxRecDepth 100000 in
set_option maxHeartbeats 4000000 in
theorem tcopy_any {w : World} {g o m : Nat} {t : TypeId} {cs : Array Value} {L : Tr} {u room : Nat} (h : TreeS w g o m t cs L u room) :
    Calls Tryz.prog 56 #[.pointer (some ⟨g, o, none⟩)] w fun e w' => TreeV w L u room e w' := by
  have S0 : Hid (TC w g o m L u room w.heap.size ((w.alloc (.cells #[.map none, .int .i64 0, .int .i64 0] 59)).drew)) := by
    have hb : Below w.heap.size w ((w.alloc (.cells #[.map none, .int .i64 0, .int .i64 0] 59)).drew) := ((Below.refl _ _).alloc (Nat.le_refl _) _).drew
    have h' := h.on hb (Nat.le_refl _)
    exact ⟨h'.c0, h'.c1, h'.c2, h'.mp, ⟨_, (Has.fresh w 59 _).drawn 1, rfl⟩, hb⟩
  have CC : Hid (Calls Tryz.prog 100 #[.map (some m)] ((w.alloc (.cells #[.map none, .int .i64 0, .int .i64 0] 59)).drew) fun e w' => e = .returned (.map (some (w.heap.size + 1))) ∧ MapT w' (w.heap.size + 1) L ∧ Below ((w.alloc (.cells #[.map none, .int .i64 0, .int .i64 0] 59)).drew).heap.size ((w.alloc (.cells #[.map none, .int .i64 0, .int .i64 0] 59)).drew) w') := by
    have e1 : ((w.alloc (.cells #[.map none, .int .i64 0, .int .i64 0] 59)).drew).heap.size = w.heap.size + 1 := by simp
    refine (clone_any m L _ S0.out.mp).mono fun e w' ⟨h1, h2, _, h4⟩ => ⟨?_, ?_, h4⟩
    · rw [h1, e1]
    · rw [e1] at h2; exact h2
  have HG := hid h.has.inside
  have HM := hid h.mp.inside
  clear h
  go_enter Tryz.func56, Tryz.ntmps56
  go_wp2
  refine wp_region_noPanic ?_
  refine wp_region_held_drew (S := TC w g o m L u room w.heap.size) (by kernel_rfl) (S0.out) (fun hS => ?_)
  refine wpAnyH_take (i := 0) (v := ?_) (by simp only [List.getElem?_toArray, List.getElem?_cons_zero]; rfl) (by kernel_rfl) (by kernel_rfl) (by kernel_rfl) (fun _ _ _ h => h) (Or.inl ⟨by rfl, ?_⟩) (by assumption) ?_
  rotate_left 1
  · intro w hSw
    go_simp
    with_reducible rfl
  simp only [Act.put, List.setIfInBounds_toArray, List.set_cons_zero, List.set_cons_succ]
  refine wpAnyH_take (i := 1) (v := ?_) (by simp only [List.getElem?_toArray, List.getElem?_cons_zero, List.getElem?_cons_succ]; rfl) (by kernel_rfl) (by kernel_rfl) (by kernel_rfl) (fun _ _ _ h => h) (Or.inl ⟨by rfl, ?_⟩) (by assumption) ?_
  rotate_left 1
  · intro w hSw
    go_simp
    with_reducible rfl
  simp only [Act.put, List.setIfInBounds_toArray, List.set_cons_zero, List.set_cons_succ]
  refine wpAnyH_take (i := 2) (v := ?_) (by simp only [List.getElem?_toArray, List.getElem?_cons_zero, List.getElem?_cons_succ]; rfl) (by kernel_rfl) (by kernel_rfl) (by kernel_rfl) (fun _ _ _ h => h) (Or.inl ⟨by rfl, ?_⟩) (by assumption) ?_
  rotate_left 1
  · intro w hSw
    go_simp
    with_reducible rfl
  simp only [Act.put, List.setIfInBounds_toArray, List.set_cons_zero, List.set_cons_succ]
  refine wpAnyH_take (i := 3) (v := ?_) (by simp only [List.getElem?_toArray, List.getElem?_cons_zero, List.getElem?_cons_succ]; rfl) (by kernel_rfl) (by kernel_rfl) (by kernel_rfl) (fun _ _ _ h => h) (Or.inl ⟨by rfl, ?_⟩) (by assumption) ?_
  rotate_left 1
  · intro w hSw
    have hc := hSw.c0
    go_simp
    with_reducible rfl
  simp only [Act.put, List.setIfInBounds_toArray, List.set_cons_zero, List.set_cons_succ]
  refine wpAnyH_take (i := 5) (v := ?_) (by simp only [List.getElem?_toArray, List.getElem?_cons_zero, List.getElem?_cons_succ]; rfl) (by kernel_rfl) (by kernel_rfl) (by kernel_rfl) (fun _ _ _ h => h) (Or.inl ⟨by rfl, ?_⟩) (by assumption) ?_
  rotate_left 1
  · intro w hSw
    go_simp
    with_reducible rfl
  simp only [Act.put, List.setIfInBounds_toArray, List.set_cons_zero, List.set_cons_succ]
  refine wpAnyH_take (i := 6) (v := ?_) (by simp only [List.getElem?_toArray, List.getElem?_cons_zero, List.getElem?_cons_succ]; rfl) (by kernel_rfl) (by kernel_rfl) (by kernel_rfl) (fun _ _ _ h => h) (Or.inl ⟨by rfl, ?_⟩) (by assumption) ?_
  rotate_left 1
  · intro w hSw
    go_simp
    with_reducible rfl
  simp only [Act.put, List.setIfInBounds_toArray, List.set_cons_zero, List.set_cons_succ]
  refine wpAnyH_take (i := 7) (v := ?_) (by simp only [List.getElem?_toArray, List.getElem?_cons_zero, List.getElem?_cons_succ]; rfl) (by kernel_rfl) (by kernel_rfl) (by kernel_rfl) (fun _ _ _ h => h) (Or.inl ⟨by rfl, ?_⟩) (by assumption) ?_
  rotate_left 1
  · intro w hSw
    go_simp
    with_reducible rfl
  simp only [Act.put, List.setIfInBounds_toArray, List.set_cons_zero, List.set_cons_succ]
  refine wpAnyH_take (i := 8) (v := ?_) (by simp only [List.getElem?_toArray, List.getElem?_cons_zero, List.getElem?_cons_succ]; rfl) (by kernel_rfl) (by kernel_rfl) (by kernel_rfl) (fun _ _ _ h => h) (Or.inl ⟨by rfl, ?_⟩) (by assumption) ?_
  rotate_left 1
  · intro w hSw
    have hc := hSw.c1
    go_simp
    with_reducible rfl
  simp only [Act.put, List.setIfInBounds_toArray, List.set_cons_zero, List.set_cons_succ]
  refine wpAnyH_take (i := 9) (v := ?_) (by simp only [List.getElem?_toArray, List.getElem?_cons_zero, List.getElem?_cons_succ]; rfl) (by kernel_rfl) (by kernel_rfl) (by kernel_rfl) (fun _ _ _ h => h) (Or.inl ⟨by rfl, ?_⟩) (by assumption) ?_
  rotate_left 1
  · intro w hSw
    go_simp
    with_reducible rfl
  simp only [Act.put, List.setIfInBounds_toArray, List.set_cons_zero, List.set_cons_succ]
  refine wpAnyH_take (i := 10) (v := ?_) (by simp only [List.getElem?_toArray, List.getElem?_cons_zero, List.getElem?_cons_succ]; rfl) (by kernel_rfl) (by kernel_rfl) (by kernel_rfl) (fun _ _ _ h => h) (Or.inl ⟨by rfl, ?_⟩) (by assumption) ?_
  rotate_left 1
  · intro w hSw
    go_simp
    with_reducible rfl
  simp only [Act.put, List.setIfInBounds_toArray, List.set_cons_zero, List.set_cons_succ]
  refine wpAnyH_take (i := 11) (v := ?_) (by simp only [List.getElem?_toArray, List.getElem?_cons_zero, List.getElem?_cons_succ]; rfl) (by kernel_rfl) (by kernel_rfl) (by kernel_rfl) (fun _ _ _ h => h) (Or.inl ⟨by rfl, ?_⟩) (by assumption) ?_
  rotate_left 1
  · intro w hSw
    go_simp
    with_reducible rfl
  simp only [Act.put, List.setIfInBounds_toArray, List.set_cons_zero, List.set_cons_succ]
  refine wpAnyH_take (i := 12) (v := ?_) (by simp only [List.getElem?_toArray, List.getElem?_cons_zero, List.getElem?_cons_succ]; rfl) (by kernel_rfl) (by kernel_rfl) (by kernel_rfl) (fun _ _ _ h => h) (Or.inl ⟨by rfl, ?_⟩) (by assumption) ?_
  rotate_left 1
  · intro w hSw
    have hc := hSw.c2
    go_simp
    with_reducible rfl
  simp only [Act.put, List.setIfInBounds_toArray, List.set_cons_zero, List.set_cons_succ]
  refine wpAnyH_ready (rs := [4]) (by kernel_rfl) (by simp) ?_
  refine AllReadyH.cons (by simp only [List.getElem?_toArray, List.getElem?_cons_zero, List.getElem?_cons_succ]; rfl) (fun K hK => ?_) AllReadyH.nil
  go_simp
  refine (CC.out).mono ?_
  rintro e1 w1 ⟨rfl, hm1, hb1⟩
  have hz1 := (S0.out.on hb1)
  refine hK.out _ _ hz1 (fun hS => ?_)
  clear hK K hS
  obtain ⟨cs1, hbx1, hbs1⟩ := hz1.bx
  refine wpAnyH_take (i := 13) (v := ?_) (by simp only [List.getElem?_toArray, List.getElem?_cons_zero, List.getElem?_cons_succ]; rfl) (by kernel_rfl) (by kernel_rfl) (by kernel_rfl) (fun _ _ _ h => h) (Or.inl ⟨by rfl, ?_⟩) (by assumption) ?_
  rotate_left 1
  · intro w hSw
    go_simp
    with_reducible rfl
  simp only [Act.put, List.setIfInBounds_toArray, List.set_cons_zero, List.set_cons_succ]
  refine wpAnyH_ready (rs := [14]) (by kernel_rfl) (by simp) ?_
  refine AllReadyH.cons (by simp only [List.getElem?_toArray, List.getElem?_cons_zero, List.getElem?_cons_succ]; rfl) (fun K hK => ?_) AllReadyH.nil
  refine step_store_row (by rfl) 59 (.tmp 2) (.tmp 16) rfl w.heap.size _ cs1 rfl rfl hbx1 (by kernel_rfl) hbs1 (by simp [Value.oneCell']) ?_
  refine hK.out _ _ (hz1.store HG.out HM.out _ rfl) (fun hS => ?_)
  clear hK K hS
  refine wpAnyH_done (by kernel_rfl) ?_ _
  refine NoPanic.normal ?_
  have HR : Hid (Has (w1.setRow w.heap.size #[.map (some (w.heap.size + 1)), .int .i64 (u : Int), .int .i64 (room : Int)]) w.heap.size 59 #[.map (some (w.heap.size + 1)), .int .i64 (u : Int), .int .i64 (room : Int)]) := hbx1.row
  have HM2 : Hid (MapT (w1.setRow w.heap.size #[.map (some (w.heap.size + 1)), .int .i64 (u : Int), .int .i64 (room : Int)]) (w.heap.size + 1) L) := hm1.kept (setRow_other _ _ _ _ (by omega))
  have HB2 := hid ((hz1.store HG.out HM.out #[.map (some (w.heap.size + 1)), .int .i64 (u : Int), .int .i64 (room : Int)] rfl).bl)
  clear hm1 hb1 hbx1 hbs1 hz1
  go_wp2
  refine bodyPost_ret (results_cell_row rfl _ _ w.heap.size 59 _ (0, 0) _ rfl HR.out Tryz.underlying59 rfl iTree) rfl ?_
  exact ⟨w.heap.size + 1, rfl, HM2.out, Nat.le_succ _, HB2.out⟩
/-- A new disk. -/
def NewP (room : Nat) (w : World) (e : Ending) (w' : World) : Prop := ∃ own p, e = .returned (.tuple #[.pointer (some ⟨p, 0, none⟩), .int .i64 0]) ∧ Dsk own w' p (newM room) ∧ (∀ g, own g → w.heap.size ≤ g) ∧ Below w.heap.size w w'
theorem dsk_new {w : World} {m1 m2 room : Nat} (h1 : MapT w m1 []) (h2 : MapT w m2 []) (hne : m1 ≠ m2) (r0 : 1024 ≤ room) (r1 : room ≤ 1048576) (B : Nat) (hB : B ≤ w.heap.size) (b1 : B ≤ m1) (b2 : B ≤ m2) :
    ∃ own, Dsk own (w.alloc (.cells (cellsD m1 m2 (.slice none 0 0) (newM room)) 62)) w.heap.size (newM room) ∧ ∀ g, own g → B ≤ g := by
  have hf := Has.fresh w 62 (cellsD m1 m2 (.slice none 0 0) (newM room))
  have k1 : MapT (w.alloc (.cells (cellsD m1 m2 (.slice none 0 0) (newM room)) 62)) m1 [] := h1.kept (Below.heap_alloc _ _ _ h1.inside)
  have k2 : MapT (w.alloc (.cells (cellsD m1 m2 (.slice none 0 0) (newM room)) 62)) m2 [] := h2.kept (Below.heap_alloc _ _ _ h2.inside)
  refine ⟨fun g => g = w.heap.size ∨ g = m1 ∨ g = m2, ⟨m1, m2, .slice none 0 0, [], ?_⟩, ?_⟩
  · refine ⟨?_, ?_, hf, .inl rfl, .inr (.inl rfl), .inr (.inr rfl), k1, k2, hne, World.ownsRow_nil _ _ _ _, fun b hb => (by cases hb), ⟨rfl, fun i h => (by simp at h)⟩, Good.new room, r0, r1, Nat.zero_le _⟩
    · rintro g (e | e | e) <;> rw [e]
      · exact hf.inside
      · exact k1.inside
      · exact k2.inside
    · rintro g (e | e | e) <;> rw [e]
      · exact hf.loose (by decide)
      · exact k1.loose
      · exact k2.loose
  · rintro g (e | e | e) <;> omega
set_option maxRecDepth 100000 in
set_option maxHeartbeats 4000000 in
theorem dNew_any (room : Nat) (w : World) (r0 : 1024 ≤ room) (r1 : room ≤ 1048576) : Calls Tryz.prog 10 #[.int .i64 (room : Int)] w fun e w' => NewP room w e w' := by
  have C1 := hid (fun W => newTree_any room W)
  have d1 : decide ((room : Int) < 1024) = false := by simp; omega
  have d2 : decide ((1048576 : Int) < (room : Int)) = false := by simp; omega
  have R0 := hid r0
  have R1 := hid r1
  go_enter Tryz.func10, Tryz.ntmps10
  go_wp2_with fail
  refine (C1.out _).mono ?_; rintro e1 w1 ⟨m1, rfl, hm1, hl1, hb1⟩
  have M1 := hid hm1
  have B1 := hid hb1
  have L1 := hid hl1
  clear hm1 hb1 hl1
  go_wp2_with fail
  refine (C1.out _).mono ?_; rintro e2 w2 ⟨m2, rfl, hm2, hl2, hb2⟩
  have M2 := hid hm2
  have M12 : Hid (MapT w2 m1 []) := M1.out.kept (hb2.block m1 M1.out.inside)
  have B2 := hid (B1.out.trans (hb2.mono B1.out.size))
  have L2 := hid hl2
  have HNE : Hid (m1 ≠ m2) := by have := M1.out.inside; show ¬ _; omega
  have HL2 : Hid (w.heap.size ≤ m2) := Nat.le_trans B1.out.size hl2
  clear hm2 hb2 hl2
  go_wp2
  go_ret2
  obtain ⟨own, k1, k2⟩ := dsk_new M12.out M2.out HNE.out R0.out R1.out w.heap.size B2.out.size L1.out HL2.out
  exact ⟨own, w2.heap.size, rfl, k1, k2, B2.out.alloc B2.out.size _⟩
set_option maxRecDepth 100000 in
set_option maxHeartbeats 4000000 in
theorem dNew_no (room : Int) (w : World) (h : room < 1024 ∨ 1048576 < room) : Calls Tryz.prog 10 #[.int .i64 room] w fun e w' => e = .returned (.tuple #[.pointer none, .int .i64 2]) ∧ w = w' := by
  by_cases h1 : room < 1024
  · have d1 : decide (room < 1024) = true := by simpa using h1
    go_enter Tryz.func10, Tryz.ntmps10
    go_wp2
    go_ret2
    exact ⟨rfl, rfl⟩
  · have d1 : decide (room < 1024) = false := by simpa using h1
    have d2 : decide (1048576 < room) = true := by simp; omega
    go_enter Tryz.func10, Tryz.ntmps10
    go_wp2
    go_ret2
    exact ⟨rfl, rfl⟩
end Go.Proofs.YtlbeemlnbpchgaaGreat
