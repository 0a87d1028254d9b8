/- Several texts in one. Conditions: those said at each. -/
import Derived.Test.YtabidnlbgdecbaaGreatDoorKa00
import Derived.Deep.MidRow
import Derived.Test.YtabidnlbgdecbaaGreatDoorKa03
import Derived.Lib.OwnBridge
import Derived.ChangeKeysEq
import Derived.Lib.AppendZeros
import Derived.Lib.ConvBytes
import Derived.Laws.IdiomStrings
set_option linter.unusedSimpArgs false
set_option linter.unusedVariables false
set_option maxRecDepth 100000
namespace Go.Proofs.YtabidnlbgdecbaaGreatDoor
open Go.RowKit Go.Maps
theorem iTree : (Tryz.prog.info? 85).map (·.size) = some 3 := by kernel_rfl
section
variable {ops : Array Oper} {o : Oper} {a : Act}
theorem step_store_row {w : World} {K : Act → World → Prop} {Q : Exit → Act → World → Prop} {E : Prop} (hw : Region.wanted o (yielded ops a.tmps) = true) (T : TypeId) (x y : Operand) (ho : o.op = .store T x y) (g : Nat) (cs old : Array Value)
 (hx : a.eval x = .pointer (some ⟨g, 0, none⟩)) (hy : a.eval y = .agg cs) (hg : Has w g T old) (hi : (Tryz.prog.info? T).map (·.size) = some cs.size) (hold : old.size = cs.size) (h1 : cs.all (·.oneCell') = true) (hK : K (a.put o.dst undef) (w.setRow g cs)) :
 if Region.wanted o (yielded ops a.tmps) = true then Oper.wp Tryz.prog o a w K Q else E := by
 rw [if_pos hw]
 exact wp_store_row (P := Tryz.prog) T x y ho g cs hx hy T old hg hi hold h1 hK
end
def TreeV (w : World) (L : Tr) (u room : Nat) (e : Ending) (w' : World) : Prop :=
 ∃ m, e = .returned (.agg #[.map (some m), .int .i64 (u : Int), .int .i64 (room : Int)]) ∧ MapT w' m L ∧ w.heap.size ≤ m ∧ Below w.heap.size w w'
set_option maxHeartbeats 2000000 in
theorem newTree_any (room : Nat) (w : World) : Calls Tryz.prog 54 #[.int .i64 (room : Int)] w fun e w' => TreeV w [] 0 room e w' := by
 have hmm := @run_makeMap Tryz.prog
 have M1 : Hid (MapT ((w.alloc (.cells #[.map (some (w.heap.size + 1)), .int .i64 0, .int .i64 (room : Int)] 85)).alloc (.map #[] 0)) (w.heap.size + 1) []) := by
  have := MapT.made (w.alloc (.cells #[.map (some (w.heap.size + 1)), .int .i64 0, .int .i64 (room : Int)] 85))
  show MapT _ _ _
  simpa using this
 have H1 : Hid (Has ((w.alloc (.cells #[.map (some (w.heap.size + 1)), .int .i64 0, .int .i64 (room : Int)] 85)).alloc (.map #[] 0)) w.heap.size 85 #[.map (some (w.heap.size + 1)), .int .i64 0, .int .i64 (room : Int)]) := (Has.fresh _ _ _).more _
 have B1 : Hid (Below w.heap.size w ((w.alloc (.cells #[.map (some (w.heap.size + 1)), .int .i64 0, .int .i64 (room : Int)] 85)).alloc (.map #[] 0))) := ((Below.refl _ _).alloc (Nat.le_refl _) _).alloc (by simp) _
 go_enter Tryz.func54, Tryz.ntmps54
 go_wp2
 refine bodyPost_ret (results_cell_row rfl _ _ w.heap.size 85 _ (0, 0) _ rfl H1.out Tryz.underlying85 rfl iTree) rfl ?_
 exact ⟨w.heap.size + 1, rfl, M1.out, Nat.le_succ _, B1.out⟩
structure TC (w0 : World) (g o m : Nat) (L : Tr) (u room : Nat) (bx : Nat) (W : World) : Prop where
 c0 : W.cell? ⟨g, o, none⟩ = some (.map (some m))
 c1 : W.cell? ⟨g, o + 1, none⟩ = some (.int .i64 (u : Int))
 c2 : W.cell? ⟨g, o + 2, none⟩ = some (.int .i64 (room : Int))
 mp : MapT W m L
 bx : ∃ cs, Has W bx 85 cs ∧ cs.size = 3
 bl : Below w0.heap.size w0 W
theorem TC.on {w0 W W' : World} {g o m : Nat} {L : Tr} {u room bx : Nat} (h : TC w0 g o m L u room bx W) (hb : Below W.heap.size W W') : TC w0 g o m L u room bx W' := by
 obtain ⟨cs, h1, h2⟩ := h.bx
 have k : g < W.heap.size := block_lt_of_cell (a := ⟨g, o, none⟩) h.c0
 exact ⟨(hb.cell (p := ⟨g, o, none⟩) k).trans h.c0, (hb.cell (p := ⟨g, o + 1, none⟩) k).trans h.c1, (hb.cell (p := ⟨g, o + 2, none⟩) k).trans h.c2, h.mp.kept (hb.block m h.mp.inside), ⟨cs, h1.kept hb h1.inside, h2⟩, h.bl.trans (hb.mono h.bl.size)⟩
theorem TC.store {w0 W : World} {g o m : Nat} {L : Tr} {u room : Nat} (h : TC w0 g o m L u room w0.heap.size W) (hg : g < w0.heap.size) (hm : m < w0.heap.size) (cs' : Array Value) (hs : cs'.size = 3) : TC w0 g o m L u room w0.heap.size (W.setRow w0.heap.size cs') := by
 obtain ⟨cs, h1, h2⟩ := h.bx
 have hr : ∀ k, k ≠ w0.heap.size → (W.setRow w0.heap.size cs').heap[k]? = W.heap[k]? := fun k hk => setRow_other W w0.heap.size k cs' hk
 have hc : ∀ i, (W.setRow w0.heap.size cs').cell? ⟨g, i, none⟩ = W.cell? ⟨g, i, none⟩ := fun i => by
  have := hr g (by omega)
  simp only [World.cell?, this]
 exact ⟨(hc _).trans h.c0, (hc _).trans h.c1, (hc _).trans h.c2, h.mp.kept (hr m (by omega)), ⟨cs', h1.row, hs⟩, h.bl.rowK (Nat.le_refl _) _⟩
set_option maxHeartbeats 4000000 in
theorem tcopy_any {w : World} {g o m : Nat} {t : TypeId} {cs : Array Value} {L : Tr} {u room : Nat} (h : TreeS w g o m t cs L u room) :
 Calls Tryz.prog 85 #[.pointer (some ⟨g, o, none⟩)] w fun e w' => TreeV w L u room e w' := by
 have S0 : Hid (TC w g o m L u room w.heap.size ((w.alloc (.cells #[.map none, .int .i64 0, .int .i64 0] 85)).drew)) := by
  have hb : Below w.heap.size w ((w.alloc (.cells #[.map none, .int .i64 0, .int .i64 0] 85)).drew) := ((Below.refl _ _).alloc (Nat.le_refl _) _).drew
  have h' := h.on hb (Nat.le_refl _)
  exact ⟨h'.c0, h'.c1, h'.c2, h'.mp, ⟨_, (Has.fresh w 85 _).drawn 1, rfl⟩, hb⟩
 have CC : Hid (Calls Tryz.prog 132 #[.map (some m)] ((w.alloc (.cells #[.map none, .int .i64 0, .int .i64 0] 85)).drew) fun e w' => e = .returned (.map (some (w.heap.size + 1))) ∧ MapT w' (w.heap.size + 1) L ∧ Below ((w.alloc (.cells #[.map none, .int .i64 0, .int .i64 0] 85)).drew).heap.size ((w.alloc (.cells #[.map none, .int .i64 0, .int .i64 0] 85)).drew) w') := by
  have e1 : ((w.alloc (.cells #[.map none, .int .i64 0, .int .i64 0] 85)).drew).heap.size = w.heap.size + 1 := by simp
  refine (clone_any m L _ S0.out.mp).mono fun e w' ⟨h1, h2, _, h4⟩ => ⟨?_, ?_, h4⟩
  · rw [h1, e1]
  · rw [e1] at h2; exact h2
 have HG := hid h.has.inside
 have HM := hid h.mp.inside
 clear h
 go_enter Tryz.func85, Tryz.ntmps85
 go_wp2
 refine wp_region_noPanic ?_
 refine wp_region_held_drew (S := TC w g o m L u room w.heap.size) (by kernel_rfl) (S0.out) (fun hS => ?_)
 refine tkH 0 (v := ?_) (by simp only [lkA, lkB]; rfl) (by kernel_rfl) (fun _ _ _ h => h) (by rfl) (by assumption) ?_ ?_
 rotate_left 1
 · intro w hSw
   go_simp
   with_reducible rfl
 simp only [Act.put, siA, siB, siC]
 refine tkH 1 (v := ?_) (by simp only [lkA, lkB, lkC]; rfl) (by kernel_rfl) (fun _ _ _ h => h) (by rfl) (by assumption) ?_ ?_
 rotate_left 1
 · intro w hSw
   go_simp
   with_reducible rfl
 simp only [Act.put, siA, siB, siC]
 refine tkH 2 (v := ?_) (by simp only [lkA, lkB, lkC]; rfl) (by kernel_rfl) (fun _ _ _ h => h) (by rfl) (by assumption) ?_ ?_
 rotate_left 1
 · intro w hSw
   go_simp
   with_reducible rfl
 simp only [Act.put, siA, siB, siC]
 refine tkH 3 (v := ?_) (by simp only [lkA, lkB, lkC]; rfl) (by kernel_rfl) (fun _ _ _ h => h) (by rfl) (by assumption) ?_ ?_
 rotate_left 1
 · intro w hSw
   have hc := hSw.c0
   go_simp
   with_reducible rfl
 simp only [Act.put, siA, siB, siC]
 refine tkH 5 (v := ?_) (by simp only [lkA, lkB, lkC]; rfl) (by kernel_rfl) (fun _ _ _ h => h) (by rfl) (by assumption) ?_ ?_
 rotate_left 1
 · intro w hSw
   go_simp
   with_reducible rfl
 simp only [Act.put, siA, siB, siC]
 refine tkH 6 (v := ?_) (by simp only [lkA, lkB, lkC]; rfl) (by kernel_rfl) (fun _ _ _ h => h) (by rfl) (by assumption) ?_ ?_
 rotate_left 1
 · intro w hSw
   go_simp
   with_reducible rfl
 simp only [Act.put, siA, siB, siC]
 refine tkH 7 (v := ?_) (by simp only [lkA, lkB, lkC]; rfl) (by kernel_rfl) (fun _ _ _ h => h) (by rfl) (by assumption) ?_ ?_
 rotate_left 1
 · intro w hSw
   go_simp
   with_reducible rfl
 simp only [Act.put, siA, siB, siC]
 refine tkH 8 (v := ?_) (by simp only [lkA, lkB, lkC]; rfl) (by kernel_rfl) (fun _ _ _ h => h) (by rfl) (by assumption) ?_ ?_
 rotate_left 1
 · intro w hSw
   have hc := hSw.c1
   go_simp
   with_reducible rfl
 simp only [Act.put, siA, siB, siC]
 refine tkH 9 (v := ?_) (by simp only [lkA, lkB, lkC]; rfl) (by kernel_rfl) (fun _ _ _ h => h) (by rfl) (by assumption) ?_ ?_
 rotate_left 1
 · intro w hSw
   go_simp
   with_reducible rfl
 simp only [Act.put, siA, siB, siC]
 refine tkH 10 (v := ?_) (by simp only [lkA, lkB, lkC]; rfl) (by kernel_rfl) (fun _ _ _ h => h) (by rfl) (by assumption) ?_ ?_
 rotate_left 1
 · intro w hSw
   go_simp
   with_reducible rfl
 simp only [Act.put, siA, siB, siC]
 refine tkH 11 (v := ?_) (by simp only [lkA, lkB, lkC]; rfl) (by kernel_rfl) (fun _ _ _ h => h) (by rfl) (by assumption) ?_ ?_
 rotate_left 1
 · intro w hSw
   go_simp
   with_reducible rfl
 simp only [Act.put, siA, siB, siC]
 refine tkH 12 (v := ?_) (by simp only [lkA, lkB, lkC]; rfl) (by kernel_rfl) (fun _ _ _ h => h) (by rfl) (by assumption) ?_ ?_
 rotate_left 1
 · intro w hSw
   have hc := hSw.c2
   go_simp
   with_reducible rfl
 simp only [Act.put, siA, siB, siC]
 refine wpAnyH_ready (rs := [4]) (by kernel_rfl) (by simp) ?_
 refine AllReadyH.cons (by simp only [lkA, lkB, lkC]; rfl) (fun K hK => ?_) AllReadyH.nil
 go_simp
 refine (CC.out).mono ?_
 rintro e1 w1 ⟨rfl, hm1, hb1⟩
 have hz1 := (S0.out.on hb1)
 refine hK.out _ _ hz1 (fun hS => ?_)
 clear hK K hS
 obtain ⟨cs1, hbx1, hbs1⟩ := hz1.bx
 refine tkH 13 (v := ?_) (by simp only [lkA, lkB, lkC]; rfl) (by kernel_rfl) (fun _ _ _ h => h) (by rfl) (by assumption) ?_ ?_
 rotate_left 1
 · intro w hSw
   go_simp
   with_reducible rfl
 simp only [Act.put, siA, siB, siC]
 refine wpAnyH_ready (rs := [14]) (by kernel_rfl) (by simp) ?_
 refine AllReadyH.cons (by simp only [lkA, lkB, lkC]; rfl) (fun K hK => ?_) AllReadyH.nil
 refine step_store_row (by rfl) 85 (.tmp 2) (.tmp 16) rfl w.heap.size _ cs1 rfl rfl hbx1 (by kernel_rfl) hbs1 (by simp [Value.oneCell']) ?_
 refine hK.out _ _ (hz1.store HG.out HM.out _ rfl) (fun hS => ?_)
 clear hK K hS
 refine wpAnyH_done (by kernel_rfl) ?_ _
 refine NoPanic.normal ?_
 have HR : Hid (Has (w1.setRow w.heap.size #[.map (some (w.heap.size + 1)), .int .i64 (u : Int), .int .i64 (room : Int)]) w.heap.size 85 #[.map (some (w.heap.size + 1)), .int .i64 (u : Int), .int .i64 (room : Int)]) := hbx1.row
 have HM2 : Hid (MapT (w1.setRow w.heap.size #[.map (some (w.heap.size + 1)), .int .i64 (u : Int), .int .i64 (room : Int)]) (w.heap.size + 1) L) := hm1.kept (setRow_other _ _ _ _ (by omega))
 have HB2 := hid ((hz1.store HG.out HM.out #[.map (some (w.heap.size + 1)), .int .i64 (u : Int), .int .i64 (room : Int)] rfl).bl)
 clear hm1 hb1 hbx1 hbs1 hz1
 go_wp2
 refine bodyPost_ret (results_cell_row rfl _ _ w.heap.size 85 _ (0, 0) _ rfl HR.out Tryz.underlying85 rfl iTree) rfl ?_
 exact ⟨w.heap.size + 1, rfl, HM2.out, Nat.le_succ _, HB2.out⟩
def NewP (room : Nat) (w : World) (e : Ending) (w' : World) : Prop := ∃ own p, e = .returned (.tuple #[.pointer (some ⟨p, 0, none⟩), .int .i64 0]) ∧ Dsk own w' p (newM room) ∧ (∀ g, own g → w.heap.size ≤ g) ∧ Below w.heap.size w w'
theorem dsk_new {w : World} {m1 m2 room : Nat} (h1 : MapT w m1 []) (h2 : MapT w m2 []) (hne : m1 ≠ m2) (r0 : 1024 ≤ room) (r1 : room ≤ 1048576) (B : Nat) (hB : B ≤ w.heap.size) (b1 : B ≤ m1) (b2 : B ≤ m2) :
 ∃ own, Dsk own (w.alloc (.cells (cellsD m1 m2 (.slice none 0 0) (newM room)) 88)) w.heap.size (newM room) ∧ ∀ g, own g → B ≤ g := by
 have hf := Has.fresh w 88 (cellsD m1 m2 (.slice none 0 0) (newM room))
 have k1 : MapT (w.alloc (.cells (cellsD m1 m2 (.slice none 0 0) (newM room)) 88)) m1 [] := h1.kept (Below.heap_alloc _ _ _ h1.inside)
 have k2 : MapT (w.alloc (.cells (cellsD m1 m2 (.slice none 0 0) (newM room)) 88)) m2 [] := h2.kept (Below.heap_alloc _ _ _ h2.inside)
 refine ⟨fun g => g = w.heap.size ∨ g = m1 ∨ g = m2, ⟨m1, m2, .slice none 0 0, [], ?_⟩, ?_⟩
 · refine ⟨?_, ?_, hf, .inl rfl, .inr (.inl rfl), .inr (.inr rfl), k1, k2, hne, World.ownsRow_nil _ _ _ _, fun b hb => (by cases hb), ⟨rfl, fun i h => (by simp at h)⟩, Good.new room, r0, r1, Nat.zero_le _⟩
   · rintro g (e | e | e) <;> rw [e]
     · exact hf.inside
     · exact k1.inside
     · exact k2.inside
   · rintro g (e | e | e) <;> rw [e]
     · exact hf.loose (by decide)
     · exact k1.loose
     · exact k2.loose
 · rintro g (e | e | e) <;> omega
set_option maxHeartbeats 4000000 in
theorem dNew_any (room : Nat) (w : World) (r0 : 1024 ≤ room) (r1 : room ≤ 1048576) : Calls Tryz.prog 25 #[.int .i64 (room : Int)] w fun e w' => NewP room w e w' := by
 have C1 := hid (fun W => newTree_any room W)
 have d1 : decide ((room : Int) < 1024) = false := by simp; omega
 have d2 : decide ((1048576 : Int) < (room : Int)) = false := by simp; omega
 have R0 := hid r0
 have R1 := hid r1
 go_enter Tryz.func25, Tryz.ntmps25
 go_wp2_with fail
 refine (C1.out _).mono ?_; rintro e1 w1 ⟨m1, rfl, hm1, hl1, hb1⟩
 have M1 := hid hm1
 have B1 := hid hb1
 have L1 := hid hl1
 clear hm1 hb1 hl1
 go_wp2_with fail
 refine (C1.out _).mono ?_; rintro e2 w2 ⟨m2, rfl, hm2, hl2, hb2⟩
 have M2 := hid hm2
 have M12 : Hid (MapT w2 m1 []) := M1.out.kept (hb2.block m1 M1.out.inside)
 have B2 := hid (B1.out.trans (hb2.mono B1.out.size))
 have L2 := hid hl2
 have HNE : Hid (m1 ≠ m2) := by have := M1.out.inside; show ¬ _; omega
 have HL2 : Hid (w.heap.size ≤ m2) := Nat.le_trans B1.out.size hl2
 clear hm2 hb2 hl2
 go_wp2
 go_ret2
 obtain ⟨own, k1, k2⟩ := dsk_new M12.out M2.out HNE.out R0.out R1.out w.heap.size B2.out.size L1.out HL2.out
 exact ⟨own, w2.heap.size, rfl, k1, k2, B2.out.alloc B2.out.size _⟩
end Go.Proofs.YtabidnlbgdecbaaGreatDoor
namespace Go.Proofs.YtabidnlbgdecbaaGreatDoor
open Go.RowKit Go.Maps
theorem iNode : (Tryz.prog.info? 44).map (·.size) = some 4 := by kernel_rfl
theorem results_cell_tmp {fn : Func} {c : Nat} {t : Tmp} (h : fn.results = #[.cell c 44, .tmp t]) (tmps : Array Value) (w : World) (g : Nat) (cs : Array Value) (hc : tmps.getD c undef = .pointer (some ⟨g, 0, none⟩)) (hg : Has w g 44 cs) (hi : cs.size = 4) :
 (results fn tmps).run Tryz.prog w = .ok (.tuple #[.agg cs, tmps.getD t undef]) w := by
 have hp' : tmps[c]?.getD undef = .pointer (some ⟨g, 0, none⟩) := by simpa using hc
 have hl := run_loadVar_row (P := Tryz.prog) w g 44 44 cs (0, 0) _ hg Tryz.underlying44 rfl (by rw [hi]; exact iNode)
 simp [results, h, hp', asAddr, hl]
section
variable {own : Nat → Prop} {w : World} {p : Nat} {M : Mo}
def readM (L : Tr) (p : By) : Nd × Int := if mayB p then (match look L p with | some n => (n, 0) | none => (n0, 5)) else (n0, 10)
def ReadP (w : World) (r : Nd × Int) (e : Ending) (w' : World) : Prop := e = .returned (.tuple #[nodeV r.1, .int .i64 r.2]) ∧ Below w.heap.size w w'
set_option maxHeartbeats 4000000 in
theorem dRead_any (h : Dsk own w p M) (hG : Gd w) (s : By) (hs : s.length ≤ 4000) : Calls Tryz.prog 17 #[.pointer (some ⟨p, 0, none⟩), kS s] w fun e w' => ReadP w (readM M.now s) e w' := by
 obtain ⟨m1, m2, sv, vs, h⟩ := h
 have B0 : Hid (Below w.heap.size w (w.alloc (.cells #[.int .i64 0, .string ⟨#[]⟩, .string ⟨#[]⟩, .int .i64 0] 44))) := (Below.refl _ _).alloc (Nat.le_refl _) _
 have H := hid h
 have C1 : Hid (∀ W, Below w.heap.size w W → Calls Tryz.prog 38 #[.pointer (some ⟨p, 0, none⟩)] W fun e w' => e = .returned (.bool true) ∧ W = w') := fun W hb => dmade_any (m1 := m1) ((h.on hb).has.at_ 0)
 cases hm : mayB s with
 | false =>
  have C2 : Hid (∀ W, Below w.heap.size w W → Calls Tryz.prog 39 #[kS s] W fun e w' => e = .returned (.bool false) ∧ Below W.heap.size W w') := fun W hb => mayk_any s false hm W (hG.kept hb) hs
  have HR : Hid (readM M.now s = (n0, 10)) := by show _ = _; unfold readM; rw [hm]; rfl
  clear h hG hm
  go_enter Tryz.func17, Tryz.ntmps17
  go_wp2_with fail
  refine (C1.out _ B0.out).mono ?_; rintro e1 w1 ⟨rfl, rfl⟩
  go_wp2_with fail
  refine (C2.out _ B0.out).mono ?_; rintro e2 w2 ⟨rfl, hb2⟩
  have B2 := hid (B0.out.trans (hb2.mono B0.out.size))
  have X2 : Hid (Has w2 w.heap.size 44 #[.int .i64 0, .string ⟨#[]⟩, .string ⟨#[]⟩, .int .i64 0]) := (Has.fresh w _ _).kept hb2 (by simp)
  clear hb2
  go_wp2_with (refine wpList_store_row rfl 44 (.tmp 4) (.tmp 15) rfl w.heap.size #[.int .i64 0, .string ⟨#[]⟩, .string ⟨#[]⟩, .int .i64 0] rfl rfl 44 _ X2.out (by kernel_rfl) rfl (by simp [Value.oneCell']) ?_)
  refine bodyPost_ret (results_cell_tmp rfl _ _ w.heap.size #[.int .i64 0, .string ⟨#[]⟩, .string ⟨#[]⟩, .int .i64 0] rfl (X2.out.row) rfl) rfl ?_
  rw [HR.out]
  exact ⟨rfl, B2.out.rowK (Nat.le_refl _) _⟩
 | true =>
  have C2 : Hid (∀ W, Below w.heap.size w W → Calls Tryz.prog 39 #[kS s] W fun e w' => e = .returned (.bool true) ∧ Below W.heap.size W w') := fun W hb => mayk_any s true hm W (hG.kept hb) hs
  cases hl : look M.now s with
  | none =>
   have C3 : Hid (∀ W, Below w.heap.size w W → Calls Tryz.prog 40 #[.pointer (some ⟨p, 0, none⟩), kS s] W fun e w' => e = .returned (.bool false) ∧ Below W.heap.size W w') := fun W hb => by
    have := thas_any (h.on hb).tr1 s hs
    unfold hasB at this; rw [hl] at this; exact this
   have HR : Hid (readM M.now s = (n0, 5)) := by show _ = _; unfold readM; rw [hm, hl]; rfl
   clear h hG hm hl
   go_enter Tryz.func17, Tryz.ntmps17
   go_wp2_with fail
   refine (C1.out _ B0.out).mono ?_; rintro e1 w1 ⟨rfl, rfl⟩
   go_wp2_with fail
   refine (C2.out _ B0.out).mono ?_; rintro e2 w2 ⟨rfl, hb2⟩
   have B2 := hid (B0.out.trans (hb2.mono B0.out.size))
   have X2 : Hid (Has w2 w.heap.size 44 #[.int .i64 0, .string ⟨#[]⟩, .string ⟨#[]⟩, .int .i64 0]) := (Has.fresh w _ _).kept hb2 (by simp)
   clear hb2
   go_wp2_with fail
   refine (C3.out _ B2.out).mono ?_; rintro e3 w3 ⟨rfl, hb3⟩
   have B3 := hid (B2.out.trans (hb3.mono B2.out.size))
   have X3 : Hid (Has w3 w.heap.size 44 #[.int .i64 0, .string ⟨#[]⟩, .string ⟨#[]⟩, .int .i64 0]) := X2.out.kept hb3 X2.out.inside
   clear hb3
   go_wp2_with (refine wpList_store_row rfl 44 (.tmp 4) (.tmp 23) rfl w.heap.size #[.int .i64 0, .string ⟨#[]⟩, .string ⟨#[]⟩, .int .i64 0] rfl rfl 44 _ X3.out (by kernel_rfl) rfl (by simp [Value.oneCell']) ?_)
   refine bodyPost_ret (results_cell_tmp rfl _ _ w.heap.size #[.int .i64 0, .string ⟨#[]⟩, .string ⟨#[]⟩, .int .i64 0] rfl (X3.out.row) rfl) rfl ?_
   rw [HR.out]
   exact ⟨rfl, B3.out.rowK (Nat.le_refl _) _⟩
  | some n =>
   obtain ⟨k0, d0, x0, t0⟩ := n
   have C3 : Hid (∀ W, Below w.heap.size w W → Calls Tryz.prog 40 #[.pointer (some ⟨p, 0, none⟩), kS s] W fun e w' => e = .returned (.bool true) ∧ Below W.heap.size W w') := fun W hb => by
    have := thas_any (h.on hb).tr1 s hs
    unfold hasB at this; rw [hl] at this; exact this
   have C4 : Hid (∀ W, Below w.heap.size w W → W.cell? ⟨p, 0, none⟩ = some (.map (some m1)) ∧ (Instr.lookup 83 (.map (some m1)) (kS s) false).run Tryz.prog W = .ok (.agg #[.int .i64 k0, kS d0, kS x0, .int .i64 t0]) W) := fun W hb => by
    have h' := h.on hb
    have := h'.t1.look (p := s) (maxLen_le hs)
    rw [hl] at this
    exact ⟨h'.has.at_ 0, this⟩
   have HR : Hid (readM M.now s = (⟨k0, d0, x0, t0⟩, 0)) := by show _ = _; unfold readM; rw [hm, hl]; rfl
   clear h hG hm hl
   go_enter Tryz.func17, Tryz.ntmps17
   go_wp2_with fail
   refine (C1.out _ B0.out).mono ?_; rintro e1 w1 ⟨rfl, rfl⟩
   go_wp2_with fail
   refine (C2.out _ B0.out).mono ?_; rintro e2 w2 ⟨rfl, hb2⟩
   have B2 := hid (B0.out.trans (hb2.mono B0.out.size))
   have X2 : Hid (Has w2 w.heap.size 44 #[.int .i64 0, .string ⟨#[]⟩, .string ⟨#[]⟩, .int .i64 0]) := (Has.fresh w _ _).kept hb2 (by simp)
   clear hb2
   go_wp2_with fail
   refine (C3.out _ B2.out).mono ?_; rintro e3 w3 ⟨rfl, hb3⟩
   have B3 := hid (B2.out.trans (hb3.mono B2.out.size))
   have X3 : Hid (Has w3 w.heap.size 44 #[.int .i64 0, .string ⟨#[]⟩, .string ⟨#[]⟩, .int .i64 0]) := X2.out.kept hb3 X2.out.inside
   obtain ⟨c0, hlk⟩ := C4.out _ B3.out
   clear hb3
   go_wp2_with (refine wpList_store_row rfl 44 (.tmp 4) (.tmp 30) rfl w.heap.size #[.int .i64 k0, kS d0, kS x0, .int .i64 t0] rfl rfl 44 _ X3.out (by kernel_rfl) rfl (by simp [Value.oneCell']) ?_)
   refine bodyPost_ret (results_cell_tmp rfl _ _ w.heap.size #[.int .i64 k0, kS d0, kS x0, .int .i64 t0] rfl (X3.out.row) rfl) rfl ?_
   rw [HR.out]
   exact ⟨rfl, B3.out.rowK (Nat.le_refl _) _⟩
end
theorem eqNilE (w : World) : (binOp .eql 86 (.slice none 0 0) (.slice none 0 0)).run Tryz.prog w = .ok (.bool true) w := by kernel_rfl
theorem eqSomeE (g n c : Nat) (w : World) : (binOp .eql 86 (.slice (some ⟨g, 0, none⟩) n c) (.slice none 0 0)).run Tryz.prog w = .ok (.bool false) w := by kernel_rfl
set_option maxHeartbeats 4000000 in
theorem slCloneE_any (sv : Value) (vs : List Value) (w : World) (h : w.ownsRow 0 147 1 sv vs.length vs) (hl : vs.length ≤ 100000) (h1 : ∀ u ∈ vs, u.oneCell' = true) :
 Calls Tryz.prog 86 #[sv] w fun e w' => ∃ v, e = .returned v ∧ w'.ownsRow 0 147 1 v vs.length vs ∧ (∀ b, v.ownBlock = some b → w.heap.size ≤ b) ∧ Below w.heap.size w w' := by
 obtain ⟨i0, hi, hz0, hz1, hz2⟩ := info_parts infoEff
 rcases h.2 with ⟨k1, k2⟩ | ⟨g, c, cur, k1, k2, k3, k4, k5, k6, k7⟩
 · subst k1
   have HR := hid h
   have q0 := eqNilE
   clear h k2
   go_enter Tryz.func86, Tryz.ntmps86
   go_wp2
   go_ret
   exact ⟨_, rfl, HR.out, fun b hb => (by cases hb), Below.refl _ _⟩
 · subst k1
   obtain ⟨n, HN⟩ : ∃ n, Hid (vs.length = n) := ⟨_, rfl⟩
   have HC : Hid (∀ j u, vs[j]? = some u → w.cell? ((⟨g, 0, none⟩ : Addr).add j) = some u) := by
    intro j u hu
    rw [show (⟨g, 0, none⟩ : Addr).add j = ⟨g, j, none⟩ by rw [Addr.add_mid]; simp]
    rw [cell_of_row w g j cur 147 (0, 0) k3]
    have hj : j < vs.length := (List.getElem?_eq_some_iff.1 hu).1
    have e2 : cur.toList[j]? = vs[j]? := by rw [← k7, List.getElem?_take, if_pos (by omega)]
    rw [← Array.getElem?_toList, e2, hu]
   have HO := hid h1
   have hg : g < w.heap.size := (Array.getElem?_eq_some_iff.1 k3).1
   have HG := hid hg
   rw [HN.out] at hl
   have N2 : Hid (0 + n ≤ maxLen) := by show _ ≤ _; unfold maxLen; omega
   have N3 : Hid ((0 + n) * 8 ≤ 140737488355328) := by show _ ≤ _; omega
   have R0 : Hid ((w.alloc (.cells #[] 147)).ownsRow w.heap.size 147 1 (.slice (some ⟨w.heap.size, 0, none⟩) 0 0) 0 []) :=
    ⟨rfl, .inr ⟨w.heap.size, 0, #[], rfl, Nat.le_refl _, Has.fresh _ _ _, Nat.le_refl _, by unfold maxLen; omega, rfl, rfl⟩⟩
   have HC2 : Hid (∀ j u, vs[j]? = some u → (w.alloc (.cells #[] 147)).cell? ((⟨g, 0, none⟩ : Addr).add j) = some u) := by
    intro j u hu
    rw [← HC.out j u hu]
    rw [show (⟨g, 0, none⟩ : Addr).add j = ⟨g, j, none⟩ by rw [Addr.add_mid]; simp]
    exact (Below.refl w.heap.size w |>.alloc (Nat.le_refl _) (.cells #[] 147)).cell (p := ⟨g, j, none⟩) HG.out
   rw [HN.out]
   have q0 := eqSomeE g n c
   clear h k2 k3 k4 k5 k6 k7 h1 hg
   go_enter Tryz.func86, Tryz.ntmps86
   go_wp2_with (at_builtin; refine wpList_append_own_at _ rfl _ _ 86 rfl w.heap.size 147 i0 .nilFunc 1 8 Tryz.underlying86 hi hz0 hz1 hz2 rfl (by decide) _ _ _ rfl R0.out ⟨g, 0, none⟩ n c vs rfl (by rw [HN.out]; simp) HC2.out HO.out N2.out N3.out (by simp) ?_; intro v' w3 hown' hg3 hnil3 hloc3)
   go_ret
   refine ⟨v', rfl, ?_, ?_, ?_⟩
   · rw [Nat.zero_add, List.nil_append] at hown'
     obtain ⟨k1, k2⟩ := hown'
     refine ⟨k1, ?_⟩
     rcases k2 with k | ⟨g', c', cur', k3, k4, k5⟩
     · exact .inl k
     · exact .inr ⟨g', c', cur', k3, Nat.zero_le _, k5⟩
   · intro b hb
     exact (hown'.lt b hb).1
   · exact ((Below.refl _ _).alloc (Nat.le_refl _) _).grown hg3 (by simp) (fun j hj => by injection hj with hj; rw [← hj]; exact Nat.le_refl _)
end Go.Proofs.YtabidnlbgdecbaaGreatDoor
namespace Go.Proofs.YtabidnlbgdecbaaGreatDoor
open Go.RowKit Go.Maps
structure CW (w0 : World) (p m1 m2 : Nat) (sv : Value) (vs : List Value) (M : Mo) (own : Nat → Prop) (W : World) : Prop where
 d : DskI own W p m1 m2 sv vs M
 bl : Below w0.heap.size w0 W
theorem DskI.drew {own : Nat → Prop} {w : World} {p m1 m2 : Nat} {sv : Value} {vs : List Value} {M : Mo} (h : DskI own w p m1 m2 sv vs M) : DskI own w.drew p m1 m2 sv vs M := h.on (Below.refl _ _).drew
theorem CW.on {w0 W W' : World} {p m1 m2 : Nat} {sv : Value} {vs : List Value} {M : Mo} {own : Nat → Prop} (h : CW w0 p m1 m2 sv vs M own W) (hb : Below W.heap.size W W') : CW w0 p m1 m2 sv vs M own W' := ⟨h.d.on hb, h.bl.trans (hb.mono h.bl.size)⟩
def CopyP (M : Mo) (w : World) (e : Ending) (w' : World) : Prop := ∃ own q, e = .returned (.pointer (some ⟨q, 0, none⟩)) ∧ Dsk own w' q M ∧ (∀ g, own g → w.heap.size ≤ g) ∧ Below w.heap.size w w'
set_option maxHeartbeats 8000000 in
theorem dCopy_any {own : Nat → Prop} {w : World} {p : Nat} {M : Mo} (h : Dsk own w p M) : Calls Tryz.prog 47 #[.pointer (some ⟨p, 0, none⟩)] w fun e w' => CopyP M w e w' := by
 obtain ⟨m1, m2, sv, vs, h⟩ := h
 have C1 := hid (dmade_any (m1 := m1) (h.has.at_ 0))
 have P0 : Hid (CW w p m1 m2 sv vs M own w.drew) := ⟨h.drew, (Below.refl _ _).drew⟩
 have HVL : Hid (vs.length ≤ 100000) := by show _ ≤ _; rw [h.effs.1]; exact h.len
 have HV1 : Hid (∀ u ∈ vs, u.oneCell' = true) := fun u hu => by
  obtain ⟨i, hi, rfl⟩ := List.getElem_of_mem hu
  exact (h.effs.2 i hi (by rw [← h.effs.1]; exact hi)).one
 clear h
 go_enter Tryz.func47, Tryz.ntmps47
 go_wp2_with (go_at_call 38; refine C1.out.mono ?_; rintro e1 w1 ⟨rfl, rfl⟩)
 refine wp_region_noPanic ?_
 refine wp_region_held_drew (S := CW w p m1 m2 sv vs M own) (by kernel_rfl) (P0.out) (fun hS => ?_)
 refine tkH 0 (v := ?_) (by simp only [lkA, lkB]; rfl) (by kernel_rfl) (fun _ _ _ h => h) (by rfl) (by assumption) ?_ ?_
 rotate_left 1
 · intro w hSw
   go_simp
   with_reducible rfl
 simp only [Act.put, siA, siB, siC]
 refine tkH 1 (v := ?_) (by simp only [lkA, lkB, lkC]; rfl) (by kernel_rfl) (fun _ _ _ h => h) (by rfl) (by assumption) ?_ ?_
 rotate_left 1
 · intro w hSw
   go_simp
   with_reducible rfl
 simp only [Act.put, siA, siB, siC]
 refine tkH 2 (v := ?_) (by simp only [lkA, lkB, lkC]; rfl) (by kernel_rfl) (fun _ _ _ h => h) (by rfl) (by assumption) ?_ ?_
 rotate_left 1
 · intro w hSw
   go_simp
   with_reducible rfl
 simp only [Act.put, siA, siB, siC]
 refine tkH 4 (v := ?_) (by simp only [lkA, lkB, lkC]; rfl) (by kernel_rfl) (fun _ _ _ h => h) (by rfl) (by assumption) ?_ ?_
 rotate_left 1
 · intro w hSw
   go_simp
   with_reducible rfl
 simp only [Act.put, siA, siB, siC]
 refine tkH 5 (v := ?_) (by simp only [lkA, lkB, lkC]; rfl) (by kernel_rfl) (fun _ _ _ h => h) (by rfl) (by assumption) ?_ ?_
 rotate_left 1
 · intro w hSw
   go_simp
   with_reducible rfl
 simp only [Act.put, siA, siB, siC]
 refine tkH 6 (v := ?_) (by simp only [lkA, lkB, lkC]; rfl) (by kernel_rfl) (fun _ _ _ h => h) (by rfl) (by assumption) ?_ ?_
 rotate_left 1
 · intro w hSw
   go_simp
   with_reducible rfl
 simp only [Act.put, siA, siB, siC]
 refine tkH 8 (v := ?_) (by simp only [lkA, lkB, lkC]; rfl) (by kernel_rfl) (fun _ _ _ h => h) (by rfl) (by assumption) ?_ ?_
 rotate_left 1
 · intro w hSw
   go_simp
   with_reducible rfl
 simp only [Act.put, siA, siB, siC]
 refine tkH 9 (v := ?_) (by simp only [lkA, lkB, lkC]; rfl) (by kernel_rfl) (fun _ _ _ h => h) (by rfl) (by assumption) ?_ ?_
 rotate_left 1
 · intro w hSw
   go_simp
   with_reducible rfl
 simp only [Act.put, siA, siB, siC]
 refine tkH 10 (v := ?_) (by simp only [lkA, lkB, lkC]; rfl) (by kernel_rfl) (fun _ _ _ h => h) (by rfl) (by assumption) ?_ ?_
 rotate_left 1
 · intro w hSw
   go_simp
   with_reducible rfl
 simp only [Act.put, siA, siB, siC]
 refine tkH 11 (v := ?_) (by simp only [lkA, lkB, lkC]; rfl) (by kernel_rfl) (fun _ _ _ h => h) (by rfl) (by assumption) ?_ ?_
 rotate_left 1
 · intro w hSw
   have hc : World.cell? _ ⟨p, 6, none⟩ = some sv := hSw.d.has.at_ 6
   go_simp
   with_reducible rfl
 simp only [Act.put, siA, siB, siC]
 refine tkH 13 (v := ?_) (by simp only [lkA, lkB, lkC]; rfl) (by kernel_rfl) (fun _ _ _ h => h) (by rfl) (by assumption) ?_ ?_
 rotate_left 1
 · intro w hSw
   go_simp
   with_reducible rfl
 simp only [Act.put, siA, siB, siC]
 refine tkH 14 (v := ?_) (by simp only [lkA, lkB, lkC]; rfl) (by kernel_rfl) (fun _ _ _ h => h) (by rfl) (by assumption) ?_ ?_
 rotate_left 1
 · intro w hSw
   go_simp
   with_reducible rfl
 simp only [Act.put, siA, siB, siC]
 refine tkH 15 (v := ?_) (by simp only [lkA, lkB, lkC]; rfl) (by kernel_rfl) (fun _ _ _ h => h) (by rfl) (by assumption) ?_ ?_
 rotate_left 1
 · intro w hSw
   go_simp
   with_reducible rfl
 simp only [Act.put, siA, siB, siC]
 refine tkH 16 (v := ?_) (by simp only [lkA, lkB, lkC]; rfl) (by kernel_rfl) (fun _ _ _ h => h) (by rfl) (by assumption) ?_ ?_
 rotate_left 1
 · intro w hSw
   have hc : World.cell? _ ⟨p, 7, none⟩ = some (.int .i64 M.fuse) := hSw.d.has.at_ 7
   go_simp
   with_reducible rfl
 simp only [Act.put, siA, siB, siC]
 refine wpAnyH_ready (rs := [3]) (by kernel_rfl) (by simp) ?_
 refine AllReadyH.cons (by simp only [lkA, lkB, lkC]; rfl) (fun K hK => ?_) AllReadyH.nil
 go_simp
 refine (tcopy_any P0.out.d.tr1).mono ?_
 rintro e1 w1 ⟨a1, rfl, hm1, hl1, hb1⟩
 have hz1 := P0.out.on hb1
 refine hK.out _ _ hz1 (fun hS => ?_)
 clear hK K hS
 refine wpAnyH_ready (rs := [7]) (by kernel_rfl) (by simp) ?_
 refine AllReadyH.cons (by simp only [lkA, lkB, lkC]; rfl) (fun K hK => ?_) AllReadyH.nil
 go_simp
 refine (tcopy_any hz1.d.tr2).mono ?_
 rintro e2 w2 ⟨a2, rfl, hm2, hl2, hb2⟩
 have hz2 := hz1.on hb2
 refine hK.out _ _ hz2 (fun hS => ?_)
 clear hK K hS
 refine wpAnyH_ready (rs := [12]) (by kernel_rfl) (by simp) ?_
 refine AllReadyH.cons (by simp only [lkA, lkB, lkC]; rfl) (fun K hK => ?_) AllReadyH.nil
 go_simp
 refine (slCloneE_any sv vs _ hz2.d.row HVL.out HV1.out).mono ?_
 rintro e3 w3 ⟨v3, rfl, hr3, ho3, hb3⟩
 obtain ⟨A3, c3, rfl⟩ := row_form hr3
 have hz3 := hz2.on hb3
 refine hK.out _ _ hz3 (fun hS => ?_)
 clear hK K hS
 have M1 : Hid (MapT w3 a1 M.now) := (hm1.kept (hb2.block a1 hm1.inside)).kept (hb3.block a1 (Nat.lt_of_lt_of_le hm1.inside hb2.size))
 have M2 : Hid (MapT w3 a2 M.last) := hm2.kept (hb3.block a2 hm2.inside)
 have I1 := hid hm1.inside
 have L1 : Hid (w.heap.size ≤ a1) := hl1
 have L2 := hid hl2
 have L3 := hid ho3
 have R3 := hid hr3
 have P3 := hid hz3
 have SZ : Hid (w.heap.size ≤ w1.heap.size ∧ w1.heap.size ≤ w2.heap.size ∧ w2.heap.size ≤ w3.heap.size) := ⟨hz1.bl.size, hb2.size, hb3.size⟩
 obtain ⟨n3, HN3⟩ : ∃ n, Hid (vs.length = n) := ⟨_, rfl⟩
 rw [HN3.out]
 clear hm1 hm2 hl1 hl2 hb1 hb2 hb3 ho3 hr3 hz1 hz2 hz3
 refine tkH 17 (v := ?_) (by simp only [lkA, lkB, lkC]; rfl) (by kernel_rfl) (fun _ _ _ h => h) (by rfl) (by assumption) ?_ ?_
 rotate_left 1
 · intro w hSw
   go_simp
   with_reducible rfl
 simp only [Act.put, siA, siB, siC]
 refine wpAnyH_ready (rs := [18]) (by kernel_rfl) (by simp) ?_
 refine AllReadyH.cons (by simp only [lkA, lkB, lkC]; rfl) (fun K hK => ?_) AllReadyH.nil
 go_simp
 refine hK.out _ _ (P3.out.on ((Below.refl _ _).alloc (Nat.le_refl _) _)) (fun hS18 => ?_)
 clear hK K
 refine tkH 19 (v := ?_) (by simp only [lkA, lkB, lkC]; rfl) (by kernel_rfl) (fun _ _ _ h => h) (by rfl) (by assumption) ?_ ?_
 rotate_left 1
 · intro w hSw
   go_simp
   with_reducible rfl
 simp only [Act.put, siA, siB, siC]
 refine wpAnyH_done (by kernel_rfl) ?_ _
 refine NoPanic.normal ?_
 have hn : a1 ≠ a2 := by have h1 := I1.out; have h2 := L2.out; omega
 have hk : Has (w3.alloc (.cells (cellsD a1 a2 (.slice A3 n3 c3) M) 88)) w3.heap.size 88 (cellsD a1 a2 (.slice A3 n3 c3) M) := Has.fresh _ _ _
 have hb4 : Below w3.heap.size w3 (w3.alloc (.cells (cellsD a1 a2 (.slice A3 n3 c3) M) 88)) := (Below.refl _ _).alloc (Nat.le_refl _) _
 have k1 := M1.out.kept (hb4.block a1 M1.out.inside)
 have k2 := M2.out.kept (hb4.block a2 M2.out.inside)
 have hr := R3.out
 rw [HN3.out] at hr
 have hr4 : (w3.alloc (.cells (cellsD a1 a2 (.slice A3 n3 c3) M) 88)).ownsRow 0 147 1 (.slice A3 n3 c3) n3 vs := row_of hr (fun b hb => by
  obtain ⟨cur, hc⟩ := row_kind hr hb
  exact hb4.block b (Array.getElem?_eq_some_iff.1 hc).1)
 have hsz := SZ.out
 have F : Hid (CopyP M w (.returned (.pointer (some ⟨w3.heap.size, 0, none⟩))) (w3.alloc (.cells (cellsD a1 a2 (.slice A3 n3 c3) M) 88))) := by
  refine ⟨fun g => g = w3.heap.size ∨ g = a1 ∨ g = a2 ∨ (Value.slice A3 n3 c3).ownBlock = some g, w3.heap.size, rfl, ⟨a1, a2, .slice A3 n3 c3, vs, ?_⟩, ?_, P3.out.bl.alloc P3.out.bl.size _⟩
  · refine ⟨?_, ?_, hk, .inl rfl, .inr (.inl rfl), .inr (.inr (.inl rfl)), k1, k2, hn, by rw [HN3.out]; exact hr4, fun b hb => .inr (.inr (.inr hb)), (P3.out.d.on hb4).effs, P3.out.d.good, P3.out.d.r0, P3.out.d.r1, P3.out.d.len⟩
    · rintro g (e | e | e | e)
      · rw [e]; exact hk.inside
      · rw [e]; exact k1.inside
      · rw [e]; exact k2.inside
      · obtain ⟨cur, hc⟩ := row_kind hr4 e
        exact (Array.getElem?_eq_some_iff.1 hc).1
    · rintro g (e | e | e | e)
      · rw [e]; exact hk.loose (by decide)
      · rw [e]; exact k1.loose
      · rw [e]; exact k2.loose
      · obtain ⟨cur, hc⟩ := row_kind hr4 e
        exact Has.loose (show Has _ g 147 cur from hc) (by decide)
  · rintro g (e | e | e | e)
    · rw [e]; omega
    · rw [e]; exact L1.out
    · rw [e]; have := L2.out; omega
    · have := L3.out g (by rw [HN3.out]; exact e); omega
 clear hn hk hb4 k1 k2 hr hr4 hsz
 go_wp2
 go_ret
 exact F.out
end Go.Proofs.YtabidnlbgdecbaaGreatDoor
namespace Go.Proofs.YtabidnlbgdecbaaGreatDoor
open Go.RowKit Go.Maps Go.Lib Go.Sort
structure Names (w : World) (A : Option Addr) (g : Nat) (xs : List By) : Prop where
 ad : 0 < xs.length → A = some ⟨g, 0, none⟩
 cell : ∀ i (h : i < xs.length), w.cell? ⟨g, i, none⟩ = some (kS xs[i])
 low : 0 < xs.length → g < w.heap.size
theorem names_of_row {w w0 : World} {e : TypeId} {v : Value} {xs : List By} (h : w.ownsRow w0.heap.size e 1 v xs.length (xs.map kS)) : ∃ A c g, v = .slice A (xs.length : Nat) c ∧ Names w A g xs := by
 rcases h.2 with ⟨k1, k2⟩ | ⟨g, c, cur, k1, k2, k3, k4, k5, k6, k7⟩
 · have : xs = [] := by simpa using k2
   subst this
   exact ⟨none, 0, 0, k1, fun k => absurd k (by simp), fun i hi => absurd hi (by simp), fun k => absurd k (by simp)⟩
 · refine ⟨_, c, g, k1, fun _ => rfl, fun i hi => ?_, fun _ => Has.inside k3⟩
   have e1 := congrArg (fun l => l[i]?) k7
   simp only [List.getElem?_take, Nat.mul_one, if_pos hi, Array.getElem?_toList, List.getElem?_map, List.getElem?_eq_getElem hi, Option.map_some] at e1
   exact (Has.at_ k3 i).trans e1
theorem below_sorted {α : Type} [Inhabited α] {enc : α → Value} {B : Nat} {w0 w : World} {g q : Nat} {d : Array α} {os : Array Obj} (h : Below B w0 w) (hg : B ≤ g) (hB : B ≤ w.heap.size) : Below B w0 (sortWorld enc w g 0 q d os) := by
 have := below_putRow (enc := enc) (q := q) (d := d) h hg
 refine this.trans ⟨rfl, rfl, rfl, ?_, fun k hk => ?_⟩
 · show _ ≤ ((putRow enc (Sort.ahead w q) g 0 d).heap ++ os).size
   simp
 · show ((putRow enc (Sort.ahead w q) g 0 d).heap ++ os)[k]? = _
   have := this.size
   rw [Array.getElem?_append_left]
   have e : (putRow enc (Sort.ahead w q) g 0 d).heap.size = w.heap.size := by simp [putRow, mapBlock, Sort.ahead]
   omega
end Go.Proofs.YtabidnlbgdecbaaGreatDoor
namespace Go.Proofs.YtabidnlbgdecbaaGreatDoor
open Go.RowKit Go.Maps
instance : DecidableEq Nd := fun a b =>
 if h : a.kind = b.kind ∧ a.data = b.data ∧ a.target = b.target ∧ a.time = b.time then .isTrue (by cases a; cases b; simp only at h; obtain ⟨h1, h2, h3, h4⟩ := h; subst h1 h2 h3 h4; rfl) else .isFalse (fun e => h (by subst e; exact ⟨rfl, rfl, rfl, rfl⟩))
theorem nodeFields : Tryz.prog.fieldsOf 44 = #[{ name := "Kind", type := 3, offset := 0, embedded := false, tag := "", pkgPath := "", byteOffset := 0 },
 { name := "Data", type := 9, offset := 1, embedded := false, tag := "", pkgPath := "", byteOffset := 8 },
 { name := "Target", type := 9, offset := 2, embedded := false, tag := "", pkgPath := "", byteOffset := 24 },
 { name := "Time", type := 2, offset := 3, embedded := false, tag := "", pkgPath := "", byteOffset := 40 }] := by kernel_rfl
theorem eqNode_any (n m : Nd) (w : World) : (binOp .eql 44 (nodeV n) (nodeV m)).run Tryz.prog w = .ok (.bool (decide (n = m))) w := by
 obtain ⟨a, b, c, d⟩ := n
 obtain ⟨a', b', c', d'⟩ := m
 unfold nodeV kS
 have hu : Tryz.prog.underlying 44 = some (.struct (Tryz.prog.fieldsOf 44)) := by rw [nodeFields]; exact Tryz.underlying44
 have pI : Tryz.prog.plainKey 3 = true := by kernel_rfl
 have pS : Tryz.prog.plainKey 9 = true := by kernel_rfl
 have pJ : Tryz.prog.plainKey 2 = true := by kernel_rfl
 have q0 : ∀ (x y z u : Value) w, (part 3 #[x, y, z, u] 0).run Tryz.prog w = .ok x w := fun x y z u w => run_part_plain w pI rfl
 have q1 : ∀ (x y z u : Value) w, (part 9 #[x, y, z, u] 1).run Tryz.prog w = .ok y w := fun x y z u w => run_part_plain w pS rfl
 have q2 : ∀ (x y z u : Value) w, (part 9 #[x, y, z, u] 2).run Tryz.prog w = .ok z w := fun x y z u w => run_part_plain w pS rfl
 have q3 : ∀ (x y z u : Value) w, (part 2 #[x, y, z, u] 3).run Tryz.prog w = .ok u w := fun x y z u w => run_part_plain w pJ rfl
 have e0 : ∀ x y w, (Op.equalIn 9999 3 (.int .i64 x) (.int .i64 y)).run Tryz.prog w = .ok (x == y) w := fun x y w => run_equalIn_int w 9998 3 .i64 .i64 x y Tryz.underlying3
 have e1 : ∀ x y w, (Op.equalIn 9999 9 (.string x) (.string y)).run Tryz.prog w = .ok (x.toList == y.toList) w := fun x y w => run_equalIn_string w 9998 9 x y Tryz.underlying9
 have e3 : ∀ x y w, (Op.equalIn 9999 2 (.int .i64 x) (.int .i64 y)).run Tryz.prog w = .ok (x == y) w := fun x y w => run_equalIn_int w 9998 2 .i64 .i64 x y Tryz.underlying2
 rw [run_eql_struct, run_equalIn_agg _ 9999 44 _ _ hu (by kernel_rfl), nodeFields]
 simp only [Op.eqFields, Sem.run_bind, q0, e0, Result.andThen_ok, ne_eq, String.reduceEq, not_false_eq_true, if_true]
 by_cases h0 : a = a'
 · by_cases h1 : b = b'
   · by_cases h2 : c = c'
     · by_cases h3 : d = d'
       · subst h0 h1 h2 h3; simp [q1, q2, q3, e1, e3, toList_tl, tl_ba]
       · simp [h0, h1, h2, h3, q1, q2, q3, e1, e3, toList_tl, tl_ba]
     · simp [h0, h1, h2, q1, q2, e1, toList_tl, tl_ba]
   · simp [h0, h1, q1, e1, toList_tl, tl_ba]
 · simp [h0]
theorem neqNode_any (n m : Nd) (w : World) : (binOp .neq 44 (nodeV n) (nodeV m)).run Tryz.prog w = .ok (.bool (!decide (n = m))) w := by
 have h := eqNode_any n m w
 unfold nodeV at *
 rw [run_eql_struct] at h
 rw [run_neq_struct]
 revert h
 generalize (Op.equalIn 10000 _ _ _).run Tryz.prog w = r
 intro h
 cases r with
 | ok b w1 => simp [Result.andThen] at h ⊢; simp [h]
 | halt x w1 => simp [Result.andThen] at h
theorem wpList_wanted {P : Program} {ops : Array Oper} {Q : Exit → Act → World → Prop} {a : Act} {w : World} {rest : List Oper} {o : Oper} (hw : Region.wanted o (yielded ops a.tmps) = true)
 (h : ∀ K : Act → World → Prop, (∀ a w, wpList P ops Q rest a w → K a w) → o.wp P a w K Q) : wpList P ops Q (o :: rest) a w :=
 wpList_step fun K hK => by rw [if_pos hw]; exact h K hK
abbrev ndA (k : Int) (d x : By) (t : Int) : Array Value := #[.int .i64 k, kS d, kS x, .int .i64 t]
section
variable {ops : Array Oper} {Q : Exit → Act → World → Prop} {a : Act} {w : World} {rest : List Oper} {o : Oper}
theorem load_nodeC {w : World} {g : Nat} {k : Int} {d x : By} {t : Int} (hg : Has w g 44 (ndA k d x t)) : (loadVar 44 ⟨g, 0, none⟩).run Tryz.prog w = .ok (.agg (ndA k d x t)) w :=
 run_loadVar_row (P := Tryz.prog) w g 44 44 _ (0, 0) _ hg Tryz.underlying44 rfl iNode
theorem wpList_load_nodeC (hw : Region.wanted o (yielded ops a.tmps) = true) (x : Operand) (ho : o.op = .load 44 x) (g : Nat) (hx : a.eval x = .pointer (some ⟨g, 0, none⟩)) (k : Int) (d y : By) (t : Int) (hg : Has w g 44 (ndA k d y t))
 (h : wpList Tryz.prog ops Q rest (a.put o.dst (.agg (ndA k d y t))) w) : wpList Tryz.prog ops Q (o :: rest) a w :=
 wpList_wanted hw fun _ hK => by
  unfold Oper.wp execOp
  simp only [ho, hx, Instr.loadAt, Instr.sureAddr, Sem.run_bind, Sem.run_pure, Result.andThen_ok, load_nodeC hg]
  exact hK _ _ h
end
end Go.Proofs.YtabidnlbgdecbaaGreatDoor
namespace Go.Proofs.YtabidnlbgdecbaaGreatDoor
open Go.RowKit Go.Maps Go.Lib Go.Sort
def flatB (r : By) : Bool := !decide (0 ≤ Lib.indexByte r 47)
theorem flat_iff (r : By) : flatB r = true ↔ 47 ∉ r := by
 unfold flatB
 have h : (0 ≤ Lib.indexByte r 47) ↔ 47 ∈ r := by
  induction r with
  | nil => simp [Lib.indexByte]
  | cons c r ih =>
   have hg := Lib.indexByte_ge r 47
   rw [Lib.indexByte]
   by_cases hc : c = 47
   · simp [hc]
   · have e1 : (c == 47) = false := by simpa using hc
     have e2 : ¬ 47 = c := fun e => hc e.symm
     rw [e1, List.mem_cons]
     by_cases hn : Lib.indexByte r 47 = -1
     · have h0 : ¬ 47 ∈ r := fun k => by have := ih.2 k; omega
       simp [hn, e2, h0]
     · have h0 : 47 ∈ r := ih.1 (by omega)
       have e3 : (Lib.indexByte r 47 == -1) = false := by simpa using hn
       simp [e3, h0]; omega
 simp [h]
def childL (L : Tr) (p : By) : List By := (innerL L p).filter flatB
def sortL (xs : List By) : List By := xs.mergeSort fun x y => decide (x ≤ y)
def listM (L : Tr) (p : By) : List By × Int := if (!decide (p = []) && !mayB p) = true then ([], 10) else if noDirE L p = 0 then (sortL (childL L p), 0) else ([], noDirE L p)
theorem sortL_perm {xs ys : List By} (h : xs.Perm ys) : sortL xs = sortL ys := by
 have tr : ∀ a b c : By, decide (a ≤ b) = true → decide (b ≤ c) = true → decide (a ≤ c) = true := fun a b c h1 h2 => by
  simp only [decide_eq_true_eq] at *; exact List.le_trans h1 h2
 have tot : ∀ a b : By, (decide (a ≤ b) || decide (b ≤ a)) = true := fun a b => by
  simp only [Bool.or_eq_true, decide_eq_true_eq]; exact List.le_total a b
 refine List.Perm.eq_of_pairwise (le := fun a b : By => decide (a ≤ b) = true) (fun a b _ _ h1 h2 => ?_) (List.pairwise_mergeSort tr tot xs) (List.pairwise_mergeSort tr tot ys) (((List.mergeSort_perm xs _).trans h).trans (List.mergeSort_perm ys _).symm)
 simp only [decide_eq_true_eq] at h1 h2
 exact List.le_antisymm h1 h2
def ListP (w : World) (r : List By × Int) (e : Ending) (w' : World) : Prop := ∃ A c g, e = .returned (.tuple #[.slice A (r.1.length : Nat) c, .int .i64 r.2]) ∧ Names w' A g r.1 ∧ Below w.heap.size w w'
theorem ListP.none (w w' : World) (c : Int) (hb : Below w.heap.size w w') : ListP w ([], c) (.returned (.tuple #[.slice none 0 0, .int .i64 c])) w' :=
 ⟨Option.none, 0, 0, rfl, ⟨fun k => absurd k (by simp), fun i k => absurd k (by simp), fun k => absurd k (by simp)⟩, hb⟩
set_option maxHeartbeats 2000000 in
theorem dListC_any (r : By) (w : World) : Calls Tryz.prog 68 #[kS r] w fun e w' => e = .returned (.bool (!flatB r)) ∧ w' = w := by
 have C := hid (Tryz.strings_Contains_one (ba r) 47 w)
 have HF : Hid ((!flatB r) = decide (0 ≤ Lib.indexByte r 47)) := by show _ = _; unfold flatB; simp
 go_enter Tryz.func68, Tryz.ntmps68
 go_wp2_with fail
 refine C.out.mono ?_; rintro e1 w1 ⟨rfl, rfl⟩
 go_wp2
 go_ret
 exact ⟨by rw [HF.out]; rfl, rfl⟩
theorem putRow_below {α : Type} [Inhabited α] {enc : α → Value} {w0 w : World} {g q B : Nat} {d : Array α} (h : Below B w0 w) (hg : B ≤ g) : Below B w0 (putRow enc (Sort.ahead w q) g 0 d) := below_putRow (enc := enc) (q := q) (d := d) h hg
set_option maxHeartbeats 4000000 in
theorem del_any {w0 w : World} {v : Value} {xs : List By} (hb : Below w0.heap.size w0 w) (h : w.ownsRow w0.heap.size 9 1 v xs.length (xs.map kS)) (hn : xs.length ≤ 100000) :
 Calls Tryz.prog 70 #[v, .func (.func 68) #[] #[]] w fun e w' => ∃ v', e = .returned v' ∧ w'.ownsRow w0.heap.size 9 1 v' (xs.filter flatB).length ((xs.filter flatB).map kS) ∧ Below w0.heap.size w0 w' := by
 by_cases hv : v = .slice none 0 0
 · subst hv
   have h0 : xs = [] := by
    rcases h.2 with ⟨_, k2⟩ | ⟨g, c, cur, k1, _⟩
    · exact List.length_eq_zero_iff.1 k2
    · cases k1
   subst h0
   have C := hid (Tryz.slices_IndexFunc_empty (α := By) none 0 (.func (.func 68) #[] #[]) w)
   have HB := hid hb
   have H := hid h
   clear hb h hn
   go_enter Tryz.func70, Tryz.ntmps70
   go_wp2_with fail
   refine C.out.mono ?_; rintro e1 w1 ⟨rfl, rfl⟩
   go_wp2
   go_ret
   exact ⟨_, rfl, H.out, HB.out⟩
 · obtain ⟨g, cap, rfl, g1, g2, g3, g4, g5, hH⟩ := holds_of_ownsRow (enc := kS) h hv
   have hsz : xs.toArray.size = xs.length := by simp
   have hgv : ∀ (W : World) (x : By), FnGives Tryz.prog 68 #[] #[kS x] (.bool (!flatB x)) W := fun W x => (dListC_any x W).mono fun e w' ⟨h1, h2⟩ => ⟨h1, 0, by rw [h2]; rfl⟩
   have := Tryz.slices_DeleteFunc kS (fun _ => rfl) (fun x => !flatB x) 68 #[] (enters_of Tryz.func68 (by kernel_rfl) rfl) ([] : By) (fun w => by kernel_rfl) g 0 cap xs.toArray w (fun W x _ => hgv W x) (fun _ _ _ x _ => hgv _ x) hH (by rw [hsz]; omega) (by rw [hsz]; omega)
   rw [hsz] at this
   simp only [Bool.not_not] at this
   refine this.mono ?_
   rintro e w' ⟨rfl, q, rfl⟩
   have hlen : ((xs.filter flatB) ++ List.replicate (xs.length - (xs.filter flatB).length) ([] : By)).length = xs.length := by
    have := List.length_filter_le flatB xs
    simp; omega
   refine ⟨_, rfl, ?_, putRow_below hb g1⟩
   have hr := ownsRow_putRow (enc := kS) (q := q) (k := (xs.filter flatB).length) (ys := (xs.filter flatB) ++ List.replicate (xs.length - (xs.filter flatB).length) ([] : By)) h hlen (List.length_filter_le _ _)
   rw [List.take_left] at hr
   exact hr
set_option maxHeartbeats 4000000 in
theorem sortNames_any {w0 w : World} {v : Value} {xs : List By} (hb : Below w0.heap.size w0 w) (h : w.ownsRow w0.heap.size 9 1 v xs.length (xs.map kS)) (hn : xs.length ≤ 100000) :
 Calls Tryz.prog 30 #[v] w fun e w' => e = .returned (.tuple #[]) ∧ w'.ownsRow w0.heap.size 9 1 v (sortL xs).length ((sortL xs).map kS) ∧ Below w0.heap.size w0 w' := by
 by_cases hv : v = .slice none 0 0
 · subst hv
   have h0 : xs = [] := by
    rcases h.2 with ⟨_, k2⟩ | ⟨g, c, cur, k1, _⟩
    · exact List.length_eq_zero_iff.1 k2
    · cases k1
   subst h0
   refine (Tryz.slices_Sort_string_none none 0 w).mono ?_
   rintro e w' ⟨rfl, rfl⟩
   have e0 : sortL [] = [] := List.mergeSort_nil
   rw [e0]
   exact ⟨rfl, h, hb⟩
 · obtain ⟨g, cap, rfl, g1, g2, g3, g4, g5, hH⟩ := holds_of_ownsRow (enc := kS) h hv
   refine (Tryz.slices_Sort_string g 0 cap xs w hH g2 (by omega)).mono ?_
   rintro e w' ⟨rfl, n, os, rfl⟩
   have hml : (sortL xs).length = xs.length := List.length_mergeSort xs
   refine ⟨rfl, ?_, below_sorted (enc := encStr) hb g1 hb.size⟩
   have hr := ownsRow_putRow (enc := kS) (q := n) (k := xs.length) (ys := sortL xs) h hml (Nat.le_refl _)
   rw [List.take_of_length_le (Nat.le_of_eq hml)] at hr
   rw [hml]
   refine row_of hr fun g' hg' => ?_
   have eg : g = g' := by injection hg'
   subst eg
   show ((putRow encStr (Sort.ahead w n) g 0 _).heap ++ os)[g]? = _
   rw [Array.getElem?_append_left]
   · rfl
   have e : ∀ d : Array By, (putRow encStr (Sort.ahead w n) g 0 d).heap.size = w.heap.size := fun d => by simp [putRow, mapBlock, Sort.ahead]
   rw [e]; exact g2
section
variable {own : Nat → Prop} {w : World} {p : Nat} {M : Mo}
set_option maxHeartbeats 8000000 in
theorem dList_any (h : Dsk own w p M) (hG : Gd w) (s : By) (hs : s.length ≤ 4000) : Calls Tryz.prog 35 #[.pointer (some ⟨p, 0, none⟩), kS s] w fun e w' => ListP w (listM M.now s) e w' := by
 obtain ⟨m1, m2, sv, vs, h⟩ := h
 have C1 := hid (dmade_any (m1 := m1) (h.has.at_ 0))
 have hW := h.good.w1
 have hmay : ∀ q, (look M.now q).isSome → q.length ≤ 4000 := fun q hq => by have := (may_parts (hW.may q hq)).1; omega
 have CN : Hid (∀ W, Below w.heap.size w W → Calls Tryz.prog 67 #[.pointer (some ⟨p, 0, none⟩), kS s] W fun e w' => e = .returned (.int .i64 (noDirE M.now s)) ∧ Below W.heap.size W w') := fun W hb => by
  have := tnoDir_any (h.on hb).tr1 s hs
  exact this.mono fun e w' k => by first | exact k | exact ⟨k.1, by rw [← k.2]; exact Below.refl _ _⟩
 have CW : Hid (∀ W, Below w.heap.size w W → Calls Tryz.prog 71 #[.pointer (some ⟨p, 0, none⟩), kS s] W fun e w' => InPost W (innerL M.now s) e w') := fun W hb => twithin_any (h.on hb).tr1 hmay s hs
 have CM : Hid (∀ b, mayB s = b → Calls Tryz.prog 39 #[kS s] w fun e w' => e = .returned (.bool b) ∧ Below w.heap.size w w') := fun b hb => mayk_any s b hb w hG hs
 have HL : Hid ((innerL M.now s).length ≤ 100000) := by
  have h1 := inner_le M.now s
  have h2 := h.tr1.len
  show _ ≤ _; omega
 have HLM : Hid (listM M.now s = if (!decide (s = []) && !mayB s) = true then ([], 10) else if noDirE M.now s = 0 then (sortL (childL M.now s), 0) else ([], noDirE M.now s)) := rfl
 obtain ⟨c, HC⟩ : ∃ c, Hid (noDirE M.now s = c) := ⟨_, rfl⟩
 rw [HC.out] at CN HLM
 have B0 : Hid (Below w.heap.size w w) := Below.refl _ _
 clear h hW hmay hG
 -- behind the look at the path
 by_cases hs0 : s = []
 · have z1 : (ba s).toList = [] := by rw [toList_tl, tl_ba, hs0]
   have HLN : Hid (listM M.now s = if c = 0 then (sortL (childL M.now s), 0) else ([], c)) := by
    show _ = _; rw [HLM.out, if_neg (by simp [hs0])]
   clear hs0 HLM
   by_cases hc : c = 0
   · have HLO : Hid (listM M.now s = (sortL (childL M.now s), 0)) := by show _ = _; rw [HLN.out, if_pos hc]
     subst hc
     go_enter Tryz.func35, Tryz.ntmps35
     go_wp2_with fail
     refine C1.out.mono ?_; rintro e1 w1 ⟨rfl, rfl⟩
     go_wp2_with fail
     refine (CN.out _ B0.out).mono ?_; rintro e3 w3 ⟨rfl, hb3⟩
     have B3 : Hid (Below w.heap.size w w3) := B0.out.trans (hb3.mono B0.out.size)
     clear hb3
     go_wp2_with fail
     refine (CW.out _ B3.out).mono ?_; rintro e4 w4 ⟨v, xs, rfl, hp, hrow, hb4⟩
     have HP := hid hp
     have HR := hid hrow
     have HB4 := hid hb4
     have HXL : Hid (xs.length ≤ 100000) := by show _ ≤ _; rw [hp.length_eq]; exact HL.out
     clear hp hrow hb4
     go_wp2_with fail
     refine (del_any HB4.out HR.out HXL.out).mono ?_; rintro e5 w5 ⟨v', rfl, hrow5, hb5⟩
     have HR5 := hid hrow5
     have HB5 := hid hb5
     have HXF : Hid ((xs.filter flatB).length ≤ 100000) := Nat.le_trans (List.length_filter_le _ _) HXL.out
     clear hrow5 hb5
     go_wp2_with fail
     refine (sortNames_any HB5.out HR5.out HXF.out).mono ?_; rintro e6 w6 ⟨rfl, hrow6, hb6⟩
     have HSE : Hid (sortL (xs.filter flatB) = sortL (childL M.now s)) := sortL_perm (HP.out.filter _)
     rw [HSE.out] at hrow6
     have HR6 := hid hrow6
     have HB6 := hid hb6
     clear hrow6 hb6
     obtain ⟨A, cc, g, hv, hn⟩ := names_of_row HR6.out
     subst hv
     have HN := hid hn
     clear hn
     go_wp2
     go_ret2
     rw [HLO.out]
     exact ⟨A, cc, g, rfl, HN.out, B3.out.trans (HB6.out.mono B3.out.size)⟩
   · have HLO : Hid (listM M.now s = ([], c)) := by show _ = _; rw [HLN.out, if_neg hc]
     have q0 : (c == 0) = false := by simpa using hc
     have q1 : (c != 0) = true := by simpa using hc
     clear hc
     go_enter Tryz.func35, Tryz.ntmps35
     go_wp2_with fail
     refine C1.out.mono ?_; rintro e1 w1 ⟨rfl, rfl⟩
     go_wp2_with fail
     refine (CN.out _ B0.out).mono ?_; rintro e3 w3 ⟨rfl, hb3⟩
     have B3 := hid hb3
     clear hb3
     go_wp2
     go_ret2
     rw [HLO.out]
     exact ListP.none _ _ _ B3.out
 · have z1 : ¬ (ba s).toList = [] := by rw [toList_tl, tl_ba]; exact hs0
   have z2 : (ba s).toList.isEmpty = false := by simpa using z1
   cases hm : mayB s with
   | false =>
    have CMF := hid (CM.out false hm)
    have HLO : Hid (listM M.now s = ([], 10)) := by show _ = _; rw [HLM.out, if_pos (by simp [hs0, hm])]
    clear hs0 HLM hm
    go_enter Tryz.func35, Tryz.ntmps35
    go_wp2_with fail
    refine C1.out.mono ?_; rintro e1 w1 ⟨rfl, rfl⟩
    go_wp2_with fail
    refine CMF.out.mono ?_; rintro e2 w2 ⟨rfl, hb2⟩
    have B2 := hid hb2
    clear hb2
    go_wp2
    go_ret2
    rw [HLO.out]
    exact ListP.none _ _ _ B2.out
   | true =>
    have CMT := hid (CM.out true hm)
    have HLN : Hid (listM M.now s = if c = 0 then (sortL (childL M.now s), 0) else ([], c)) := by
     show _ = _; rw [HLM.out, if_neg (by simp [hm])]
    clear hs0 HLM hm
    by_cases hc : c = 0
    · have HLO : Hid (listM M.now s = (sortL (childL M.now s), 0)) := by show _ = _; rw [HLN.out, if_pos hc]
      subst hc
      go_enter Tryz.func35, Tryz.ntmps35
      go_wp2_with fail
      refine C1.out.mono ?_; rintro e1 w1 ⟨rfl, rfl⟩
      go_wp2_with fail
      refine CMT.out.mono ?_; rintro e2 w2 ⟨rfl, hb2⟩
      have B0 := hid hb2
      clear hb2
      go_wp2_with fail
      refine (CN.out _ B0.out).mono ?_; rintro e3 w3 ⟨rfl, hb3⟩
      have B3 : Hid (Below w.heap.size w w3) := B0.out.trans (hb3.mono B0.out.size)
      clear hb3
      go_wp2_with fail
      refine (CW.out _ B3.out).mono ?_; rintro e4 w4 ⟨v, xs, rfl, hp, hrow, hb4⟩
      have HP := hid hp
      have HR := hid hrow
      have HB4 := hid hb4
      have HXL : Hid (xs.length ≤ 100000) := by show _ ≤ _; rw [hp.length_eq]; exact HL.out
      clear hp hrow hb4
      go_wp2_with fail
      refine (del_any HB4.out HR.out HXL.out).mono ?_; rintro e5 w5 ⟨v', rfl, hrow5, hb5⟩
      have HR5 := hid hrow5
      have HB5 := hid hb5
      have HXF : Hid ((xs.filter flatB).length ≤ 100000) := Nat.le_trans (List.length_filter_le _ _) HXL.out
      clear hrow5 hb5
      go_wp2_with fail
      refine (sortNames_any HB5.out HR5.out HXF.out).mono ?_; rintro e6 w6 ⟨rfl, hrow6, hb6⟩
      have HSE : Hid (sortL (xs.filter flatB) = sortL (childL M.now s)) := sortL_perm (HP.out.filter _)
      rw [HSE.out] at hrow6
      have HR6 := hid hrow6
      have HB6 := hid hb6
      clear hrow6 hb6
      obtain ⟨A, cc, g, hv, hn⟩ := names_of_row HR6.out
      subst hv
      have HN := hid hn
      clear hn
      go_wp2
      go_ret2
      rw [HLO.out]
      exact ⟨A, cc, g, rfl, HN.out, B3.out.trans (HB6.out.mono B3.out.size)⟩
    · have HLO : Hid (listM M.now s = ([], c)) := by show _ = _; rw [HLN.out, if_neg hc]
      have q0 : (c == 0) = false := by simpa using hc
      have q1 : (c != 0) = true := by simpa using hc
      clear hc
      go_enter Tryz.func35, Tryz.ntmps35
      go_wp2_with fail
      refine C1.out.mono ?_; rintro e1 w1 ⟨rfl, rfl⟩
      go_wp2_with fail
      refine CMT.out.mono ?_; rintro e2 w2 ⟨rfl, hb2⟩
      have B2 := hid hb2
      clear hb2
      go_wp2_with fail
      refine (CN.out _ B2.out).mono ?_; rintro e3 w3 ⟨rfl, hb3⟩
      have B3 : Hid (Below w.heap.size w w3) := B2.out.trans (hb3.mono B2.out.size)
      clear hb3
      go_wp2
      go_ret2
      rw [HLO.out]
      exact ListP.none _ _ _ B3.out
end
end Go.Proofs.YtabidnlbgdecbaaGreatDoor
namespace Go.Proofs.YtabidnlbgdecbaaGreatDoor
open Go.RowKit
theorem b8_ofNat (m : Nat) : b8 (UInt8.ofNat m) = ((m % 256 : Nat) : Int) := by simp [b8]
def V8 (x : UInt8) : Value := .int .u8 (b8 x)
abbrev Grw (g : Nat) (w w' : World) : Prop := w.grownBy w' (some g)
section
variable {w w' : World} {g : Nat} {t : TypeId} {cs : Array Value}
theorem Has.grw {h : Nat} (k : Has w h t cs) (hg : Grw g w w') (hn : h ≠ g) : Has w' h t cs := (hg.block h k.inside (fun e => hn (Option.some.inj e))).trans k
end
theorem Grw.refl (g : Nat) (w : World) : Grw g w w := ⟨rfl, rfl, rfl, Nat.le_refl _, fun _ _ _ => rfl⟩
theorem Grw.trans {g : Nat} {a b c : World} (h : Grw g a b) (k : Grw g b c) : Grw g a c :=
 ⟨k.os.trans h.os, k.tape.trans h.tape, k.output.trans h.output, Nat.le_trans h.size k.size, fun i hi hn => (k.block i (Nat.lt_of_lt_of_le hi h.size) hn).trans (h.block i hi hn)⟩
theorem Grw.of_below {g : Nat} {a b : World} (h : Below a.heap.size a b) : Grw g a b := ⟨h.os, h.tape, h.output, h.size, fun i hi _ => h.block i hi⟩
theorem Grw.of_set (g i : Nat) (a : World) (v : Value) : Grw g a (a.setCell ⟨g, i, none⟩ v) :=
 ⟨rfl, rfl, rfl, by simp [World.setCell], fun k _ hn => Below.heap_setCell a ⟨g, i, none⟩ v k (fun e => hn (by rw [e]))⟩
theorem Grw.below {g B : Nat} {a b c : World} (h : Below B a b) (k : Grw g b c) (hg : B ≤ g) (hB : B ≤ b.heap.size) : Below B a c := h.grown k hB (fun _ e => by cases e; exact hg)
theorem Grw.cell {g : Nat} {a b : World} (h : Grw g a b) {p : Addr} {v : Value} (hc : a.cell? p = some v) (hn : p.block ≠ g) : b.cell? p = some v := World.grownBy.cell h hc (fun e => hn (Option.some.inj e))
structure Bytes (w : World) (v : Value) (xs : List UInt8) (A : Option Addr) (cap bb off : Nat) : Prop where
 form : v = .slice A xs.length cap
 le : xs.length ≤ cap
 zero : A = none → cap = 0
 at_ : ∀ a, A = some a → ∀ j, j < xs.length → w.cell? (a.add j) = some (V8 (at8 xs j))
 blk : bb < w.heap.size
 src : 0 < xs.length → A = some ⟨bb, off, none⟩
section
variable {w w' : World} {v : Value} {xs : List UInt8} {A : Option Addr} {cap bb off : Nat}
theorem add_at (bb off j : Nat) : (⟨bb, off, none⟩ : Addr).add j = ⟨bb, off + j, none⟩ := by unfold Addr.add; split <;> simp_all
theorem Bytes.cells (h : Bytes w v xs A cap bb off) (j : Nat) (hj : j < xs.length) : w.cell? ⟨bb, off + j, none⟩ = some (V8 (at8 xs j)) := by
 have e := h.at_ _ (h.src (by omega)) j hj
 rwa [add_at] at e
theorem Bytes.nil (w : World) (h : 0 < w.heap.size) : Bytes w (.slice none 0 0) [] none 0 0 0 := ⟨rfl, Nat.le_refl _, fun _ => rfl, (fun _ e => by cases e), h, (fun e => by simp at e)⟩
theorem Bytes.grw {g : Nat} (h : Bytes w v xs A cap bb off) (hg : Grw g w w') (hn : bb ≠ g) : Bytes w' v xs A cap bb off :=
 ⟨h.form, h.le, h.zero, fun a ha j hj => by
  have e := h.at_ a ha j hj
  have h2 := h.src (by omega)
  rw [ha] at h2
  obtain rfl := Option.some.inj h2
  rw [add_at] at e ⊢
  exact hg.cell e hn, Nat.lt_of_lt_of_le h.blk hg.size, h.src⟩
theorem Bytes.kept {B : Nat} (h : Bytes w v xs A cap bb off) (hb : Below B w w') (hB : w.heap.size ≤ B) : Bytes w' v xs A cap bb off :=
 ⟨h.form, h.le, h.zero, fun a ha j hj => by
  have e := h.at_ a ha j hj
  exact (hb.cell (Nat.lt_of_lt_of_le (block_lt_of_cell e) hB)).trans e, Nat.lt_of_lt_of_le h.blk hb.size, h.src⟩
end
theorem V8_one (xs : List UInt8) : ∀ u ∈ xs.map V8, u.oneCell' = true := by
 intro u hu
 obtain ⟨x, _, rfl⟩ := List.mem_map.1 hu
 rfl
theorem map_get {xs : List UInt8} {j : Nat} {u : Value} (h : (xs.map V8)[j]? = some u) : j < xs.length ∧ u = V8 (at8 xs j) := by
 have hj : j < xs.length := by
  have := (List.getElem?_eq_some_iff.1 h).1
  simpa using this
 refine ⟨hj, ?_⟩
 rw [List.getElem?_map, List.getElem?_eq_getElem hj] at h
 simp at h
 rw [← h, at8, List.getD, List.getElem?_eq_getElem hj]; rfl
theorem get_map {xs : List UInt8} {j : Nat} (h : j < xs.length) : (xs.map V8)[j]? = some (V8 (at8 xs j)) := by
 rw [List.getElem?_map, List.getElem?_eq_getElem h]
 simp [at8, List.getD, List.getElem?_eq_getElem h]
theorem info5 : (Tryz.prog.info? 5).map (fun i => (i.zero, i.size, i.bytes)) = some (some (.int .u8 0), 1, 1) := by kernel_rfl
theorem own_bytes {w : World} {B : Nat} {v : Value} {ys : List UInt8} {n : Nat} (hn : ys.length = n) (hw : 0 < w.heap.size) (h : w.ownsRow B 5 1 v n (ys.map V8)) : ∃ A cap bb, Bytes w v ys A cap bb 0 ∧ (0 < ys.length → B ≤ bb) ∧ (v.ownBlock = some bb ∨ v.ownBlock = none ∧ bb = 0) := by
 subst hn
 rcases h.2 with ⟨rfl, h2⟩ | ⟨g, c, cur, rfl, hbg, hgg, h4, _⟩
 · obtain rfl : ys = [] := List.eq_nil_of_length_eq_zero (by omega)
   exact ⟨none, 0, 0, Bytes.nil w hw, fun h => by simp at h, .inr ⟨rfl, rfl⟩⟩
 · have hc := h.cells (g := g) rfl
   have hl := (h.lt g rfl).2
   refine ⟨some ⟨g, 0, none⟩, c, g, ⟨rfl, h4, (fun h => by cases h), fun a ha j hj => ?_, hl, fun _ => rfl⟩, fun _ => hbg, .inl rfl⟩
   cases ha
   exact hc j _ (get_map hj)
theorem append_bytes (w : World) (B : Nat) (v : Value) (n : Nat) (xs : List Value) (hown : w.ownsRow B 5 1 v n xs) {src : Value} {ys : List UInt8} {A : Option Addr} {cap bb off : Nat} (hs : Bytes w src ys A cap bb off)
 (hn : n + ys.length ≤ 1000000) (hB : B ≤ w.heap.size) :
 ∃ v' w', (Builtin.append_ #[58, 58] 58 #[v, src]).run Tryz.prog w = .ok v' w' ∧ w'.ownsRow B 5 1 v' (n + ys.length) (xs ++ ys.map V8) ∧ w.grownBy w' v.ownBlock ∧
  (v' = .slice none 0 0 ↔ v = .slice none 0 0 ∧ ys.length = 0) ∧ (v'.ownBlock = v.ownBlock ∨ v'.ownBlock = some w.heap.size) := by
 obtain ⟨i0, hi, hz0, hz1, hz2⟩ := info_parts info5
 cases A with
 | none =>
  have hc := hs.zero rfl
  have hl := hs.le
  have h0 : ys.length = 0 := by omega
  have hy : ys = [] := List.eq_nil_of_length_eq_zero h0
  have e := hs.form
  rw [hc, h0] at e
  rw [e]
  refine ⟨v, w, run_append_owned_none (P := Tryz.prog) w B 58 58 5 i0 1 Tryz.underlying58 hi v n xs hown, ?_, ⟨rfl, rfl, rfl, Nat.le_refl _, fun _ _ _ => rfl⟩, by simp [h0], .inl rfl⟩
  rw [h0, hy]; simpa using hown
 | some a =>
  rw [hs.form]
  exact run_append_own_at (P := Tryz.prog) w B 58 58 5 i0 (.int .u8 0) 1 1 Tryz.underlying58 hi hz0 hz1 hz2 rfl (by omega) v n xs hown a ys.length cap (ys.map V8) (by simp)
   (fun j u hj => by obtain ⟨h1, rfl⟩ := map_get hj; exact hs.at_ a rfl j h1) (V8_one ys) (by unfold maxLen; omega) (by omega) hB
theorem wpList_append_run {P : Program} {ops : Array Oper} {rest : List Oper} {o : Oper} {a : Act} {w : World} {Q : Exit → Act → World → Prop} (hgd : o.guard = none) (s x : Operand) (t tn : TypeId)
 (ho : o.op = .call { callee := .builtin .append, args := #[s, x], argTypes := #[t, tn] })
 (h : ∃ v' w', (Builtin.append_ #[t, tn] o.type #[a.eval s, a.eval x]).run P w = .ok v' w' ∧ wpList P ops Q rest (a.put o.dst v') w') : wpList P ops Q (o :: rest) a w :=
 wpList_plain hgd fun _ hK => by
  obtain ⟨v', w', hr, h⟩ := h
  unfold Oper.wp execOp
  simp only [ho, resolve, invoke, builtin, Sem.run_bind, Sem.run_pure, Result.andThen_ok, List.map_toArray, List.map_cons, List.map_nil, hr]
  exact hK _ _ h
theorem conv_nil (w : World) : (convert 58 9 (.slice none 0 0)).run Tryz.prog w = .ok (.string ⟨#[]⟩) w := by kernel_rfl
theorem conv_back {w : World} {v : Value} {ys : List UInt8} {A : Option Addr} {cap bb off : Nat} (h : Bytes w v ys A cap bb off) : (convert 58 9 v).run Tryz.prog w = .ok (.string (ba ys)) w := by
 have e := h.form
 cases A with
 | none =>
  have hc := h.zero rfl
  have hl := h.le
  have h0 : ys = [] := List.eq_nil_of_length_eq_zero (by omega)
  subst h0
  rw [e, hc]
  exact conv_nil w
 | some a =>
  rw [e]
  have := run_convert_bytes_back (P := Tryz.prog) w 58 9 5 a cap ys Tryz.underlying58 Tryz.underlying5 Tryz.underlying9 (fun j hj => by
   rw [h.at_ a rfl j hj, V8, b8, at8, List.getD, List.getElem?_eq_getElem hj]; rfl)
  exact this
theorem Bytes.pre {w : World} {v : Value} {xs : List UInt8} {A : Option Addr} {cap bb off : Nat} (h : Bytes w v xs A cap bb off) (m : Nat) (hm : m ≤ xs.length) : Bytes w (.slice A m cap) (xs.take m) A cap bb off := by
 have hl : (xs.take m).length = m := by rw [List.length_take]; omega
 refine ⟨by rw [hl], by have := h.le; omega, h.zero, fun a ha j hj => ?_, h.blk, fun h0 => h.src (by omega)⟩
 rw [hl] at hj
 rw [h.at_ a ha j (by omega)]
 congr 2
 simp [at8, List.getD, hj]
theorem Bytes.rest {w : World} {v : Value} {xs : List UInt8} {A : Option Addr} {cap bb off : Nat} (h : Bytes w v xs A cap bb off) (m : Nat) (hm : m ≤ xs.length) :
 ∃ A2, (∀ w : World, (Instr.slice 58 v (some (.int .i64 (m : Int))) none none).run Tryz.prog w = .ok (.slice A2 (xs.drop m).length (cap - m)) w) ∧ Bytes w (.slice A2 (xs.drop m).length (cap - m)) (xs.drop m) A2 (cap - m) bb (off + m) := by
 have he : Tryz.prog.elem 58 = 5 := by kernel_rfl
 have hs : ∀ w, (sizeOf (Tryz.prog.elem 58)).run Tryz.prog w = .ok 1 w := by intro w; rw [he]; kernel_rfl
 have hle := h.le
 refine ⟨if cap = m then A else A.map (·.add m), ?_, ?_⟩
 · intro w
   rw [h.form, run_slice_l (P := Tryz.prog) w 58 A xs.length cap (by kernel_rfl) .i64 (m : Int) (by omega) (by omega), hs]
   simp only [Result.andThen, sliced, Int.toNat_natCast, Nat.mul_one, List.length_drop]
 · refine ⟨rfl, by rw [List.length_drop]; omega, fun e => ?_, fun a ha j hj => ?_, h.blk, fun h0 => ?_⟩
   · cases A with
     | none => have := h.zero rfl; omega
     | some a => split at e <;> cases e
   · rw [List.length_drop] at hj
     have h2 := h.src (by omega)
     subst h2
     rw [if_neg (by omega)] at ha
     simp only [Option.map_some, Option.some.injEq] at ha
     rw [← ha, add_at, add_at, Nat.add_assoc, h.cells (m + j) (by omega)]
     congr 2
     simp [at8, List.getD, List.getElem?_drop]
   · rw [List.length_drop] at h0
     have h2 := h.src (by omega)
     subst h2
     rw [if_neg (by omega)]
     simp only [Option.map_some, add_at]
end Go.Proofs.YtabidnlbgdecbaaGreatDoor
namespace Go.Proofs.YtabidnlbgdecbaaGreatDoor
open Go.RowKit
def wid (k : Int) : Bool := k == 1 || k == 2 || k == 4 || k == 8
theorem wid_cases {k : Int} (h : wid k = true) : k = 1 ∨ k = 2 ∨ k = 4 ∨ k = 8 := by
 simp only [wid, Bool.or_eq_true, beq_iff_eq] at h; omega
theorem wid_no {k : Int} (h : wid k = false) : k ≠ 1 ∧ k ≠ 2 ∧ k ≠ 4 ∧ k ≠ 8 := by
 simp only [wid, Bool.or_eq_false_iff, beq_eq_false_iff_ne] at h; omega
set_option maxHeartbeats 400000 in
theorem isWidth_any (k : Int) (w : World) : Calls Tryz.prog 127 #[.int .i64 k] w fun e w' => e = .returned (.bool (wid k)) ∧ w = w' := by
 rcases hw : wid k with _ | _
 · obtain ⟨h1, h2, h3, h4⟩ := wid_no hw
   have HW := hid hw
   clear hw
   go_enter Tryz.func127, Tryz.ntmps127
   go_wp2
   go_ret
   exact ⟨by rw [← HW.out]; rfl, rfl⟩
 · rcases wid_cases hw with rfl | rfl | rfl | rfl
   all_goals
    clear hw
    go_enter Tryz.func127, Tryz.ntmps127
    go_wp2
    go_ret
    exact ⟨rfl, rfl⟩
def lowB (n j : Nat) : UInt8 := UInt8.ofNat (n / 256 ^ j)
def highs (n m j : Nat) : List UInt8 := (List.range j).map fun i => lowB n (m - 1 - i)
theorem highs_next (n m j : Nat) : highs n m (j + 1) = highs n m j ++ [lowB n (m - 1 - j)] := by simp [highs, List.range_succ]
theorem highs_len (n m j : Nat) : (highs n m j).length = j := by simp [highs]
def numL (k : Int) (n : Nat) : List UInt8 := if wid k then highs n k.toNat k.toNat else []
theorem numL_len (k : Int) (n : Nat) : (numL k n).length ≤ 8 := by
 unfold numL
 split
 · rename_i h
   rw [highs_len]
   rcases wid_cases h with rfl | rfl | rfl | rfl <;> decide
 · simp
set_option maxHeartbeats 1000000 in
theorem number_any (k : Int) (n : Nat) (hn : n < 18446744073709551616) (w : World) :
 Calls Tryz.prog 82 #[.int .i64 k, .int .u64 (n : Int)] w fun e w' => ∃ v, e = .returned v ∧ w'.ownsRow w.heap.size 5 1 v (numL k n).length ((numL k n).map V8) ∧ Below w.heap.size w w' := by
 have HN := hid hn
 clear hn
 rcases hw : wid k with _ | _
 · have HL : Hid (numL k n = []) := by show _ = _; rw [numL, hw]; rfl
   rw [HL.out]
   have C := hid (isWidth_any k w)
   rw [hw] at C
   clear hw
   go_enter Tryz.func82, Tryz.ntmps82
   go_wp2_with (go_at_call 127; refine C.out.mono ?_; rintro e w' ⟨rfl, rfl⟩)
   go_ret
   exact ⟨_, rfl, World.ownsRow_nil _ _ _ _, Below.refl _ _⟩
 · obtain ⟨m, rfl, hm0, hm8⟩ : ∃ m : Nat, k = (m : Int) ∧ 1 ≤ m ∧ m ≤ 8 := by
    rcases wid_cases hw with rfl | rfl | rfl | rfl
    · exact ⟨1, rfl, by omega, by omega⟩
    · exact ⟨2, rfl, by omega, by omega⟩
    · exact ⟨4, rfl, by omega, by omega⟩
    · exact ⟨8, rfl, by omega, by omega⟩
   have HL : Hid (numL m n = highs n m m) := by show _ = _; rw [numL, hw]; rfl
   rw [HL.out, highs_len]
   have C := hid (isWidth_any m w)
   rw [hw] at C
   clear hw
   obtain ⟨i0, hi, hz0, hz1, hz2⟩ := info_parts info5
   have w1 : IntKind.i64.wrap ((m : Int) - 1) = (m : Int) - 1 := i64in _ (by omega) (by omega)
   have w2 : IntKind.i64.wrap (8 * ((m : Int) - 1)) = 8 * ((m : Int) - 1) := i64in _ (by omega) (by omega)
   go_enter Tryz.func82, Tryz.ntmps82
   go_wp2_with (go_at_call 127; refine C.out.mono ?_; rintro e w' ⟨rfl, rfl⟩)
   go_loopw [5, 6] (fun v i wr => ∃ (j : Nat) (q : Int), j ≤ m ∧ i = .int .i64 q ∧ Hid (q = 8 * ((m : Int) - 1 - (j : Int))) ∧ Hid (wr.ownsRow w.heap.size 5 1 v j ((highs n m j).map V8)) ∧ Hid (Below w.heap.size w wr))
    (fun _ i _ => (intOf i + 8).toNat)
   case atStart => exact ⟨0, _, by omega, rfl, by show _ = _; omega, World.ownsRow_nil _ _ _ _, Below.refl _ _⟩
   case round =>
    obtain ⟨j, q, hj, rfl, HQ, HO, HB⟩ := hrel
    by_cases hlt : j < m
    · obtain ⟨sh, rfl⟩ : ∃ sh : Nat, q = (sh : Int) := ⟨8 * (m - 1 - j), by have := HQ.out; omega⟩
      have hsh : (0 : Int) ≤ (sh : Int) := by omega
      have hsh2 : (sh : Int) ≤ 56 := by have := HQ.out; omega
      have N1 : Hid (∀ u ∈ [Value.int .u8 ((n : Int) / 2 ^ sh % 256)], u.oneCell' = true) := by
       intro u hu
       rw [List.mem_singleton] at hu
       subst hu; rfl
      have N2 : Hid (j + 1 ≤ maxLen) := by show _ ≤ _; unfold maxLen; omega
      have N3 : Hid ((j + 1) * 1 ≤ 140737488355328) := by show _ ≤ _; omega
      have N4 : Hid (∀ o, w.heap.size ≤ (wr.alloc o).heap.size) := by intro o; have := HB.out.size; simp; omega
      have N5 : Hid (Value.int .u8 ((n : Int) / 2 ^ sh % 256) = V8 (lowB n (m - 1 - j))) := by
       have e : sh = 8 * (m - 1 - j) := by have := HQ.out; omega
       show Value.int _ _ = Value.int _ _
       have e2 : (256 : Nat) ^ (m - 1 - j) = 2 ^ (8 * (m - 1 - j)) := by rw [Nat.pow_mul]
       rw [lowB, b8_ofNat, e, e2]
       norm_cast
      go_wp2_with (at_builtin; refine wpList_append_own _ rfl _ _ 58 rfl w.heap.size 5 i0 (.int .u8 0) 1 1 Tryz.underlying58 hi hz0 hz1 hz2 rfl (by omega) _ _ _ rfl (HO.out.alloc _) ⟨wr.heap.size, 0, none⟩ 1 1 [Value.int .u8 ((n : Int) / 2 ^ sh % 256)] rfl rfl (cell_one_new _ _ _) N1.out N2.out N3.out (N4.out _) ?_; intro v' w1 hown' hgrow _)
      have HO2 : Hid (w1.ownsRow w.heap.size 5 1 v' (j + 1) ((highs n m (j + 1)).map V8)) := by
       rw [N5.out] at hown'
       rw [highs_next, List.map_append]
       exact hown'
      have HB2 : Hid (Below w.heap.size w w1) :=
       ((HB.out.alloc HB.out.size _).grown hgrow (N4.out _) (fun g hg => by
         rcases HO.out.2 with ⟨rfl, _⟩ | ⟨g', _, _, rfl, hle, _⟩
         · cases hg
         · obtain rfl := Option.some.inj hg; exact hle))
      clear hown' hgrow
      go_wp2
      go_roundw
      case rel => exact ⟨j + 1, (sh : Int) - 8, by omega, rfl, by show _ = _; have := HQ.out; omega, HO2, HB2⟩
      case measure => simp [intOf]; omega
    · obtain rfl : j = m := by omega
      have hq : q < 0 := by have := HQ.out; omega
      go_wp2
      go_ret
      exact ⟨_, rfl, HO.out, HB.out⟩
end Go.Proofs.YtabidnlbgdecbaaGreatDoor
namespace Go.Proofs.YtabidnlbgdecbaaGreatDoor
open Go.RowKit
theorem u64in (x : Nat) (h : x < 18446744073709551616) : IntKind.u64.wrap (x : Int) = x := by
 simp [IntKind.wrap, IntKind.signed, IntKind.bits]; omega
end Go.Proofs.YtabidnlbgdecbaaGreatDoor
namespace Go.Proofs.YtabidnlbgdecbaaGreatDoor
open Go.RowKit
theorem zero_size (n m : Nat) : (Builtin.zeroCells (Value.int IntKind.u8 0).cells n ++ Builtin.zeroCells (Value.int IntKind.u8 0).cells m).size = n + m := by
 rw [Array.size_append, size_zeroCells, size_zeroCells]
 simp [Value.cells]
set_option maxHeartbeats 400000 in
theorem grow_any (n : Nat) (hn : n ≤ 100000) (w : World) :
 Calls Tryz.prog 126 #[.slice none 0 0, .int .i64 (n : Int)] w fun e w' => ∃ v, e = .returned v ∧ w'.ownsRow w.heap.size 5 1 v 0 [] ∧ Below w.heap.size w w' := by
 have h0 : ¬ (n : Int) < 0 := by omega
 have w1 : IntKind.i64.wrap (n : Int) = n := i64in _ (by omega) (by omega)
 by_cases hz : n = 0
 · subst hz
   go_enter Tryz.func126, Tryz.ntmps126
   go_wp2
   go_ret
   exact ⟨_, rfl, World.ownsRow_nil _ _ _ _, Below.refl _ _⟩
 · have hp : (0 : Int) < (n : Int) := by omega
   obtain ⟨i0, hi, hz0, hz1, hz2⟩ := info_parts info5
   have HR : Hid (∀ w : World, (Builtin.append_ #[58, 3] 58 #[.slice none 0 0, .int .i64 n]).run Tryz.prog w =
    .ok (.slice (some ⟨w.heap.size, 0, none⟩) n (grownCap w n 0 5)) (w.drew.alloc (.cells (Builtin.zeroCells (Value.int IntKind.u8 0).cells n ++ Builtin.zeroCells (Value.int IntKind.u8 0).cells (grownCap w n 0 5 - n)) 5))) := fun w =>
    Lib.run_append_nil_zeros (P := Tryz.prog) w 58 3 58 5 i0 (.int .u8 0) .i64 .i64 Tryz.underlying58 Tryz.underlying3 hi hz0 n (by omega) (by omega) (by omega) (by rw [hz2]; omega)
   have hge := grownCap_ge w n 0 5
   have hle := grownCap_le_maxLen w n 0 5 (by unfold maxLen; omega)
   generalize hc : grownCap w n 0 5 = c at hge hle
   have HC := hid hc
   have HLE := hid hle
   clear hc hle
   go_enter Tryz.func126, Tryz.ntmps126
   go_wp2_with (refine wpList_append_run rfl (.tmp 20) (.tmp 21) 58 3 rfl ⟨_, _, HR.out _, ?_⟩; rw [HC.out])
   go_ret
   refine ⟨_, rfl, ?_, ?_⟩
   · exact World.ownsRow_made w.drew _ c (Nat.le_refl _) HLE.out ((zero_size n (c - n)).trans (by omega))
   · exact (Below.refl _ _).drew.alloc (Nat.le_refl _) _
def Rows1 (w : World) (g : Nat) (xss : List (List UInt8)) : Prop := ∀ i, i < xss.length → ∃ A n cap bb off, w.cell? ⟨g, i, none⟩ = some (.slice A n cap) ∧ n = (xss.getD i []).length ∧ Bytes w (.slice A n cap) (xss.getD i []) A cap bb off
theorem Rows1.kept {w w' : World} {g B : Nat} {xss : List (List UInt8)} (h : Rows1 w g xss) (hb : Below B w w') (hB : w.heap.size ≤ B) : Rows1 w' g xss := fun i hi => by
 obtain ⟨A, n, cap, bb, off, h1, h2, h3⟩ := h i hi
 exact ⟨A, n, cap, bb, off, (hb.cell (Nat.lt_of_lt_of_le (block_lt_of_cell h1) hB)).trans h1, h2, h3.kept hb hB⟩
def pre (xss : List (List UInt8)) (i : Nat) : List UInt8 := (xss.take i).flatten
theorem pre_next (xss : List (List UInt8)) (i : Nat) (h : i < xss.length) : pre xss (i + 1) = pre xss i ++ xss.getD i [] := by
 have e : xss.getD i [] = xss[i] := by rw [List.getD, List.getElem?_eq_getElem h]; rfl
 rw [e, pre, pre, List.take_succ_eq_append_getElem h, List.flatten_append, List.flatten_singleton]
theorem pre_le (xss : List (List UInt8)) (i : Nat) : (pre xss i).length ≤ xss.flatten.length := by
 have h : xss.flatten = pre xss i ++ (xss.drop i).flatten := by rw [pre, ← List.flatten_append, List.take_append_drop]
 rw [h, List.length_append]; omega
theorem pre_all (xss : List (List UInt8)) : pre xss xss.length = xss.flatten := by simp [pre]
set_option maxHeartbeats 1000000 in
theorem concat_any (g k c : Nat) (xss : List (List UInt8)) (hk : xss.length = k) (hbig : xss.flatten.length ≤ 100000) (w : World) (hr : Rows1 w g xss) (hkc : k ≤ 1000) :
 Calls Tryz.prog 81 #[.slice (some ⟨g, 0, none⟩) k c] w fun e w' => ∃ v, e = .returned v ∧ w'.ownsRow w.heap.size 5 1 v xss.flatten.length (xss.flatten.map V8) ∧ Below w.heap.size w w' := by
 have HK := hid hk
 have HBIG := hid hbig
 have HR := hid hr
 have HPL := hid (pre_le xss)
 have HPA := hid (pre_all xss)
 clear hbig hr hk
 go_enter Tryz.func81, Tryz.ntmps81
 go_wp2
 go_loopw [3, 11] (fun s i wr => ∃ (j m : Nat), j ≤ k ∧ i = .int .i64 (j : Int) ∧ s = .int .i64 (m : Int) ∧ Hid (m = (pre xss j).length) ∧ w = wr) (fun _ i _ => k - (intOf i).toNat)
 case atStart => exact ⟨0, 0, by omega, rfl, rfl, rfl, rfl⟩
 case round =>
  obtain ⟨j, m, hj, rfl, rfl, HM, rfl⟩ := hrel
  by_cases hlt : j < k
  · obtain ⟨A, n, cap, bb, off, h1, h2, h3⟩ := HR.out j (by rw [HK.out]; exact hlt)
    have HN : Hid (m + n = (pre xss (j + 1)).length) := by
     show _ = _
     rw [pre_next _ _ (by rw [HK.out]; exact hlt), List.length_append, ← HM.out, ← h2]
    have hb : (m : Int) + (n : Int) ≤ 100000 := by
     have e1 := HN.out; have e2 := HPL.out (j + 1); have e3 := HBIG.out
     omega
    have w1 : IntKind.i64.wrap ((m : Int) + (n : Int)) = (m : Int) + (n : Int) := i64in _ (by omega) (by omega)
    have hneg : ¬ (m : Int) + (n : Int) < 0 := by omega
    clear h2 h3
    go_wp2
    go_roundw
    case rel => exact ⟨j + 1, m + n, by omega, by go_num, by push_cast; rfl, HN, trivial⟩
    case measure => simp [intOf]; omega
  · obtain rfl : j = k := by omega
    have hm : m ≤ 100000 := by
     have e1 := HM.out; have e2 := HPL.out j; have e3 := HBIG.out
     omega
    have G := hid (grow_any m hm w)
    clear hm
    go_wp2_with (go_at_call 126; refine G.out.mono ?_; rintro e w1 ⟨v0, rfl, ho0, hb0⟩)
    have HO0 := hid ho0
    have HB0 := hid hb0
    clear ho0 hb0
    go_loopw [6, 27] (fun s i w2 => ∃ (j2 : Nat), j2 ≤ j ∧ i = .int .i64 (j2 : Int) ∧ Hid (w2.ownsRow w.heap.size 5 1 s (pre xss j2).length ((pre xss j2).map V8)) ∧ Hid (Below w.heap.size w w2)) (fun _ i _ => j - (intOf i).toNat)
    case atStart => exact ⟨0, by omega, rfl, HO0, HB0⟩
    case round =>
     obtain ⟨j2, hj2, rfl, HO, HB⟩ := hrel
     by_cases hlt : j2 < j
     · obtain ⟨A, n, cap, bb, off, h1, h2, h3⟩ := (HR.out.kept HB.out (Nat.le_refl _)) j2 (by rw [HK.out]; exact hlt)
       have HN : Hid ((pre xss (j2 + 1)) = pre xss j2 ++ xss.getD j2 []) := pre_next _ _ (by rw [HK.out]; exact hlt)
       have HL : Hid ((pre xss j2).length + (xss.getD j2 []).length ≤ 1000000) := by
        show _ ≤ _
        have e2 := HPL.out (j2 + 1); have e3 := HBIG.out
        rw [HN.out, List.length_append] at e2; omega
       have H3 := hid h3
       clear h2 h3
       go_wp2_with (refine wpList_append_run rfl (.tmp 31) (.tmp 32) 58 58 rfl ?_; obtain ⟨v', w', hr, ho, hg, _, _⟩ := append_bytes _ _ _ _ _ HO.out H3.out HL.out HB.out.size; refine ⟨v', w', hr, ?_⟩)
       have HO2 : Hid (w'.ownsRow w.heap.size 5 1 v' (pre xss (j2 + 1)).length ((pre xss (j2 + 1)).map V8)) := by
        rw [HN.out, List.length_append, List.map_append]; exact ho
       have HB2 : Hid (Below w.heap.size w w') := HB.out.grown hg HB.out.size (fun x hx => (HO.out.lt x hx).1)
       clear hr ho hg
       go_wp2
       go_roundw
       case rel => exact ⟨j2 + 1, by omega, by go_num, HO2, HB2⟩
       case measure => simp [intOf]; omega
     · obtain rfl : j2 = j := by omega
       go_wp2
       go_ret
       refine ⟨_, rfl, ?_, HB.out⟩
       rw [← HPA.out, HK.out]; exact HO.out
end Go.Proofs.YtabidnlbgdecbaaGreatDoor
