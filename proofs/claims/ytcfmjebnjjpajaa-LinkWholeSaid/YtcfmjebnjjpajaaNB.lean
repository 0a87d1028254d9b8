/- A stream in memory: a row of its own from some place on; appended to, cut; its cut-off part; what a call may turn. No conditions but the ones said. -/
import Derived.Test.YtcfmjebnjjpajaaNA
namespace Go.Proofs.Ytcfmjebnjjpajaa
open Go.RowKit
/-- Bytes in a row that is the stream's own, from some place on; in the row x.1 not ahead of x.2. -/
def Que (w : World) (v : Value) (xs : List UInt8) (o : Option Nat) (x : Nat × Nat) : Prop :=
  (v = .slice none 0 0 ∧ xs = [] ∧ o = none) ∨ ∃ g off cap cur, o = some g ∧ v = .slice (some ⟨g, off, none⟩) xs.length cap ∧ w.heap[g]? = some (.cells cur 5 (0, 0)) ∧ xs.length ≤ cap ∧ off + cap ≤ cur.size ∧ (0 < xs.length → g = x.1 → x.2 ≤ off) ∧
    ∀ j, j < xs.length → cur[off + j]? = some (V8 (at8 xs j))
/-- Block p, and the row o, alone have turned, new blocks aside. -/
structure Chg (p : Nat) (o : Option Nat) (w w' : World) : Prop where
  os : w'.os = w.os
  tape : w'.tape = w.tape
  output : w'.output = w.output
  size : w.heap.size ≤ w'.heap.size
  block : ∀ k, k < w.heap.size → k ≠ p → o ≠ some k → w'.heap[k]? = w.heap[k]?
/-- The row is the one before, or none, or a new one. -/
def Nx (o o' : Option Nat) (w : World) : Prop := o' = o ∨ o' = none ∨ ∃ k, o' = some k ∧ w.heap.size ≤ k
def From (B : Nat) (o : Option Nat) : Prop := ∀ k, o = some k → B ≤ k
section
variable {p : Nat} {o o' : Option Nat} {w w' a b c : World}
theorem From.nx {B : Nat} (h : From B o) (hn : Nx o o' w) (hB : B ≤ w.heap.size) : From B o' := by
  intro k hk
  rcases hn with rfl | rfl | ⟨j, rfl, hj⟩
  · exact h k hk
  · cases hk
  · cases hk; omega
theorem Nx.ne {k : Nat} (hn : Nx o o' w) (h : o ≠ some k) (hk : k < w.heap.size) : o' ≠ some k := by
  rcases hn with rfl | rfl | ⟨j, rfl, hj⟩
  · exact h
  · intro e; cases e
  · intro e; cases e; omega
theorem Nx.trans {o'' : Option Nat} (h : Nx o o' a) (k : Nx o' o'' b) (hs : a.heap.size ≤ b.heap.size) : Nx o o'' a := by
  rcases k with rfl | rfl | ⟨j, rfl, hj⟩
  · exact h
  · exact .inr (.inl rfl)
  · exact .inr (.inr ⟨j, rfl, by omega⟩)
theorem Chg.refl (p : Nat) (o : Option Nat) (w : World) : Chg p o w w := ⟨rfl, rfl, rfl, Nat.le_refl _, fun _ _ _ _ => rfl⟩
theorem Chg.trans (h : Chg p o a b) (k : Chg p o' b c) (hn : Nx o o' a) : Chg p o a c :=
  ⟨k.os.trans h.os, k.tape.trans h.tape, k.output.trans h.output, Nat.le_trans h.size k.size, fun i hi hp ho => (k.block i (Nat.lt_of_lt_of_le hi h.size) hp (hn.ne ho hi)).trans (h.block i hi hp ho)⟩
theorem Chg.of_below (h : Below a.heap.size a b) : Chg p o a b := ⟨h.os, h.tape, h.output, h.size, fun i hi _ _ => h.block i hi⟩
theorem Chg.of_grw (h : Grw p a b) : Chg p o a b := ⟨h.os, h.tape, h.output, h.size, fun i hi hp _ => h.block i hi (fun e => hp (Option.some.inj e))⟩
theorem Chg.of_row (h : a.grownBy b o) : Chg p o a b := ⟨h.os, h.tape, h.output, h.size, fun i hi _ ho => h.block i hi (fun e => ho e.symm)⟩
theorem Chg.below {B : Nat} (h : Below B a b) (k : Chg p o b c) (hp : B ≤ p) (ho : From B o) (hB : B ≤ b.heap.size) : Below B a c :=
  ⟨k.os.trans h.os, k.tape.trans h.tape, k.output.trans h.output, Nat.le_trans h.size k.size, fun i hi =>
    (k.block i (by omega) (by omega) (fun e => by have := ho i e; omega)).trans (h.block i hi)⟩
theorem Has.chg {g : Nat} {t : TypeId} {cs : Array Value} (k : Has w g t cs) (hg : Chg p o w w') (hn : g ≠ p) (ho : o ≠ some g) : Has w' g t cs := (hg.block g k.inside hn ho).trans k
theorem Bytes.chg {v : Value} {xs : List UInt8} {A : Option Addr} {cap bb off : Nat} (h : Bytes w v xs A cap bb off) (hg : Chg p o w w') (hn : bb ≠ p) (ho : o ≠ some bb) : Bytes w' v xs A cap bb off :=
  ⟨h.form, h.le, h.zero, fun a ha j hj => by
    have e := h.at_ a ha j hj
    have h2 := h.src (by omega)
    rw [ha] at h2
    obtain rfl := Option.some.inj h2
    rw [add_at] at e ⊢
    rw [← e]
    exact World.cell?_of_block (hg.block bb h.blk hn ho), Nat.lt_of_lt_of_le h.blk hg.size, h.src⟩
end
section
variable {w w' : World} {v : Value} {xs : List UInt8} {o : Option Nat} {x : Nat × Nat}
theorem Que.nil (w : World) (x : Nat × Nat) : Que w (.slice none 0 0) [] none x := .inl ⟨rfl, rfl, rfl⟩
theorem Que.weak (h : Que w v xs o x) : Que w v xs o (0, 0) := by
  rcases h with h | ⟨g, off, cap, cur, h1, h2, hg, hc, hs, _, hx⟩
  · exact .inl h
  · exact .inr ⟨g, off, cap, cur, h1, h2, hg, hc, hs, fun _ _ => Nat.zero_le _, hx⟩
theorem Que.other (h : Que w v xs o (0, 0)) (ho : o ≠ some x.1) : Que w v xs o x := by
  rcases h with h | ⟨g, off, cap, cur, h1, h2, hg, hc, hs, _, hx⟩
  · exact .inl h
  · exact .inr ⟨g, off, cap, cur, h1, h2, hg, hc, hs, fun _ e => absurd (by rw [h1, e]) ho, hx⟩
theorem Que.bytes (h : Que w v xs o x) (hw : 0 < w.heap.size) : ∃ A cap bb off, Bytes w v xs A cap bb off ∧ (o = some bb ∨ o = none ∧ bb = 0) := by
  rcases h with ⟨rfl, rfl, rfl⟩ | ⟨g, off, cap, cur, rfl, rfl, hg, hc, hs, _, hx⟩
  · exact ⟨none, 0, 0, 0, Bytes.nil w hw, .inr ⟨rfl, rfl⟩⟩
  · refine ⟨some ⟨g, off, none⟩, cap, g, off, ⟨rfl, hc, (fun h => by cases h), fun a ha j hj => ?_, (Array.getElem?_eq_some_iff.1 hg).1, fun _ => rfl⟩, .inl rfl⟩
    cases ha
    rw [add_at, cell_of_row w g _ cur 5 (0, 0) hg]
    exact hx j hj
theorem Que.inside (h : Que w v xs o x) {k : Nat} (hk : o = some k) : k < w.heap.size := by
  rcases h with ⟨_, _, rfl⟩ | ⟨g, off, cap, cur, rfl, _, hg, _⟩
  · cases hk
  · cases hk; exact (Array.getElem?_eq_some_iff.1 hg).1
theorem Que.same (h : Que w v xs o x) (hb : ∀ k, o = some k → w'.heap[k]? = w.heap[k]?) : Que w' v xs o x := by
  rcases h with h | ⟨g, off, cap, cur, h1, h2, hg, h3⟩
  · exact .inl h
  · exact .inr ⟨g, off, cap, cur, h1, h2, (hb g h1).trans hg, h3⟩
theorem Que.form (h : Que w v xs o x) : ∃ A cap, v = .slice A xs.length cap := by
  rcases h with ⟨rfl, rfl, rfl⟩ | ⟨g, off, cap, cur, rfl, rfl, _⟩
  · exact ⟨none, 0, rfl⟩
  · exact ⟨_, _, rfl⟩
theorem cells_set {w : World} {g : Nat} {cur : Array Value} (hg : w.heap[g]? = some (.cells cur 5 (0, 0))) (i : Nat) (v : Value) : (w.setCell ⟨g, i, none⟩ v).heap[g]? = some (.cells (cur.setIfInBounds i v) 5 (0, 0)) := by
  simp [World.setCell, Array.getElem?_modify, hg]
/-- A byte ahead of the stream's place is stored. -/
theorem Que.store (h : Que w v xs o x) {i : Nat} (hi : i < x.2) (y : Value) : Que (w.setCell ⟨x.1, i, none⟩ y) v xs o x := by
  rcases h with h | ⟨g, off, cap, cur, h1, h2, hg, hc, hs, hf, hx⟩
  · exact .inl h
  · by_cases hgx : g = x.1
    · refine .inr ⟨g, off, cap, cur.setIfInBounds i y, h1, h2, by rw [← hgx]; exact cells_set hg i y, hc, by rw [Array.size_setIfInBounds]; exact hs, hf, fun j hj => ?_⟩
      have := hf (by omega) hgx
      rw [Array.getElem?_setIfInBounds, if_neg (by omega)]
      exact hx j hj
    · exact .inr ⟨g, off, cap, cur, h1, h2, (Below.heap_setCell w ⟨x.1, i, none⟩ y g hgx).trans hg, hc, hs, hf, hx⟩
/-- So many bytes lie there from a place on, and may be written. -/
def Wrt (w : World) (g off m : Nat) : Prop := ∃ cur, w.heap[g]? = some (.cells cur 5 (0, 0)) ∧ ∀ j, j < m → ∃ z : Int, cur[off + j]? = some (.int .u8 z) ∧ 0 ≤ z ∧ z ≤ 255
theorem Wrt.cell {g off m : Nat} (h : Wrt w g off m) (j : Nat) (hj : j < m) : ∃ z : Int, w.cell? ⟨g, off + j, none⟩ = some (.int .u8 z) ∧ w.frozen? ⟨g, off + j, none⟩ = false ∧ 0 ≤ z ∧ z ≤ 255 := by
  obtain ⟨cur, hg, hc⟩ := h
  obtain ⟨z, h1, h2⟩ := hc j hj
  exact ⟨z, (cell_of_row w g _ cur 5 (0, 0) hg).trans h1, by simp [World.frozen?, hg], h2⟩
theorem Wrt.put {g off m : Nat} (h : Wrt w g off m) (j : Nat) (z : Int) (h0 : 0 ≤ z) (h1 : z ≤ 255) : Wrt (w.setCell ⟨g, off + j, none⟩ (.int .u8 z)) g off m := by
  obtain ⟨cur, hg, hc⟩ := h
  refine ⟨_, cells_set hg (off + j) _, fun i hi => ?_⟩
  obtain ⟨y, h2, h3, h4⟩ := hc i hi
  have hlt : off + i < cur.size := (Array.getElem?_eq_some_iff.1 h2).1
  rw [Array.getElem?_setIfInBounds]
  by_cases e : off + j = off + i
  · rw [if_pos e, if_pos (by omega)]; exact ⟨z, rfl, h0, h1⟩
  · rw [if_neg e]; exact ⟨y, h2, h3, h4⟩
theorem Wrt.same {g off m : Nat} (h : Wrt w g off m) (hb : w'.heap[g]? = w.heap[g]?) : Wrt w' g off m := by
  obtain ⟨cur, hg, hc⟩ := h
  exact ⟨cur, hb.trans hg, hc⟩
theorem Wrt.inside {g off m : Nat} (h : Wrt w g off m) : g < w.heap.size := by
  obtain ⟨cur, hg, _⟩ := h
  exact (Array.getElem?_eq_some_iff.1 hg).1
set_option maxRecDepth 100000 in
/-- The first m bytes, cut off; and what stands behind them. -/
theorem Que.cut (h : Que w v xs o x) (m : Nat) (hm : m ≤ xs.length) (hw : 0 < w.heap.size) :
    ∃ A A2 c2 g off, (∀ w : World, (Instr.slice 46 v none (some (.int .i64 (m : Int))) (some (.int .i64 (m : Int)))).run Try.prog w = .ok (.slice A m m) w) ∧
      (∀ w : World, (Instr.slice 46 v (some (.int .i64 (m : Int))) none none).run Try.prog w = .ok (.slice A2 (xs.drop m).length c2) w) ∧
      Bytes w (.slice A m m) (xs.take m) A m g off ∧ Que w (.slice A2 (xs.drop m).length c2) (xs.drop m) o (g, off + m) ∧ (o = some g ∧ Wrt w g off m ∨ o = none ∧ g = 0 ∧ m = 0 ∧ off = 0) := by
  have he : Try.prog.elem 46 = 5 := by kernel_rfl
  have hs : ∀ w, (sizeOf (Try.prog.elem 46)).run Try.prog w = .ok 1 w := by intro w; rw [he]; kernel_rfl
  have htl : (xs.take m).length = m := by rw [List.length_take]; omega
  rcases h with ⟨rfl, rfl, rfl⟩ | ⟨g, off, cap, cur, rfl, rfl, hg, hc, hz, _, hx⟩
  · obtain rfl : m = 0 := by simpa using hm
    refine ⟨none, none, 0, 0, 0, fun w => ?_, fun w => ?_, Bytes.nil w hw, .inl ⟨rfl, rfl, rfl⟩, .inr ⟨rfl, rfl, rfl, rfl⟩⟩
    · rw [run_slice_hm (P := Try.prog) w 46 none 0 0 (by kernel_rfl) .i64 .i64 ((0 : Nat) : Int) ((0 : Nat) : Int) (by omega) (by omega) (by omega), hs]
      rfl
    · rw [run_slice_l (P := Try.prog) w 46 none 0 0 (by kernel_rfl) .i64 ((0 : Nat) : Int) (by omega) (by omega), hs]
      rfl
  · refine ⟨some ⟨g, off, none⟩, if cap = m then some ⟨g, off, none⟩ else some ⟨g, off + m, none⟩, cap - m, g, off, fun w => ?_, fun w => ?_, ?_, .inr ?_, .inl ⟨rfl, cur, hg, fun j hj => ?_⟩⟩
    · rw [run_slice_hm (P := Try.prog) w 46 _ xs.length cap (by kernel_rfl) .i64 .i64 (m : Int) (m : Int) (by omega) (by omega) (by omega), hs]
      simp [Result.andThen, sliced]
      exact fun _ => rfl
    · rw [run_slice_l (P := Try.prog) w 46 _ xs.length cap (by kernel_rfl) .i64 (m : Int) (by omega) (by omega), hs]
      simp only [Result.andThen, sliced, Int.toNat_natCast, Nat.mul_one, List.length_drop, Option.map_some, add_at]
    · refine ⟨by rw [htl], by omega, (fun h => by cases h), fun a ha j hj => ?_, (Array.getElem?_eq_some_iff.1 hg).1, fun _ => rfl⟩
      cases ha
      rw [htl] at hj
      rw [add_at, cell_of_row w g _ cur 5 (0, 0) hg, hx j (by omega)]
      congr 2
      simp [at8, List.getD, hj]
    · rw [List.length_drop]
      by_cases hcm : cap = m
      · rw [if_pos hcm]
        exact ⟨g, off, cap - m, cur, rfl, rfl, hg, by omega, by omega, fun h0 => by omega, fun j hj => by omega⟩
      · rw [if_neg hcm]
        refine ⟨g, off + m, cap - m, cur, rfl, rfl, hg, by omega, by omega, fun _ _ => Nat.le_refl _, fun j hj => ?_⟩
        rw [Nat.add_assoc, hx (m + j) (by omega)]
        congr 2
        simp [at8, List.getD, List.getElem?_drop]
    · have h8 := (at8 xs j).toNat_lt
      exact ⟨b8 (at8 xs j), hx j (by omega), b8_nonneg _, by unfold b8; omega⟩
/-- Bytes appended to the stream's own row. -/
theorem que_append (w : World) (h : Que w v xs o x) {src : Value} {ys : List UInt8} {A : Option Addr} {cap bb off : Nat} (hs : Bytes w src ys A cap bb off) (hn : xs.length + ys.length ≤ 1000000) :
    ∃ v' w' o', (Builtin.append_ #[26, 26] 26 #[v, src]).run Try.prog w = .ok v' w' ∧ Que w' v' (xs ++ ys) o' (0, 0) ∧ Nx o o' w ∧ w.grownBy w' o := by
  obtain ⟨i0, hi, hz0, hz1, hz2⟩ := info_parts info5
  rcases h with ⟨rfl, rfl, rfl⟩ | ⟨g, of1, cp, cur, rfl, rfl, hg, hc, hz, _, hx⟩
  · obtain ⟨v', w', hr, ho, hgr, _, hb⟩ := append_bytes w w.heap.size (.slice none 0 0) 0 [] (World.ownsRow_nil _ _ _ _) hs (by simpa using hn) (Nat.le_refl _)
    rw [List.nil_append, Nat.zero_add] at ho
    refine ⟨v', w', v'.ownBlock, hr, ?_, ?_, hgr⟩
    · rw [List.nil_append]
      rcases ho.2 with ⟨rfl, h0⟩ | ⟨g, c, cur, rfl, h1, h2, h3, _, h5, h6⟩
      · exact .inl ⟨rfl, List.eq_nil_of_length_eq_zero h0, rfl⟩
      · refine .inr ⟨g, 0, c, cur, rfl, rfl, h2, h3, by omega, fun _ _ => Nat.zero_le _, fun j hj => ?_⟩
        have := get_map hj
        rw [← h6, List.getElem?_take, if_pos (by omega), Array.getElem?_toList] at this
        rw [Nat.zero_add]; exact this
    · rcases hb with hb | hb
      · rw [hb]; exact .inl rfl
      · exact .inr (.inr ⟨_, hb, Nat.le_refl _⟩)
  · have hin : g < w.heap.size := (Array.getElem?_eq_some_iff.1 hg).1
    cases A with
    | none =>
      have h1 := hs.zero rfl
      have h2 := hs.le
      obtain rfl : ys = [] := List.eq_nil_of_length_eq_zero (by omega)
      have e := hs.form
      rw [h1] at e
      subst e
      refine ⟨.slice (some ⟨g, of1, none⟩) xs.length cp, w, some g, ?_, ?_, .inl rfl, ⟨rfl, rfl, rfl, Nat.le_refl _, fun _ _ _ => rfl⟩⟩
      · simp [Builtin.append_, run_underlying Try.underlying26, sizeOf, typeInfo, hi, Builtin.lenOf, Builtin.firstCells, loadCells, hc, storeCells]
      · rw [List.append_nil]
        exact .inr ⟨g, of1, cp, cur, rfl, rfl, hg, hc, hz, fun _ _ => Nat.zero_le _, hx⟩
    | some a =>
      rw [hs.form]
      have hnew : ∀ j u, (ys.map V8)[j]? = some u → w.cell? (a.add j) = some u := fun j u hj => by obtain ⟨h1, rfl⟩ := map_get hj; exact hs.at_ a rfl j h1
      have hl1 : (ys.map V8).length = ys.length * i0.size := by rw [List.length_map, hz1, Nat.mul_one]
      by_cases hroom : xs.length + ys.length ≤ cp
      · have hf := run_firstCells_some (P := Try.prog) w i0.size ys.length a ys.length cap (ys.map V8) hl1 hnew
        rw [hz1] at hf
        have hst := run_storeCells_at Try.prog g (of1 + xs.length) 5 (ys.map V8) 0 cur w hg (by rw [List.length_map]; omega) (V8_one ys)
        simp only [Nat.add_zero, List.length_map] at hst
        refine ⟨.slice (some ⟨g, of1, none⟩) (xs.length + ys.length) cp, w.setRow g (cur.toList.take (of1 + xs.length) ++ ys.map V8 ++ cur.toList.drop (of1 + xs.length + ys.length)).toArray, some g, ?_, ?_, .inl rfl, ?_⟩
        · simp [Builtin.append_, run_underlying Try.underlying26, sizeOf, typeInfo, hi, Builtin.lenOf, hz1, hroom, hf, add_at, hst]
        · refine .inr ⟨g, of1, cp, _, rfl, by rw [List.length_append], setRow_heap w g cur _ 5 _ hg, by rw [List.length_append]; exact hroom, ?_, fun _ _ => Nat.zero_le _, fun j hj => ?_⟩
          · simp only [List.size_toArray, List.length_append, List.length_take, List.length_drop, Array.length_toList, List.length_map]; omega
          · rw [List.length_append] at hj
            have hcz : cur.toList.length = cur.size := Array.length_toList
            have ht : (cur.toList.take (of1 + xs.length)).length = of1 + xs.length := by rw [List.length_take]; omega
            rw [List.getElem?_toArray, List.append_assoc]
            by_cases hjx : j < xs.length
            · rw [List.getElem?_append_left (by rw [ht]; omega), List.getElem?_take, if_pos (by omega), Array.getElem?_toList, hx j hjx]
              congr 2
              rw [at8, at8, List.getD, List.getD, List.getElem?_append_left hjx]
            · rw [List.getElem?_append_right (by rw [ht]; omega), ht, List.getElem?_append_left (by rw [List.length_map]; omega), show of1 + j - (of1 + xs.length) = j - xs.length by omega, get_map (by omega)]
              congr 2
              rw [at8, at8, List.getD, List.getD, List.getElem?_append_right (by omega)]
        · exact ⟨rfl, rfl, rfl, by simp, fun k _ hk => setRow_other w g k _ (fun e => hk (by rw [e]))⟩
      · have hold : ∀ j u, (xs.map V8)[j]? = some u → w.cell? ((⟨g, of1, none⟩ : Addr).add j) = some u := fun j u hj => by
          obtain ⟨h1, rfl⟩ := map_get hj
          rw [add_at, cell_of_row w g _ cur 5 (0, 0) hg]
          exact hx j h1
        obtain ⟨v', w', hr, ho, hgr⟩ := run_append_arg_grows (P := Try.prog) w 26 26 5 i0 (.int .u8 0) 1 1 Try.underlying26 hi hz0 hz1 hz2 rfl (by omega) ⟨g, of1, none⟩ xs.length cp (xs.map V8) (by simp) hold a ys.length cap (ys.map V8) (by simp) hnew (by omega) (by unfold maxLen; omega) (by omega)
        rw [← List.map_append] at ho
        refine ⟨v', w', v'.ownBlock, hr, ?_, ?_, ⟨hgr.os, hgr.tape, hgr.output, hgr.size, fun k hk _ => hgr.block k hk (by simp)⟩⟩
        · rcases ho.2 with ⟨rfl, h0⟩ | ⟨g', c, cur', rfl, h1, h2, h3, _, h5, h6⟩
          · exact .inl ⟨rfl, List.eq_nil_of_length_eq_zero (by rw [List.length_append]; exact h0), rfl⟩
          · refine .inr ⟨g', 0, c, cur', rfl, by rw [List.length_append], h2, by rw [List.length_append]; exact h3, by omega, fun _ _ => Nat.zero_le _, fun j hj => ?_⟩
            have := get_map hj
            rw [← h6, List.getElem?_take, if_pos (by rw [List.length_append] at hj; omega), Array.getElem?_toList] at this
            rw [Nat.zero_add]; exact this
        · rcases ho.2 with ⟨rfl, h0⟩ | ⟨g', c, cur', rfl, h1, _⟩
          · exact .inr (.inl rfl)
          · exact .inr (.inr ⟨g', rfl, h1⟩)
end
theorem append_stream (w : World) (a b : Value) : (Builtin.append_ #[46, 26] 46 #[a, b]).run Try.prog w = (Builtin.append_ #[26, 26] 26 #[a, b]).run Try.prog w := by
  have h : Try.prog.underlying 46 = some (.slice 5) := by kernel_rfl
  simp [Builtin.append_, run_underlying Try.underlying26, run_underlying h]
theorem append_streams (w : World) (a b : Value) : (Builtin.append_ #[46, 46] 46 #[a, b]).run Try.prog w = (Builtin.append_ #[26, 26] 26 #[a, b]).run Try.prog w := by
  have h : Try.prog.underlying 46 = some (.slice 5) := by kernel_rfl
  have hs : ∀ w, (sizeOf 5).run Try.prog w = .ok 1 w := by intro w; kernel_rfl
  cases a <;> simp [Builtin.append_, run_underlying Try.underlying26, run_underlying h, hs]
end Go.Proofs.Ytcfmjebnjjpajaa
