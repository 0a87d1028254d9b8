/- The program's reader in memory: a row of its own from some place on; appended to, cut; what a call of it may turn. No conditions but the ones said. -/
import Derived.Test.YtakgbopkkechgaaFA
import Derived.ArgAppend
namespace Go.Proofs.Ytakgbopkkechgaa
open Go.RowKit
/-- Bytes in a row that is the reader's own, from some place on. -/
def Que (w : World) (v : Value) (xs : List UInt8) (o : Option Nat) : Prop :=
  (v = .slice none 0 0 ∧ xs = [] ∧ o = none) ∨ ∃ g off cap cur, o = some g ∧ v = .slice (some ⟨g, off, none⟩) xs.length cap ∧ w.heap[g]? = some (.cells cur 5 (0, 0)) ∧ xs.length ≤ cap ∧ off + cap ≤ cur.size ∧
    ∀ j, j < xs.length → cur[off + j]? = some (V8 (at8 xs j))
/-- Block p, and the row o, alone have turned, new blocks aside. -/
structure Chg (p : Nat) (o : Option Nat) (w w' : World) : Prop where
  os : w'.os = w.os
  tape : w'.tape = w.tape
  output : w'.output = w.output
  size : w.heap.size ≤ w'.heap.size
  block : ∀ k, k < w.heap.size → k ≠ p → o ≠ some k → w'.heap[k]? = w.heap[k]?
/-- The row is the one before, or none, or a new one. -/
def Nx (o o' : Option Nat) (w : World) : Prop := o' = o ∨ o' = none ∨ ∃ k, o' = some k ∧ w.heap.size ≤ k
def From (B : Nat) (o : Option Nat) : Prop := ∀ k, o = some k → B ≤ k
section
variable {p : Nat} {o o' : Option Nat} {w w' a b c : World}
theorem From.nx {B : Nat} (h : From B o) (hn : Nx o o' w) (hB : B ≤ w.heap.size) : From B o' := by
  intro k hk
  rcases hn with rfl | rfl | ⟨j, rfl, hj⟩
  · exact h k hk
  · cases hk
  · cases hk; omega
theorem Nx.ne {k : Nat} (hn : Nx o o' w) (h : o ≠ some k) (hk : k < w.heap.size) : o' ≠ some k := by
  rcases hn with rfl | rfl | ⟨j, rfl, hj⟩
  · exact h
  · intro e; cases e
  · intro e; cases e; omega
theorem Nx.trans {o'' : Option Nat} (h : Nx o o' a) (k : Nx o' o'' b) (hs : a.heap.size ≤ b.heap.size) : Nx o o'' a := by
  rcases k with rfl | rfl | ⟨j, rfl, hj⟩
  · exact h
  · exact .inr (.inl rfl)
  · exact .inr (.inr ⟨j, rfl, by omega⟩)
theorem Chg.refl (p : Nat) (o : Option Nat) (w : World) : Chg p o w w := ⟨rfl, rfl, rfl, Nat.le_refl _, fun _ _ _ _ => rfl⟩
theorem Chg.trans (h : Chg p o a b) (k : Chg p o' b c) (hn : Nx o o' a) : Chg p o a c :=
  ⟨k.os.trans h.os, k.tape.trans h.tape, k.output.trans h.output, Nat.le_trans h.size k.size, fun i hi hp ho => (k.block i (Nat.lt_of_lt_of_le hi h.size) hp (hn.ne ho hi)).trans (h.block i hi hp ho)⟩
theorem Chg.of_below (h : Below a.heap.size a b) : Chg p o a b := ⟨h.os, h.tape, h.output, h.size, fun i hi _ _ => h.block i hi⟩
theorem Chg.of_grw (h : Grw p a b) : Chg p o a b := ⟨h.os, h.tape, h.output, h.size, fun i hi hp _ => h.block i hi (fun e => hp (Option.some.inj e))⟩
theorem Chg.of_row (h : a.grownBy b o) : Chg p o a b := ⟨h.os, h.tape, h.output, h.size, fun i hi _ ho => h.block i hi (fun e => ho e.symm)⟩
theorem Chg.below {B : Nat} (h : Below B a b) (k : Chg p o b c) (hp : B ≤ p) (ho : From B o) (hB : B ≤ b.heap.size) : Below B a c :=
  ⟨k.os.trans h.os, k.tape.trans h.tape, k.output.trans h.output, Nat.le_trans h.size k.size, fun i hi =>
    (k.block i (by omega) (by omega) (fun e => by have := ho i e; omega)).trans (h.block i hi)⟩
theorem Has.chg {g : Nat} {t : TypeId} {cs : Array Value} (k : Has w g t cs) (hg : Chg p o w w') (hn : g ≠ p) (ho : o ≠ some g) : Has w' g t cs := (hg.block g k.inside hn ho).trans k
theorem Bytes.chg {v : Value} {xs : List UInt8} {A : Option Addr} {cap bb off : Nat} (h : Bytes w v xs A cap bb off) (hg : Chg p o w w') (hn : bb ≠ p) (ho : o ≠ some bb) : Bytes w' v xs A cap bb off :=
  ⟨h.form, h.le, h.zero, fun a ha j hj => by
    have e := h.at_ a ha j hj
    have h2 := h.src (by omega)
    rw [ha] at h2
    obtain rfl := Option.some.inj h2
    rw [add_at] at e ⊢
    rw [← e]
    exact World.cell?_of_block (hg.block bb h.blk hn ho), Nat.lt_of_lt_of_le h.blk hg.size, h.src⟩
end
section
variable {w w' : World} {v : Value} {xs : List UInt8} {o : Option Nat}
theorem Que.nil (w : World) : Que w (.slice none 0 0) [] none := .inl ⟨rfl, rfl, rfl⟩
theorem Que.bytes (h : Que w v xs o) (hw : 0 < w.heap.size) : ∃ A cap bb off, Bytes w v xs A cap bb off ∧ (o = some bb ∨ o = none ∧ bb = 0) := by
  rcases h with ⟨rfl, rfl, rfl⟩ | ⟨g, off, cap, cur, rfl, rfl, hg, hc, hs, hx⟩
  · exact ⟨none, 0, 0, 0, Bytes.nil w hw, .inr ⟨rfl, rfl⟩⟩
  · refine ⟨some ⟨g, off, none⟩, cap, g, off, ⟨rfl, hc, (fun h => by cases h), fun a ha j hj => ?_, (Array.getElem?_eq_some_iff.1 hg).1, fun _ => rfl⟩, .inl rfl⟩
    cases ha
    rw [add_at, cell_of_row w g _ cur 5 (0, 0) hg]
    exact hx j hj
theorem Que.inside (h : Que w v xs o) {k : Nat} (hk : o = some k) : k < w.heap.size := by
  rcases h with ⟨_, _, rfl⟩ | ⟨g, off, cap, cur, rfl, _, hg, _⟩
  · cases hk
  · cases hk; exact (Array.getElem?_eq_some_iff.1 hg).1
theorem Que.same (h : Que w v xs o) (hb : ∀ k, o = some k → w'.heap[k]? = w.heap[k]?) : Que w' v xs o := by
  rcases h with h | ⟨g, off, cap, cur, h1, h2, hg, h3⟩
  · exact .inl h
  · exact .inr ⟨g, off, cap, cur, h1, h2, (hb g h1).trans hg, h3⟩
theorem Que.form (h : Que w v xs o) : ∃ A cap, v = .slice A xs.length cap := by
  rcases h with ⟨rfl, rfl, rfl⟩ | ⟨g, off, cap, cur, rfl, rfl, _⟩
  · exact ⟨none, 0, rfl⟩
  · exact ⟨_, _, rfl⟩
set_option maxRecDepth 100000 in
/-- What stands behind the first m bytes. -/
theorem Que.rest (h : Que w v xs o) (m : Nat) (hm : m ≤ xs.length) :
    ∃ A2 c2, (∀ w : World, (Instr.slice 22 v (some (.int .i64 (m : Int))) none none).run Try.prog w = .ok (.slice A2 (xs.drop m).length c2) w) ∧ Que w (.slice A2 (xs.drop m).length c2) (xs.drop m) o := by
  have he : Try.prog.elem 22 = 5 := by kernel_rfl
  have hs : ∀ w, (sizeOf (Try.prog.elem 22)).run Try.prog w = .ok 1 w := by intro w; rw [he]; kernel_rfl
  rcases h with ⟨rfl, rfl, rfl⟩ | ⟨g, off, cap, cur, rfl, rfl, hg, hc, hz, hx⟩
  · obtain rfl : m = 0 := by simpa using hm
    refine ⟨none, 0, fun w => ?_, .inl ⟨rfl, rfl, rfl⟩⟩
    rw [run_slice_l (P := Try.prog) w 22 none 0 0 (by kernel_rfl) .i64 ((0 : Nat) : Int) (by omega) (by omega), hs]
    rfl
  · refine ⟨if cap = m then some ⟨g, off, none⟩ else some ⟨g, off + m, none⟩, cap - m, fun w => ?_, .inr ?_⟩
    · rw [run_slice_l (P := Try.prog) w 22 _ xs.length cap (by kernel_rfl) .i64 (m : Int) (by omega) (by omega), hs]
      simp only [Result.andThen, sliced, Int.toNat_natCast, Nat.mul_one, List.length_drop, Option.map_some, add_at]
    · rw [List.length_drop]
      by_cases hcm : cap = m
      · rw [if_pos hcm]
        exact ⟨g, off, cap - m, cur, rfl, rfl, hg, by omega, by omega, fun j hj => by omega⟩
      · rw [if_neg hcm]
        refine ⟨g, off + m, cap - m, cur, rfl, rfl, hg, by omega, by omega, fun j hj => ?_⟩
        rw [Nat.add_assoc, hx (m + j) (by omega)]
        congr 2
        simp [at8, List.getD, List.getElem?_drop]
/-- Bytes appended to the reader's own row. -/
theorem que_append (w : World) (h : Que w v xs o) {src : Value} {ys : List UInt8} {A : Option Addr} {cap bb off : Nat} (hs : Bytes w src ys A cap bb off) (hn : xs.length + ys.length ≤ 1000000) :
    ∃ v' w' o', (Builtin.append_ #[22, 22] 22 #[v, src]).run Try.prog w = .ok v' w' ∧ Que w' v' (xs ++ ys) o' ∧ Nx o o' w ∧ w.grownBy w' o := by
  obtain ⟨i0, hi, hz0, hz1, hz2⟩ := info_parts info5
  rcases h with ⟨rfl, rfl, rfl⟩ | ⟨g, of1, cp, cur, rfl, rfl, hg, hc, hz, hx⟩
  · obtain ⟨v', w', hr, ho, hgr, _, hb⟩ := append_bytes w w.heap.size (.slice none 0 0) 0 [] (World.ownsRow_nil _ _ _ _) hs (by simpa using hn) (Nat.le_refl _)
    rw [List.nil_append, Nat.zero_add] at ho
    refine ⟨v', w', v'.ownBlock, hr, ?_, ?_, hgr⟩
    · rw [List.nil_append]
      rcases ho.2 with ⟨rfl, h0⟩ | ⟨g, c, cur, rfl, h1, h2, h3, _, h5, h6⟩
      · exact .inl ⟨rfl, List.eq_nil_of_length_eq_zero h0, rfl⟩
      · refine .inr ⟨g, 0, c, cur, rfl, rfl, h2, h3, by omega, fun j hj => ?_⟩
        have := get_map hj
        rw [← h6, List.getElem?_take, if_pos (by omega), Array.getElem?_toList] at this
        rw [Nat.zero_add]; exact this
    · rcases hb with hb | hb
      · rw [hb]; exact .inl rfl
      · exact .inr (.inr ⟨_, hb, Nat.le_refl _⟩)
  · have hin : g < w.heap.size := (Array.getElem?_eq_some_iff.1 hg).1
    cases A with
    | none =>
      have h1 := hs.zero rfl
      have h2 := hs.le
      obtain rfl : ys = [] := List.eq_nil_of_length_eq_zero (by omega)
      have e := hs.form
      rw [h1] at e
      subst e
      refine ⟨.slice (some ⟨g, of1, none⟩) xs.length cp, w, some g, ?_, ?_, .inl rfl, ⟨rfl, rfl, rfl, Nat.le_refl _, fun _ _ _ => rfl⟩⟩
      · simp [Builtin.append_, run_underlying Try.underlying22, sizeOf, typeInfo, hi, Builtin.lenOf, Builtin.firstCells, loadCells, hc, storeCells]
      · rw [List.append_nil]
        exact .inr ⟨g, of1, cp, cur, rfl, rfl, hg, hc, hz, hx⟩
    | some a =>
      rw [hs.form]
      have hnew : ∀ j u, (ys.map V8)[j]? = some u → w.cell? (a.add j) = some u := fun j u hj => by obtain ⟨h1, rfl⟩ := map_get hj; exact hs.at_ a rfl j h1
      have hl1 : (ys.map V8).length = ys.length * i0.size := by rw [List.length_map, hz1, Nat.mul_one]
      by_cases hroom : xs.length + ys.length ≤ cp
      · have hf := run_firstCells_some (P := Try.prog) w i0.size ys.length a ys.length cap (ys.map V8) hl1 hnew
        rw [hz1] at hf
        have hst := run_storeCells_at Try.prog g (of1 + xs.length) 5 (ys.map V8) 0 cur w hg (by rw [List.length_map]; omega) (V8_one ys)
        simp only [Nat.add_zero, List.length_map] at hst
        refine ⟨.slice (some ⟨g, of1, none⟩) (xs.length + ys.length) cp, w.setRow g (cur.toList.take (of1 + xs.length) ++ ys.map V8 ++ cur.toList.drop (of1 + xs.length + ys.length)).toArray, some g, ?_, ?_, .inl rfl, ?_⟩
        · simp [Builtin.append_, run_underlying Try.underlying22, sizeOf, typeInfo, hi, Builtin.lenOf, hz1, hroom, hf, add_at, hst]
        · refine .inr ⟨g, of1, cp, _, rfl, by rw [List.length_append], setRow_heap w g cur _ 5 _ hg, by rw [List.length_append]; exact hroom, ?_, fun j hj => ?_⟩
          · simp only [List.size_toArray, List.length_append, List.length_take, List.length_drop, Array.length_toList, List.length_map]; omega
          · rw [List.length_append] at hj
            have hcz : cur.toList.length = cur.size := Array.length_toList
            have ht : (cur.toList.take (of1 + xs.length)).length = of1 + xs.length := by rw [List.length_take]; omega
            rw [List.getElem?_toArray, List.append_assoc]
            by_cases hjx : j < xs.length
            · rw [List.getElem?_append_left (by rw [ht]; omega), List.getElem?_take, if_pos (by omega), Array.getElem?_toList, hx j hjx]
              congr 2
              rw [at8, at8, List.getD, List.getD, List.getElem?_append_left hjx]
            · rw [List.getElem?_append_right (by rw [ht]; omega), ht, List.getElem?_append_left (by rw [List.length_map]; omega), show of1 + j - (of1 + xs.length) = j - xs.length by omega, get_map (by omega)]
              congr 2
              rw [at8, at8, List.getD, List.getD, List.getElem?_append_right (by omega)]
        · exact ⟨rfl, rfl, rfl, by simp, fun k _ hk => setRow_other w g k _ (fun e => hk (by rw [e]))⟩
      · have hold : ∀ j u, (xs.map V8)[j]? = some u → w.cell? ((⟨g, of1, none⟩ : Addr).add j) = some u := fun j u hj => by
          obtain ⟨h1, rfl⟩ := map_get hj
          rw [add_at, cell_of_row w g _ cur 5 (0, 0) hg]
          exact hx j h1
        obtain ⟨v', w', hr, ho, hgr⟩ := run_append_arg_grows (P := Try.prog) w 22 22 5 i0 (.int .u8 0) 1 1 Try.underlying22 hi hz0 hz1 hz2 rfl (by omega) ⟨g, of1, none⟩ xs.length cp (xs.map V8) (by simp) hold a ys.length cap (ys.map V8) (by simp) hnew (by omega) (by unfold maxLen; omega) (by omega)
        rw [← List.map_append] at ho
        refine ⟨v', w', v'.ownBlock, hr, ?_, ?_, ⟨hgr.os, hgr.tape, hgr.output, hgr.size, fun k hk _ => hgr.block k hk (by simp)⟩⟩
        · rcases ho.2 with ⟨rfl, h0⟩ | ⟨g', c, cur', rfl, h1, h2, h3, _, h5, h6⟩
          · exact .inl ⟨rfl, List.eq_nil_of_length_eq_zero (by rw [List.length_append]; exact h0), rfl⟩
          · refine .inr ⟨g', 0, c, cur', rfl, by rw [List.length_append], h2, by rw [List.length_append]; exact h3, by omega, fun j hj => ?_⟩
            have := get_map hj
            rw [← h6, List.getElem?_take, if_pos (by rw [List.length_append] at hj; omega), Array.getElem?_toList] at this
            rw [Nat.zero_add]; exact this
        · rcases ho.2 with ⟨rfl, h0⟩ | ⟨g', c, cur', rfl, h1, _⟩
          · exact .inr (.inl rfl)
          · exact .inr (.inr ⟨g', rfl, h1⟩)
end
/-- A reader lies in block p, its bytes in the row o. -/
def Rd (w : World) (p : Nat) (R : RS) (o : Option Nat) : Prop := ∃ v lost, Has w p 61 #[.bool true, v, .int .i64 (lost : Int)] ∧ R.2.length ≤ 131072 ∧ 0 < p ∧
  ((R.1 = false ∧ lost = 0 ∧ Que w v R.2 o ∧ o ≠ some p) ∨ (R.1 = true ∧ v = .slice none 0 0 ∧ lost = (R.2.length : Nat) ∧ 0 < R.2.length ∧ o = none))
section
variable {w w' : World} {p : Nat} {R : RS} {o : Option Nat}
theorem Rd.inside (h : Rd w p R o) : p < w.heap.size := by obtain ⟨v, l, h1, _⟩ := h; exact h1.inside
theorem Rd.len (h : Rd w p R o) : R.2.length ≤ 131072 := by obtain ⟨v, l, _, h2, _⟩ := h; exact h2
theorem Rd.ne (h : Rd w p R o) : o ≠ some p := by
  obtain ⟨v, l, _, _, _, ⟨_, _, _, h⟩ | ⟨_, _, _, _, rfl⟩⟩ := h
  · exact h
  · intro e; cases e
theorem Rd.row (h : Rd w p R o) {k : Nat} (hk : o = some k) : k < w.heap.size := by
  obtain ⟨v, l, _, _, _, ⟨_, _, hq, h⟩ | ⟨_, _, _, _, rfl⟩⟩ := h
  · exact hq.inside hk
  · cases hk
theorem Rd.same (h : Rd w p R o) (hp : w'.heap[p]? = w.heap[p]?) (hb : ∀ k, o = some k → w'.heap[k]? = w.heap[k]?) : Rd w' p R o := by
  obtain ⟨v, l, h1, h2, h3, ⟨a, b, hq, c⟩ | h4⟩ := h
  · exact ⟨v, l, hp.trans h1, h2, h3, .inl ⟨a, b, hq.same hb, c⟩⟩
  · exact ⟨v, l, hp.trans h1, h2, h3, .inr h4⟩
theorem Rd.kept {B : Nat} (h : Rd w p R o) (hb : Below B w w') (hB : w.heap.size ≤ B) : Rd w' p R o :=
  h.same (hb.block p (Nat.lt_of_lt_of_le h.inside hB)) (fun k hk => hb.block k (Nat.lt_of_lt_of_le (h.row hk) hB))
end
end Go.Proofs.Ytakgbopkkechgaa
