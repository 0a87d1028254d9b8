/- Bytes in rows that a call owns: appended, and as a text. No conditions but the ones said. -/
import Derived.Test.YtlbeemlnbpchgaaGreatXB
import Derived.Lib.AppendZeros
import Derived.Lib.ConvBytes
import Derived.Laws.IdiomStrings
namespace Go.Proofs.YtlbeemlnbpchgaaGreat
open Go.RowKit Go.Maps
theorem b8_ofNat (m : Nat) : b8 (UInt8.ofNat m) = ((m % 256 : Nat) : Int) := by simp [b8]
def V8 (x : UInt8) : Value := .int .u8 (b8 x)
/-- The value is a slice over just these bytes. -/
structure Bytes (w : World) (v : Value) (xs : List UInt8) (A : Option Addr) (cap bb off : Nat) : Prop where
  form : v = .slice A xs.length cap
  le : xs.length ≤ cap
  zero : A = none → cap = 0
  at_ : ∀ a, A = some a → ∀ j, j < xs.length → w.cell? (a.add j) = some (V8 (at8 xs j))
  blk : bb < w.heap.size
  src : 0 < xs.length → A = some ⟨bb, off, none⟩
section
variable {w w' : World} {v : Value} {xs : List UInt8} {A : Option Addr} {cap bb off : Nat}
theorem add_at (bb off j : Nat) : (⟨bb, off, none⟩ : Addr).add j = ⟨bb, off + j, none⟩ := by unfold Addr.add; split <;> simp_all
theorem Bytes.nil (w : World) (h : 0 < w.heap.size) : Bytes w (.slice none 0 0) [] none 0 0 0 := ⟨rfl, Nat.le_refl _, fun _ => rfl, (fun _ e => by cases e), h, (fun e => by simp at e)⟩
theorem Bytes.kept {B : Nat} (h : Bytes w v xs A cap bb off) (hb : Below B w w') (hB : w.heap.size ≤ B) : Bytes w' v xs A cap bb off :=
  ⟨h.form, h.le, h.zero, fun a ha j hj => by
    have e := h.at_ a ha j hj
    exact (hb.cell (Nat.lt_of_lt_of_le (block_lt_of_cell e) hB)).trans e, Nat.lt_of_lt_of_le h.blk hb.size, h.src⟩
end
theorem V8_one (xs : List UInt8) : ∀ u ∈ xs.map V8, u.oneCell' = true := by
  intro u hu
  obtain ⟨x, _, rfl⟩ := List.mem_map.1 hu
  rfl
theorem map_get {xs : List UInt8} {j : Nat} {u : Value} (h : (xs.map V8)[j]? = some u) : j < xs.length ∧ u = V8 (at8 xs j) := by
  have hj : j < xs.length := by
    have := (List.getElem?_eq_some_iff.1 h).1
    simpa using this
  refine ⟨hj, ?_⟩
  rw [List.getElem?_map, List.getElem?_eq_getElem hj] at h
  simp at h
  rw [← h, at8, List.getD, List.getElem?_eq_getElem hj]; rfl
theorem get_map {xs : List UInt8} {j : Nat} (h : j < xs.length) : (xs.map V8)[j]? = some (V8 (at8 xs j)) := by
  rw [List.getElem?_map, List.getElem?_eq_getElem h]
  simp [at8, List.getD, List.getElem?_eq_getElem h]
theorem info5 : (Tryz.prog.info? 5).map (fun i => (i.zero, i.size, i.bytes)) = some (some (.int .u8 0), 1, 1) := by kernel_rfl
/-- Bytes in a row that the call owns are a slice over them. -/
theorem own_bytes {w : World} {B : Nat} {v : Value} {ys : List UInt8} {n : Nat} (hn : ys.length = n) (hw : 0 < w.heap.size) (h : w.ownsRow B 5 1 v n (ys.map V8)) : ∃ A cap bb, Bytes w v ys A cap bb 0 ∧ (0 < ys.length → B ≤ bb) ∧ (v.ownBlock = some bb ∨ v.ownBlock = none ∧ bb = 0) := by
  subst hn
  rcases h.2 with ⟨rfl, h2⟩ | ⟨g, c, cur, rfl, hbg, hgg, h4, _⟩
  · obtain rfl : ys = [] := List.eq_nil_of_length_eq_zero (by omega)
    exact ⟨none, 0, 0, Bytes.nil w hw, fun h => by simp at h, .inr ⟨rfl, rfl⟩⟩
  · have hc := h.cells (g := g) rfl
    have hl := (h.lt g rfl).2
    refine ⟨some ⟨g, 0, none⟩, c, g, ⟨rfl, h4, (fun h => by cases h), fun a ha j hj => ?_, hl, fun _ => rfl⟩, fun _ => hbg, .inl rfl⟩
    cases ha
    exact hc j _ (get_map hj)
/-- Bytes appended to a row that the call owns. -/
theorem append_bytes (w : World) (B : Nat) (v : Value) (n : Nat) (xs : List Value) (hown : w.ownsRow B 5 1 v n xs) {src : Value} {ys : List UInt8} {A : Option Addr} {cap bb off : Nat} (hs : Bytes w src ys A cap bb off)
    (hn : n + ys.length ≤ 1000000) (hB : B ≤ w.heap.size) :
    ∃ v' w', (Builtin.append_ #[31, 31] 31 #[v, src]).run Tryz.prog w = .ok v' w' ∧ w'.ownsRow B 5 1 v' (n + ys.length) (xs ++ ys.map V8) ∧ w.grownBy w' v.ownBlock ∧
      (v' = .slice none 0 0 ↔ v = .slice none 0 0 ∧ ys.length = 0) ∧ (v'.ownBlock = v.ownBlock ∨ v'.ownBlock = some w.heap.size) := by
  obtain ⟨i0, hi, hz0, hz1, hz2⟩ := info_parts info5
  cases A with
  | none =>
    have hc := hs.zero rfl
    have hl := hs.le
    have h0 : ys.length = 0 := by omega
    have hy : ys = [] := List.eq_nil_of_length_eq_zero h0
    have e := hs.form
    rw [hc, h0] at e
    rw [e]
    refine ⟨v, w, run_append_owned_none (P := Tryz.prog) w B 31 31 5 i0 1 Tryz.underlying31 hi v n xs hown, ?_, ⟨rfl, rfl, rfl, Nat.le_refl _, fun _ _ _ => rfl⟩, by simp [h0], .inl rfl⟩
    rw [h0, hy]; simpa using hown
  | some a =>
    rw [hs.form]
    exact run_append_own_at (P := Tryz.prog) w B 31 31 5 i0 (.int .u8 0) 1 1 Tryz.underlying31 hi hz0 hz1 hz2 rfl (by omega) v n xs hown a ys.length cap (ys.map V8) (by simp)
      (fun j u hj => by obtain ⟨h1, rfl⟩ := map_get hj; exact hs.at_ a rfl j h1) (V8_one ys) (by unfold maxLen; omega) (by omega) hB
/-- At the list of a plain region's operations. -/
theorem wpList_append_run {P : Program} {ops : Array Oper} {rest : List Oper} {o : Oper} {a : Act} {w : World} {Q : Exit → Act → World → Prop} (hgd : o.guard = none) (s x : Operand) (t tn : TypeId)
    (ho : o.op = .call { callee := .builtin .append, args := #[s, x], argTypes := #[t, tn] })
    (h : ∃ v' w', (Builtin.append_ #[t, tn] o.type #[a.eval s, a.eval x]).run P w = .ok v' w' ∧ wpList P ops Q rest (a.put o.dst v') w') : wpList P ops Q (o :: rest) a w :=
  wpList_plain hgd fun _ hK => by
    obtain ⟨v', w', hr, h⟩ := h
    unfold Oper.wp execOp
    simp only [ho, resolve, invoke, builtin, Sem.run_bind, Sem.run_pure, Result.andThen_ok, List.map_toArray, List.map_cons, List.map_nil, hr]
    exact hK _ _ h
theorem conv_nil (w : World) : (convert 31 9 (.slice none 0 0)).run Tryz.prog w = .ok (.string ⟨#[]⟩) w := by kernel_rfl
theorem conv_back {w : World} {v : Value} {ys : List UInt8} {A : Option Addr} {cap bb off : Nat} (h : Bytes w v ys A cap bb off) : (convert 31 9 v).run Tryz.prog w = .ok (.string (ba ys)) w := by
  have e := h.form
  cases A with
  | none =>
    have hc := h.zero rfl
    have hl := h.le
    have h0 : ys = [] := List.eq_nil_of_length_eq_zero (by omega)
    subst h0
    rw [e, hc]
    exact conv_nil w
  | some a =>
    rw [e]
    have := run_convert_bytes_back (P := Tryz.prog) w 31 9 5 a cap ys Tryz.underlying31 Tryz.underlying5 Tryz.underlying9 (fun j hj => by
      rw [h.at_ a rfl j hj, V8, b8, at8, List.getD, List.getElem?_eq_getElem hj]; rfl)
    exact this
/-- A row of the call's own over just these bytes. -/
def Fresh (B : Nat) (w' : World) (v : Value) (xs : List UInt8) : Prop := w'.ownsRow B 5 1 v xs.length (xs.map V8)
theorem Fresh.bytes {B : Nat} {w : World} {v : Value} {xs : List UInt8} (h : Fresh B w v xs) (hw : 0 < w.heap.size) : ∃ A cap bb, Bytes w v xs A cap bb 0 ∧ (0 < xs.length → B ≤ bb) ∧ (v.ownBlock = some bb ∨ v.ownBlock = none ∧ bb = 0) := own_bytes rfl hw h
theorem Fresh.mono {B B' : Nat} {w : World} {v : Value} {xs : List UInt8} (h : Fresh B w v xs) (hb : B' ≤ B) : Fresh B' w v xs := by
  refine ⟨h.1, ?_⟩
  rcases h.2 with ⟨h1, h2⟩ | ⟨g, c, cur, h1, h2, h3⟩
  · exact .inl ⟨h1, h2⟩
  · exact .inr ⟨g, c, cur, h1, Nat.le_trans hb h2, h3⟩
theorem fresh_nil (B : Nat) (w : World) : Fresh B w (.slice none 0 0) [] := World.ownsRow_nil _ _ _ _
theorem fresh_app {B : Nat} {w : World} {v : Value} {xs : List UInt8} (h : Fresh B w v xs) {src : Value} {ys : List UInt8} {A : Option Addr} {cap bb off : Nat} (hs : Bytes w src ys A cap bb off) (hn : xs.length + ys.length ≤ 1000000) (hB : B ≤ w.heap.size) :
    ∃ v' w', (Builtin.append_ #[31, 31] 31 #[v, src]).run Tryz.prog w = .ok v' w' ∧ Fresh B w' v' (xs ++ ys) ∧ w.grownBy w' v.ownBlock := by
  obtain ⟨v', w', hr, ho, hg, _, _⟩ := append_bytes w B v xs.length (xs.map V8) h hs hn hB
  refine ⟨v', w', hr, ?_, hg⟩
  unfold Fresh
  rw [List.length_append, List.map_append]
  exact ho
theorem fresh_kept {B : Nat} {w w' : World} {v : Value} {xs : List UInt8} (h : Fresh B w v xs) (hb : Below w.heap.size w w') : Fresh B w' v xs := row_of h (fun g hg => hb.block g (World.ownsRow.lt h g hg).2)
theorem index_at (s : ByteArray) (i : Nat) (h : i < s.size) (w : World) : (Instr.index 9 (.string s) (.int .i64 (i : Int))).run Tryz.prog w = .ok (.int .u8 (b8 (at8 (tl s) i))) w := by
  have hi : i < s.data.toList.length := by simpa using h
  rw [run_index_string (P := Tryz.prog) w 9 s .i64 (i : Int) Tryz.underlying9, dif_pos ⟨by omega, by omega⟩]
  have e : s[(i : Int).toNat]'(by simpa using h) = at8 (tl s) i := by
    rw [at8, List.getD, List.getElem?_eq_getElem hi]
    rfl
  rw [e]; rfl
theorem bytes_one (w : World) (z : UInt8) (fr : Nat × Nat) : Bytes (w.alloc (.cells #[.int .u8 (b8 z)] 5 fr)) (.slice (some ⟨w.heap.size, 0, none⟩) 1 1) [z] (some ⟨w.heap.size, 0, none⟩) 1 w.heap.size 0 := by
  refine ⟨rfl, Nat.le_refl _, (fun h => by cases h), fun a ha j hj => ?_, by simp, fun _ => rfl⟩
  cases ha
  rw [add_at, Nat.zero_add, cell_of_row _ w.heap.size j _ 5 fr (heap_alloc_new w _)]
  have hj : j < 1 := hj
  rcases j with _ | j
  · rfl
  · omega
/-- One byte more, behind what the call owns. -/
theorem append_byte (wr : World) (B : Nat) (v : Value) (xs : By) (h : Fresh B wr v xs) (hl : xs.length ≤ 100000) (hB : B ≤ wr.heap.size) (z : UInt8) :
    ∃ v' w', (Builtin.append_ #[31, 31] 31 #[v, .slice (some ⟨wr.heap.size, 0, none⟩) 1 1]).run Tryz.prog (wr.alloc (.cells #[.int .u8 (b8 z)] 5)) = .ok v' w' ∧ Fresh B w' v' (xs ++ [z]) ∧ Below B wr w' := by
  have hb : Below wr.heap.size wr (wr.alloc (.cells #[.int .u8 (b8 z)] 5)) := (Below.refl _ _).alloc (Nat.le_refl _) _
  obtain ⟨v', w', hr, hf, hg⟩ := fresh_app (fresh_kept h hb) (bytes_one wr z (0, 0)) (by simp; omega) (by simp; omega)
  refine ⟨v', w', hr, hf, ?_⟩
  have h2 : Below B wr (wr.alloc (.cells #[.int .u8 (b8 z)] 5)) := (Below.refl _ _).alloc hB _
  exact h2.grown hg (by simp; omega) (fun g hg => (World.ownsRow.lt h g hg).1)
end Go.Proofs.YtlbeemlnbpchgaaGreat
