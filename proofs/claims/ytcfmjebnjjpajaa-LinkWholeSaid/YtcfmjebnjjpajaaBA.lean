/- Bytes in rows: a block known whole, slices over bytes, bytes appended, bytes as texts. No conditions but the ones said. -/
import Derived.Test.YtcfmjebnjjpajaaProg
import Derived.WalkKit
import Derived.WalkSpells
import Derived.WalkLawsBesides
import Derived.WalkMore
import Derived.BigQuiet
import Derived.Deep.QuietTactic
import Derived.Deep.Draws
import Derived.ChangeAgain
import Derived.Maps.AppendAt
import Derived.Lib.AppendZeros
import Derived.Lib.ConvBytes
import Derived.Laws.IdiomStrings
namespace Go.RowKit
theorem Below.drewN' {B : Nat} {a w : World} (h : Below B a w) (n : Nat) : Below B a (w.drewN n) := ⟨h.os, h.tape, h.output, h.size, h.block⟩
theorem Below.rowK {B : Nat} {a w : World} (h : Below B a w) {g : Nat} (hg : B ≤ g) (cs : Array Value) : Below B a (w.setRow g cs) :=
  h.trans ⟨rfl, rfl, rfl, by simp, fun k hk => setRow_other w g k cs (by omega)⟩
end Go.RowKit
namespace Go.Proofs.Ytcfmjebnjjpajaa
open Go.RowKit
theorem hid {p : Prop} (h : p) : Hid p := h
/-- A byte's number. -/
def b8 (x : UInt8) : Int := (x.toNat : Int)
theorem b8_nonneg (x : UInt8) : 0 ≤ b8 x := by unfold b8; omega
theorem b8_lt (x : UInt8) : b8 x < 256 := by have := x.toNat_lt; unfold b8; omega
theorem b8_ofNat (m : Nat) : b8 (UInt8.ofNat m) = ((m % 256 : Nat) : Int) := by simp [b8]
def V8 (x : UInt8) : Value := .int .u8 (b8 x)
def at8 (l : List UInt8) (i : Nat) : UInt8 := l.getD i 0
/-- A text's bytes. -/
abbrev tl (s : ByteArray) : List UInt8 := s.data.toList
theorem tl_length (s : ByteArray) : (tl s).length = s.size := by simp [tl]
def ba (l : List UInt8) : ByteArray := ⟨l.toArray⟩
theorem tl_ba (l : List UInt8) : tl (ba l) = l := rfl
theorem ba_tl (s : ByteArray) : ba (tl s) = s := by simp [ba, tl]
theorem ba_size (l : List UInt8) : (ba l).size = l.length := by rw [← tl_length]; rfl
theorem i64in (x : Int) (h0 : -9223372036854775808 ≤ x) (h : x < 9223372036854775808) : IntKind.i64.wrap x = x := by
  simp [IntKind.wrap, IntKind.signed, IntKind.bits]; omega
/-- Block g of w holds just cs. -/
def Has (w : World) (g : Nat) (t : TypeId) (cs : Array Value) : Prop := w.heap[g]? = some (.cells cs t (0, 0))
/-- Block g alone has turned, new blocks aside. -/
abbrev Grw (g : Nat) (w w' : World) : Prop := w.grownBy w' (some g)
section
variable {w w' : World} {g : Nat} {t : TypeId} {cs : Array Value}
theorem Has.inside (h : Has w g t cs) : g < w.heap.size := by
  unfold Has at h
  exact (Array.getElem?_eq_some_iff.1 h).1
theorem Has.at_ (h : Has w g t cs) (i : Nat) : w.cell? ⟨g, i, none⟩ = cs[i]? := cell_of_row w g i cs t (0, 0) h
theorem Has.free (h : Has w g t cs) (i : Nat) : w.frozen? ⟨g, i, none⟩ = false := by
  unfold Has at h
  simp [World.frozen?, h]
theorem Has.fresh (w : World) (t : TypeId) (cs : Array Value) : Has (w.alloc (.cells cs t)) w.heap.size t cs := heap_alloc_new w _
theorem Has.fresh' (w : World) (t : TypeId) (cs : Array Value) {g : Nat} (hg : g = w.heap.size) : Has (w.alloc (.cells cs t)) g t cs := by subst hg; exact Has.fresh w t cs
theorem Has.drawn (h : Has w g t cs) (n : Nat) : Has (w.drewN n) g t cs := h
theorem Has.more (h : Has w g t cs) (o : Obj) : Has (w.alloc o) g t cs := (Below.heap_alloc w o g h.inside).trans h
theorem Has.put (h : Has w g t cs) (i : Nat) (v : Value) : Has (w.setCell ⟨g, i, none⟩ v) g t (cs.setIfInBounds i v) := by
  unfold Has at h ⊢
  simp [World.setCell, Array.getElem?_modify, h]
theorem Has.other (h : Has w g t cs) {p : Addr} (hp : g ≠ p.block) (v : Value) : Has (w.setCell p v) g t cs := (Below.heap_setCell w p v g hp).trans h
theorem Has.kept {B : Nat} (h : Has w g t cs) (hb : Below B w w') (hg : g < B) : Has w' g t cs := (hb.block g hg).trans h
theorem Has.grw {h : Nat} (k : Has w h t cs) (hg : Grw g w w') (hn : h ≠ g) : Has w' h t cs := (hg.block h k.inside (fun e => hn (Option.some.inj e))).trans k
end
theorem Grw.refl (g : Nat) (w : World) : Grw g w w := ⟨rfl, rfl, rfl, Nat.le_refl _, fun _ _ _ => rfl⟩
theorem Grw.trans {g : Nat} {a b c : World} (h : Grw g a b) (k : Grw g b c) : Grw g a c :=
  ⟨k.os.trans h.os, k.tape.trans h.tape, k.output.trans h.output, Nat.le_trans h.size k.size, fun i hi hn => (k.block i (Nat.lt_of_lt_of_le hi h.size) hn).trans (h.block i hi hn)⟩
theorem Grw.of_below {g : Nat} {a b : World} (h : Below a.heap.size a b) : Grw g a b := ⟨h.os, h.tape, h.output, h.size, fun i hi _ => h.block i hi⟩
theorem Grw.of_set (g i : Nat) (a : World) (v : Value) : Grw g a (a.setCell ⟨g, i, none⟩ v) :=
  ⟨rfl, rfl, rfl, by simp [World.setCell], fun k _ hn => Below.heap_setCell a ⟨g, i, none⟩ v k (fun e => hn (by rw [e]))⟩
theorem Grw.below {g B : Nat} {a b c : World} (h : Below B a b) (k : Grw g b c) (hg : B ≤ g) (hB : B ≤ b.heap.size) : Below B a c := h.grown k hB (fun _ e => by cases e; exact hg)
theorem Grw.cell {g : Nat} {a b : World} (h : Grw g a b) {p : Addr} {v : Value} (hc : a.cell? p = some v) (hn : p.block ≠ g) : b.cell? p = some v := World.grownBy.cell h hc (fun e => hn (Option.some.inj e))
/-- The value is a slice over just these bytes. -/
structure Bytes (w : World) (v : Value) (xs : List UInt8) (A : Option Addr) (cap bb off : Nat) : Prop where
  form : v = .slice A xs.length cap
  le : xs.length ≤ cap
  zero : A = none → cap = 0
  at_ : ∀ a, A = some a → ∀ j, j < xs.length → w.cell? (a.add j) = some (V8 (at8 xs j))
  blk : bb < w.heap.size
  src : 0 < xs.length → A = some ⟨bb, off, none⟩
section
variable {w w' : World} {v : Value} {xs : List UInt8} {A : Option Addr} {cap bb off : Nat}
theorem add_at (bb off j : Nat) : (⟨bb, off, none⟩ : Addr).add j = ⟨bb, off + j, none⟩ := by unfold Addr.add; split <;> simp_all
theorem Bytes.cells (h : Bytes w v xs A cap bb off) (j : Nat) (hj : j < xs.length) : w.cell? ⟨bb, off + j, none⟩ = some (V8 (at8 xs j)) := by
  have e := h.at_ _ (h.src (by omega)) j hj
  rwa [add_at] at e
theorem Bytes.nil (w : World) (h : 0 < w.heap.size) : Bytes w (.slice none 0 0) [] none 0 0 0 := ⟨rfl, Nat.le_refl _, fun _ => rfl, (fun _ e => by cases e), h, (fun e => by simp at e)⟩
theorem Bytes.grw {g : Nat} (h : Bytes w v xs A cap bb off) (hg : Grw g w w') (hn : bb ≠ g) : Bytes w' v xs A cap bb off :=
  ⟨h.form, h.le, h.zero, fun a ha j hj => by
    have e := h.at_ a ha j hj
    have h2 := h.src (by omega)
    rw [ha] at h2
    obtain rfl := Option.some.inj h2
    rw [add_at] at e ⊢
    exact hg.cell e hn, Nat.lt_of_lt_of_le h.blk hg.size, h.src⟩
theorem Bytes.kept {B : Nat} (h : Bytes w v xs A cap bb off) (hb : Below B w w') (hB : w.heap.size ≤ B) : Bytes w' v xs A cap bb off :=
  ⟨h.form, h.le, h.zero, fun a ha j hj => by
    have e := h.at_ a ha j hj
    exact (hb.cell (Nat.lt_of_lt_of_le (block_lt_of_cell e) hB)).trans e, Nat.lt_of_lt_of_le h.blk hb.size, h.src⟩
end
theorem V8_one (xs : List UInt8) : ∀ u ∈ xs.map V8, u.oneCell' = true := by
  intro u hu
  obtain ⟨x, _, rfl⟩ := List.mem_map.1 hu
  rfl
theorem map_get {xs : List UInt8} {j : Nat} {u : Value} (h : (xs.map V8)[j]? = some u) : j < xs.length ∧ u = V8 (at8 xs j) := by
  have hj : j < xs.length := by
    have := (List.getElem?_eq_some_iff.1 h).1
    simpa using this
  refine ⟨hj, ?_⟩
  rw [List.getElem?_map, List.getElem?_eq_getElem hj] at h
  simp at h
  rw [← h, at8, List.getD, List.getElem?_eq_getElem hj]; rfl
theorem get_map {xs : List UInt8} {j : Nat} (h : j < xs.length) : (xs.map V8)[j]? = some (V8 (at8 xs j)) := by
  rw [List.getElem?_map, List.getElem?_eq_getElem h]
  simp [at8, List.getD, List.getElem?_eq_getElem h]
theorem info5 : (Try.prog.info? 5).map (fun i => (i.zero, i.size, i.bytes)) = some (some (.int .u8 0), 1, 1) := by kernel_rfl
/-- Bytes in a row that the call owns are a slice over them. -/
theorem own_bytes {w : World} {B : Nat} {v : Value} {ys : List UInt8} {n : Nat} (hn : ys.length = n) (hw : 0 < w.heap.size) (h : w.ownsRow B 5 1 v n (ys.map V8)) : ∃ A cap bb, Bytes w v ys A cap bb 0 ∧ (0 < ys.length → B ≤ bb) ∧ (v.ownBlock = some bb ∨ v.ownBlock = none ∧ bb = 0) := by
  subst hn
  rcases h.2 with ⟨rfl, h2⟩ | ⟨g, c, cur, rfl, hbg, hgg, h4, _⟩
  · obtain rfl : ys = [] := List.eq_nil_of_length_eq_zero (by omega)
    exact ⟨none, 0, 0, Bytes.nil w hw, fun h => by simp at h, .inr ⟨rfl, rfl⟩⟩
  · have hc := h.cells (g := g) rfl
    have hl := (h.lt g rfl).2
    refine ⟨some ⟨g, 0, none⟩, c, g, ⟨rfl, h4, (fun h => by cases h), fun a ha j hj => ?_, hl, fun _ => rfl⟩, fun _ => hbg, .inl rfl⟩
    cases ha
    exact hc j _ (get_map hj)
/-- Bytes appended to a row that the call owns. -/
theorem append_bytes (w : World) (B : Nat) (v : Value) (n : Nat) (xs : List Value) (hown : w.ownsRow B 5 1 v n xs) {src : Value} {ys : List UInt8} {A : Option Addr} {cap bb off : Nat} (hs : Bytes w src ys A cap bb off)
    (hn : n + ys.length ≤ 1000000) (hB : B ≤ w.heap.size) :
    ∃ v' w', (Builtin.append_ #[26, 26] 26 #[v, src]).run Try.prog w = .ok v' w' ∧ w'.ownsRow B 5 1 v' (n + ys.length) (xs ++ ys.map V8) ∧ w.grownBy w' v.ownBlock ∧
      (v' = .slice none 0 0 ↔ v = .slice none 0 0 ∧ ys.length = 0) ∧ (v'.ownBlock = v.ownBlock ∨ v'.ownBlock = some w.heap.size) := by
  obtain ⟨i0, hi, hz0, hz1, hz2⟩ := info_parts info5
  cases A with
  | none =>
    have hc := hs.zero rfl
    have hl := hs.le
    have h0 : ys.length = 0 := by omega
    have hy : ys = [] := List.eq_nil_of_length_eq_zero h0
    have e := hs.form
    rw [hc, h0] at e
    rw [e]
    refine ⟨v, w, run_append_owned_none (P := Try.prog) w B 26 26 5 i0 1 Try.underlying26 hi v n xs hown, ?_, ⟨rfl, rfl, rfl, Nat.le_refl _, fun _ _ _ => rfl⟩, by simp [h0], .inl rfl⟩
    rw [h0, hy]; simpa using hown
  | some a =>
    rw [hs.form]
    exact run_append_own_at (P := Try.prog) w B 26 26 5 i0 (.int .u8 0) 1 1 Try.underlying26 hi hz0 hz1 hz2 rfl (by omega) v n xs hown a ys.length cap (ys.map V8) (by simp)
      (fun j u hj => by obtain ⟨h1, rfl⟩ := map_get hj; exact hs.at_ a rfl j h1) (V8_one ys) (by unfold maxLen; omega) (by omega) hB
/-- At the list of a plain region's operations. -/
theorem wpList_append_run {P : Program} {ops : Array Oper} {rest : List Oper} {o : Oper} {a : Act} {w : World} {Q : Exit → Act → World → Prop} (hgd : o.guard = none) (s x : Operand) (t tn : TypeId)
    (ho : o.op = .call { callee := .builtin .append, args := #[s, x], argTypes := #[t, tn] })
    (h : ∃ v' w', (Builtin.append_ #[t, tn] o.type #[a.eval s, a.eval x]).run P w = .ok v' w' ∧ wpList P ops Q rest (a.put o.dst v') w') : wpList P ops Q (o :: rest) a w :=
  wpList_plain hgd fun _ hK => by
    obtain ⟨v', w', hr, h⟩ := h
    unfold Oper.wp execOp
    simp only [ho, resolve, invoke, builtin, Sem.run_bind, Sem.run_pure, Result.andThen_ok, List.map_toArray, List.map_cons, List.map_nil, hr]
    exact hK _ _ h
theorem conv_nil (w : World) : (convert 26 9 (.slice none 0 0)).run Try.prog w = .ok (.string ⟨#[]⟩) w := by kernel_rfl
theorem conv_back {w : World} {v : Value} {ys : List UInt8} {A : Option Addr} {cap bb off : Nat} (h : Bytes w v ys A cap bb off) : (convert 26 9 v).run Try.prog w = .ok (.string (ba ys)) w := by
  have e := h.form
  cases A with
  | none =>
    have hc := h.zero rfl
    have hl := h.le
    have h0 : ys = [] := List.eq_nil_of_length_eq_zero (by omega)
    subst h0
    rw [e, hc]
    exact conv_nil w
  | some a =>
    rw [e]
    have := run_convert_bytes_back (P := Try.prog) w 26 9 5 a cap ys Try.underlying26 Try.underlying5 Try.underlying9 (fun j hj => by
      rw [h.at_ a rfl j hj, V8, b8, at8, List.getD, List.getElem?_eq_getElem hj]; rfl)
    exact this
/-- Bytes cut at their end. -/
theorem Bytes.pre {w : World} {v : Value} {xs : List UInt8} {A : Option Addr} {cap bb off : Nat} (h : Bytes w v xs A cap bb off) (m : Nat) (hm : m ≤ xs.length) : Bytes w (.slice A m cap) (xs.take m) A cap bb off := by
  have hl : (xs.take m).length = m := by rw [List.length_take]; omega
  refine ⟨by rw [hl], by have := h.le; omega, h.zero, fun a ha j hj => ?_, h.blk, fun h0 => h.src (by omega)⟩
  rw [hl] at hj
  rw [h.at_ a ha j (by omega)]
  congr 2
  simp [at8, List.getD, hj]
set_option maxRecDepth 100000 in
/-- What stands behind the first m bytes. -/
theorem Bytes.rest {w : World} {v : Value} {xs : List UInt8} {A : Option Addr} {cap bb off : Nat} (h : Bytes w v xs A cap bb off) (m : Nat) (hm : m ≤ xs.length) :
    ∃ A2, (∀ w : World, (Instr.slice 26 v (some (.int .i64 (m : Int))) none none).run Try.prog w = .ok (.slice A2 (xs.drop m).length (cap - m)) w) ∧ Bytes w (.slice A2 (xs.drop m).length (cap - m)) (xs.drop m) A2 (cap - m) bb (off + m) := by
  have he : Try.prog.elem 26 = 5 := by kernel_rfl
  have hs : ∀ w, (sizeOf (Try.prog.elem 26)).run Try.prog w = .ok 1 w := by intro w; rw [he]; kernel_rfl
  have hle := h.le
  refine ⟨if cap = m then A else A.map (·.add m), ?_, ?_⟩
  · intro w
    rw [h.form, run_slice_l (P := Try.prog) w 26 A xs.length cap (by kernel_rfl) .i64 (m : Int) (by omega) (by omega), hs]
    simp only [Result.andThen, sliced, Int.toNat_natCast, Nat.mul_one, List.length_drop]
  · refine ⟨rfl, by rw [List.length_drop]; omega, fun e => ?_, fun a ha j hj => ?_, h.blk, fun h0 => ?_⟩
    · cases A with
      | none => have := h.zero rfl; omega
      | some a => split at e <;> cases e
    · rw [List.length_drop] at hj
      have h2 := h.src (by omega)
      subst h2
      rw [if_neg (by omega)] at ha
      simp only [Option.map_some, Option.some.injEq] at ha
      rw [← ha, add_at, add_at, Nat.add_assoc, h.cells (m + j) (by omega)]
      congr 2
      simp [at8, List.getD, List.getElem?_drop]
    · rw [List.length_drop] at h0
      have h2 := h.src (by omega)
      subst h2
      rw [if_neg (by omega)]
      simp only [Option.map_some, add_at]
end Go.Proofs.Ytcfmjebnjjpajaa
