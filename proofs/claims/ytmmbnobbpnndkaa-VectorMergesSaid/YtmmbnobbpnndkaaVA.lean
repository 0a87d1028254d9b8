/- Versions as rows of sixteen words: blocks known whole, comparison by value, the least upper row; plain facts. No conditions. -/
import Derived.Test.YtmmbnobbpnndkaaProg
import Derived.WalkKit
import Derived.WalkSpells
import Derived.WalkLawsBesides
import Derived.Deep.Draws
import Derived.Deep.MidRow
import Derived.Laws.Rows
import Derived.Laws.Tables
import Derived.ChangeKeysEq
import Derived.Deep.QuietTactic
import Derived.BigQuiet
import Derived.RegionTactic
namespace Go.RowKit
theorem Below.drewN' {B : Nat} {a w : World} (h : Below B a w) (n : Nat) : Below B a (w.drewN n) := ⟨h.os, h.tape, h.output, h.size, h.block⟩
theorem Below.rowK {B : Nat} {a w : World} (h : Below B a w) {g : Nat} (hg : B ≤ g) (cs : Array Value) : Below B a (w.setRow g cs) :=
  h.trans ⟨rfl, rfl, rfl, by simp, fun k hk => setRow_other w g k cs (by omega)⟩
end Go.RowKit
namespace Go.Proofs.Ytmmbnobbpnndkaa
open Go.RowKit

theorem hid {p : Prop} (h : p) : Hid p := h
/-- A counter's number. -/
def u (x : BitVec 32) : Int := (x.toNat : Int)
theorem u_nonneg (x : BitVec 32) : 0 ≤ u x := by unfold u; omega
theorem u_lt (x : BitVec 32) : u x < 4294967296 := by have := x.isLt; unfold u; omega
theorem u_inj {x y : BitVec 32} (h : u x = u y) : x = y := by
  unfold u at h; exact BitVec.eq_of_toNat_eq (by omega)
def V32 (x : BitVec 32) : Value := .int .u32 (u x)
/-- Block g of w holds just cs. -/
def Has (w : World) (g : Nat) (t : TypeId) (cs : Array Value) : Prop := w.heap[g]? = some (.cells cs t (0, 0))
section
variable {w w' : World} {g : Nat} {t : TypeId} {cs : Array Value}
theorem Has.inside (h : Has w g t cs) : g < w.heap.size := by
  unfold Has at h
  exact (Array.getElem?_eq_some_iff.1 h).1
theorem Has.at_ (h : Has w g t cs) (i : Nat) : w.cell? ⟨g, i, none⟩ = cs[i]? := cell_of_row w g i cs t (0, 0) h
theorem Has.free (h : Has w g t cs) (i : Nat) : w.frozen? ⟨g, i, none⟩ = false := by
  unfold Has at h
  simp [World.frozen?, h]
theorem Has.fresh (w : World) (t : TypeId) (cs : Array Value) : Has (w.alloc (.cells cs t)) w.heap.size t cs := heap_alloc_new w _
theorem Has.fresh' (w : World) (t : TypeId) (cs : Array Value) {g : Nat} (hg : g = w.heap.size) : Has (w.alloc (.cells cs t)) g t cs := by subst hg; exact Has.fresh w t cs
theorem Has.drawn (h : Has w g t cs) (n : Nat) : Has (w.drewN n) g t cs := h
theorem Has.more (h : Has w g t cs) (o : Obj) : Has (w.alloc o) g t cs := (Below.heap_alloc w o g h.inside).trans h
theorem Has.put (h : Has w g t cs) (i : Nat) (v : Value) : Has (w.setCell ⟨g, i, none⟩ v) g t (cs.setIfInBounds i v) := by
  unfold Has at h ⊢
  simp [World.setCell, Array.getElem?_modify, h]
theorem Has.other (h : Has w g t cs) {p : Addr} (hp : g ≠ p.block) (v : Value) : Has (w.setCell p v) g t cs := (Below.heap_setCell w p v g hp).trans h
theorem Has.kept {B : Nat} (h : Has w g t cs) (hb : Below B w w') (hg : g < B) : Has w' g t cs := (hb.block g hg).trans h
theorem Has.row {cs' : Array Value} (h : Has w g t cs) : Has (w.setRow g cs') g t cs' := setRow_heap w g cs cs' t (0, 0) h
theorem Has.rowOther {g' : Nat} {cs' : Array Value} (h : Has w g t cs) (hg : g ≠ g') : Has (w.setRow g' cs') g t cs := (setRow_other w g' g cs' hg).trans h
end
def at32 (l : List (BitVec 32)) (i : Nat) : BitVec 32 := l.getD i 0
def vec (l : List (BitVec 32)) : Array Value := (l.map V32).toArray
theorem vec_size (l : List (BitVec 32)) : (vec l).size = l.length := by simp [vec]
theorem vec_get (l : List (BitVec 32)) (i : Nat) (h : i < l.length) : (vec l)[i]? = some (Value.int .u32 (u (at32 l i))) := by
  simp [vec, V32, at32, List.getElem?_eq_getElem h, List.getD]
theorem vec_set (l : List (BitVec 32)) (i : Nat) (x : BitVec 32) : (vec l).setIfInBounds i (.int .u32 (u x)) = vec (l.set i x) := by
  simp [vec, V32, List.map_set]
theorem vec_one (l : List (BitVec 32)) : (vec l).all (·.oneCell') = true := by simp [vec, V32, Value.oneCell']
theorem at32_set_same (l : List (BitVec 32)) (i : Nat) (x : BitVec 32) (h : i < l.length) : at32 (l.set i x) i = x := by
  simp [at32, List.getD, List.getElem?_set_self h]
theorem at32_set_other (l : List (BitVec 32)) (i j : Nat) (x : BitVec 32) (h : i ≠ j) : at32 (l.set i x) j = at32 l j := by
  simp [at32, List.getD, List.getElem?_set_ne h]
theorem ext16 {a b : List (BitVec 32)} (ha : a.length = 16) (hb : b.length = 16) (h : ∀ i, i < 16 → at32 a i = at32 b i) : a = b := by
  apply List.ext_getElem (by omega)
  intro i h1 h2
  have := h i (by omega)
  simpa [at32, List.getD, List.getElem?_eq_getElem h1, List.getElem?_eq_getElem h2] using this
def zero16 : List (BitVec 32) := List.replicate 16 0
theorem zero_len : zero16.length = 16 := by simp [zero16]
def zeroA : Array Value := #[.int .u32 0, .int .u32 0, .int .u32 0, .int .u32 0, .int .u32 0, .int .u32 0, .int .u32 0, .int .u32 0, .int .u32 0, .int .u32 0, .int .u32 0, .int .u32 0, .int .u32 0, .int .u32 0, .int .u32 0, .int .u32 0]
theorem zeroTryvec : zeroA = vec zero16 := rfl
theorem zeroTryone : Hid (zeroA.all (·.oneCell') = true) := by show _ = _; rw [zeroTryvec]; exact vec_one _
theorem iVec : (Try.prog.info? 24).map (·.size) = some 16 := by kernel_rfl
theorem cU32 : Try.prog.cellsOf 22 = 1 := by kernel_rfl
theorem infoU32 : (Try.prog.info? 22).map (fun i => (i.zero, i.size, i.bytes)) = some (some (.int .u32 0), 1, 4) := by kernel_rfl
theorem size_vec (l : List (BitVec 32)) (h : l.length = 16) : Hid ((Try.prog.info? 24).map (·.size) = some (vec l).size) := by show _ = _; rw [vec_size, h]; exact iVec
theorem size_zero (l : List (BitVec 32)) (h : l.length = 16) : Hid (zeroA.size = (vec l).size) := by show _ = _; rw [vec_size, h]; rfl
theorem range_of {w : World} {g : Nat} {l : List (BitVec 32)} (hh : Has w g 24 (vec l)) : w.rangeAt g 0 (l.map V32) := by
  intro j v hv
  rw [Nat.zero_add, hh.at_ j, vec]
  simpa using hv
theorem range_keep {B : Nat} {w w' : World} {g o : Nat} {vs : List Value} (h : w.rangeAt g o vs) (hg : g < B) (hb : Below B w w') : w'.rangeAt g o vs := fun j v hv =>
  (hb.cell (p := ⟨g, o + j, none⟩) hg).trans (h j v hv)
theorem load_vec {w : World} {g : Nat} {h : List (BitVec 32)} (k : Has w g 24 (vec h)) (hl : h.length = 16) : (loadVar 24 ⟨g, 0, none⟩).run Try.prog w = .ok (.agg (vec h)) w :=
  run_loadVar_row (P := Try.prog) w g 24 24 (vec h) (0, 0) _ k Try.underlying24 rfl (size_vec h hl)
/-- Are two rows the same? -/
@[irreducible] def sameV (xs ys : List (BitVec 32)) : Bool := decide (xs = ys)
theorem sameV_iff (xs ys : List (BitVec 32)) : sameV xs ys = true ↔ xs = ys := by unfold sameV; simp
theorem sameV_refl (xs : List (BitVec 32)) : sameV xs xs = true := (sameV_iff _ _).2 rfl
theorem sameV_ne {xs ys : List (BitVec 32)} (h : xs ≠ ys) : sameV xs ys = false := by
  cases e : sameV xs ys with
  | false => rfl
  | true => exact absurd ((sameV_iff _ _).1 e) h
theorem part_word (xs : List (BitVec 32)) (i : Nat) (hi : i < xs.length) (w : World) : (part 22 (vec xs) (i * 1)).run Try.prog w = .ok (.int .u32 (u (at32 xs i))) w := by
  have ha : (isAgg 22).run Try.prog w = .ok false w := by kernel_rfl
  simp only [part, Sem.run_bind, ha, Result.andThen_ok, Nat.mul_one, Bool.false_eq_true, if_false, vec_get xs i hi, Sem.run_pure]
theorem eqItems_words (d : Nat) (xs ys : List (BitVec 32)) (w : World) (is : List Nat) : (∀ i ∈ is, i < xs.length ∧ i < ys.length) →
    (Op.eqItems (d + 1) 22 1 (vec xs) (vec ys) is).run Try.prog w = .ok (is.all fun i => decide (at32 xs i = at32 ys i)) w := by
  induction is with
  | nil => intro _; simp [Op.eqItems]
  | cons j is ih =>
    intro h
    have hj := h j (by simp)
    have he : (Op.equalIn (d + 1) 22 (.int .u32 (u (at32 xs j))) (.int .u32 (u (at32 ys j)))).run Try.prog w = .ok (u (at32 xs j) == u (at32 ys j)) w :=
      run_equalIn_int (P := Try.prog) w d 22 .u32 .u32 _ _ Try.underlying22
    simp only [Op.eqItems, Sem.run_bind, part_word xs j hj.1 w, part_word ys j hj.2 w, Result.andThen_ok, he]
    by_cases hq : at32 xs j = at32 ys j
    · rw [hq]; simp [ih (fun i hi => h i (by simp [hi]))]; simp [hq]
    · have : u (at32 xs j) ≠ u (at32 ys j) := fun e => hq (u_inj e)
      simp [this, hq]
theorem run_vec_equal (xs ys : List (BitVec 32)) (hx : xs.length = 16) (hy : ys.length = 16) (w : World) :
    (Op.equalIn 10000 24 (.agg (vec xs)) (.agg (vec ys))).run Try.prog w = .ok (sameV xs ys) w := by
  obtain ⟨i5, hi5⟩ : ∃ i, Try.prog.info? 22 = some i := by obtain ⟨i0, hi, _⟩ := info_parts infoU32; exact ⟨i0, hi⟩
  rw [run_equalIn_array (P := Try.prog) (w := w) 9999 (vec xs) (vec ys) Try.underlying24 hi5]
  have hc : Try.prog.cellsOf 22 = 1 := by kernel_rfl
  rw [hc, eqItems_words 9998 xs ys w _ (fun i hi => by simp at hi; omega)]
  congr 1
  rw [sameV, Bool.eq_iff_iff]
  simp only [List.all_eq_true, List.mem_range, decide_eq_true_eq]
  constructor
  · intro h
    exact ext16 hx hy h
  · intro h i _; rw [h]
theorem run_vec_eql (xs ys : List (BitVec 32)) (hx : xs.length = 16) (hy : ys.length = 16) (w : World) :
    (binOp .eql 24 (.agg (vec xs)) (.agg (vec ys))).run Try.prog w = .ok (.bool (sameV xs ys)) w := by
  rw [run_eql_struct, run_vec_equal xs ys hx hy]
  simp only [Result.andThen_ok]
theorem run_vec_neq (xs ys : List (BitVec 32)) (hx : xs.length = 16) (hy : ys.length = 16) (w : World) :
    (binOp .neq 24 (.agg (vec xs)) (.agg (vec ys))).run Try.prog w = .ok (.bool (!sameV xs ys)) w := by
  rw [run_neq_struct, run_vec_equal xs ys hx hy]
  simp only [Result.andThen_ok]
theorem i64in (x : Int) (h0 : 0 ≤ x) (h : x < 9223372036854775808) : IntKind.i64.wrap x = x := by
  simp [IntKind.wrap, IntKind.signed, IntKind.bits]; omega
theorem wpList_wanted {P : Program} {ops : Array Oper} {Q : Exit → Act → World → Prop} {a : Act} {w : World} {rest : List Oper} {o : Oper} (hw : Region.wanted o (yielded ops a.tmps) = true)
    (h : ∀ K : Act → World → Prop, (∀ a w, wpList P ops Q rest a w → K a w) → o.wp P a w K Q) : wpList P ops Q (o :: rest) a w :=
  wpList_step fun K hK => by rw [if_pos hw]; exact h K hK
/-- A whole row loaded, behind a guard that lets it by or none. -/
theorem wpList_load_g {P : Program} {ops : Array Oper} {rest : List Oper} {o : Oper} {a : Act} {w : World} {Q : Exit → Act → World → Prop} (hw : Region.wanted o (yielded ops a.tmps) = true) (ty : TypeId) (x : Operand) (ho : o.op = .load ty x)
    (g off : Nat) (hx : a.eval x = .pointer (some ⟨g, off, none⟩)) (cs : Array Value) (hl : (loadVar ty ⟨g, off, none⟩).run P w = .ok (.agg cs) w)
    (h : wpList P ops Q rest (a.put o.dst (.agg cs)) w) : wpList P ops Q (o :: rest) a w :=
  wpList_wanted hw fun _ hK => by
    unfold Oper.wp execOp
    simp only [ho, hx, Instr.loadAt, Instr.sureAddr, Sem.run_bind, Sem.run_pure, Result.andThen_ok, hl]
    exact hK _ _ h
end Go.Proofs.Ytmmbnobbpnndkaa
