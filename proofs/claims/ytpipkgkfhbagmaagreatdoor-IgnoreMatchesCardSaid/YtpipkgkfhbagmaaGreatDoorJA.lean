/- Glob: bytes and texts as lists, blocks known whole. No conditions. -/
import Derived.Test.YtpipkgkfhbagmaaGreatDoorProg
import Derived.WalkKit
import Derived.WalkSpells
import Derived.WalkLawsBesides
import Derived.Deep.Draws
import Derived.Deep.MidRow
import Derived.Laws.Rows
import Derived.Laws.Tables
import Derived.Laws.EntriesVeiled
import Derived.Laws.DeepStrings4
import Derived.ChangeKeysEq
import Derived.Deep.QuietTactic
import Derived.BigQuiet
import Derived.RegionTactic
import Derived.WalkMore
import Derived.ChangeAgain
import Derived.OneCell
import Derived.Lib.SmallJoins
namespace Go.RowKit
theorem Below.drewG {B : Nat} {a w : World} (h : Below B a w) (n : Nat) : Below B a (w.drewN n) := ⟨h.os, h.tape, h.output, h.size, h.block⟩
theorem Below.rowG {B : Nat} {a w : World} (h : Below B a w) {g : Nat} (hg : B ≤ g) (cs : Array Value) : Below B a (w.setRow g cs) :=
  h.trans ⟨rfl, rfl, rfl, by simp, fun k hk => setRow_other w g k cs (by omega)⟩
theorem Below.thenG {a w w' : World} (h : Below a.heap.size a w) (h2 : Below w.heap.size w w') : Below a.heap.size a w' := h.trans (h2.mono h.size)
end Go.RowKit
namespace Go.Proofs.YtpipkgkfhbagmaaGreatDoor.Glob
open Go.RowKit
theorem hid {p : Prop} (h : p) : Hid p := h
abbrev By := List UInt8
/-- A byte's number. -/
def b8 (x : UInt8) : Int := (x.toNat : Int)
theorem b8_nonneg (x : UInt8) : 0 ≤ b8 x := by unfold b8; omega
theorem b8_lt (x : UInt8) : b8 x < 256 := by have := x.toNat_lt; unfold b8; omega
theorem b8_inj {x y : UInt8} (h : b8 x = b8 y) : x = y := UInt8.toNat_inj.1 (by unfold b8 at h; omega)
theorem b8_eq (x y : UInt8) : (b8 x == b8 y) = (x == y) := by
  rw [Bool.eq_iff_iff]; simp only [beq_iff_eq]; exact ⟨b8_inj, fun h => by rw [h]⟩
/-- A text's bytes. -/
abbrev tl (s : ByteArray) : By := s.data.toList
def ba (l : By) : ByteArray := ⟨l.toArray⟩
theorem tl_ba (l : By) : tl (ba l) = l := rfl
theorem ba_tl (s : ByteArray) : ba (tl s) = s := by simp [ba, tl]
theorem tl_length (s : ByteArray) : (tl s).length = s.size := by simp [tl]
theorem ba_size (l : By) : (ba l).size = l.length := by rw [← tl_length]; rfl
theorem ba_inj {a b : By} (h : ba a = ba b) : a = b := by have := congrArg tl h; simpa [tl_ba] using this
theorem ba_take (s : By) (k : Nat) : (ba s).extract 0 k = ba (s.take k) := by
  apply ByteArray.ext; apply Array.ext'; simp [ba]
theorem ba_drop (s : By) (k : Nat) : (ba s).extract k s.length = ba (s.drop k) := by
  apply ByteArray.ext; apply Array.ext'; simp [ba]
  rw [List.take_of_length_le]; simp
def at8 (l : By) (i : Nat) : UInt8 := l.getD i 0
theorem i64in (x : Int) (h0 : -9223372036854775808 ≤ x) (h : x < 9223372036854775808) : IntKind.i64.wrap x = x := by
  simp [IntKind.wrap, IntKind.signed, IntKind.bits]; omega
/-- A text's byte, as the walk asks it. -/
theorem index_str (s : By) (i : Nat) (h : i < s.length) (w : World) : (Instr.index 9 (.string (ba s)) (.int .i64 (i : Int))).run Tryz.prog w = .ok (.int .u8 (b8 (at8 s i))) w := by
  have hsz := ba_size s
  rw [run_index_string (P := Tryz.prog) w 9 (ba s) .i64 (i : Int) Tryz.underlying9, dif_pos ⟨by omega, by omega⟩]
  have : (ba s)[(i : Int).toNat]'(by rw [hsz]; simpa using h) = at8 s i := by
    have h2 : i < s.length := by simpa using h
    show (ba s)[i] = _
    simp only [at8, List.getD, List.getElem?_eq_getElem h2, Option.getD_some]
    rfl
  rw [this]; rfl
/-- Block g of w holds just cs. -/
def Has (w : World) (g : Nat) (t : TypeId) (cs : Array Value) : Prop := w.heap[g]? = some (.cells cs t (0, 0))
section
variable {w w' : World} {g : Nat} {t : TypeId} {cs : Array Value}
theorem Has.inside (h : Has w g t cs) : g < w.heap.size := by
  unfold Has at h
  exact (Array.getElem?_eq_some_iff.1 h).1
theorem Has.at_ (h : Has w g t cs) (i : Nat) : w.cell? ⟨g, i, none⟩ = cs[i]? := cell_of_row w g i cs t (0, 0) h
theorem Has.free (h : Has w g t cs) (i : Nat) : w.frozen? ⟨g, i, none⟩ = false := by
  unfold Has at h
  simp [World.frozen?, h]
theorem Has.fresh (w : World) (t : TypeId) (cs : Array Value) : Has (w.alloc (.cells cs t)) w.heap.size t cs := heap_alloc_new w _
theorem Has.fresh' (w : World) (t : TypeId) (cs : Array Value) {g : Nat} (hg : g = w.heap.size) : Has (w.alloc (.cells cs t)) g t cs := by subst hg; exact Has.fresh w t cs
theorem Has.drawn (h : Has w g t cs) (n : Nat) : Has (w.drewN n) g t cs := h
theorem Has.more (h : Has w g t cs) (o : Obj) : Has (w.alloc o) g t cs := (Below.heap_alloc w o g h.inside).trans h
theorem Has.put (h : Has w g t cs) (i : Nat) (v : Value) : Has (w.setCell ⟨g, i, none⟩ v) g t (cs.setIfInBounds i v) := by
  unfold Has at h ⊢
  simp [World.setCell, Array.getElem?_modify, h]
theorem Has.other (h : Has w g t cs) {p : Addr} (hp : g ≠ p.block) (v : Value) : Has (w.setCell p v) g t cs := (Below.heap_setCell w p v g hp).trans h
theorem Has.kept {B : Nat} (h : Has w g t cs) (hb : Below B w w') (hg : g < B) : Has w' g t cs := (hb.block g hg).trans h
theorem Has.stays (h : Has w g t cs) (hb : Below w.heap.size w w') : Has w' g t cs := h.kept hb h.inside
theorem Has.row {cs' : Array Value} (h : Has w g t cs) : Has (w.setRow g cs') g t cs' := setRow_heap w g cs cs' t (0, 0) h
theorem Has.rowOther {g' : Nat} {cs' : Array Value} (h : Has w g t cs) (hg : g ≠ g') : Has (w.setRow g' cs') g t cs := (setRow_other w g' g cs' hg).trans h
end
theorem ret_bool {a b : Bool} (h : a = b) : Ending.returned (.bool a) = .returned (.bool b) := by rw [h]
end Go.Proofs.YtpipkgkfhbagmaaGreatDoor.Glob
