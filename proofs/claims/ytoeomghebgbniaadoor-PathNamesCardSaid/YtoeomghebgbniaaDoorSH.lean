/- A block that is known whole, kept over what happens to other blocks; bytes and words as arrays of values. No conditions. -/
import Derived.Test.YtoeomghebgbniaaDoorSA
import Derived.Test.YtoeomghebgbniaaDoorPA
import Derived.Deep.Draws
namespace Go.Proofs.YtoeomghebgbniaaDoor.Sha
open Go.RowKit

/-- Block g of w holds just cs. -/
def Has (w : World) (g : Nat) (t : TypeId) (cs : Array Value) : Prop := w.heap[g]? = some (.cells cs t (0, 0))
section
variable {w w' : World} {g : Nat} {t : TypeId} {cs : Array Value}
theorem Has.inside (h : Has w g t cs) : g < w.heap.size := by
  unfold Has at h
  exact (Array.getElem?_eq_some_iff.1 h).1
theorem Has.at_ (h : Has w g t cs) (i : Nat) : w.cell? ⟨g, i, none⟩ = cs[i]? := cell_of_row w g i cs t (0, 0) h
theorem Has.free (h : Has w g t cs) (i : Nat) : w.frozen? ⟨g, i, none⟩ = false := by
  unfold Has at h
  simp [World.frozen?, h]
theorem Has.fresh (w : World) (t : TypeId) (cs : Array Value) : Has (w.alloc (.cells cs t)) w.heap.size t cs := heap_alloc_new w _
theorem Has.fresh' (w : World) (t : TypeId) (cs : Array Value) {g : Nat} (hg : g = w.heap.size) : Has (w.alloc (.cells cs t)) g t cs := by subst hg; exact Has.fresh w t cs
theorem Has.drawn (h : Has w g t cs) (n : Nat) : Has (w.drewN n) g t cs := h
theorem Has.more (h : Has w g t cs) (o : Obj) : Has (w.alloc o) g t cs := (Below.heap_alloc w o g h.inside).trans h
theorem Has.put (h : Has w g t cs) (i : Nat) (v : Value) : Has (w.setCell ⟨g, i, none⟩ v) g t (cs.setIfInBounds i v) := by
  unfold Has at h ⊢
  simp [World.setCell, Array.getElem?_modify, h]
theorem Has.other (h : Has w g t cs) {p : Addr} (hp : g ≠ p.block) (v : Value) : Has (w.setCell p v) g t cs := (Below.heap_setCell w p v g hp).trans h
theorem Has.kept {B : Nat} (h : Has w g t cs) (hb : Below B w w') (hg : g < B) : Has w' g t cs := (hb.block g hg).trans h
end

def at32 (l : List (BitVec 32)) (i : Nat) : BitVec 32 := l.getD i 0
def vec (l : List (BitVec 32)) : Array Value := (l.map fun x => Value.int .u32 (u x)).toArray
theorem vec_size (l : List (BitVec 32)) : (vec l).size = l.length := by simp [vec]
theorem vec_get (l : List (BitVec 32)) (i : Nat) (h : i < l.length) : (vec l)[i]? = some (Value.int .u32 (u (at32 l i))) := by
  simp [vec, at32, List.getElem?_eq_getElem h, List.getD]
theorem vec_set (l : List (BitVec 32)) (i : Nat) (x : BitVec 32) : (vec l).setIfInBounds i (.int .u32 (u x)) = vec (l.set i x) := by
  simp [vec, List.map_set]
theorem vec_one (l : List (BitVec 32)) : (vec l).all (·.oneCell') = true := by simp [vec, Value.oneCell']
/-- A byte's number. -/
def b8 (x : UInt8) : Int := (x.toNat : Int)
theorem b8_nonneg (x : UInt8) : 0 ≤ b8 x := by unfold b8; omega
theorem b8_lt (x : UInt8) : b8 x < 256 := by have := x.toNat_lt; unfold b8; omega
def at8 (l : List UInt8) (i : Nat) : UInt8 := l.getD i 0
def bvec (l : List UInt8) : Array Value := (l.map fun x => Value.int .u8 (b8 x)).toArray
theorem bvec_size (l : List UInt8) : (bvec l).size = l.length := by simp [bvec]
theorem bvec_get (l : List UInt8) (i : Nat) (h : i < l.length) : (bvec l)[i]? = some (Value.int .u8 (b8 (at8 l i))) := by
  simp [bvec, at8, List.getElem?_eq_getElem h, List.getD]
theorem bvec_set (l : List UInt8) (i : Nat) (x : UInt8) : (bvec l).setIfInBounds i (.int .u8 (b8 x)) = bvec (l.set i x) := by
  simp [bvec, List.map_set]
theorem bvec_one (l : List UInt8) : (bvec l).all (·.oneCell') = true := by simp [bvec, Value.oneCell']
theorem i66 : (Tryd.prog.info? 87).map (·.size) = some 16 := by kernel_rfl
theorem i34 : (Tryd.prog.info? 59).map (·.size) = some 8 := by kernel_rfl
theorem i35 : (Tryd.prog.info? 66).map (·.size) = some 64 := by kernel_rfl
theorem i25 : (Tryd.prog.info? 34).map (·.size) = some 32 := by kernel_rfl
theorem i37 : (Tryd.prog.info? 68).map (·.size) = some 74 := by kernel_rfl
theorem i69 : (Tryd.prog.info? 90).map (·.size) = some 64 := by kernel_rfl
theorem Has.row {w : World} {g : Nat} {t : TypeId} {cs cs' : Array Value} (h : Has w g t cs) : Has (w.setRow g cs') g t cs' := setRow_heap w g cs cs' t (0, 0) h
theorem Has.rowOther {w : World} {g g' : Nat} {t : TypeId} {cs cs' : Array Value} (h : Has w g t cs) (hg : g ≠ g') : Has (w.setRow g' cs') g t cs := (setRow_other w g' g cs' hg).trans h
/-- A byte as a word. -/
def wd (x : UInt8) : BitVec 32 := BitVec.ofNat 32 x.toNat
def shL (x : BitVec 32) (n : Nat) : BitVec 32 := x <<< n
theorem b8_u (x : UInt8) : b8 x = u (wd x) := by
  have := x.toNat_lt
  simp only [b8, u, wd, BitVec.toNat_ofNat]; omega
theorem i64in (x : Int) (h0 : 0 ≤ x) (h : x < 9223372036854775808) : IntKind.i64.wrap x = x := by
  simp [IntKind.wrap, IntKind.signed, IntKind.bits]; omega
theorem ret32 {x y : BitVec 32} (h : x = y) : Ending.returned (.int .u32 (u x)) = .returned (.int .u32 (u y)) := by rw [h]
end Go.Proofs.YtoeomghebgbniaaDoor.Sha
