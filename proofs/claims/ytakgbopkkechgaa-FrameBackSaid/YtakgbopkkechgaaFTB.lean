/- Rows of parts, of frames and of bytes that come in, as a walk reads them. No conditions. -/
import Derived.Test.YtakgbopkkechgaaFS
namespace Go.Proofs.Ytakgbopkkechgaa
open Go.RowKit
def I64 (n : Int) : Prop := -9223372036854775808 ≤ n ∧ n ≤ 9223372036854775807
/-- A part lies there: bytes, and how often one asks. -/
def PartAt (w : World) (bb o : Nat) (x : ByteArray × UInt8) : Prop := w.cell? ⟨bb, o, none⟩ = some (.string x.1) ∧ w.cell? ⟨bb, o + 1, none⟩ = some (.int .u8 (b8 x.2))
/-- A frame lies there: a kind, a body. -/
def FrmAt (w : World) (bb o : Nat) (x : Int × ByteArray) : Prop := w.cell? ⟨bb, o, none⟩ = some (.int .i64 x.1) ∧ w.cell? ⟨bb, o + 1, none⟩ = some (.string x.2)
def PartsIn (w : World) (A : Option Addr) (n bb off : Nat) (xs : List (ByteArray × UInt8)) : Prop :=
  xs.length = n ∧ (0 < n → A = some ⟨bb, off, none⟩ ∧ bb < w.heap.size) ∧ ∀ i, i < n → PartAt w bb (off + i * 2) (xs.getD i (⟨#[]⟩, 0))
def FrmsIn (w : World) (A : Option Addr) (n bb off : Nat) (xs : List (Int × ByteArray)) : Prop :=
  xs.length = n ∧ (0 < n → A = some ⟨bb, off, none⟩ ∧ bb < w.heap.size) ∧ ∀ i, i < n → FrmAt w bb (off + i * 2) (xs.getD i (0, ⟨#[]⟩))
def BytsIn (w : World) (A : Option Addr) (n bb off : Nat) (xs : List UInt8) : Prop :=
  xs.length = n ∧ (0 < n → A = some ⟨bb, off, none⟩ ∧ bb < w.heap.size) ∧ ∀ i, i < n → w.cell? ⟨bb, off + i, none⟩ = some (.int .u8 (b8 (at8 xs i)))
section
variable {w w' : World} {bb o B : Nat} {A : Option Addr} {n off : Nat}
theorem PartAt.kept {x : ByteArray × UInt8} (h : PartAt w bb o x) (hb : Below B w w') (hB : w.heap.size ≤ B) : PartAt w' bb o x := by
  obtain ⟨h0, h1⟩ := h
  have k : bb < B := Nat.lt_of_lt_of_le (block_lt_of_cell (a := ⟨bb, o, none⟩) h0) hB
  exact ⟨(hb.cell (p := ⟨bb, o, none⟩) k).trans h0, (hb.cell (p := ⟨bb, o + 1, none⟩) k).trans h1⟩
theorem FrmAt.kept {x : Int × ByteArray} (h : FrmAt w bb o x) (hb : Below B w w') (hB : w.heap.size ≤ B) : FrmAt w' bb o x := by
  obtain ⟨h0, h1⟩ := h
  have k : bb < B := Nat.lt_of_lt_of_le (block_lt_of_cell (a := ⟨bb, o, none⟩) h0) hB
  exact ⟨(hb.cell (p := ⟨bb, o, none⟩) k).trans h0, (hb.cell (p := ⟨bb, o + 1, none⟩) k).trans h1⟩
theorem PartsIn.kept {xs : List (ByteArray × UInt8)} (h : PartsIn w A n bb off xs) (hb : Below B w w') (hB : w.heap.size ≤ B) : PartsIn w' A n bb off xs :=
  ⟨h.1, fun h0 => ⟨(h.2.1 h0).1, Nat.lt_of_lt_of_le (h.2.1 h0).2 hb.size⟩, fun i hi => (h.2.2 i hi).kept hb hB⟩
theorem FrmsIn.kept {xs : List (Int × ByteArray)} (h : FrmsIn w A n bb off xs) (hb : Below B w w') (hB : w.heap.size ≤ B) : FrmsIn w' A n bb off xs :=
  ⟨h.1, fun h0 => ⟨(h.2.1 h0).1, Nat.lt_of_lt_of_le (h.2.1 h0).2 hb.size⟩, fun i hi => (h.2.2 i hi).kept hb hB⟩
theorem BytsIn.kept {xs : List UInt8} (h : BytsIn w A n bb off xs) (hb : Below B w w') (hB : w.heap.size ≤ B) : BytsIn w' A n bb off xs :=
  ⟨h.1, fun h0 => ⟨(h.2.1 h0).1, Nat.lt_of_lt_of_le (h.2.1 h0).2 hb.size⟩, fun i hi => by
    have h0 := h.2.2 i hi
    have k : bb < B := Nat.lt_of_lt_of_le (block_lt_of_cell (a := ⟨bb, off + i, none⟩) h0) hB
    exact (hb.cell (p := ⟨bb, off + i, none⟩) k).trans h0⟩
end
end Go.Proofs.Ytakgbopkkechgaa
