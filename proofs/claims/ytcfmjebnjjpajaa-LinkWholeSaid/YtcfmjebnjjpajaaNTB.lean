/- Acts that come in, as a walk reads them. No conditions. -/
import Derived.Test.YtcfmjebnjjpajaaNJ
namespace Go.Proofs.Ytcfmjebnjjpajaa
open Go.RowKit
def I64 (n : Int) : Prop := -9223372036854775808 ≤ n ∧ n ≤ 9223372036854775807
/-- An act: what, end, number, data. -/
abbrev AcT := Int × Int × Int × ByteArray
def acz : AcT := (0, 0, 0, ⟨#[]⟩)
/-- An act lies there. -/
def ActAt (w : World) (bb o : Nat) (x : AcT) : Prop := w.cell? ⟨bb, o, none⟩ = some (.int .i64 x.1) ∧ w.cell? ⟨bb, o + 1, none⟩ = some (.int .i64 x.2.1) ∧ w.cell? ⟨bb, o + 2, none⟩ = some (.int .i64 x.2.2.1) ∧ w.cell? ⟨bb, o + 3, none⟩ = some (.string x.2.2.2)
def ActsIn (w : World) (A : Option Addr) (n bb off : Nat) (xs : List AcT) : Prop :=
  xs.length = n ∧ (0 < n → A = some ⟨bb, off, none⟩ ∧ bb < w.heap.size) ∧ (∀ i, i < n → ActAt w bb (off + i * 4) (xs.getD i acz)) ∧ ∀ i, i < n → I64 (xs.getD i acz).1 ∧ I64 (xs.getD i acz).2.1 ∧ I64 (xs.getD i acz).2.2.1
theorem ActAt.kept {w w' : World} {bb o B : Nat} {x : AcT} (h : ActAt w bb o x) (hb : Below B w w') (hB : w.heap.size ≤ B) : ActAt w' bb o x := by
  obtain ⟨h0, h1, h2, h3⟩ := h
  have k : bb < B := Nat.lt_of_lt_of_le (block_lt_of_cell (a := ⟨bb, o, none⟩) h0) hB
  exact ⟨(hb.cell (p := ⟨bb, o, none⟩) k).trans h0, (hb.cell (p := ⟨bb, o + 1, none⟩) k).trans h1, (hb.cell (p := ⟨bb, o + 2, none⟩) k).trans h2, (hb.cell (p := ⟨bb, o + 3, none⟩) k).trans h3⟩
theorem ActsIn.kept {w w' : World} {A : Option Addr} {n bb off B : Nat} {xs : List AcT} (h : ActsIn w A n bb off xs) (hb : Below B w w') (hB : w.heap.size ≤ B) : ActsIn w' A n bb off xs :=
  ⟨h.1, fun h0 => ⟨(h.2.1 h0).1, Nat.lt_of_lt_of_le (h.2.1 h0).2 hb.size⟩, fun i hi => (h.2.2.1 i hi).kept hb hB, h.2.2.2⟩
end Go.Proofs.Ytcfmjebnjjpajaa
