/- Rows of asks and of things as a walk reads them. No conditions. -/
import Derived.Test.YtdmdddmfiankhaaBM
namespace Go.Proofs.Ytdmdddmfiankhaa
open Go.RowKit
def I64 (n : Int) : Prop := -9223372036854775808 ≤ n ∧ n ≤ 9223372036854775807
/-- An ask lies there: what, a number, a bound. -/
def AskAt (w : World) (bb o : Nat) (x : Int × Int × Nat) : Prop :=
  w.cell? ⟨bb, o, none⟩ = some (.int .i64 x.1) ∧ w.cell? ⟨bb, o + 1, none⟩ = some (.int .i64 x.2.1) ∧ w.cell? ⟨bb, o + 2, none⟩ = some (.int .u64 (x.2.2 : Int)) ∧ I64 x.1 ∧ I64 x.2.1 ∧ x.2.2 < 18446744073709551616
/-- A thing lies there: what, a number, a text. -/
def ThingAt (w : World) (bb o : Nat) (x : Int × Nat × ByteArray) : Prop :=
  w.cell? ⟨bb, o, none⟩ = some (.int .i64 x.1) ∧ w.cell? ⟨bb, o + 1, none⟩ = some (.int .u64 (x.2.1 : Int)) ∧ w.cell? ⟨bb, o + 2, none⟩ = some (.string x.2.2) ∧ I64 x.1 ∧ x.2.1 < 18446744073709551616
def AsksIn (w : World) (A : Option Addr) (n bb off : Nat) (xs : List (Int × Int × Nat)) : Prop :=
  xs.length = n ∧ (0 < n → A = some ⟨bb, off, none⟩ ∧ bb < w.heap.size) ∧ ∀ i, i < n → AskAt w bb (off + i * 3) (xs.getD i (0, 0, 0))
def ThingsIn (w : World) (A : Option Addr) (n bb off : Nat) (xs : List (Int × Nat × ByteArray)) : Prop :=
  xs.length = n ∧ (0 < n → A = some ⟨bb, off, none⟩ ∧ bb < w.heap.size) ∧ ∀ i, i < n → ThingAt w bb (off + i * 3) (xs.getD i (0, 0, ⟨#[]⟩))
theorem AskAt.kept {w w' : World} {bb o B : Nat} {x : Int × Int × Nat} (h : AskAt w bb o x) (hb : Below B w w') (hB : w.heap.size ≤ B) : AskAt w' bb o x := by
  obtain ⟨h0, h1, h2, h3⟩ := h
  have k : bb < B := Nat.lt_of_lt_of_le (block_lt_of_cell (a := ⟨bb, o, none⟩) h0) hB
  exact ⟨(hb.cell (p := ⟨bb, o, none⟩) k).trans h0, (hb.cell (p := ⟨bb, o + 1, none⟩) k).trans h1, (hb.cell (p := ⟨bb, o + 2, none⟩) k).trans h2, h3⟩
theorem ThingAt.kept {w w' : World} {bb o B : Nat} {x : Int × Nat × ByteArray} (h : ThingAt w bb o x) (hb : Below B w w') (hB : w.heap.size ≤ B) : ThingAt w' bb o x := by
  obtain ⟨h0, h1, h2, h3⟩ := h
  have k : bb < B := Nat.lt_of_lt_of_le (block_lt_of_cell (a := ⟨bb, o, none⟩) h0) hB
  exact ⟨(hb.cell (p := ⟨bb, o, none⟩) k).trans h0, (hb.cell (p := ⟨bb, o + 1, none⟩) k).trans h1, (hb.cell (p := ⟨bb, o + 2, none⟩) k).trans h2, h3⟩
theorem AsksIn.kept {w w' : World} {A : Option Addr} {n bb off B : Nat} {xs : List (Int × Int × Nat)} (h : AsksIn w A n bb off xs) (hb : Below B w w') (hB : w.heap.size ≤ B) : AsksIn w' A n bb off xs :=
  ⟨h.1, fun h0 => ⟨(h.2.1 h0).1, Nat.lt_of_lt_of_le (h.2.1 h0).2 hb.size⟩, fun i hi => (h.2.2 i hi).kept hb hB⟩
theorem ThingsIn.kept {w w' : World} {A : Option Addr} {n bb off B : Nat} {xs : List (Int × Nat × ByteArray)} (h : ThingsIn w A n bb off xs) (hb : Below B w w') (hB : w.heap.size ≤ B) : ThingsIn w' A n bb off xs :=
  ⟨h.1, fun h0 => ⟨(h.2.1 h0).1, Nat.lt_of_lt_of_le (h.2.1 h0).2 hb.size⟩, fun i hi => (h.2.2 i hi).kept hb hB⟩
end Go.Proofs.Ytdmdddmfiankhaa
