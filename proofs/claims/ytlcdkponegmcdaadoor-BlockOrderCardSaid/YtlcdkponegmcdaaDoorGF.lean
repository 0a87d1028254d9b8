/- A row of acts as a walk reads it. No conditions. -/
import Derived.Test.YtlcdkponegmcdaaDoorED
namespace Go.Proofs.YtlcdkponegmcdaaDoor
open Go.RowKit
/-- What is done to a finder: gone, a name, a text, how long. -/
structure ActT where
  gone : Bool
  name : ByteArray
  text : ByteArray
  long : Int
def act0 : ActT := ⟨false, ⟨#[]⟩, ⟨#[]⟩, 0⟩
structure ActOk (x : ActT) : Prop where
  name : x.name.size ≤ maxLen
  text : x.text.size ≤ maxLen
  lo : -9223372036854775808 ≤ x.long
  hi : x.long ≤ 9223372036854775807
def actCells (x : ActT) : Array Value := #[.bool x.gone, .string x.name, .string x.text, .int .i64 x.long]
/-- An act lies there. -/
structure ActAt (w : World) (bb o : Nat) (x : ActT) : Prop where
  c0 : w.cell? ⟨bb, o, none⟩ = some (.bool x.gone)
  c1 : w.cell? ⟨bb, o + 1, none⟩ = some (.string x.name)
  c2 : w.cell? ⟨bb, o + 2, none⟩ = some (.string x.text)
  c3 : w.cell? ⟨bb, o + 3, none⟩ = some (.int .i64 x.long)
theorem ActAt.kept {w w' : World} {bb o B : Nat} {x : ActT} (h : ActAt w bb o x) (hb : Below B w w') (hB : w.heap.size ≤ B) : ActAt w' bb o x := by
  have k : bb < B := Nat.lt_of_lt_of_le (block_lt_of_cell (a := ⟨bb, o, none⟩) h.c0) hB
  exact ⟨(hb.cell (p := ⟨bb, o, none⟩) k).trans h.c0, (hb.cell (p := ⟨bb, o + 1, none⟩) k).trans h.c1, (hb.cell (p := ⟨bb, o + 2, none⟩) k).trans h.c2, (hb.cell (p := ⟨bb, o + 3, none⟩) k).trans h.c3⟩
set_option maxRecDepth 100000 in
theorem ActAt.load {w : World} {bb o : Nat} {x : ActT} (h : ActAt w bb o x) : (loadVar 47 ⟨bb, o, none⟩).run Tryd.prog w = .ok (.agg (actCells x)) w := by
  refine run_loadVar_mid (P := Tryd.prog) w bb o 47 (actCells x).toList _ (fun j u hj => ?_) Tryd.underlying47 rfl (by show _ = some 4; kernel_rfl)
  match j, hj with
  | 0, hj => obtain rfl := Option.some.inj hj; exact h.c0
  | 1, hj => obtain rfl := Option.some.inj hj; exact h.c1
  | 2, hj => obtain rfl := Option.some.inj hj; exact h.c2
  | 3, hj => obtain rfl := Option.some.inj hj; exact h.c3
  | j + 4, hj => simp [actCells] at hj
/-- A row of acts lies there. -/
structure ActsIn (w : World) (A : Option Addr) (n bb off : Nat) (xs : List ActT) : Prop where
  len : xs.length = n
  src : 0 < n → A = some ⟨bb, off, none⟩ ∧ bb < w.heap.size
  at_ : ∀ i, i < n → ActAt w bb (off + i * 4) (xs.getD i act0)
  ok : ∀ x ∈ xs, ActOk x
theorem ActsIn.kept {w w' : World} {A : Option Addr} {n bb off B : Nat} {xs : List ActT} (h : ActsIn w A n bb off xs) (hb : Below B w w') (hB : w.heap.size ≤ B) : ActsIn w' A n bb off xs :=
  ⟨h.len, fun h0 => ⟨(h.src h0).1, Nat.lt_of_lt_of_le (h.src h0).2 hb.size⟩, fun i hi => (h.at_ i hi).kept hb hB, h.ok⟩
end Go.Proofs.YtlcdkponegmcdaaDoor
