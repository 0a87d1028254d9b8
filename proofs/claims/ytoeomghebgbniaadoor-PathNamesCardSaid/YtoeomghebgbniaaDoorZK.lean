/- The document's digest: rows of words that grow, kept and written; the tables' roots by number. Plain, and facts on worlds. -/
import Derived.Test.YtoeomghebgbniaaDoorZI
import Derived.Test.YtoeomghebgbniaaDoorZJ
import Derived.Test.YtoeomghebgbniaaDoorZC
namespace Go.Proofs.YtoeomghebgbniaaDoor.Sha
open Go.RowKit
/-- Block g begins with these words. -/
def Row (w : World) (g : Nat) (l : List (BitVec 32)) : Prop := ∃ cur : Array Value, Has w g 54 cur ∧ cur.toList.take l.length = l.map V32
theorem Row.cell {w : World} {g : Nat} {l : List (BitVec 32)} (h : Row w g l) (i : Nat) (hi : i < l.length) : w.cell? ⟨g, i, none⟩ = some (.int .u32 (u (at32 l i))) := by
  obtain ⟨cur, h1, h2⟩ := h
  rw [h1.at_ i, ← Array.getElem?_toList]
  have : (cur.toList.take l.length)[i]? = (l.map V32)[i]? := by rw [h2]
  rw [List.getElem?_take, if_pos hi] at this
  rw [this, List.getElem?_map, List.getElem?_eq_getElem hi]
  simp [V32, at32, List.getD, List.getElem?_eq_getElem hi]
theorem Row.free {w : World} {g : Nat} {l : List (BitVec 32)} (h : Row w g l) (i : Nat) : w.frozen? ⟨g, i, none⟩ = false := by
  obtain ⟨cur, h1, _⟩ := h
  exact h1.free i
theorem Row.inside {w : World} {g : Nat} {l : List (BitVec 32)} (h : Row w g l) : g < w.heap.size := by
  obtain ⟨cur, h1, _⟩ := h
  exact h1.inside
theorem Row.kept {w w' : World} {B g : Nat} {l : List (BitVec 32)} (h : Row w g l) (hb : Below B w w') (hg : g < B) : Row w' g l := by
  obtain ⟨cur, h1, h2⟩ := h
  exact ⟨cur, h1.kept hb hg, h2⟩
theorem Row.other {w : World} {g : Nat} {l : List (BitVec 32)} (h : Row w g l) {p : Addr} (hp : g ≠ p.block) (v : Value) : Row (w.setCell p v) g l := by
  obtain ⟨cur, h1, h2⟩ := h
  exact ⟨cur, h1.other hp v, h2⟩
theorem Row.put {w : World} {g : Nat} {l : List (BitVec 32)} (h : Row w g l) (i : Nat) (x : BitVec 32) : Row (w.setCell ⟨g, i, none⟩ (.int .u32 (u x))) g (l.set i x) := by
  obtain ⟨cur, h1, h2⟩ := h
  refine ⟨_, h1.put i _, ?_⟩
  rw [List.length_set, Array.toList_setIfInBounds, List.take_set, h2, List.map_set]
  rfl
theorem Row.more {w : World} {g : Nat} {l : List (BitVec 32)} (h : Row w g l) (o : Obj) : Row (w.alloc o) g l := by
  obtain ⟨cur, h1, h2⟩ := h
  exact ⟨cur, h1.more o, h2⟩
theorem Row.drawn {w : World} {g : Nat} {l : List (BitVec 32)} (h : Row w g l) (n : Nat) : Row (w.drewN n) g l := by
  obtain ⟨cur, h1, h2⟩ := h
  exact ⟨cur, h1.drawn n, h2⟩
theorem row_own {w : World} {B n c : Nat} {A : Option Addr} {l : List (BitVec 32)} (hl : l.length = n) (hn : 0 < n) (h : w.ownsRow B 54 1 (.slice A n c) n (l.map V32)) : ∃ g, A = some ⟨g, 0, none⟩ ∧ Row w g l ∧ B ≤ g := by
  rcases h.2 with ⟨_, h2⟩ | ⟨g, cap, cur, h1, h2, h3, _, _, _, h7⟩
  · omega
  · cases h1
    exact ⟨g, rfl, ⟨cur, h3, by rw [hl, ← h7, Nat.mul_one]⟩, h2⟩
def prm (i : Nat) : Nat := first64.getD i 0
theorem prm_lt : ∀ i, i < 64 → prm i < 1000 := by decide
theorem cube_at (i : Nat) (h : i < 64) : ((cuUp (prm i) 36 % 4294967296 : Nat) : Int) = u (at32 kList i) := by
  have e := congrArg (fun l => l[i]?) cube_table
  have l1 : i < first64.length := h
  have l2 : i < kList.length := h
  simp only [List.getElem?_map, List.getElem?_eq_getElem l1, List.getElem?_eq_getElem l2, Option.map_some, Option.some.injEq] at e
  unfold u prm at32
  simp only [List.getD, List.getElem?_eq_getElem l1, List.getElem?_eq_getElem l2, Option.getD_some]
  rw [e]
theorem hTab : hList.map BitVec.toNat = [0x6a09e667, 0xbb67ae85, 0x3c6ef372, 0xa54ff53a, 0x510e527f, 0x9b05688c, 0x1f83d9ab, 0x5be0cd19] := by decide
theorem square_at (i : Nat) (h : i < 8) : ((sqUp (prm i) 37 % 4294967296 : Nat) : Int) = u (at32 hList i) := by
  have e := congrArg (fun l => l[i]?) square_table
  rw [← hTab] at e
  have l1 : i < (first64.take 8).length := h
  have l2 : i < hList.length := h
  have l3 : i < first64.length := Nat.lt_trans h (by decide)
  simp only [List.getElem?_map, List.getElem?_eq_getElem l1, List.getElem?_eq_getElem l2, Option.map_some, Option.some.injEq, List.getElem_take] at e
  unfold u prm at32
  simp only [List.getD, List.getElem?_eq_getElem l3, List.getElem?_eq_getElem l2, Option.getD_some]
  rw [e]
theorem take_next (l : List (BitVec 32)) (i : Nat) (h : i < l.length) : (l.take (i + 1)).map V32 = (l.take i).map V32 ++ [.int .u32 (u (at32 l i))] := by
  rw [List.take_succ_eq_append_getElem h, List.map_append, at32, List.getD, List.getElem?_eq_getElem h]; rfl
/-- The primes' cells. -/
theorem primes_cells {w : World} {B : Nat} {v : Value} (h : w.ownsRow B 56 1 v 64 (first64.map V64)) : ∃ g c, v = .slice (some ⟨g, 0, none⟩) 64 c ∧ g < w.heap.size ∧ B ≤ g ∧ ∀ i, i < 64 → w.cell? ⟨g, i, none⟩ = some (.int .u64 (prm i : Nat)) := by
  have hc := fun g hg => h.cells (g := g) hg
  have hl := fun g hg => h.lt g hg
  rcases h.2 with ⟨_, h2⟩ | ⟨g, cap, cur, rfl, _⟩
  · omega
  · refine ⟨g, cap, rfl, (hl g rfl).2, (hl g rfl).1, fun i hi => ?_⟩
    have l1 : i < first64.length := hi
    have := hc g rfl i (.int .u64 (prm i : Nat)) (by simp [prm, V64, List.getD, List.getElem?_eq_getElem l1])
    have e : (⟨g, 0, none⟩ : Addr).add i = ⟨g, i, none⟩ := by unfold Addr.add; split <;> simp_all
    rwa [e] at this
end Go.Proofs.YtoeomghebgbniaaDoor.Sha
