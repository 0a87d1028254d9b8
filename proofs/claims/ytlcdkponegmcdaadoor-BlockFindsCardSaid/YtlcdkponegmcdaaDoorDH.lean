/- Rows of places: cells set in a row, copied, appended. No conditions but the ones said. -/
import Derived.Test.YtlcdkponegmcdaaDoorDG
import Derived.Laws.CopyOwn
import Derived.Laws.IdiomCopy
import Derived.Lib.Overlaps
import Derived.Lib.AppendZerosOnto
import Derived.Lib.AppendZeros
import Derived.ArgAppend
import Derived.Shelf.Spec.SlicesInsert
namespace Go.Proofs.YtlcdkponegmcdaaDoor
open Go.RowKit
theorem splice_cons {α : Type} (l : List α) (r : Nat) (x : α) (c : List α) (h : r + 1 + c.length ≤ l.length) : splice (l.set r x) (r + 1) c = splice l r (x :: c) := Sha.splice_cons l r x c h
theorem Has.sets {g : Nat} {t : TypeId} (c : List Value) : ∀ (o : Nat) (w : World) (cur : List Value), Has w g t cur.toArray → o + c.length ≤ cur.length → Has (w.setCells g o c) g t (splice cur o c).toArray :=
  fun o w cur h hl => Sha.Has.sets c o w cur h hl
theorem Grw.of_sets (g : Nat) (c : List Value) (o : Nat) (w : World) : Grw g w (w.setCells g o c) := Sha.Grw.of_sets g c o w
theorem iPl : (Tryd.prog.info? 54).map (fun i => (i.zero, i.size, i.bytes)) = some (some (.agg #[.string ⟨#[]⟩, .int .i64 0]), 2, 24) := by kernel_rfl
theorem iPl2 : (Tryd.prog.info? 54).map (·.size) = some 2 := by kernel_rfl
theorem pcell_one (p : Pl) : ∀ u ∈ pcell p, u.oneCell' = true := by
  intro u hu
  simp only [pcell, List.mem_cons, List.not_mem_nil, or_false] at hu
  rcases hu with rfl | rfl <;> rfl
theorem pcells_one (ps : List Pl) : ∀ u ∈ pcells ps, u.oneCell' = true := by
  intro u hu
  obtain ⟨p, _, hp⟩ := List.mem_flatMap.1 hu
  exact pcell_one p u hp
theorem pcells_take (ps : List Pl) (i : Nat) : (pcells ps).take (i * 2) = pcells (ps.take i) := by
  induction ps generalizing i with
  | nil => simp [pcells]
  | cons p ps ih =>
    cases i with
    | zero => simp [pcells]
    | succ i =>
      have e : pcells (p :: ps) = pcell p ++ pcells ps := by simp [pcells]
      have e2 : pcells ((p :: ps).take (i + 1)) = pcell p ++ pcells (ps.take i) := by simp [pcells]
      rw [e, e2, show (i + 1) * 2 = (pcell p).length + i * 2 by simp [pcell]; omega, List.take_length_add_append, ih]
theorem pcells_drop (ps : List Pl) (i : Nat) : (pcells ps).drop (i * 2) = pcells (ps.drop i) := by
  induction ps generalizing i with
  | nil => simp [pcells]
  | cons p ps ih =>
    cases i with
    | zero => simp [pcells]
    | succ i =>
      have e : pcells (p :: ps) = pcell p ++ pcells ps := by simp [pcells]
      rw [e, show (i + 1) * 2 = (pcell p).length + i * 2 by simp [pcell]; omega, List.drop_length_add_append, ih]
      simp
theorem pcells_append (a b : List Pl) : pcells (a ++ b) = pcells a ++ pcells b := by simp [pcells]
theorem pcells_one_ (q : Pl) : pcells [q] = pcell q := by simp [pcells]
/-- ALL IS READ BEFORE ANYTHING IS WRITTEN. -/
theorem run_copy_pl (w : World) (ty : TypeId) (b o dLen dCap : Nat) (a : Addr) (sLen sCap : Nat) (cs : List Value) (n : Nat) (hn : n = Nat.min sLen dLen) (hl : cs.length = n * 2) 
    (hsrc : ∀ j v, cs[j]? = some v → w.cell? (a.add j) = some v) (hc : ∀ j, j < cs.length → (w.cell? ⟨b, o + j, none⟩).isSome = true) (hf : ∀ j, j < cs.length → w.frozen? ⟨b, o + j, none⟩ = false) (h1 : ∀ v ∈ cs, v.oneCell' = true) :
    (Builtin.copy_ #[89, 89] ty #[.slice (some ⟨b, o, none⟩) dLen dCap, .slice (some a) sLen sCap]).run Tryd.prog w = .ok (goInt n) (w.setCells b o cs) := by
  have hll := run_loadCells_list (P := Tryd.prog) w a cs hsrc
  have hst := run_storeCells_cells (P := Tryd.prog) b o cs 0 w (by simpa using hc) (by simpa using hf) h1
  have hu := Tryd.underlying89
  have hs := iPl2
  cases hq : Tryd.prog.info? 54 with
  | none => simp [hq] at hs
  | some i =>
    have hi : i.size = 2 := by simpa [hq] using hs
    rw [hl] at hll
    simp [Builtin.copy_, run_underlying hu, Builtin.lenOf, Builtin.firstCells, sizeOf, typeInfo, hq, hi, ← hn, hll, hst]
/-- .. into a row that is known whole. -/
theorem run_copy_row (w : World) (ty : TypeId) (g o dLen dCap : Nat) (a : Addr) (sLen sCap : Nat) (cs cur : List Value) (n : Nat) (hh : Has w g 54 cur.toArray) (hn : n = Nat.min sLen dLen) (hl : cs.length = n * 2) (hfit : o + cs.length ≤ cur.length)
    (hsrc : ∀ j v, cs[j]? = some v → w.cell? (a.add j) = some v) (h1 : ∀ v ∈ cs, v.oneCell' = true) :
    (Builtin.copy_ #[89, 89] ty #[.slice (some ⟨g, o, none⟩) dLen dCap, .slice (some a) sLen sCap]).run Tryd.prog w = .ok (goInt n) (w.setCells g o cs) :=
  run_copy_pl w ty g o dLen dCap a sLen sCap cs n hn hl hsrc (fun j hj => by rw [hh.at_]; simp; omega) (fun j _ => hh.free _) h1
/-- A row that is known whole, its first cells these places. -/
structure PRow (w : World) (g cap : Nat) (cur : List Value) (ps : List Pl) : Prop where
  has : Has w g 54 cur.toArray
  len : cur.length = cap * 2
  le : ps.length ≤ cap
  max : cap ≤ maxLen
  take : cur.take (ps.length * 2) = pcells ps
theorem Pls.row {B : Nat} {w : World} {v : Value} {ps : List Pl} (h : Pls B w v ps) (h0 : 0 < ps.length) : ∃ g cap cur, v = .slice (some ⟨g, 0, none⟩) ps.length cap ∧ B ≤ g ∧ PRow w g cap cur ps := by
  rcases h.2 with ⟨_, h2⟩ | ⟨g, c, cur, h1, hB, h3, h4, h5, h6, h7⟩
  · omega
  · exact ⟨g, c, cur.toList, h1, hB, by simpa [Has] using h3, by simpa using h6, h4, h5, h7⟩
theorem PRow.pls {B : Nat} {w : World} {g cap : Nat} {cur : List Value} {ps : List Pl} (h : PRow w g cap cur ps) (hB : B ≤ g) : Pls B w (.slice (some ⟨g, 0, none⟩) ps.length cap) ps := by
  refine ⟨pcells_len ps, .inr ⟨g, cap, cur.toArray, rfl, hB, h.has, h.le, h.max, by simpa using h.len, by simpa using h.take⟩⟩
theorem PRow.cell {w : World} {g cap : Nat} {cur : List Value} {ps : List Pl} (h : PRow w g cap cur ps) (j : Nat) (v : Value) (hj : (pcells ps)[j]? = some v) : w.cell? ⟨g, j, none⟩ = some v := by
  have h1 : j < ps.length * 2 := by have := (List.getElem?_eq_some_iff.1 hj).1; rwa [pcells_len] at this
  rw [h.has.at_, List.getElem?_toArray]
  rw [← h.take, List.getElem?_take_of_lt h1] at hj
  exact hj
end Go.Proofs.YtlcdkponegmcdaaDoor
