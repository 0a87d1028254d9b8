/- The frame of a law of the patterns: a list of texts that comes in. No conditions. -/
import Derived.Test.YtbbbopdlefeffaaJT
import Derived.Test.YtbbbopdlefeffaaKI
import Derived.SliceStrings
namespace Go.Proofs.Ytbbbopdlefeffaa
open Go.ChangeShapes Go.WideShapes Go.ChangeAt Go.ChangeMaps Go.WideElems Go.RowKit Glob
theorem spot_none {w : World} {a : Addr} {v : Value} (h : w.cell? (a.add 0) = some v) : a = ⟨a.block, a.off, none⟩ := by
  have e : a.add 0 = a := rfl
  rw [e] at h
  obtain ⟨b, o, s⟩ := a
  cases s with
  | none => rfl
  | some x =>
    simp only [World.cell?] at h
    split at h
    · simp at h
    · cases h
theorem add_of (b o i : Nat) : (⟨b, o, none⟩ : Addr).add i = ⟨b, o + i, none⟩ := by unfold Addr.add; split <;> simp_all
set_option maxRecDepth 100000 in
/-- A list of texts that comes in. -/
theorem open_strs {H : Type} {enc : TypeId × Value → H} {W : World} {r : Reach} {b0 : Nat} {v : Value} {d : DataW H} {p : List MemPlace} (hv : Value.okWide Try.prog W r b0 34 v) (h : DataW.Trod enc Try.prog W 0 (fun _ => true) true 34 v d p) :
    ∃ A len cap b o ss, v = .slice A len cap ∧ Strs W A len b o ss ∧ len ≤ maxLen := by
  obtain ⟨fuel, hf⟩ := h
  obtain ⟨A, len, cap, rfl⟩ := okWide_slice Try.underlying34 hv
  have c1 : Try.prog.cellsOf 9 = 1 := by kernel_rfl
  have e : (Value.slice A len cap).cells.toList = [Value.slice A len cap] := rfl
  rcases open_strings Try.underlying34 Try.underlying9 c1 hf with ⟨h1, h2⟩ | ⟨a, len2, cap2, ss, h1, _, hl, hm, hlen, _, hc, hs⟩
  · rw [e] at h1
    simp only [List.cons.injEq, Value.slice.injEq, and_true] at h1
    obtain ⟨rfl, rfl, rfl⟩ := h1
    exact ⟨none, 0, 0, 0, 0, [], rfl, fun i hi => by omega, Nat.zero_le _⟩
  · rw [e] at h1
    simp only [List.cons.injEq, Value.slice.injEq, and_true] at h1
    obtain ⟨rfl, rfl, rfl⟩ := h1
    simp only [if_true] at hlen
    refine ⟨some a, len, cap, a.block, a.off, ss, rfl, fun i hi => ?_, by omega⟩
    have hc0 := hc 0 (by omega)
    have ha := spot_none hc0
    have hci := hc i (by omega)
    rw [ha, add_of] at hci
    exact ⟨congrArg some ha, block_lt_of_cell (a := a) hc0, hci⟩
end Go.Proofs.Ytbbbopdlefeffaa
