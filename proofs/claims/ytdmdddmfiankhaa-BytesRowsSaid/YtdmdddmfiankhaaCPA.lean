/- Numbers of 32 bits, and a bound, that come in as a law's arguments. No conditions. -/
import Derived.Test.YtdmdddmfiankhaaBTA
import Derived.Test.YtdmdddmfiankhaaCF
namespace Go.Proofs.Ytdmdddmfiankhaa
open Go.ChangeShapes Go.WideShapes Go.ChangeAt Go.RowKit Go.Deep
section
variable {H : Type} {enc : TypeId × Value → H} {w : World} {base : Nat} {spare : Nat → Bool} {held : Bool}
set_option maxRecDepth 100000 in
theorem open_u32s {r : Reach} {b0 : Nat} {v : Value} {d : DataW H} {p : List MemPlace} (hv : Value.okWide Try.prog w r b0 36 v) (h : DataW.Trod enc Try.prog w base spare held 36 v d p) :
    ∃ (A : Option Addr) (n cap bb off : Nat) (xs : List Nat), v = .slice A n cap ∧ (NumsIn w A n bb off xs ∧ n ≤ cap) := by
  have hc : Try.prog.cellsOf 34 = 1 := by kernel_rfl
  obtain ⟨A, n, cap, rfl⟩ := okWide_slice Try.underlying36 hv
  obtain ⟨fuel, hf⟩ := h
  rcases open_slice1 Try.underlying36 hc hf with ⟨hcs, _⟩ | ⟨a, len, cap', m, fu, V, D, Pl, hcs, hb, hl, hm, hmm, _, hx⟩
  · have e : [Value.slice A n cap] = [Value.slice none 0 0] := hcs
    simp only [List.cons.injEq, Value.slice.injEq, and_true] at e
    obtain ⟨rfl, rfl, rfl⟩ := e
    exact ⟨none, 0, 0, 0, 0, [], rfl, ⟨rfl, fun h => absurd h (by omega), fun i h => absurd h (by omega)⟩, Nat.le_refl _⟩
  · have e : [Value.slice A n cap] = [Value.slice (some a) len cap'] := hcs
    simp only [List.cons.injEq, Value.slice.injEq, and_true] at e
    obtain ⟨rfl, rfl, rfl⟩ := e
    have hle : n ≤ m := by rw [hmm]; split <;> omega
    have key : ∀ i, i < n → ∃ x : Nat, w.cell? (a.add i) = some (.int .u32 (x : Int)) ∧ x < 4294967296 := by
      intro i hi
      obtain ⟨h1, h2⟩ := hx i (by omega)
      obtain ⟨z, hz, _, hb⟩ := DataW.trod_int Try.underlying34 h2
      simp only [List.cons.injEq, and_true] at hz
      simp only [Lit.wf, IntKind.min, IntKind.max, IntKind.signed, IntKind.bits, Bool.and_eq_true] at hb
      simp at hb
      exact ⟨z.toNat, by rw [h1, hz, show ((z.toNat : Nat) : Int) = z by omega], by omega⟩
    obtain ⟨xs, hxl, hxs⟩ := list_of 0 n _ key
    rcases Nat.eq_zero_or_pos n with h0 | h0
    · subst h0
      exact ⟨some a, 0, cap, 0, 0, xs, rfl, ⟨hxl, fun h => absurd h (by omega), fun i h => absurd h (by omega)⟩, hl⟩
    · have k0 := (hxs 0 h0).1
      have ha := spot_none k0
      have hlt : a.block < w.heap.size := World.block_lt_of_cell? w (a.add 0) k0
      refine ⟨some a, n, cap, a.block, a.off, xs, rfl, ⟨hxl, fun _ => ⟨by rw [← ha], hlt⟩, fun i hi => ⟨?_, (hxs i hi).2⟩⟩, hl⟩
      have k := (hxs i hi).1
      rw [ha, add_at] at k
      exact k
set_option maxRecDepth 100000 in
theorem open_bound {r : Reach} {b0 : Nat} {v : Value} {d : DataW H} {p : List MemPlace} (hv : Value.okWide Try.prog w r b0 38 v) (h : DataW.Trod enc Try.prog w base spare held 38 v d p) :
    ∃ most width : Int, v = .agg #[.int .i64 most, .int .i64 width] ∧ I64 most := by
  obtain ⟨cs, rfl, hsz⟩ := okWide_struct Try.underlying38 hv
  have hC : Try.prog.cellsOf 38 = 2 := by kernel_rfl
  have hs1 : Try.prog.cellsOf 3 = 1 := by kernel_rfl
  obtain ⟨l⟩ := cs
  match l, hsz.trans hC with
  | [c0, c1], _ =>
    obtain ⟨fuel, hf⟩ := h
    obtain ⟨xs, n, _, hx, _, hlen, hg⟩ := DataW.trod_struct Try.underlying38 hf
    match xs, hlen with
    | [y0, y1], _ =>
      have g0 : DataW.trod enc Try.prog w base spare held n 3 [c0] = some y0 := by have := hg 0 _ rfl; simpa [Value.cells, hs1] using this
      have g1 : DataW.trod enc Try.prog w base spare held n 3 [c1] = some y1 := by have := hg 1 _ rfl; simpa [Value.cells, hs1] using this
      obtain ⟨n0, i0, _, q0⟩ := DataW.trod_int Try.underlying3 g0
      obtain ⟨n1, i1, _, q1⟩ := DataW.trod_int Try.underlying3 g1
      simp only [List.cons.injEq, and_true] at i0 i1
      subst i0 i1
      exact ⟨n0, n1, rfl, i64_in q0⟩
end
end Go.Proofs.Ytdmdddmfiankhaa
