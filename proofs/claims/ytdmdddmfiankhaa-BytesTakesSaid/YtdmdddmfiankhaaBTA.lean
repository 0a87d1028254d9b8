/- Rows of asks, of things and of numbers that come in as a law's argument. No conditions. -/
import Derived.Test.YtdmdddmfiankhaaBT
import Derived.Test.YtdmdddmfiankhaaBTB
import Derived.Deep.Slices
namespace Go.Proofs.Ytdmdddmfiankhaa
open Go.ChangeShapes Go.WideShapes Go.ChangeAt Go.RowKit Go.Deep
theorem spot_none {w : World} {a : Addr} {v : Value} (h : w.cell? (a.add 0) = some v) : a = ⟨a.block, a.off, none⟩ := by
  have e : a.add 0 = a := rfl
  rw [e] at h
  obtain ⟨b, o, s⟩ := a
  cases s with
  | none => rfl
  | some x =>
    simp only [World.cell?] at h
    split at h
    · simp at h
    · cases h
theorem add_add (a : Addr) (i j : Nat) : (a.add i).add j = a.add (i + j) := by
  obtain ⟨b, o, s⟩ := a
  unfold Addr.add
  by_cases hj0 : j = 0
  · subst hj0; simp
  · by_cases hi0 : i = 0
    · simp [hj0, hi0]
    · simp [hj0, hi0, Nat.add_assoc]
section
variable {H : Type} {enc : TypeId × Value → H} {w : World} {base : Nat} {spare : Nat → Bool} {held : Bool}
/-- The cells of a row of things of three cells. -/
theorem open_three {t e : TypeId} (hu : Try.prog.underlying t = some (.slice e)) (hc : Try.prog.cellsOf e = 3) {r : Reach} {b0 : Nat} {v : Value} {d : DataW H} {p : List MemPlace} (hv : Value.okWide Try.prog w r b0 t v) (h : DataW.Trod enc Try.prog w base spare held t v d p) :
    ∃ (A : Option Addr) (n cap bb off : Nat), v = .slice A n cap ∧ (0 < n → A = some ⟨bb, off, none⟩ ∧ bb < w.heap.size) ∧
      ∀ i, i < n → ∃ (c0 c1 c2 : Value) (fu : Nat) (y : DataW H × List MemPlace), w.cell? ⟨bb, off + i * 3, none⟩ = some c0 ∧ w.cell? ⟨bb, off + i * 3 + 1, none⟩ = some c1 ∧ w.cell? ⟨bb, off + i * 3 + 2, none⟩ = some c2 ∧ DataW.trod enc Try.prog w base spare held fu e [c0, c1, c2] = some y := by
  obtain ⟨A, n, cap, rfl⟩ := okWide_slice hu hv
  obtain ⟨fuel, hf⟩ := h
  rcases open_slice hu hf with ⟨hcs, _⟩ | ⟨a, len, cap', m, fu, D, Pl, hcs, hb, hl, hm, hmm, _, hx⟩
  · have e : [Value.slice A n cap] = [Value.slice none 0 0] := hcs
    simp only [List.cons.injEq, Value.slice.injEq, and_true] at e
    obtain ⟨rfl, rfl, rfl⟩ := e
    exact ⟨none, 0, 0, 0, 0, rfl, fun h => absurd h (by omega), fun i h => absurd h (by omega)⟩
  · have e : [Value.slice A n cap] = [Value.slice (some a) len cap'] := hcs
    simp only [List.cons.injEq, Value.slice.injEq, and_true] at e
    obtain ⟨rfl, rfl, rfl⟩ := e
    have hle : n ≤ m := by rw [hmm]; split <;> omega
    have key : ∀ i, i < n → ∃ (c0 c1 c2 : Value) (fu : Nat) (y : DataW H × List MemPlace), w.cell? (a.add (i * 3)) = some c0 ∧ w.cell? (a.add (i * 3 + 1)) = some c1 ∧ w.cell? (a.add (i * 3 + 2)) = some c2 ∧ DataW.trod enc Try.prog w base spare held fu e [c0, c1, c2] = some y := by
      intro i hi
      obtain ⟨cs', h1, h2⟩ := hx i (by omega)
      rw [hc] at h1
      obtain ⟨_, hlen, hcc⟩ := World.cells?_some h1
      match cs', hlen with
      | [c0, c1, c2], _ =>
        have k0 := hcc 0 (by omega)
        have k1 := hcc 1 (by omega)
        have k2 := hcc 2 (by omega)
        rw [add_add] at k0 k1 k2
        exact ⟨c0, c1, c2, fu, _, k0, k1, k2, h2⟩
    rcases Nat.eq_zero_or_pos n with h0 | h0
    · subst h0
      exact ⟨some a, 0, cap, 0, 0, rfl, fun h => absurd h (by omega), fun i h => absurd h (by omega)⟩
    · obtain ⟨c0, _, _, _, _, k0, _⟩ := key 0 h0
      rw [Nat.zero_mul] at k0
      have ha := spot_none k0
      have hlt : a.block < w.heap.size := World.block_lt_of_cell? w (a.add 0) k0
      refine ⟨some a, n, cap, a.block, a.off, rfl, fun _ => ⟨by rw [← ha], hlt⟩, fun i hi => ?_⟩
      obtain ⟨c0, c1, c2, fu, y, k0, k1, k2, k3⟩ := key i hi
      have e0 : ∀ k, a.add k = ⟨a.block, a.off + k, none⟩ := fun k => by
        conv => lhs; rw [ha]
        rw [add_at]
      rw [e0] at k0 k1 k2
      exact ⟨c0, c1, c2, fu, y, k0, k1, k2, k3⟩
theorem int_in {k : IntKind} {n : Int} (h : (Lit.int k n).wf = true) : k.min ≤ n ∧ n ≤ k.max := by
  simpa [Lit.wf] using h
theorem i64_in {n : Int} (h : (Lit.int .i64 n).wf = true) : I64 n := by
  have := int_in h
  simp only [IntKind.min, IntKind.max, IntKind.signed, IntKind.bits] at this
  simp at this
  unfold I64; omega
theorem u64_in {n : Int} (h : (Lit.int .u64 n).wf = true) : ∃ m : Nat, n = (m : Int) ∧ m < 18446744073709551616 := by
  have := int_in h
  simp only [IntKind.min, IntKind.max, IntKind.signed, IntKind.bits] at this
  simp at this
  exact ⟨n.toNat, by omega, by omega⟩
theorem list_of {α : Type} (z : α) (n : Nat) (R : Nat → α → Prop) (h : ∀ i, i < n → ∃ x, R i x) : ∃ xs : List α, xs.length = n ∧ ∀ i, i < n → R i (xs.getD i z) := by
  refine ⟨(List.range n).map fun i => if h' : i < n then Classical.choose (h i h') else z, by simp, fun i hi => ?_⟩
  have e : ((List.range n).map fun i => if h' : i < n then Classical.choose (h i h') else z).getD i z = Classical.choose (h i hi) := by
    simp [List.getD, hi]
  rw [e]; exact Classical.choose_spec (h i hi)
set_option maxRecDepth 100000 in
theorem open_asks {r : Reach} {b0 : Nat} {v : Value} {d : DataW H} {p : List MemPlace} (hv : Value.okWide Try.prog w r b0 54 v) (h : DataW.Trod enc Try.prog w base spare held 54 v d p) :
    ∃ (A : Option Addr) (n cap bb off : Nat) (xs : List (Int × Int × Nat)), v = .slice A n cap ∧ AsksIn w A n bb off xs := by
  have hC : Try.prog.cellsOf 57 = 3 := by kernel_rfl
  have hs1 : Try.prog.cellsOf 3 = 1 := by kernel_rfl
  have hs2 : Try.prog.cellsOf 22 = 1 := by kernel_rfl
  obtain ⟨A, n, cap, bb, off, rfl, hA, hx⟩ := open_three Try.underlying54 hC hv h
  have key : ∀ i, i < n → ∃ x : Int × Int × Nat, AskAt w bb (off + i * 3) x := by
    intro i hi
    obtain ⟨c0, c1, c2, fu, y, k0, k1, k2, hf⟩ := hx i hi
    obtain ⟨xs, m, _, _, _, hlen, hg⟩ := DataW.trod_struct Try.underlying57 hf
    match xs, hlen with
    | [y0, y1, y2], _ =>
      have g0 : DataW.trod enc Try.prog w base spare held m 3 [c0] = some y0 := by have := hg 0 _ rfl; simpa [hs1] using this
      have g1 : DataW.trod enc Try.prog w base spare held m 3 [c1] = some y1 := by have := hg 1 _ rfl; simpa [hs1] using this
      have g2 : DataW.trod enc Try.prog w base spare held m 22 [c2] = some y2 := by have := hg 2 _ rfl; simpa [hs2] using this
      obtain ⟨n0, i0, _, q0⟩ := DataW.trod_int Try.underlying3 g0
      obtain ⟨n1, i1, _, q1⟩ := DataW.trod_int Try.underlying3 g1
      obtain ⟨n2, i2, _, q2⟩ := DataW.trod_int Try.underlying22 g2
      simp only [List.cons.injEq, and_true] at i0 i1 i2
      subst i0 i1 i2
      obtain ⟨m2, rfl, hm2⟩ := u64_in q2
      exact ⟨(n0, n1, m2), k0, k1, k2, i64_in q0, i64_in q1, hm2⟩
  obtain ⟨xs, hl, hxs⟩ := list_of (0, 0, 0) n _ key
  exact ⟨A, n, cap, bb, off, xs, rfl, hl, hA, hxs⟩
set_option maxRecDepth 100000 in
theorem open_things {r : Reach} {b0 : Nat} {v : Value} {d : DataW H} {p : List MemPlace} (hv : Value.okWide Try.prog w r b0 59 v) (h : DataW.Trod enc Try.prog w base spare held 59 v d p) :
    ∃ (A : Option Addr) (n cap bb off : Nat) (xs : List (Int × Nat × ByteArray)), v = .slice A n cap ∧ ThingsIn w A n bb off xs := by
  have hC : Try.prog.cellsOf 62 = 3 := by kernel_rfl
  have hs1 : Try.prog.cellsOf 3 = 1 := by kernel_rfl
  have hs2 : Try.prog.cellsOf 22 = 1 := by kernel_rfl
  have hs3 : Try.prog.cellsOf 9 = 1 := by kernel_rfl
  obtain ⟨A, n, cap, bb, off, rfl, hA, hx⟩ := open_three Try.underlying59 hC hv h
  have key : ∀ i, i < n → ∃ x : Int × Nat × ByteArray, ThingAt w bb (off + i * 3) x := by
    intro i hi
    obtain ⟨c0, c1, c2, fu, y, k0, k1, k2, hf⟩ := hx i hi
    obtain ⟨xs, m, _, _, _, hlen, hg⟩ := DataW.trod_struct Try.underlying62 hf
    match xs, hlen with
    | [y0, y1, y2], _ =>
      have g0 : DataW.trod enc Try.prog w base spare held m 3 [c0] = some y0 := by have := hg 0 _ rfl; simpa [hs1] using this
      have g1 : DataW.trod enc Try.prog w base spare held m 22 [c1] = some y1 := by have := hg 1 _ rfl; simpa [hs2] using this
      have g2 : DataW.trod enc Try.prog w base spare held m 9 [c2] = some y2 := by have := hg 2 _ rfl; simpa [hs3] using this
      obtain ⟨n0, i0, _, q0⟩ := DataW.trod_int Try.underlying3 g0
      obtain ⟨n1, i1, _, q1⟩ := DataW.trod_int Try.underlying22 g1
      obtain ⟨s, i2, _, q2⟩ := DataW.trod_string Try.underlying9 g2
      simp only [List.cons.injEq, and_true] at i0 i1 i2
      subst i0 i1 i2
      obtain ⟨m1, rfl, hm1⟩ := u64_in q1
      exact ⟨(n0, m1, s), k0, k1, k2, i64_in q0, hm1⟩
  obtain ⟨xs, hl, hxs⟩ := list_of (0, 0, ⟨#[]⟩) n _ key
  exact ⟨A, n, cap, bb, off, xs, rfl, hl, hA, hxs⟩
end
end Go.Proofs.Ytdmdddmfiankhaa
