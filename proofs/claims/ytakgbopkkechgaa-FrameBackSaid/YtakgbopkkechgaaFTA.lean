/- Rows of parts, of frames and of bytes that come in as a law's argument. No conditions. -/
import Derived.Test.YtakgbopkkechgaaBT
import Derived.Test.YtakgbopkkechgaaFTB
import Derived.Deep.Slices
namespace Go.Proofs.Ytakgbopkkechgaa
open Go.ChangeShapes Go.WideShapes Go.ChangeAt Go.RowKit Go.Deep
theorem spot_none {w : World} {a : Addr} {v : Value} (h : w.cell? (a.add 0) = some v) : a = ⟨a.block, a.off, none⟩ := by
  have e : a.add 0 = a := rfl
  rw [e] at h
  obtain ⟨b, o, s⟩ := a
  cases s with
  | none => rfl
  | some x =>
    simp only [World.cell?] at h
    split at h
    · simp at h
    · cases h
theorem add_add (a : Addr) (i j : Nat) : (a.add i).add j = a.add (i + j) := by
  obtain ⟨b, o, s⟩ := a
  unfold Addr.add
  by_cases hj0 : j = 0
  · subst hj0; simp
  · by_cases hi0 : i = 0
    · simp [hj0, hi0]
    · simp [hj0, hi0, Nat.add_assoc]
section
variable {H : Type} {enc : TypeId × Value → H} {w : World} {base : Nat} {spare : Nat → Bool} {held : Bool}
/-- The cells of a row of things of two cells. -/
theorem open_two {t e : TypeId} (hu : Try.prog.underlying t = some (.slice e)) (hc : Try.prog.cellsOf e = 2) {r : Reach} {b0 : Nat} {v : Value} {d : DataW H} {p : List MemPlace} (hv : Value.okWide Try.prog w r b0 t v) (h : DataW.Trod enc Try.prog w base spare held t v d p) :
    ∃ (A : Option Addr) (n cap bb off : Nat), v = .slice A n cap ∧ (0 < n → A = some ⟨bb, off, none⟩ ∧ bb < w.heap.size) ∧
      ∀ i, i < n → ∃ (c0 c1 : Value) (fu : Nat) (y : DataW H × List MemPlace), w.cell? ⟨bb, off + i * 2, none⟩ = some c0 ∧ w.cell? ⟨bb, off + i * 2 + 1, none⟩ = some c1 ∧ DataW.trod enc Try.prog w base spare held fu e [c0, c1] = some y := by
  obtain ⟨A, n, cap, rfl⟩ := okWide_slice hu hv
  obtain ⟨fuel, hf⟩ := h
  rcases open_slice hu hf with ⟨hcs, _⟩ | ⟨a, len, cap', m, fu, D, Pl, hcs, hb, hl, hm, hmm, _, hx⟩
  · have e : [Value.slice A n cap] = [Value.slice none 0 0] := hcs
    simp only [List.cons.injEq, Value.slice.injEq, and_true] at e
    obtain ⟨rfl, rfl, rfl⟩ := e
    exact ⟨none, 0, 0, 0, 0, rfl, fun h => absurd h (by omega), fun i h => absurd h (by omega)⟩
  · have e : [Value.slice A n cap] = [Value.slice (some a) len cap'] := hcs
    simp only [List.cons.injEq, Value.slice.injEq, and_true] at e
    obtain ⟨rfl, rfl, rfl⟩ := e
    have hle : n ≤ m := by rw [hmm]; split <;> omega
    have key : ∀ i, i < n → ∃ (c0 c1 : Value) (fu : Nat) (y : DataW H × List MemPlace), w.cell? (a.add (i * 2)) = some c0 ∧ w.cell? (a.add (i * 2 + 1)) = some c1 ∧ DataW.trod enc Try.prog w base spare held fu e [c0, c1] = some y := by
      intro i hi
      obtain ⟨cs', h1, h2⟩ := hx i (by omega)
      rw [hc] at h1
      obtain ⟨_, hlen, hcc⟩ := World.cells?_some h1
      match cs', hlen with
      | [c0, c1], _ =>
        have k0 := hcc 0 (by omega)
        have k1 := hcc 1 (by omega)
        rw [add_add] at k0 k1
        exact ⟨c0, c1, fu, _, k0, k1, h2⟩
    rcases Nat.eq_zero_or_pos n with h0 | h0
    · subst h0
      exact ⟨some a, 0, cap, 0, 0, rfl, fun h => absurd h (by omega), fun i h => absurd h (by omega)⟩
    · obtain ⟨c0, _, _, _, k0, _⟩ := key 0 h0
      rw [Nat.zero_mul] at k0
      have ha := spot_none k0
      have hlt : a.block < w.heap.size := World.block_lt_of_cell? w (a.add 0) k0
      refine ⟨some a, n, cap, a.block, a.off, rfl, fun _ => ⟨by rw [← ha], hlt⟩, fun i hi => ?_⟩
      obtain ⟨c0, c1, fu, y, k0, k1, k3⟩ := key i hi
      have e0 : ∀ k, a.add k = ⟨a.block, a.off + k, none⟩ := fun k => by
        conv => lhs; rw [ha]
        rw [add_at]
      rw [e0] at k0 k1
      exact ⟨c0, c1, fu, y, k0, k1, k3⟩
/-- The cells of a row of things of one cell. -/
theorem open_one {t e : TypeId} (hu : Try.prog.underlying t = some (.slice e)) (hc : Try.prog.cellsOf e = 1) {r : Reach} {b0 : Nat} {v : Value} {d : DataW H} {p : List MemPlace} (hv : Value.okWide Try.prog w r b0 t v) (h : DataW.Trod enc Try.prog w base spare held t v d p) :
    ∃ (A : Option Addr) (n cap bb off : Nat), v = .slice A n cap ∧ n ≤ maxLen ∧ (0 < n → A = some ⟨bb, off, none⟩ ∧ bb < w.heap.size) ∧
      ∀ i, i < n → ∃ (c0 : Value) (fu : Nat) (y : DataW H × List MemPlace), w.cell? ⟨bb, off + i * 1, none⟩ = some c0 ∧ DataW.trod enc Try.prog w base spare held fu e [c0] = some y := by
  obtain ⟨A, n, cap, rfl⟩ := okWide_slice hu hv
  obtain ⟨fuel, hf⟩ := h
  rcases open_slice hu hf with ⟨hcs, _⟩ | ⟨a, len, cap', m, fu, D, Pl, hcs, hb, hl, hm, hmm, _, hx⟩
  · have e : [Value.slice A n cap] = [Value.slice none 0 0] := hcs
    simp only [List.cons.injEq, Value.slice.injEq, and_true] at e
    obtain ⟨rfl, rfl, rfl⟩ := e
    exact ⟨none, 0, 0, 0, 0, rfl, by simp, fun h => absurd h (by omega), fun i h => absurd h (by omega)⟩
  · have e : [Value.slice A n cap] = [Value.slice (some a) len cap'] := hcs
    simp only [List.cons.injEq, Value.slice.injEq, and_true] at e
    obtain ⟨rfl, rfl, rfl⟩ := e
    have hle : n ≤ m := by rw [hmm]; split <;> omega
    have key : ∀ i, i < n → ∃ (c0 : Value) (fu : Nat) (y : DataW H × List MemPlace), w.cell? (a.add (i * 1)) = some c0 ∧ DataW.trod enc Try.prog w base spare held fu e [c0] = some y := by
      intro i hi
      obtain ⟨cs', h1, h2⟩ := hx i (by omega)
      rw [hc] at h1
      obtain ⟨_, hlen, hcc⟩ := World.cells?_some h1
      match cs', hlen with
      | [c0], _ =>
        have k0 := hcc 0 (by omega)
        rw [add_add] at k0
        exact ⟨c0, fu, _, k0, h2⟩
    rcases Nat.eq_zero_or_pos n with h0 | h0
    · subst h0
      exact ⟨some a, 0, cap, 0, 0, rfl, by simp, fun h => absurd h (by omega), fun i h => absurd h (by omega)⟩
    · obtain ⟨c0, _, _, k0, _⟩ := key 0 h0
      rw [Nat.zero_mul] at k0
      have ha := spot_none k0
      have hlt : a.block < w.heap.size := World.block_lt_of_cell? w (a.add 0) k0
      refine ⟨some a, n, cap, a.block, a.off, rfl, Nat.le_trans hl hm, fun _ => ⟨by rw [← ha], hlt⟩, fun i hi => ?_⟩
      obtain ⟨c0, fu, y, k0, k3⟩ := key i hi
      have e0 : ∀ k, a.add k = ⟨a.block, a.off + k, none⟩ := fun k => by
        conv => lhs; rw [ha]
        rw [add_at]
      rw [e0] at k0
      exact ⟨c0, fu, y, k0, k3⟩
theorem int_in {k : IntKind} {n : Int} (h : (Lit.int k n).wf = true) : k.min ≤ n ∧ n ≤ k.max := by
  simpa [Lit.wf] using h
theorem i64_in {n : Int} (h : (Lit.int .i64 n).wf = true) : I64 n := by
  have := int_in h
  simp only [IntKind.min, IntKind.max, IntKind.signed, IntKind.bits] at this
  simp at this
  unfold I64; omega
theorem u8_in {n : Int} (h : (Lit.int .u8 n).wf = true) : ∃ c : UInt8, n = b8 c := by
  have := int_in h
  simp only [IntKind.min, IntKind.max, IntKind.signed, IntKind.bits] at this
  simp at this
  refine ⟨UInt8.ofNat n.toNat, ?_⟩
  rw [b8_ofNat]; omega
theorem list_of {α : Type} (z : α) (n : Nat) (R : Nat → α → Prop) (h : ∀ i, i < n → ∃ x, R i x) : ∃ xs : List α, xs.length = n ∧ ∀ i, i < n → R i (xs.getD i z) := by
  refine ⟨(List.range n).map fun i => if h' : i < n then Classical.choose (h i h') else z, by simp, fun i hi => ?_⟩
  have e : ((List.range n).map fun i => if h' : i < n then Classical.choose (h i h') else z).getD i z = Classical.choose (h i hi) := by
    simp [List.getD, hi]
  rw [e]; exact Classical.choose_spec (h i hi)
set_option maxRecDepth 100000 in
theorem open_parts {r : Reach} {b0 : Nat} {v : Value} {d : DataW H} {p : List MemPlace} (hv : Value.okWide Try.prog w r b0 32 v) (h : DataW.Trod enc Try.prog w base spare held 32 v d p) :
    ∃ (A : Option Addr) (n cap bb off : Nat) (xs : List (ByteArray × UInt8)), v = .slice A n cap ∧ PartsIn w A n bb off xs := by
  have hC : Try.prog.cellsOf 39 = 2 := by kernel_rfl
  have hs1 : Try.prog.cellsOf 9 = 1 := by kernel_rfl
  have hs2 : Try.prog.cellsOf 5 = 1 := by kernel_rfl
  obtain ⟨A, n, cap, bb, off, rfl, hA, hx⟩ := open_two Try.underlying32 hC hv h
  have key : ∀ i, i < n → ∃ x : ByteArray × UInt8, PartAt w bb (off + i * 2) x := by
    intro i hi
    obtain ⟨c0, c1, fu, y, k0, k1, hf⟩ := hx i hi
    obtain ⟨xs, m, _, _, _, hlen, hg⟩ := DataW.trod_struct Try.underlying39 hf
    match xs, hlen with
    | [y0, y1], _ =>
      have g0 : DataW.trod enc Try.prog w base spare held m 9 [c0] = some y0 := by have := hg 0 _ rfl; simpa [hs1] using this
      have g1 : DataW.trod enc Try.prog w base spare held m 5 [c1] = some y1 := by have := hg 1 _ rfl; simpa [hs2] using this
      obtain ⟨s, i0, _, _⟩ := DataW.trod_string Try.underlying9 g0
      obtain ⟨n1, i1, _, q1⟩ := DataW.trod_int Try.underlying5 g1
      simp only [List.cons.injEq, and_true] at i0 i1
      subst i0 i1
      obtain ⟨c, rfl⟩ := u8_in q1
      exact ⟨(s, c), k0, k1⟩
  obtain ⟨xs, hl, hxs⟩ := list_of (⟨#[]⟩, 0) n _ key
  exact ⟨A, n, cap, bb, off, xs, rfl, hl, hA, hxs⟩
set_option maxRecDepth 100000 in
theorem open_frames {r : Reach} {b0 : Nat} {v : Value} {d : DataW H} {p : List MemPlace} (hv : Value.okWide Try.prog w r b0 48 v) (h : DataW.Trod enc Try.prog w base spare held 48 v d p) :
    ∃ (A : Option Addr) (n cap bb off : Nat) (xs : List (Int × ByteArray)), v = .slice A n cap ∧ FrmsIn w A n bb off xs := by
  have hC : Try.prog.cellsOf 52 = 2 := by kernel_rfl
  have hs1 : Try.prog.cellsOf 3 = 1 := by kernel_rfl
  have hs2 : Try.prog.cellsOf 9 = 1 := by kernel_rfl
  obtain ⟨A, n, cap, bb, off, rfl, hA, hx⟩ := open_two Try.underlying48 hC hv h
  have key : ∀ i, i < n → ∃ x : Int × ByteArray, FrmAt w bb (off + i * 2) x := by
    intro i hi
    obtain ⟨c0, c1, fu, y, k0, k1, hf⟩ := hx i hi
    obtain ⟨xs, m, _, _, _, hlen, hg⟩ := DataW.trod_struct Try.underlying52 hf
    match xs, hlen with
    | [y0, y1], _ =>
      have g0 : DataW.trod enc Try.prog w base spare held m 3 [c0] = some y0 := by have := hg 0 _ rfl; simpa [hs1] using this
      have g1 : DataW.trod enc Try.prog w base spare held m 9 [c1] = some y1 := by have := hg 1 _ rfl; simpa [hs2] using this
      obtain ⟨n0, i0, _, _⟩ := DataW.trod_int Try.underlying3 g0
      obtain ⟨s, i1, _, _⟩ := DataW.trod_string Try.underlying9 g1
      simp only [List.cons.injEq, and_true] at i0 i1
      subst i0 i1
      exact ⟨(n0, s), k0, k1⟩
  obtain ⟨xs, hl, hxs⟩ := list_of (0, ⟨#[]⟩) n _ key
  exact ⟨A, n, cap, bb, off, xs, rfl, hl, hA, hxs⟩
set_option maxRecDepth 100000 in
theorem open_bytes {r : Reach} {b0 : Nat} {v : Value} {d : DataW H} {p : List MemPlace} (hv : Value.okWide Try.prog w r b0 22 v) (h : DataW.Trod enc Try.prog w base spare held 22 v d p) :
    ∃ (A : Option Addr) (n cap bb off : Nat) (xs : List UInt8), v = .slice A n cap ∧ BytsIn w A n bb off xs ∧ n ≤ maxLen := by
  have hC : Try.prog.cellsOf 5 = 1 := by kernel_rfl
  obtain ⟨A, n, cap, bb, off, rfl, hn, hA, hx⟩ := open_one Try.underlying22 hC hv h
  have key : ∀ i, i < n → ∃ c : UInt8, w.cell? ⟨bb, off + i, none⟩ = some (.int .u8 (b8 c)) := by
    intro i hi
    obtain ⟨c0, fu, y, k0, hf⟩ := hx i hi
    obtain ⟨n1, i1, _, q1⟩ := DataW.trod_int Try.underlying5 hf
    simp only [List.cons.injEq, and_true] at i1
    subst i1
    obtain ⟨c, rfl⟩ := u8_in q1
    rw [Nat.mul_one] at k0
    exact ⟨c, k0⟩
  obtain ⟨xs, hl, hxs⟩ := list_of (0 : UInt8) n _ key
  exact ⟨A, n, cap, bb, off, xs, rfl, ⟨hl, hA, hxs⟩, hn⟩
end
end Go.Proofs.Ytakgbopkkechgaa
