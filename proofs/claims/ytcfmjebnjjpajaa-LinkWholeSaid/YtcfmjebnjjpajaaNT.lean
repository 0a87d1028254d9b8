/- The frame of a law of links: what comes in, a law that has answered true. No conditions. -/
import Derived.Test.YtcfmjebnjjpajaaRows
import Derived.Test.YtcfmjebnjjpajaaNTB
import Derived.ProofKit
import Derived.OpenShut
import Derived.ChangeSame
import Derived.JoinedOf
import Derived.JoinedAt
import Derived.Carry
import Derived.HandedShaped
import Derived.ChangeMaps5
import Derived.Deep.Slices
namespace Go.Proofs.Ytcfmjebnjjpajaa
open Go.ChangeShapes Go.WideShapes Go.ChangeAt Go.ChangeMaps Go.RowKit
theorem own : ownKnob Try.prog.godebug = none := by kernel_rfl
theorem laidOut : laidOutB Try.prog = true := by kernel_rfl
theorem has_block {w : World} (h : w.ShapedOpen Try.prog) : 0 < w.heap.size := by
  have hk : decide (Try.prog.globals.size < Try.prog.low) = true := by kernel_rfl
  have hk := of_decide_eq_true hk
  obtain ⟨o, _, ho, _⟩ := h.2 (Try.prog.low - 1) (by omega) (by unfold Program.low at hk ⊢; omega)
  have := (Array.getElem?_eq_some_iff.1 ho).1
  omega
section
variable {H : Type} {enc : TypeId × Value → H} {w : World} {base : Nat} {spare : Nat → Bool} {held : Bool}
theorem open_u32 {r : Reach} {b0 : Nat} {v : Value} {d : DataW H} {p : List MemPlace} (hv : Value.okWide Try.prog w r b0 43 v) (h : DataW.Trod enc Try.prog w base spare held 43 v d p) : ∃ n : Nat, v = .int .u32 (n : Int) ∧ n < 4294967296 := by
  obtain ⟨i, rfl, _, _, hm⟩ := open_int Try.underlying43 hv h
  simp only [Lit.wf, IntKind.min, IntKind.max, IntKind.signed, IntKind.bits, Bool.and_eq_true] at hm
  simp at hm
  exact ⟨i.toNat, by rw [show ((i.toNat : Nat) : Int) = i by omega], by omega⟩
end
/-- A law that has answered true, its arguments and all old memory as they were. -/
theorem post_law {H : Type} {enc : TypeId × Value → H} {f : Func} {s : ChangeSpec} {W W' : World} {args : Array Value} {ds : List (DataW H)} {before pa : List MemPlace} (hv : s.vars = []) (hft : f.resultTypes = #[4])
    (hW : DataW.Whole enc Try.prog f.params.toList s.vars false W args.toList ds [] before) (hs : s.fn H (ds ++ []) = { results := [.lit (.bool true)], args := ds }) (hb : Below W.heap.size W W')
    (hargs : DataW.TrodAll enc Try.prog W' 0 (fun b => decide (b < W.heap.size)) true f.params.toList args.toList ds pa) :
    s.post enc Try.prog f false true false false W args (.bool true) W' := by
  refine ⟨ds, [], before, [], pa, [], hW, ?_, ?_, ?_, hb.frame _, fun h => by cases h⟩
  · rw [hs, hft]; exact trodAll_mk1 (shut_bool Try.underlying4 true)
  · rw [hs]; exact hargs
  · rw [hs, hv]; exact rfl
theorem spot_none {w : World} {a : Addr} {v : Value} (h : w.cell? (a.add 0) = some v) : a = ⟨a.block, a.off, none⟩ := by
  have e : a.add 0 = a := rfl
  rw [e] at h
  obtain ⟨b, o, s⟩ := a
  cases s with
  | none => rfl
  | some x =>
    simp only [World.cell?] at h
    split at h
    · simp at h
    · cases h
theorem add_add (a : Addr) (i j : Nat) : (a.add i).add j = a.add (i + j) := by
  obtain ⟨b, o, s⟩ := a
  unfold Addr.add
  by_cases hj0 : j = 0
  · subst hj0; simp
  · by_cases hi0 : i = 0
    · simp [hj0, hi0]
    · simp [hj0, hi0, Nat.add_assoc]
section
open Go.Deep
variable {H : Type} {enc : TypeId × Value → H} {w : World} {base : Nat} {spare : Nat → Bool} {held : Bool}
/-- The cells of a row of things of four cells. -/
theorem open_four {t e : TypeId} (hu : Try.prog.underlying t = some (.slice e)) (hc : Try.prog.cellsOf e = 4) {r : Reach} {b0 : Nat} {v : Value} {d : DataW H} {p : List MemPlace} (hv : Value.okWide Try.prog w r b0 t v) (h : DataW.Trod enc Try.prog w base spare held t v d p) :
    ∃ (A : Option Addr) (n cap bb off : Nat), v = .slice A n cap ∧ (0 < n → A = some ⟨bb, off, none⟩ ∧ bb < w.heap.size) ∧
      ∀ i, i < n → ∃ (c0 c1 c2 c3 : Value) (fu : Nat) (y : DataW H × List MemPlace), w.cell? ⟨bb, off + i * 4, none⟩ = some c0 ∧ w.cell? ⟨bb, off + i * 4 + 1, none⟩ = some c1 ∧ w.cell? ⟨bb, off + i * 4 + 2, none⟩ = some c2 ∧ w.cell? ⟨bb, off + i * 4 + 3, none⟩ = some c3 ∧ DataW.trod enc Try.prog w base spare held fu e [c0, c1, c2, c3] = some y := by
  obtain ⟨A, n, cap, rfl⟩ := okWide_slice hu hv
  obtain ⟨fuel, hf⟩ := h
  rcases open_slice hu hf with ⟨hcs, _⟩ | ⟨a, len, cap', m, fu, D, Pl, hcs, hb, hl, hm, hmm, _, hx⟩
  · have e : [Value.slice A n cap] = [Value.slice none 0 0] := hcs
    simp only [List.cons.injEq, Value.slice.injEq, and_true] at e
    obtain ⟨rfl, rfl, rfl⟩ := e
    exact ⟨none, 0, 0, 0, 0, rfl, fun h => absurd h (by omega), fun i h => absurd h (by omega)⟩
  · have e : [Value.slice A n cap] = [Value.slice (some a) len cap'] := hcs
    simp only [List.cons.injEq, Value.slice.injEq, and_true] at e
    obtain ⟨rfl, rfl, rfl⟩ := e
    have hle : n ≤ m := by rw [hmm]; split <;> omega
    have key : ∀ i, i < n → ∃ (c0 c1 c2 c3 : Value) (fu : Nat) (y : DataW H × List MemPlace), w.cell? (a.add (i * 4)) = some c0 ∧ w.cell? (a.add (i * 4 + 1)) = some c1 ∧ w.cell? (a.add (i * 4 + 2)) = some c2 ∧ w.cell? (a.add (i * 4 + 3)) = some c3 ∧ DataW.trod enc Try.prog w base spare held fu e [c0, c1, c2, c3] = some y := by
      intro i hi
      obtain ⟨cs', h1, h2⟩ := hx i (by omega)
      rw [hc] at h1
      obtain ⟨_, hlen, hcc⟩ := World.cells?_some h1
      match cs', hlen with
      | [c0, c1, c2, c3], _ =>
        have k0 := hcc 0 (by omega)
        have k1 := hcc 1 (by omega)
        have k2 := hcc 2 (by omega)
        have k3 := hcc 3 (by omega)
        rw [add_add] at k0 k1 k2 k3
        exact ⟨c0, c1, c2, c3, fu, _, k0, k1, k2, k3, h2⟩
    rcases Nat.eq_zero_or_pos n with h0 | h0
    · subst h0
      exact ⟨some a, 0, cap, 0, 0, rfl, fun h => absurd h (by omega), fun i h => absurd h (by omega)⟩
    · obtain ⟨c0, _, _, _, _, _, k0, _⟩ := key 0 h0
      rw [Nat.zero_mul] at k0
      have ha := spot_none k0
      have hlt : a.block < w.heap.size := World.block_lt_of_cell? w (a.add 0) k0
      refine ⟨some a, n, cap, a.block, a.off, rfl, fun _ => ⟨by rw [← ha], hlt⟩, fun i hi => ?_⟩
      obtain ⟨c0, c1, c2, c3, fu, y, k0, k1, k2, k3, k4⟩ := key i hi
      have e0 : ∀ k, a.add k = ⟨a.block, a.off + k, none⟩ := fun k => by
        conv => lhs; rw [ha]
        rw [add_at]
      rw [e0] at k0 k1 k2 k3
      exact ⟨c0, c1, c2, c3, fu, y, k0, k1, k2, k3, k4⟩
theorem int_in {k : IntKind} {n : Int} (h : (Lit.int k n).wf = true) : k.min ≤ n ∧ n ≤ k.max := by
  simpa [Lit.wf] using h
theorem i64_in {n : Int} (h : (Lit.int .i64 n).wf = true) : I64 n := by
  have := int_in h
  simp only [IntKind.min, IntKind.max, IntKind.signed, IntKind.bits] at this
  simp at this
  unfold I64; omega
theorem list_of {α : Type} (z : α) (n : Nat) (R : Nat → α → Prop) (h : ∀ i, i < n → ∃ x, R i x) : ∃ xs : List α, xs.length = n ∧ ∀ i, i < n → R i (xs.getD i z) := by
  refine ⟨(List.range n).map fun i => if h' : i < n then Classical.choose (h i h') else z, by simp, fun i hi => ?_⟩
  have e : ((List.range n).map fun i => if h' : i < n then Classical.choose (h i h') else z).getD i z = Classical.choose (h i hi) := by
    simp [List.getD, hi]
  rw [e]; exact Classical.choose_spec (h i hi)
set_option maxRecDepth 100000 in
theorem open_acts {r : Reach} {b0 : Nat} {v : Value} {d : DataW H} {p : List MemPlace} (hv : Value.okWide Try.prog w r b0 22 v) (h : DataW.Trod enc Try.prog w base spare held 22 v d p) :
    ∃ (A : Option Addr) (n cap bb off : Nat) (xs : List AcT), v = .slice A n cap ∧ ActsIn w A n bb off xs := by
  have hC : Try.prog.cellsOf 31 = 4 := by kernel_rfl
  have hs1 : Try.prog.cellsOf 9 = 1 := by kernel_rfl
  have hs2 : Try.prog.cellsOf 3 = 1 := by kernel_rfl
  obtain ⟨A, n, cap, bb, off, rfl, hA, hx⟩ := open_four Try.underlying22 hC hv h
  have key : ∀ i, i < n → ∃ x : AcT, ActAt w bb (off + i * 4) x ∧ I64 x.1 ∧ I64 x.2.1 ∧ I64 x.2.2.1 := by
    intro i hi
    obtain ⟨c0, c1, c2, c3, fu, y, k0, k1, k2, k3, hf⟩ := hx i hi
    obtain ⟨xs, m, _, _, _, hlen, hg⟩ := DataW.trod_struct Try.underlying31 hf
    match xs, hlen with
    | [y0, y1, y2, y3], _ =>
      have g0 : DataW.trod enc Try.prog w base spare held m 3 [c0] = some y0 := by have := hg 0 _ rfl; simpa [hs1, hs2] using this
      have g1 : DataW.trod enc Try.prog w base spare held m 3 [c1] = some y1 := by have := hg 1 _ rfl; simpa [hs1, hs2] using this
      have g2 : DataW.trod enc Try.prog w base spare held m 3 [c2] = some y2 := by have := hg 2 _ rfl; simpa [hs1, hs2] using this
      have g3 : DataW.trod enc Try.prog w base spare held m 9 [c3] = some y3 := by have := hg 3 _ rfl; simpa [hs1, hs2] using this
      obtain ⟨n0, i0, _, j0⟩ := DataW.trod_int Try.underlying3 g0
      obtain ⟨n1, i1, _, j1⟩ := DataW.trod_int Try.underlying3 g1
      obtain ⟨n2, i2, _, j2⟩ := DataW.trod_int Try.underlying3 g2
      obtain ⟨s, i3, _, _⟩ := DataW.trod_string Try.underlying9 g3
      simp only [List.cons.injEq, and_true] at i0 i1 i2 i3
      subst i0 i1 i2 i3
      exact ⟨(n0, n1, n2, s), ⟨k0, k1, k2, k3⟩, i64_in j0, i64_in j1, i64_in j2⟩
  obtain ⟨xs, hl, hxs⟩ := list_of acz n (fun i x => ActAt w bb (off + i * 4) x ∧ I64 x.1 ∧ I64 x.2.1 ∧ I64 x.2.2.1) key
  exact ⟨A, n, cap, bb, off, xs, rfl, hl, hA, fun i hi => (hxs i hi).1, fun i hi => (hxs i hi).2⟩
end
end Go.Proofs.Ytcfmjebnjjpajaa
