/- Rows of versions that come in as a law's argument. No conditions. -/
import Derived.Test.YtmmbnobbpnndkaaVT
import Derived.Test.YtmmbnobbpnndkaaVR
import Derived.Deep.Slices
namespace Go.Proofs.Ytmmbnobbpnndkaa
open Go.ChangeShapes Go.WideShapes Go.ChangeAt Go.RowKit Go.Deep
theorem cVec : Try.prog.cellsOf 24 = 16 := by kernel_rfl
theorem spot_none {w : World} {a : Addr} {v : Value} (h : w.cell? (a.add 0) = some v) : a = ⟨a.block, a.off, none⟩ := by
  have e : a.add 0 = a := rfl
  rw [e] at h
  obtain ⟨b, o, s⟩ := a
  cases s with
  | none => rfl
  | some x =>
    simp only [World.cell?] at h
    split at h
    · simp at h
    · cases h
section
variable {H : Type} {enc : TypeId × Value → H} {w : World} {base : Nat} {spare : Nat → Bool} {held : Bool}
theorem open_vecs {r : Reach} {b0 : Nat} {v : Value} {d : DataW H} {p : List MemPlace} (hv : Value.okWide Try.prog w r b0 37 v) (h : DataW.Trod enc Try.prog w base spare held 37 v d p) :
    ∃ (ls : List (List (BitVec 32))) (A : Option Addr) (n cap gb off : Nat), v = .slice A n cap ∧ ls.length = n ∧ (A = none → cap = 0) ∧ (∀ a, A = some a → a = ⟨gb, off, none⟩ ∨ n = 0) ∧ VRows w A ls gb off := by
  obtain ⟨A, n, cap, rfl⟩ := okWide_slice Try.underlying37 hv
  obtain ⟨fuel, hf⟩ := h
  rcases open_slice Try.underlying37 hf with ⟨hcs, _⟩ | ⟨a, len, cap', m, fu, D, Pl, hcs, hb, hl, hm, hmm, _, hx⟩
  · have e : [Value.slice A n cap] = [Value.slice none 0 0] := hcs
    simp only [List.cons.injEq, Value.slice.injEq, and_true] at e
    obtain ⟨rfl, rfl, rfl⟩ := e
    exact ⟨[], none, 0, 0, 0, 0, rfl, rfl, fun _ => rfl, fun _ _ => .inr rfl, fun h => absurd h (by simp), fun k hk => absurd hk (by simp), fun k hk => absurd hk (by simp), fun h => absurd h (by simp)⟩
  · have e : [Value.slice A n cap] = [Value.slice (some a) len cap'] := hcs
    simp only [List.cons.injEq, Value.slice.injEq, and_true] at e
    obtain ⟨rfl, rfl, rfl⟩ := e
    have hle : n ≤ m := by rw [hmm]; split <;> omega
    have key : ∀ i, i < n → ∃ l : List (BitVec 32), l.length = 16 ∧ ∀ j, j < 16 → w.cell? (a.add (i * 16 + j)) = (l.map V32)[j]? := by
      intro i hi
      obtain ⟨cs', h1, h2⟩ := hx i (by omega)
      rw [cVec] at h1
      obtain ⟨_, hlen, hc⟩ := World.cells?_some h1
      have h2' : DataW.trod enc Try.prog w base spare held fu 24 cs'.toArray.toList = some (D i, Pl i) := h2
      obtain ⟨l, hl2, hll⟩ := cells_vec (cs := cs'.toArray) (by simpa using hlen) h2'
      refine ⟨l, hll, fun j hj => ?_⟩
      have e1 := hc j hj
      have e2 : (a.add (i * 16)).add j = a.add (i * 16 + j) := by
        obtain ⟨b, o, s⟩ := a
        unfold Addr.add
        by_cases hj0 : j = 0
        · subst hj0; simp
        · by_cases hi0 : i * 16 = 0
          · simp [hj0, hi0]
          · simp [hj0, hi0, Nat.add_assoc]
      rw [e2] at e1
      rw [e1]
      have e3 : cs'.toArray = vec l := by injection hl2
      have e4 : cs' = l.map V32 := by
        have := congrArg Array.toList e3
        simpa [vec] using this
      rw [e4]
    obtain ⟨L, hL⟩ := choose_lt key
    have hrow : ∀ k, k < n → rowAt ((List.range n).map L) k = L k := fun k hk => by simp [rowAt, List.getD, hk]
    rcases Nat.eq_zero_or_pos n with h0 | h0
    · subst h0
      exact ⟨[], some a, 0, cap, 0, 0, rfl, rfl, (fun h => by cases h), fun _ _ => .inr rfl, fun h => absurd h (by simp), fun k hk => absurd hk (by simp), fun k hk => absurd hk (by simp), fun h => absurd h (by simp)⟩
    · have hc0 := (hL 0 h0).2 0 (by omega)
      have hl0 := (hL 0 h0).1
      have hs : ∃ v0, w.cell? (a.add 0) = some v0 := by
        rw [show (0 : Nat) = 0 * 16 + 0 from rfl, hc0, List.getElem?_map, List.getElem?_eq_getElem (by omega)]
        exact ⟨_, rfl⟩
      obtain ⟨v0, hv0⟩ := hs
      have ha := spot_none hv0
      have hlt : a.block < w.heap.size := World.block_lt_of_cell? w (a.add 0) hv0
      refine ⟨(List.range n).map L, some a, n, cap, a.block, a.off, rfl, by simp, (fun h => by cases h), (fun a' h => .inl (by cases h; exact ha)), fun _ => by rw [← ha], fun k hk j u hu => ?_, fun k hk => ?_, fun _ => hlt⟩
      · have hk' : k < n := by simpa using hk
        rw [hrow k hk'] at hu
        have hj : j < 16 := by
          rcases Nat.lt_or_ge j 16 with h | h
          · exact h
          · rw [List.getElem?_eq_none (by simp [(hL k hk').1]; omega)] at hu; cases hu
        have := (hL k hk').2 j hj
        rw [hu, ha, Addr.add_mid, ← Nat.add_assoc] at this
        exact this
      · have hk' : k < n := by simpa using hk
        rw [hrow k hk']; exact (hL k hk').1
end
end Go.Proofs.Ytmmbnobbpnndkaa
