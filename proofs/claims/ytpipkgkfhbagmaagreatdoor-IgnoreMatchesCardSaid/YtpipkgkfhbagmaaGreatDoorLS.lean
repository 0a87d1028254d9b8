/- Files, and lists of names, that come in as a law's argument. No conditions. -/
import Derived.Test.YtpipkgkfhbagmaaGreatDoorLT
import Derived.Test.YtpipkgkfhbagmaaGreatDoorLQ
import Derived.Deep.Slices
import Derived.SliceStrings
namespace Go.Proofs.YtpipkgkfhbagmaaGreatDoor.Glob
open Go.RowKit
/-- Names that come in, wherever they lie. -/
structure NamesAt (w : World) (A : Option Addr) (n bb off : Nat) (xs : List By) : Prop where
  len : xs.length = n
  src : 0 < n → A = some ⟨bb, off, none⟩ ∧ bb < w.heap.size
  at_ : ∀ i (hi : i < xs.length), w.cell? ⟨bb, off + i, none⟩ = some (.string (ba xs[i]))
  ok : ∀ i (hi : i < xs.length), xs[i].length ≤ maxLen
theorem NamesAt.stays {w w' : World} {A : Option Addr} {n bb off : Nat} {xs : List By} (h : NamesAt w A n bb off xs) (hb : Below w.heap.size w w') : NamesAt w' A n bb off xs := by
  refine ⟨h.len, fun h0 => ⟨(h.src h0).1, Nat.lt_of_lt_of_le (h.src h0).2 hb.size⟩, fun i hi => ?_, h.ok⟩
  have k := (h.src (by rw [← h.len]; omega)).2
  exact (hb.cell (p := ⟨bb, off + i, none⟩) k).trans (h.at_ i hi)
def NamesIn (w : World) (v : Value) (xs : List By) : Prop := ∃ A n cp bb off, v = .slice A n cp ∧ NamesAt w A n bb off xs ∧ n ≤ maxLen
def FilesIn (w : World) (v : Value) (fs : Fl) : Prop := ∃ A n cp bb off, v = .slice A n cp ∧ FilesAt w A n bb off fs ∧ n ≤ maxLen
end Go.Proofs.YtpipkgkfhbagmaaGreatDoor.Glob
namespace Go.Proofs.YtpipkgkfhbagmaaGreatDoor
open Go.ChangeShapes Go.WideShapes Go.ChangeAt Go.ChangeMaps Go.WideElems Go.RowKit Go.Deep Glob
theorem spot_none {w : World} {a : Addr} {v : Value} (h : w.cell? (a.add 0) = some v) : a = ⟨a.block, a.off, none⟩ := by
  have e : a.add 0 = a := rfl
  rw [e] at h
  obtain ⟨b, o, s⟩ := a
  cases s with
  | none => rfl
  | some x =>
    simp only [World.cell?] at h
    split at h
    · simp at h
    · cases h
theorem add_of (b o i : Nat) : (⟨b, o, none⟩ : Addr).add i = ⟨b, o + i, none⟩ := by unfold Addr.add; split <;> simp_all
theorem add_add (a : Addr) (i j : Nat) : (a.add i).add j = a.add (i + j) := by
  obtain ⟨b, o, s⟩ := a
  unfold Addr.add
  by_cases hj0 : j = 0
  · subst hj0; simp
  · by_cases hi0 : i = 0
    · simp [hj0, hi0]
    · simp [hj0, hi0, Nat.add_assoc]
theorem list_of {α : Type} (z : α) (n : Nat) (R : Nat → α → Prop) (h : ∀ i, i < n → ∃ x, R i x) : ∃ xs : List α, xs.length = n ∧ ∀ i (hi : i < xs.length), R i xs[i] := by
  refine ⟨(List.range n).map fun i => if h' : i < n then Classical.choose (h i h') else z, by simp, fun i hi => ?_⟩
  have hi2 : i < n := by simpa using hi
  have e : ((List.range n).map fun i => if h' : i < n then Classical.choose (h i h') else z)[i] = Classical.choose (h i hi2) := by
    simp [hi2]
  rw [e]; exact Classical.choose_spec (h i hi2)
set_option maxRecDepth 100000 in
theorem open_names {H : Type} {enc : TypeId × Value → H} {W : World} {r : Reach} {b0 : Nat} {v : Value} {d : DataW H} {p : List MemPlace} (hv : Value.okWide Tryz.prog W r b0 23 v) (h : DataW.Trod enc Tryz.prog W 0 (fun _ => true) true 23 v d p) :
    ∃ xs, NamesIn W v xs := by
  obtain ⟨fuel, hf⟩ := h
  obtain ⟨A, len, cap, rfl⟩ := okWide_slice Tryz.underlying23 hv
  have c1 : Tryz.prog.cellsOf 9 = 1 := by kernel_rfl
  have e : (Value.slice A len cap).cells.toList = [Value.slice A len cap] := rfl
  rcases open_strings Tryz.underlying23 Tryz.underlying9 c1 hf with ⟨h1, h2⟩ | ⟨a, len2, cap2, ss, h1, _, hl, hm, hlen, _, hc, hs⟩
  · rw [e] at h1
    simp only [List.cons.injEq, Value.slice.injEq, and_true] at h1
    obtain ⟨rfl, rfl, rfl⟩ := h1
    exact ⟨[], none, 0, 0, 0, 0, rfl, ⟨rfl, fun h => absurd h (by omega), (fun i hi => nomatch hi), (fun i hi => nomatch hi)⟩, Nat.zero_le _⟩
  · rw [e] at h1
    simp only [List.cons.injEq, Value.slice.injEq, and_true] at h1
    obtain ⟨rfl, rfl, rfl⟩ := h1
    simp only [if_true] at hlen
    rcases Nat.eq_zero_or_pos len with h0 | h0
    · subst h0
      exact ⟨[], some a, 0, cap, 0, 0, rfl, ⟨rfl, fun h => absurd h (by omega), (fun i hi => nomatch hi), (fun i hi => nomatch hi)⟩, Nat.zero_le _⟩
    · have hc0 := hc 0 (by omega)
      have ha := spot_none hc0
      refine ⟨(ss.take len).map tl, some a, len, cap, a.block, a.off, rfl, ⟨?_, fun _ => ⟨congrArg some ha, block_lt_of_cell (a := a) hc0⟩, fun i hi => ?_, fun i hi => ?_⟩, by omega⟩
      · simp; omega
      · have hi2 : i < len := by simp at hi; omega
        have hci := hc i (by omega)
        rw [ha, add_of] at hci
        have hb : Glob.ba (((ss.take len).map tl)[i]) = ss.getD i ByteArray.empty := by
          have : i < ss.length := by omega
          simp [List.getD, this]
          exact Glob.ba_tl _
        rw [hb]; exact hci
      · have hi2 : i < len := by simp at hi; omega
        have := hs (ss[i]'(by omega)) (List.getElem_mem _)
        have hl : (((ss.take len).map tl)[i]).length = (ss[i]'(by omega)).size := by simp
        rw [hl]; exact this
set_option maxRecDepth 100000 in
theorem open_texts {H : Type} {enc : TypeId × Value → H} {w : World} {r : Reach} {b0 : Nat} {v : Value} {d : DataW H} {p : List MemPlace} (hv : Value.okWide Tryz.prog w r b0 22 v) (h : DataW.Trod enc Tryz.prog w 0 (fun _ => true) true 22 v d p) :
    ∃ fs, FilesIn w v fs := by
  have hC : Tryz.prog.cellsOf 51 = 2 := by kernel_rfl
  have hs3 : Tryz.prog.cellsOf 9 = 1 := by kernel_rfl
  obtain ⟨A, n, cap, rfl⟩ := okWide_slice Tryz.underlying22 hv
  obtain ⟨fuel, hf⟩ := h
  rcases open_slice Tryz.underlying22 hf with ⟨hcs, _⟩ | ⟨a, len, cap', m, fu, D, Pl, hcs, hb, hl, hm, hmm, _, hx⟩
  · have e : [Value.slice A n cap] = [Value.slice none 0 0] := hcs
    simp only [List.cons.injEq, Value.slice.injEq, and_true] at e
    obtain ⟨rfl, rfl, rfl⟩ := e
    exact ⟨[], none, 0, 0, 0, 0, rfl, ⟨rfl, fun h => absurd h (by omega), (fun i hi => nomatch hi), (fun i hi => nomatch hi)⟩, Nat.zero_le _⟩
  · have e : [Value.slice A n cap] = [Value.slice (some a) len cap'] := hcs
    simp only [List.cons.injEq, Value.slice.injEq, and_true] at e
    obtain ⟨rfl, rfl, rfl⟩ := e
    have hle : n ≤ m := by rw [hmm]; split <;> omega
    have key : ∀ i, i < n → ∃ x : By × By, w.cell? (a.add (i * 2)) = some (.string (Glob.ba x.1)) ∧ w.cell? (a.add (i * 2 + 1)) = some (.string (Glob.ba x.2)) ∧ x.1.length ≤ maxLen ∧ x.2.length ≤ maxLen := by
      intro i hi
      obtain ⟨cs', h1, h2⟩ := hx i (by omega)
      rw [hC] at h1
      obtain ⟨_, hlen, hcc⟩ := World.cells?_some h1
      match cs', hlen with
      | [c0, c1], _ =>
        have k0 := hcc 0 (by omega)
        have k1 := hcc 1 (by omega)
        rw [add_add] at k0 k1
        obtain ⟨xs, m', _, _, _, hlen, hg⟩ := DataW.trod_struct Tryz.underlying51 h2
        match xs, hlen with
        | [y0, y1], _ =>
          have g0 : DataW.trod enc Tryz.prog w 0 (fun _ => true) true m' 9 [c0] = some y0 := by have := hg 0 _ rfl; simpa [hs3] using this
          have g1 : DataW.trod enc Tryz.prog w 0 (fun _ => true) true m' 9 [c1] = some y1 := by have := hg 1 _ rfl; simpa [hs3] using this
          obtain ⟨s1, i1, _, q1⟩ := DataW.trod_string Tryz.underlying9 g0
          obtain ⟨s2, i2, _, q2⟩ := DataW.trod_string Tryz.underlying9 g1
          simp only [List.cons.injEq, and_true] at i1 i2
          subst i1 i2
          refine ⟨(tl s1, tl s2), ?_, ?_, ?_, ?_⟩
          · rw [show Glob.ba (tl s1) = s1 from Glob.ba_tl s1]; exact k0
          · rw [show Glob.ba (tl s2) = s2 from Glob.ba_tl s2]; exact k1
          · show (tl s1).length ≤ _; rw [tl_length]; exact q1
          · show (tl s2).length ≤ _; rw [tl_length]; exact q2
    rcases Nat.eq_zero_or_pos n with h0 | h0
    · subst h0
      exact ⟨[], some a, 0, cap, 0, 0, rfl, ⟨rfl, fun h => absurd h (by omega), (fun i hi => nomatch hi), (fun i hi => nomatch hi)⟩, Nat.zero_le _⟩
    · obtain ⟨x0, k0, _⟩ := key 0 h0
      rw [Nat.zero_mul] at k0
      have ha := spot_none k0
      have hlt : a.block < w.heap.size := World.block_lt_of_cell? w (a.add 0) k0
      obtain ⟨xs, hl2, hxs⟩ := list_of ([], []) n _ key
      have e0 : ∀ k, a.add k = ⟨a.block, a.off + k, none⟩ := fun k => by
        conv => lhs; rw [ha]
        rw [add_of]
      refine ⟨xs, some a, n, cap, a.block, a.off, rfl, ⟨hl2, fun _ => ⟨by rw [← ha], hlt⟩, fun i hi => ?_, fun i hi => ?_⟩, by omega⟩
      · obtain ⟨k0, k1, _⟩ := hxs i hi
        rw [e0] at k0 k1
        exact ⟨k0, k1⟩
      · exact (hxs i hi).2.2
end Go.Proofs.YtpipkgkfhbagmaaGreatDoor
