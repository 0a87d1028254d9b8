/- Two readers side by side: the program's and the document's. No conditions but the ones said. -/
import Derived.Test.YtakgbopkkechgaaFR
import Derived.Test.YtakgbopkkechgaaFTB
namespace Go.Proofs.Ytakgbopkkechgaa
open Go.RowKit
/-- So many bytes lie there, and may be written. -/
def Wri (w : World) (g L : Nat) : Prop := ∃ (cs : Array Value) (lo hi : Nat), w.heap[g]? = some (.cells cs 5 (lo, hi)) ∧ L ≤ lo ∧ ∀ j, j < L → ∃ z : Int, cs[j]? = some (.int .u8 z) ∧ 0 ≤ z ∧ z ≤ 255
theorem Wri.cell {w : World} {g L : Nat} (h : Wri w g L) (j : Nat) (hj : j < L) : ∃ z : Int, w.cell? ⟨g, j, none⟩ = some (.int .u8 z) ∧ w.frozen? ⟨g, j, none⟩ = false ∧ 0 ≤ z ∧ z ≤ 255 := by
  obtain ⟨cs, lo, hi, hh, hl, hc⟩ := h
  obtain ⟨z, h1, h2, h3⟩ := hc j hj
  refine ⟨z, (cell_of_row w g j cs 5 (lo, hi) hh).trans h1, ?_, h2, h3⟩
  simp only [World.frozen?, hh]
  rw [decide_eq_false (by omega : ¬ lo ≤ j)]; rfl
theorem Wri.put {w : World} {g L : Nat} (h : Wri w g L) (j : Nat) (z : Int) (h0 : 0 ≤ z) (h1 : z ≤ 255) : Wri (w.setCell ⟨g, j, none⟩ (.int .u8 z)) g L := by
  obtain ⟨cs, lo, hi, hh, hl, hc⟩ := h
  refine ⟨cs.setIfInBounds j (.int .u8 z), lo, hi, ?_, hl, fun i hi2 => ?_⟩
  · simp [World.setCell, Array.getElem?_modify, hh]
  · obtain ⟨y, h2, h3, h4⟩ := hc i hi2
    have hlt : i < cs.size := (Array.getElem?_eq_some_iff.1 h2).1
    rw [Array.getElem?_setIfInBounds]
    by_cases e : j = i
    · subst e
      rw [if_pos rfl, if_pos hlt]
      exact ⟨z, rfl, h0, h1⟩
    · rw [if_neg e]
      exact ⟨y, h2, h3, h4⟩
theorem Wri.same {w w' : World} {g L : Nat} (h : Wri w g L) (hb : w'.heap[g]? = w.heap[g]?) : Wri w' g L := by
  obtain ⟨cs, lo, hi, hh, h2⟩ := h
  exact ⟨cs, lo, hi, hb.trans hh, h2⟩
theorem Wri.inside {w : World} {g L : Nat} (h : Wri w g L) : g < w.heap.size := by
  obtain ⟨cs, lo, hi, hh, h2⟩ := h
  exact (Array.getElem?_eq_some_iff.1 hh).1
theorem wri_of_text (s : ByteArray) (w : World) : Wri (Lib.bytesWorld w 5 s) w.heap.size s.size := by
  refine ⟨_, _, _, Lib.bytesWorld_at_new w 5 s, by simp [Lib.bytesCells], fun j hj => ?_⟩
  have h := Lib.bytesWorld_cell w 5 s j hj
  rw [cell_of_row _ _ _ _ _ _ (Lib.bytesWorld_at_new w 5 s)] at h
  refine ⟨_, h, by omega, ?_⟩
  have := (s.data.toList.getD j 0).toNat_lt
  omega
/-- The program's reader, at R, and the document's, at S, live apart. -/
def Two (w0 w : World) (p q : Nat) (R S : RS) (o : Option Nat) (bb : Nat) : Prop :=
  Ses w0 w p R o ∧ Qr w q S bb ∧ bb ≠ p ∧ o ≠ some bb ∧ q ≠ p ∧ o ≠ some q ∧ w0.heap.size ≤ q ∧ 0 < w0.heap.size
section
variable {w0 w w' : World} {p q bb bb' : Nat} {R S R' S' : RS} {o o' : Option Nat}
theorem Qr.blk (h : Qr w q S bb) : bb < w.heap.size := by obtain ⟨_, _, _, _, h2, _⟩ := h; exact h2.blk
theorem Qr.chg (h : Qr w q S bb) (hc : Chg p o w w') (hq : q ≠ p) (ho : o ≠ some q) (hb : bb ≠ p) (hob : o ≠ some bb) : Qr w' q S bb := by
  obtain ⟨A, cap, off, h1, h2, h3⟩ := h
  exact ⟨A, cap, off, h1.chg hc hq ho, h2.chg hc hb hob, h3⟩
theorem Qr.grw {g : Nat} (h : Qr w q S bb) (hc : Grw g w w') (hq : q ≠ g) (hb : bb ≠ g) : Qr w' q S bb := by
  obtain ⟨A, cap, off, h1, h2, h3⟩ := h
  exact ⟨A, cap, off, h1.grw hc hq, h2.grw hc hb, h3⟩
theorem Two.below (h : Two w0 w p q R S o bb) : Below w0.heap.size w0 w := h.1.below
theorem Two.kept (h : Two w0 w p q R S o bb) (hb : Below w.heap.size w w') : Two w0 w' p q R S o bb := ⟨h.1.kept hb, h.2.1.kept hb, h.2.2⟩
theorem Two.stepA (h : Two w0 w p q R S o bb) (hs : Ses w0 w' p R' o') (hn : Nx o o' w) (hc : Chg p o w w') : Two w0 w' p q R' S o' bb := by
  obtain ⟨h1, h2, h3, h4, h5, h6, h7⟩ := h
  exact ⟨hs, h2.chg hc h5 h6 h3 h4, h3, hn.ne h4 h2.blk, h5, hn.ne h6 h2.inside, h7⟩
theorem Two.stepB (h : Two w0 w p q R S o bb) (hq : Qr w' q S' bb') (hn : Ny bb bb' w) (hc : Grw q w w') : Two w0 w' p q R S' o bb' := by
  obtain ⟨h1, h2, h3, h4, h5, h6, h7, h8⟩ := h
  have hpp : p < w.heap.size := h1.rd.inside
  have hp0 : w0.heap.size ≤ p := h1.2.1
  refine ⟨h1.grown hc (fun e => h5 (Option.some.inj e)) (fun g hg e => h6 (by rw [e, hg])) (fun g hg => by rw [← Option.some.inj hg]; exact h7), hq, ?_, ?_, h5, h6, h7, h8⟩
  · rcases hn with rfl | rfl | hn
    · exact h3
    · omega
    · omega
  · rcases hn with rfl | rfl | hn
    · exact h4
    · intro e; have := h1.2.2.1 0 e; omega
    · intro e; have := h1.rd.row e; omega
theorem Two.grw {g : Nat} (h : Two w0 w p q R S o bb) (hc : Grw g w w') (h1 : g ≠ p) (h2 : g ≠ q) (h3 : g ≠ bb) (h4 : o ≠ some g) (h5 : w0.heap.size ≤ g) : Two w0 w' p q R S o bb := by
  obtain ⟨k1, k2, k3⟩ := h
  exact ⟨k1.grown hc (fun e => h1 (Option.some.inj e)) (fun x hx e => h4 (by rw [e, hx])) (fun x hx => by rw [← Option.some.inj hx]; exact h5), k2.grw hc (Ne.symm h2) (Ne.symm h3), k3⟩
end
end Go.Proofs.Ytakgbopkkechgaa
