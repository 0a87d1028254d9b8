/- Names in their order; the search among places (slices.BinarySearchFunc with placeOf's closure), placeOf: what each call answers. Conditions: places in a row of the call's own, in the order of their names. -/
import Derived.Test.YtlcdkponegmcdaaDoorDE
import Derived.Test.YtlcdkponegmcdaaDoorShelf
namespace Go.Proofs.YtlcdkponegmcdaaDoor
open Go.RowKit
abbrev cb := Lib.compareBytes
theorem cb_self (a : List UInt8) : cb a a = 0 := by
  induction a with
  | nil => rfl
  | cons x a ih => simp [cb, Lib.compareBytes] at ih ⊢; exact ih
theorem cb_zero : ∀ {a b : List UInt8}, cb a b = 0 → a = b
  | [], [], _ => rfl
  | [], _ :: _, h => by simp [cb, Lib.compareBytes] at h
  | _ :: _, [], h => by simp [cb, Lib.compareBytes] at h
  | x :: a, y :: b, h => by
    simp only [cb, Lib.compareBytes] at h
    split at h
    · simp at h
    · split at h
      · simp at h
      · rename_i h1 h2
        rw [cb_zero (a := a) (b := b) h]
        have : x = y := UInt8.toNat_inj.1 (by rw [UInt8.lt_iff_toNat_lt] at h1 h2; omega)
        rw [this]
theorem cb_swap : ∀ (a b : List UInt8), cb b a = - cb a b
  | [], [] => rfl
  | [], _ :: _ => rfl
  | _ :: _, [] => rfl
  | x :: a, y :: b => by
    simp only [cb, Lib.compareBytes]
    by_cases h1 : x < y
    · have h2 : ¬ y < x := by rw [UInt8.lt_iff_toNat_lt] at h1 ⊢; omega
      simp [h1, h2]
    · by_cases h2 : y < x
      · simp [h1, h2]
      · simp [h1, h2]; exact cb_swap a b
theorem cb_trans : ∀ {a b c : List UInt8}, cb a b < 0 → cb b c < 0 → cb a c < 0
  | [], [], _, h, _ => by simp [cb, Lib.compareBytes] at h
  | _ :: _, [], _, h, _ => by simp [cb, Lib.compareBytes] at h
  | _, _ :: _, [], _, h => by simp [cb, Lib.compareBytes] at h
  | [], _ :: _, _ :: _, _, _ => by simp [cb, Lib.compareBytes]
  | x :: a, y :: b, z :: c, h1, h2 => by
    simp only [cb, Lib.compareBytes] at h1 h2 ⊢
    simp only [UInt8.lt_iff_toNat_lt] at h1 h2 ⊢
    by_cases e1 : x.toNat < y.toNat
    · by_cases e2 : y.toNat < z.toNat
      · simp [show x.toNat < z.toNat by omega]
      · by_cases e3 : z.toNat < y.toNat
        · simp [e2, e3] at h2
        · simp [show x.toNat < z.toNat by omega]
    · by_cases e2 : y.toNat < x.toNat
      · simp [e1, e2] at h1
      · by_cases e3 : y.toNat < z.toNat
        · simp [show x.toNat < z.toNat by omega]
        · by_cases e4 : z.toNat < y.toNat
          · simp [e3, e4] at h2
          · simp [e1, e2] at h1
            simp [e3, e4] at h2
            simp [show ¬ x.toNat < z.toNat by omega, show ¬ z.toNat < x.toNat by omega]
            exact cb_trans h1 h2
/-- A place: a file's name, a block's number. -/
abbrev Pl := List UInt8 × Nat
def posOf : List Pl → List UInt8 → Nat
  | [], _ => 0
  | p :: ps, t => if cb p.1 t < 0 then posOf ps t + 1 else 0
def hasN (ps : List Pl) (t : List UInt8) : Bool := ps.any fun p => decide (p.1 = t)
def Srt (ps : List Pl) : Prop := ps.Pairwise fun p q => cb p.1 q.1 < 0
theorem posOf_le (ps : List Pl) (t : List UInt8) : posOf ps t ≤ ps.length := by
  induction ps with
  | nil => simp [posOf]
  | cons p ps ih => rw [posOf]; split <;> simp <;> omega
def nameAt (ps : List Pl) (k : Nat) : List UInt8 := (ps.getD k ([], 0)).1
theorem nameAt_succ (p : Pl) (ps : List Pl) (k : Nat) : nameAt (p :: ps) (k + 1) = nameAt ps k := by simp [nameAt, List.getD]
theorem nameAt_zero (p : Pl) (ps : List Pl) : nameAt (p :: ps) 0 = p.1 := by simp [nameAt, List.getD]
theorem posOf_is (ps : List Pl) (t : List UInt8) : ∀ i, i ≤ ps.length → (∀ k, k < i → cb (nameAt ps k) t < 0) → (i < ps.length → ¬ cb (nameAt ps i) t < 0) → posOf ps t = i := by
  induction ps with
  | nil => intro i hi _ _; simp at hi; simp [posOf, hi]
  | cons p ps ih =>
    intro i hi h1 h2
    cases i with
    | zero =>
      have := h2 (by simp)
      rw [nameAt_zero] at this
      rw [posOf, if_neg this]
    | succ i =>
      have h0 := h1 0 (by omega)
      rw [nameAt_zero] at h0
      rw [posOf, if_pos h0, ih i (by simpa using hi) (fun k hk => by have := h1 (k + 1) (by omega); rwa [nameAt_succ] at this) (fun h => by have := h2 (by simpa using h); rwa [nameAt_succ] at this)]
theorem hasYtlcdkponegmcdaaDoorat (ps : List Pl) (hs : Srt ps) (t : List UInt8) : hasN ps t = (decide (posOf ps t < ps.length) && decide (cb (nameAt ps (posOf ps t)) t = 0)) := by
  induction ps with
  | nil => rfl
  | cons p ps ih =>
    obtain ⟨h1, h2⟩ := List.pairwise_cons.1 hs
    rw [posOf]
    by_cases h : cb p.1 t < 0
    · rw [if_pos h, nameAt_succ]
      have e : p.1 ≠ t := fun e => by rw [e, cb_self] at h; omega
      have := ih h2
      simp only [hasN, List.any_cons, e, decide_false, Bool.false_or, List.length_cons] at this ⊢
      rw [this]
      congr 1
      simp
    · rw [if_neg h, nameAt_zero]
      simp only [List.length_cons, Nat.zero_lt_succ, decide_true, Bool.true_and]
      by_cases e : p.1 = t
      · simp [hasN, e, cb_self]
      · have h0 : ¬ cb p.1 t = 0 := fun e0 => e (cb_zero e0)
        have hno : ∀ q ∈ ps, q.1 ≠ t := fun q hq e2 => by
          have := h1 q hq
          rw [e2] at this
          exact h this
        simp only [h0, decide_false]
        simp only [hasN, List.any_cons, e, decide_false, Bool.false_or, List.any_eq_false, decide_eq_true_eq]
        exact fun q hq => hno q hq
theorem srt_mono {ps : List Pl} (hs : Srt ps) {t : List UInt8} {a b : Nat} (hab : a ≤ b) (hb : b < ps.length) (h : cb (nameAt ps b) t < 0) : cb (nameAt ps a) t < 0 := by
  rcases Nat.lt_or_ge a b with h1 | h1
  · have := List.pairwise_iff_getElem.1 hs a b (by omega) hb h1
    have e1 : nameAt ps a = (ps[a]'(by omega)).1 := by rw [nameAt, List.getD, List.getElem?_eq_getElem (by omega)]; rfl
    have e2 : nameAt ps b = (ps[b]'hb).1 := by rw [nameAt, List.getD, List.getElem?_eq_getElem hb]; rfl
    rw [e1]; rw [e2] at h
    exact cb_trans this h
  · obtain rfl : a = b := by omega
    exact h
/-- Places as cells. -/
def pcell (p : Pl) : List Value := [.string (ba p.1), .int .i64 (p.2 : Int)]
def pcells (ps : List Pl) : List Value := ps.flatMap pcell
theorem pcells_len (ps : List Pl) : (pcells ps).length = ps.length * 2 := by
  induction ps with
  | nil => rfl
  | cons p ps ih => simp [pcells, pcell] at ih ⊢; omega
theorem pcells_at (ps : List Pl) (k : Nat) (hk : k < ps.length) (j : Nat) (hj : j < 2) : (pcells ps)[k * 2 + j]? = (pcell (ps.getD k ([], 0)))[j]? := by
  induction ps generalizing k with
  | nil => simp at hk
  | cons p ps ih =>
    have e : pcells (p :: ps) = pcell p ++ pcells ps := by simp [pcells]
    rw [e]
    cases k with
    | zero => rw [List.getElem?_append_left (by simp [pcell]; omega)]; simp [List.getD]
    | succ k =>
      rw [List.getElem?_append_right (by simp [pcell]; omega), show (k + 1) * 2 + j - (pcell p).length = k * 2 + j by simp [pcell]; omega, ih k (by simpa using hk)]
      simp [List.getD]
/-- A slice over just these places, in a row of the call's own. -/
def Pls (B : Nat) (w : World) (v : Value) (ps : List Pl) : Prop := w.ownsRow B 54 2 v ps.length (pcells ps)
theorem Pls.form {B : Nat} {w : World} {v : Value} {ps : List Pl} (h : Pls B w v ps) : ∃ A c, v = .slice A ps.length c := by
  rcases h.2 with ⟨h1, h2⟩ | ⟨g, c, cur, h1, _⟩
  · exact ⟨none, 0, by rw [h1, h2]⟩
  · exact ⟨_, _, h1⟩
theorem Pls.kept {B C : Nat} {w w' : World} {v : Value} {ps : List Pl} (h : Pls B w v ps) (hb : Below C w w') (hC : w.heap.size ≤ C) : Pls B w' v ps :=
  World.ownsRow.kept (row := none) h ⟨hb.os, hb.tape, hb.output, hb.size, fun i hi _ => hb.block i (Nat.lt_of_lt_of_le hi hC)⟩ (by cases v.ownBlock <;> simp)
theorem Pls.at_ {B : Nat} {w : World} {v : Value} {ps : List Pl} (h : Pls B w v ps) (k : Nat) (hk : k < ps.length) :
    ∃ g c, v = .slice (some ⟨g, 0, none⟩) ps.length c ∧ B ≤ g ∧ g < w.heap.size ∧ (loadVar 54 ⟨g, k * 2, none⟩).run Tryd.prog w = .ok (.agg #[.string (ba (nameAt ps k)), .int .i64 ((ps.getD k ([], 0)).2 : Int)]) w := by
  rcases h.2 with ⟨_, h2⟩ | ⟨g, c, cur, h1, hB, h3, h4, h5, h6, h7⟩
  · omega
  · refine ⟨g, c, h1, hB, (Array.getElem?_eq_some_iff.1 h3).1, ?_⟩
    refine run_loadVar_mid (P := Tryd.prog) w g (k * 2) 54 (pcell (ps.getD k ([], 0))) _ (fun j u hj => ?_) Tryd.underlying54 rfl (by kernel_rfl)
    have hj2 : j < 2 := by
      have := (List.getElem?_eq_some_iff.1 hj).1
      simpa [pcell] using this
    rw [cell_of_row w g _ cur 54 (0, 0) h3]
    rw [← pcells_at ps k hk j hj2, ← h7, List.getElem?_take_of_lt (by omega), Array.getElem?_toList] at hj
    exact hj
set_option maxRecDepth 100000 in
set_option maxHeartbeats 4000000 in
theorem placeC_any (nm t : List UInt8) (i : Int) (w : World) : Calls Tryd.prog 70 #[.agg #[.string (ba nm), .int .i64 i], .string (ba t)] w fun e w' => e = .returned (.int .i64 (cb nm t)) ∧ Below w.heap.size w w' := by
  have HC := hid (fun w => Tryd.strings_Compare (ba nm) (ba t) w)
  have HB : Hid (Below w.heap.size w (w.alloc (.cells #[.string (ba nm), .int .i64 i] 54))) := (Below.refl _ _).alloc (Nat.le_refl _) _
  have HE : Hid (Lib.compareBytes (ba nm).data.toList (ba t).data.toList = cb nm t) := rfl
  go_enter Tryd.func70, Tryd.ntmps70
  go_wp2_with (go_at_call 71; refine (HC.out _).mono ?_; rintro e1 w1 ⟨rfl, rfl⟩; rw [HE.out])
  go_ret
  exact ⟨rfl, HB.out⟩
end Go.Proofs.YtlcdkponegmcdaaDoor
