/- A path stands apart at its last slash. Plain facts. -/
import Derived.Test.YtlbeemlnbpchgaaGreatPL
namespace Go.Proofs.YtlbeemlnbpchgaaGreat
open Go.RowKit
/-- A text has no slash, and is its one part; or stands apart at its last slash. -/
theorem split_last (l : List UInt8) : pieces l = [l] ∨ ∃ a b, l = a ++ 47 :: b ∧ pieces l = pieces a ++ [b] := by
  induction l with
  | nil => exact .inl rfl
  | cons c l ih =>
    by_cases hc : c = 47
    · subst hc
      rcases ih with h | ⟨a, b, h1, h2⟩
      · exact .inr ⟨[], l, rfl, by rw [show pieces (47 :: l) = [] :: pieces l by rw [pieces, if_pos rfl], h]; rfl⟩
      · exact .inr ⟨47 :: a, b, by rw [h1]; rfl, by rw [pieces, if_pos rfl, h2, pieces, if_pos rfl]; rfl⟩
    · rcases ih with h | ⟨a, b, h1, h2⟩
      · exact .inl (by rw [pieces, if_neg hc, h])
      · refine .inr ⟨c :: a, b, by rw [h1]; rfl, ?_⟩
        rw [pieces, if_neg hc, h2, pieces, if_neg hc]
        cases hp : pieces a with
        | nil => exact absurd hp (pieces_ne a)
        | cons p ps => rfl
theorem lastP_one {l : List UInt8} (h : pieces l = [l]) : lastP l = l := by
  have : ∀ (ps : List (List UInt8)) (hne : ps ≠ []), ps = [l] → ps.getLast hne = l := by rintro ps hne rfl; rfl
  exact this _ _ h
theorem lastP_two {l a b : List UInt8} (h : pieces l = pieces a ++ [b]) : lastP l = b := by
  have : ∀ (ps : List (List UInt8)) (hne : ps ≠ []), ps = pieces a ++ [b] → ps.getLast hne = b := by rintro ps hne rfl; simp
  exact this _ _ h
theorem aheadL_one {l : List UInt8} (h : pieces l = [l]) : aheadL l = [] := by rw [aheadL, lastP_one h]; simp
theorem aheadL_two {l a b : List UInt8} (h1 : l = a ++ 47 :: b) (h : pieces l = pieces a ++ [b]) : aheadL l = a := by
  rw [aheadL, lastP_two h, h1, List.length_append, List.length_cons, show a.length + (b.length + 1) - b.length - 1 = a.length by omega, List.take_left]
theorem may_parts {l : List UInt8} (h : mayB l = true) : l.length ≤ 160 ∧ (pieces l).length ≤ 6 ∧ (pieces l).all nameB = true ∧ (aheadL l).length ≤ 111 := by
  unfold mayB goodB at h
  simp only [Bool.and_eq_true, decide_eq_true_eq] at h
  exact ⟨h.1.1, h.1.2.1, h.1.2.2, h.2⟩
theorem may_of {l : List UInt8} (h1 : l.length ≤ 160) (h2 : (pieces l).length ≤ 6) (h3 : (pieces l).all nameB = true) (h4 : (aheadL l).length ≤ 111) : mayB l = true := by
  unfold mayB goodB
  simp only [Bool.and_eq_true, decide_eq_true_eq]
  exact ⟨⟨h1, h2, h3⟩, h4⟩
/-- A path of one part, or what stands apart at its last slash: its parent is a path, within which it lies. -/
theorem may_split {l : List UInt8} (h : mayB l = true) : (aheadL l = [] ∧ lastP l = l ∧ (pieces l).length = 1) ∨ (aheadL l ≠ [] ∧ l = aheadL l ++ 47 :: lastP l ∧ mayB (aheadL l) = true ∧ withinB l (aheadL l) = true) := by
  obtain ⟨h1, h2, h3, h4⟩ := may_parts h
  rcases split_last l with e | ⟨a, b, e1, e2⟩
  · exact .inl ⟨aheadL_one e, lastP_one e, by rw [e]; rfl⟩
  · right
    have ha := aheadL_two e1 e2
    have hb := lastP_two e2
    rw [e2, List.all_append] at h3
    simp only [Bool.and_eq_true] at h3
    have hne : a ≠ [] := by
      rintro rfl
      have := h3.1
      simp [pieces, nameB, headB] at this
    rw [ha] at h4 ⊢
    have hm : mayB a = true := may_of (by omega) (by rw [e2, List.length_append] at h2; omega) h3.1 (Nat.le_trans (aheadL_len a) h4)
    exact ⟨hne, by rw [hb]; exact e1, hm, withinB_mk h hm ⟨b, e1⟩⟩
end Go.Proofs.YtlbeemlnbpchgaaGreat
