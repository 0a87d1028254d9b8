/- What lies within a directory stands right behind it. Plain facts. -/
import Derived.Test.YtlbeemlnbpchgaaGreatPJ
namespace Go.Proofs.YtlbeemlnbpchgaaGreat
open Go.RowKit
theorem cmpL_within (d r : List UInt8) : cmpL d (d ++ 47 :: r) = -1 := by
  induction d with
  | nil => rfl
  | cons x d ih => rw [List.cons_append, cmpL, if_pos rfl, ih]
theorem cmpL_between (d q r : List UInt8) (h1 : cmpL d q = -1) (h2 : cmpL q (d ++ 47 :: r) = -1) : ∃ r', q = d ++ 47 :: r' := by
  induction d generalizing q with
  | nil =>
    cases q with
    | nil => simp [cmpL] at h1
    | cons y q =>
      rw [List.nil_append, cmpL] at h2
      split at h2
      · rename_i e; exact ⟨q, by rw [e]; rfl⟩
      · have : rk 47 = 0 := rfl
        split at h2
        · omega
        · simp at h2
  | cons x d ih =>
    cases q with
    | nil => simp [cmpL] at h1
    | cons y q =>
      rw [cmpL] at h1
      rw [List.cons_append, cmpL] at h2
      by_cases h : x = y
      · subst h
        rw [if_pos rfl] at h1 h2
        obtain ⟨r', rfl⟩ := ih q h1 h2
        exact ⟨r', rfl⟩
      · rw [if_neg h] at h1
        rw [if_neg (Ne.symm h)] at h2
        have l1 : rk x < rk y := by split at h1; assumption; simp at h1
        have l2 : rk y < rk x := by split at h2; assumption; simp at h2
        omega
theorem prefix_split {d p : List UInt8} (h : (d ++ [47]).isPrefixOf p = true) : ∃ r, p = d ++ 47 :: r := by
  obtain ⟨r, hr⟩ := List.isPrefixOf_iff_prefix.1 h
  exact ⟨r, by rw [← hr]; simp⟩
theorem prefix_join (d r : List UInt8) : (d ++ [47]).isPrefixOf (d ++ 47 :: r) = true :=
  List.isPrefixOf_iff_prefix.2 ⟨r, by simp⟩
theorem mayB_nil : mayB [] = false := by decide +kernel
theorem withinB_yes {p d : List UInt8} (hd : mayB d = true) (h : withinB p d = true) : ∃ r, p = d ++ 47 :: r := by
  have h0 : d ≠ [] := by rintro rfl; rw [mayB_nil] at hd; cases hd
  rw [withinB, if_neg h0] at h
  simp only [Bool.and_eq_true] at h
  exact prefix_split h.2
theorem withinB_mk {p d : List UInt8} (hp : mayB p = true) (hd : mayB d = true) (h : ∃ r, p = d ++ 47 :: r) : withinB p d = true := by
  have h0 : d ≠ [] := by rintro rfl; rw [mayB_nil] at hd; cases hd
  obtain ⟨r, hr⟩ := h
  rw [withinB, if_neg h0, hp, hd, hr, prefix_join]; rfl
end Go.Proofs.YtlbeemlnbpchgaaGreat
