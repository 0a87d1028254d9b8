/- The order of texts is one. Plain facts. -/
import Derived.Test.YtlbeemlnbpchgaaGreatPF
namespace Go.Proofs.YtlbeemlnbpchgaaGreat
open Go.RowKit
theorem aheadL_len (l : List UInt8) : (aheadL l).length ≤ l.length := by rw [aheadL, List.length_take]; omega
theorem cmpL_vals (a b : List UInt8) : cmpL a b = -1 ∨ cmpL a b = 0 ∨ cmpL a b = 1 := by
  fun_induction cmpL a b <;> simp_all
theorem rk_inj {x y : UInt8} (h : rk x = rk y) : x = y := by
  unfold rk at h
  split at h <;> split at h
  · simp_all
  · omega
  · omega
  · exact UInt8.toNat_inj.1 (by omega)
theorem cmpL_self (a : List UInt8) : cmpL a a = 0 := by
  induction a with
  | nil => rfl
  | cons x a ih => rw [cmpL, if_pos rfl, ih]
theorem cmpL_neg (a b : List UInt8) : cmpL b a = -cmpL a b := by
  induction a generalizing b with
  | nil => cases b <;> simp [cmpL]
  | cons x a ih =>
    cases b with
    | nil => simp [cmpL]
    | cons y b =>
      rw [cmpL, cmpL]
      by_cases h : x = y
      · subst h; rw [if_pos rfl, if_pos rfl, ih]
      · rw [if_neg h, if_neg (Ne.symm h)]
        have : rk x ≠ rk y := fun e => h (rk_inj e)
        split <;> split <;> first | omega | rfl
theorem cmpL_zero (a b : List UInt8) : cmpL a b = 0 ↔ a = b := by
  constructor
  · intro h
    induction a generalizing b with
    | nil => cases b <;> simp [cmpL] at h ⊢
    | cons x a ih =>
      cases b with
      | nil => simp [cmpL] at h
      | cons y b =>
        rw [cmpL] at h
        split at h
        · rename_i e; rw [e, ih b h]
        · split at h <;> simp at h
  · rintro rfl; exact cmpL_self a
theorem cmpL_trans (a b c : List UInt8) (h1 : cmpL a b = -1) (h2 : cmpL b c = -1) : cmpL a c = -1 := by
  induction a generalizing b c with
  | nil =>
    cases c with
    | nil => cases b <;> simp [cmpL] at h1 h2
    | cons z c => rfl
  | cons x a ih =>
    cases b with
    | nil => simp [cmpL] at h1
    | cons y b =>
      cases c with
      | nil => simp [cmpL] at h2
      | cons z c =>
        rw [cmpL] at h1 h2 ⊢
        by_cases h : x = y
        · subst h
          rw [if_pos rfl] at h1
          by_cases h' : x = z
          · subst h'; rw [if_pos rfl] at h2 ⊢; exact ih b c h1 h2
          · rw [if_neg h'] at h2 ⊢; exact h2
        · rw [if_neg h] at h1
          by_cases h' : y = z
          · subst h'; rw [if_neg h]; exact h1
          · rw [if_neg h'] at h2
            have l1 : rk x < rk y := by split at h1; assumption; simp at h1
            have l2 : rk y < rk z := by split at h2; assumption; simp at h2
            have hne : x ≠ z := by rintro rfl; omega
            rw [if_neg hne, if_pos (by omega)]
end Go.Proofs.YtlbeemlnbpchgaaGreat
