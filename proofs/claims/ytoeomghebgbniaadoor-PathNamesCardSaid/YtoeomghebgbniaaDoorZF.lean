/- The document's digest: its words as a row by number, against the schedule of one block (SD's sched). Plain. -/
import Derived.Test.YtoeomghebgbniaaDoorSD
namespace Go.Proofs.YtoeomghebgbniaaDoor.Sha
open Go.RowKit
/-- The word of number t: sixteen as they come, each other one from four ahead of it. -/
def wAt (l : List (BitVec 32)) (t : Nat) : BitVec 32 :=
  if _h : t < 16 then at32 l t else wAt l (t - 16) + sig0 (wAt l (t - 15)) + wAt l (t - 7) + sig1 (wAt l (t - 2))
termination_by t
theorem wAt_low (l : List (BitVec 32)) (t : Nat) (h : t < 16) : wAt l t = at32 l t := by rw [wAt, dif_pos h]
theorem wAt_high (l : List (BitVec 32)) (t : Nat) (h : 16 ≤ t) : wAt l t = wAt l (t - 16) + sig0 (wAt l (t - 15)) + wAt l (t - 7) + sig1 (wAt l (t - 2)) := by
  rw [wAt, dif_neg (by omega)]
theorem at32_set_same (l : List (BitVec 32)) (i : Nat) (x : BitVec 32) (h : i < l.length) : at32 (l.set i x) i = x := by
  simp [at32, List.getD, List.getElem?_set_self h]
theorem at32_set_other (l : List (BitVec 32)) (i j : Nat) (x : BitVec 32) (h : i ≠ j) : at32 (l.set i x) j = at32 l j := by
  simp [at32, List.getD, List.getElem?_set_ne h]
theorem sched_at (l : List (BitVec 32)) (hl : l.length = 16) : ∀ k t, (t < 16 ∨ t < k) → k ≤ t + 16 → at32 (sched l k) (t % 16) = wAt l t := by
  intro k
  induction k with
  | zero =>
    intro t h1 h2
    have h : t < 16 := by omega
    rw [wAt_low _ _ h, Nat.mod_eq_of_lt h]; rfl
  | succ k ih =>
    intro t h1 h2
    by_cases hk : 16 ≤ k
    · rw [sched_high _ _ hk]
      by_cases ht : t = k
      · subst ht
        rw [at32_set_same _ _ _ (by rw [sched_len l hl]; omega), nextW, wAt_high _ _ hk]
        have e1 := ih (t - 16) (by omega) (by omega)
        have e2 := ih (t - 15) (by omega) (by omega)
        have e3 := ih (t - 7) (by omega) (by omega)
        have e4 := ih (t - 2) (by omega) (by omega)
        rw [← e1, ← e2, ← e3, ← e4]
        have m1 : (t - 16) % 16 = t % 16 := by omega
        have m2 : (t - 15) % 16 = (t + 1) % 16 := by omega
        have m3 : (t - 7) % 16 = (t + 9) % 16 := by omega
        have m4 : (t - 2) % 16 = (t + 14) % 16 := by omega
        rw [m1, m2, m3, m4]
      · rw [at32_set_other _ _ _ _ (by omega)]
        exact ih t (by omega) (by omega)
    · rw [sched_low _ _ (by omega)]
      exact ih t (by omega) (by omega)
/-- The word that round k of a block takes. -/
theorem sched_word (l : List (BitVec 32)) (hl : l.length = 16) (k : Nat) : at32 (sched l (k + 1)) (k % 16) = wAt l k :=
  sched_at l hl (k + 1) k (by omega) (by omega)
theorem run8_word (l : List (BitVec 32)) (hl : l.length = 16) (s : S8) (k : Nat) : run8 l s (k + 1) = stepS (run8 l s k) (at32 kList k) (wAt l k) := by
  rw [run8, sched_word l hl]
end Go.Proofs.YtoeomghebgbniaaDoor.Sha
