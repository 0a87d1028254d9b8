/- Versions: how three rows hang together: plain facts. Conditions: sixteen counters each. -/
import Derived.Test.YtmmbnobbpnndkaaVL
namespace Go.Proofs.Ytmmbnobbpnndkaa
open Go.RowKit
/-- No counter of a is above b's. -/
def LeV (a b : List (BitVec 32)) : Prop := ∀ i, i < 16 → u (at32 a i) ≤ u (at32 b i)
theorem cmp_vals (a b : List (BitVec 32)) (ha : a.length = 16) (hb : b.length = 16) :
    (cmpV a b = 0 ∧ LeV a b ∧ LeV b a) ∨ (cmpV a b = 1 ∧ LeV b a ∧ ¬ LeV a b) ∨ (cmpV a b = -1 ∧ LeV a b ∧ ¬ LeV b a) ∨ (cmpV a b = 2 ∧ ¬ LeV a b ∧ ¬ LeV b a) := by
  have h1 := gtYtmmbnobbpnndkaazero a b 16
  have h2 := gtYtmmbnobbpnndkaazero b a 16
  rw [cmp_counts a b ha hb]
  unfold rcmpV
  by_cases g1 : gtN a b 16 = 0
  · have l1 : LeV a b := h1.1 g1
    by_cases g2 : gtN b a 16 = 0
    · exact .inl ⟨by rw [if_neg (by omega), if_neg (by omega), if_neg (by omega)], l1, h2.1 g2⟩
    · exact .inr (.inr (.inl ⟨by rw [if_neg (by omega), if_neg (by omega), if_pos (by omega)], l1, fun e => g2 (h2.2 e)⟩))
  · by_cases g2 : gtN b a 16 = 0
    · exact .inr (.inl ⟨by rw [if_neg (by omega), if_pos (by omega)], h2.1 g2, fun e => g1 (h1.2 e)⟩)
    · exact .inr (.inr (.inr ⟨by rw [if_pos ⟨by omega, by omega⟩], fun e => g1 (h1.2 e), fun e => g2 (h2.2 e)⟩))
theorem LeV.trans {a b c : List (BitVec 32)} (h1 : LeV a b) (h2 : LeV b c) : LeV a c := fun i hi => Int.le_trans (h1 i hi) (h2 i hi)
theorem sum_le (a b : List (BitVec 32)) (k : Nat) (hk : k ≤ 16) (h : LeV b a) : sumN b k ≤ sumN a k := by
  induction k with
  | zero => exact Nat.le_refl _
  | succ k ih =>
    have h1 := h k (by omega)
    have := ih (by omega)
    rw [sumN, sumN]
    unfold u at h1; omega
theorem sum_lt (a b : List (BitVec 32)) (h : LeV b a) (hn : ¬ LeV a b) : sumN b 16 < sumN a 16 := by
  have key : ∀ k, k ≤ 16 → (∃ i, i < k ∧ u (at32 b i) < u (at32 a i)) → sumN b k < sumN a k := by
    intro k
    induction k with
    | zero => rintro _ ⟨i, hi, _⟩; omega
    | succ k ih =>
      rintro hk ⟨i, hi, hlt⟩
      rw [sumN, sumN]
      have h1 := h k (by omega)
      by_cases e : i = k
      · subst e
        have h2 := sum_le a b i (by omega) h
        unfold u at hlt; omega
      · have := ih (by omega) ⟨i, by omega, hlt⟩
        unfold u at h1; omega
  refine key 16 (Nat.le_refl _) ?_
  apply Classical.byContradiction
  intro hne
  refine hn fun i hi => ?_
  rcases Int.lt_or_le (u (at32 b i)) (u (at32 a i)) with hlt | hle
  · exact absurd ⟨i, hi, hlt⟩ hne
  · exact hle
theorem two_max (a b : List (BitVec 32)) (j : Nat) (hj : j < 16) : u (at32 (mergeAll [a, b] 2) j) = max (u (at32 a j)) (u (at32 b j)) := by
  rw [merge_two_at a b j hj]; split <;> omega
theorem u_maxW (x y : BitVec 32) : u (maxW x y) = max (u x) (u y) := by
  rw [← max_u]; split <;> omega
theorem four_max (a b : List (BitVec 32)) (j : Nat) (hj : j < 16) : u (at32 (mergeAll [a, b, a, b] 4) j) = max (u (at32 a j)) (u (at32 b j)) := by
  have e0 : rowAt [a, b, a, b] 0 = a := rfl
  have e1 : rowAt [a, b, a, b] 1 = b := rfl
  have e2 : rowAt [a, b, a, b] 2 = a := rfl
  have e3 : rowAt [a, b, a, b] 3 = b := rfl
  rw [mergeAll_at _ 3 (by simp) j hj, mergeAll_at _ 2 (by simp) j hj, mergeAll_at _ 1 (by simp) j hj, mergeAll_at _ 0 (by simp) j hj, mergeAll_zero, zero_at, e0, e1, e2, e3]
  have h1 := u_nonneg (at32 a j)
  have hz : u (0 : BitVec 32) = 0 := rfl
  simp only [u_maxW, hz]
  omega
/-- How a and b stand to each other, told both ways. -/
theorem order_xy (a b : List (BitVec 32)) (ha : a.length = 16) (hb : b.length = 16) :
    (cmpV a b = 0 ∧ cmpV b a = 0 ∧ sameV a b = true) ∨ (cmpV a b = 1 ∧ cmpV b a = -1 ∧ sameV a b = false) ∨ (cmpV a b = -1 ∧ cmpV b a = 1 ∧ sameV a b = false) ∨ (cmpV a b = 2 ∧ cmpV b a = 2 ∧ sameV a b = false) := by
  rcases cmp_vals a b ha hb with ⟨h1, h2, h3⟩ | ⟨h1, h2, h3⟩ | ⟨h1, h2, h3⟩ | ⟨h1, h2, h3⟩ <;> rcases cmp_vals b a hb ha with ⟨g1, g2, g3⟩ | ⟨g1, g2, g3⟩ | ⟨g1, g2, g3⟩ | ⟨g1, g2, g3⟩ <;> try contradiction
  · exact .inl ⟨h1, g1, (sameV_iff _ _).2 (ext_u ha hb fun i hi => Int.le_antisymm (h2 i hi) (h3 i hi))⟩
  · exact .inr (.inl ⟨h1, g1, sameV_ne fun e => h3 (by subst e; exact h2)⟩)
  · exact .inr (.inr (.inl ⟨h1, g1, sameV_ne fun e => h3 (by subst e; exact h2)⟩))
  · exact .inr (.inr (.inr ⟨h1, g1, sameV_ne fun e => h2 (by subst e; exact fun i _ => Int.le_refl _)⟩))
theorem order_sum (a b : List (BitVec 32)) (ha : a.length = 16) (hb : b.length = 16) (h : cmpV a b = 1) : ¬ (sumN a 16 : Int) ≤ (sumN b 16 : Nat) := by
  rcases cmp_vals a b ha hb with ⟨h1, _, _⟩ | ⟨_, h2, h3⟩ | ⟨h1, _, _⟩ | ⟨h1, _, _⟩
  · omega
  · have := sum_lt a b h2 h3; omega
  · omega
  · omega
theorem order_three (a b c : List (BitVec 32)) (ha : a.length = 16) (hb : b.length = 16) (hc : c.length = 16) (h : cmpV a b = 1) (g : cmpV b c = 1) : cmpV a c = 1 := by
  rcases cmp_vals a b ha hb with ⟨h1, _, _⟩ | ⟨_, h2, h3⟩ | ⟨h1, _, _⟩ | ⟨h1, _, _⟩ <;> try omega
  rcases cmp_vals b c hb hc with ⟨h1, _, _⟩ | ⟨_, g2, g3⟩ | ⟨h1, _, _⟩ | ⟨h1, _, _⟩ <;> try omega
  have l1 : LeV c a := g2.trans h2
  have l2 : ¬ LeV a c := fun e => h3 (e.trans g2)
  rcases cmp_vals a c ha hc with ⟨_, k2, _⟩ | ⟨k1, _, _⟩ | ⟨_, k2, _⟩ | ⟨_, _, k3⟩
  · exact absurd k2 l2
  · exact k1
  · exact absurd k2 l2
  · exact absurd l1 k3
theorem cmp_ge (m a : List (BitVec 32)) (hm : m.length = 16) (ha : a.length = 16) (h : LeV a m) : 0 ≤ cmpV m a ∧ cmpV m a < 2 := by
  rcases cmp_vals m a hm ha with ⟨h1, _, _⟩ | ⟨h1, _, _⟩ | ⟨_, _, h3⟩ | ⟨_, _, h3⟩
  · omega
  · omega
  · exact absurd h h3
  · exact absurd h h3
theorem le_of_cmp (m a : List (BitVec 32)) (hm : m.length = 16) (ha : a.length = 16) (h : cmpV m a = 0 ∨ cmpV m a = 1) : LeV a m := by
  rcases cmp_vals m a hm ha with ⟨_, _, h3⟩ | ⟨_, h3, _⟩ | ⟨h1, _, _⟩ | ⟨h1, _, _⟩
  · exact h3
  · exact h3
  · omega
  · omega
theorem order_up (a b c : List (BitVec 32)) (ha : a.length = 16) (hb : b.length = 16) (hc : c.length = 16) (h1 : cmpV c a = 0 ∨ cmpV c a = 1) (h2 : cmpV c b = 0 ∨ cmpV c b = 1) : cmpV c (mergeAll [a, b] 2) = 0 ∨ cmpV c (mergeAll [a, b] 2) = 1 := by
  have l1 := le_of_cmp c a hc ha h1
  have l2 := le_of_cmp c b hc hb h2
  have := cmp_ge c (mergeAll [a, b] 2) hc (mergeAll_len _ _) (fun i hi => by rw [two_max a b i hi]; have := l1 i hi; have := l2 i hi; omega)
  omega
theorem order_above (a b : List (BitVec 32)) (ha : a.length = 16) (hb : b.length = 16) :
    (0 ≤ cmpV (mergeAll [a, b] 2) a ∧ cmpV (mergeAll [a, b] 2) a < 2) ∧ (0 ≤ cmpV (mergeAll [a, b] 2) b ∧ cmpV (mergeAll [a, b] 2) b < 2) :=
  ⟨cmp_ge _ a (mergeAll_len _ _) ha fun i hi => by rw [two_max a b i hi]; omega, cmp_ge _ b (mergeAll_len _ _) hb fun i hi => by rw [two_max a b i hi]; omega⟩
theorem merge_turn (a b : List (BitVec 32)) : mergeAll [b, a] 2 = mergeAll [a, b] 2 :=
  ext_u (mergeAll_len _ _) (mergeAll_len _ _) fun i hi => by rw [two_max _ _ i hi, two_max _ _ i hi]; omega
theorem merge_four (a b : List (BitVec 32)) : mergeAll [a, b, a, b] 4 = mergeAll [a, b] 2 :=
  ext_u (mergeAll_len _ _) (mergeAll_len _ _) fun i hi => by rw [four_max _ _ i hi, two_max _ _ i hi]
theorem merge_self (a : List (BitVec 32)) (ha : a.length = 16) : mergeAll [a, a] 2 = a :=
  ext_u (mergeAll_len _ _) ha fun i hi => by rw [two_max _ _ i hi]; omega
theorem merge_assoc (a b c : List (BitVec 32)) : mergeAll [a, mergeAll [b, c] 2] 2 = mergeAll [mergeAll [a, b] 2, c] 2 :=
  ext_u (mergeAll_len _ _) (mergeAll_len _ _) fun i hi => by rw [two_max _ _ i hi, two_max _ _ i hi, two_max _ _ i hi, two_max _ _ i hi]; omega
end Go.Proofs.Ytmmbnobbpnndkaa
