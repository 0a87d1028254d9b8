/- Versions: Cmp, the document's: what the call does, and that it tells what the code's does; plain facts on how rows stand to each other. Conditions: sixteen counters each. -/
import Derived.Test.YtmmbnobbpnndkaaVG
namespace Go.Proofs.Ytmmbnobbpnndkaa
open Go.RowKit
/-- How many of the first k counters of a are above b's. -/
def gtN (a b : List (BitVec 32)) : Nat → Nat
  | 0 => 0
  | k + 1 => gtN a b k + if u (at32 b k) < u (at32 a k) then 1 else 0
theorem gtYtmmbnobbpnndkaale (a b : List (BitVec 32)) (k : Nat) : gtN a b k ≤ k := by
  induction k with
  | zero => exact Nat.le_refl _
  | succ k ih => rw [gtN]; split <;> omega
theorem gtYtmmbnobbpnndkaazero (a b : List (BitVec 32)) (k : Nat) : gtN a b k = 0 ↔ ∀ i, i < k → u (at32 a i) ≤ u (at32 b i) := by
  induction k with
  | zero => exact ⟨fun _ i h => absurd h (Nat.not_lt_zero i), fun _ => rfl⟩
  | succ k ih =>
    rw [gtN]
    constructor
    · intro h i hi
      have h1 : gtN a b k = 0 := by omega
      by_cases e : i = k
      · subst e
        split at h
        · omega
        · omega
      · exact ih.1 h1 i (by omega)
    · intro h
      rw [ih.2 (fun i hi => h i (by omega)), if_neg (by have := h k (by omega); omega)]
def rcmpV (a b : List (BitVec 32)) : Int := if 0 < gtN a b 16 ∧ 0 < gtN b a 16 then 2 else if 0 < gtN a b 16 then 1 else if 0 < gtN b a 16 then -1 else 0
theorem rcmp_of {a b : List (BitVec 32)} {r : Int} (h : rcmpV a b = r) : r = if 0 < gtN a b 16 ∧ 0 < gtN b a 16 then 2 else if 0 < gtN a b 16 then 1 else if 0 < gtN b a 16 then -1 else 0 := h.symm
theorem merge_two_at (a b : List (BitVec 32)) (j : Nat) (hj : j < 16) : u (at32 (mergeAll [a, b] 2) j) = if u (at32 a j) < u (at32 b j) then u (at32 b j) else u (at32 a j) := by
  rw [mergeAll_at [a, b] 1 (by simp) j hj, mergeAll_at [a, b] 0 (by simp) j hj, mergeAll_zero, zero_at]
  have e0 : rowAt [a, b] 0 = a := rfl
  have e1 : rowAt [a, b] 1 = b := rfl
  rw [e0, e1, ← max_u, ← max_u]
  have h1 := u_nonneg (at32 a j)
  have hz : u (0 : BitVec 32) = 0 := rfl
  rw [hz]
  by_cases h : 0 < u (at32 a j)
  · rw [if_pos h]
  · rw [if_neg h]
    have : u (at32 a j) = 0 := by omega
    rw [this]
theorem ext_u {a b : List (BitVec 32)} (ha : a.length = 16) (hb : b.length = 16) (h : ∀ i, i < 16 → u (at32 a i) = u (at32 b i)) : a = b := ext16 ha hb fun i hi => u_inj (h i hi)
theorem top_iff (a b : List (BitVec 32)) (ha : a.length = 16) : a = mergeAll [a, b] 2 ↔ gtN b a 16 = 0 := by
  rw [gtYtmmbnobbpnndkaazero]
  constructor
  · intro h i hi
    have := merge_two_at a b i hi
    rw [← h] at this
    split at this <;> omega
  · intro h
    refine ext_u ha (mergeAll_len _ _) fun i hi => ?_
    rw [merge_two_at a b i hi, if_neg (by have := h i hi; omega)]
theorem top_iff' (a b : List (BitVec 32)) (hb : b.length = 16) : b = mergeAll [a, b] 2 ↔ gtN a b 16 = 0 := by
  rw [gtYtmmbnobbpnndkaazero]
  constructor
  · intro h i hi
    have := merge_two_at a b i hi
    rw [← h] at this
    split at this <;> omega
  · intro h
    refine ext_u hb (mergeAll_len _ _) fun i hi => ?_
    rw [merge_two_at a b i hi]
    have := h i hi
    split <;> omega
theorem same_iff (a b : List (BitVec 32)) (ha : a.length = 16) (hb : b.length = 16) : a = b ↔ gtN a b 16 = 0 ∧ gtN b a 16 = 0 := by
  rw [gtYtmmbnobbpnndkaazero, gtYtmmbnobbpnndkaazero]
  constructor
  · rintro rfl; exact ⟨fun i _ => Int.le_refl _, fun i _ => Int.le_refl _⟩
  · rintro ⟨h1, h2⟩
    exact ext_u ha hb fun i hi => by have := h1 i hi; have := h2 i hi; omega
/-- Cmp by counts. -/
theorem cmp_counts (a b : List (BitVec 32)) (ha : a.length = 16) (hb : b.length = 16) : cmpV a b = rcmpV a b := by
  unfold cmpV rcmpV
  have h1 := same_iff a b ha hb
  have h2 := top_iff a b ha
  have h3 := top_iff' a b hb
  by_cases g1 : gtN a b 16 = 0
  · by_cases g2 : gtN b a 16 = 0
    · rw [if_pos (h1.2 ⟨g1, g2⟩), if_neg (by omega), if_neg (by omega), if_neg (by omega)]
    · rw [if_neg (fun e => g2 (h1.1 e).2), if_neg (fun e => g2 (h2.1 e)), if_pos (h3.2 g1), if_neg (by omega), if_neg (by omega), if_pos (by omega)]
  · by_cases g2 : gtN b a 16 = 0
    · rw [if_neg (fun e => g1 (h1.1 e).1), if_pos (h2.2 g2), if_neg (by omega), if_pos (by omega)]
    · rw [if_neg (fun e => g1 (h1.1 e).1), if_neg (fun e => g2 (h2.1 e)), if_neg (fun e => g1 (h3.1 e)), if_pos ⟨by omega, by omega⟩]
theorem gt_next (a b : List (BitVec 32)) (k : Nat) (h : u (at32 b k) < u (at32 a k)) : (gtN a b k : Int) + 1 = (gtN a b (k + 1) : Nat) := by rw [gtN, if_pos h]; omega
theorem gt_stay (a b : List (BitVec 32)) (k : Nat) (h : ¬ u (at32 b k) < u (at32 a k)) : gtN a b (k + 1) = gtN a b k := by rw [gtN, if_neg h]; rfl
set_option maxRecDepth 100000 in
set_option maxHeartbeats 400000 in
theorem rcmp_any (a b : List (BitVec 32)) (ha : a.length = 16) (hb : b.length = 16) (w : World) :
    Calls Try.prog 16 #[.agg (vec a), .agg (vec b)] w fun e w' => e = .returned (.int .i64 (rcmpV a b)) ∧ Below w.heap.size w w' := by
  have W0 : Hid (Has ((w.alloc (.cells (vec a) 24)).alloc (.cells (vec b) 24)) w.heap.size 24 (vec a)) := (Has.fresh w 24 (vec a)).more _
  have W1 : Hid (Has ((w.alloc (.cells (vec a) 24)).alloc (.cells (vec b) 24)) (w.heap.size + 1) 24 (vec b)) := Has.fresh' (w.alloc _) 24 (vec b) (by simp)
  have HB : Hid (Below w.heap.size w ((w.alloc (.cells (vec a) 24)).alloc (.cells (vec b) 24))) := ((Below.refl _ _).alloc (Nat.le_refl _) _).alloc (by simp) _
  have HA := hid ha
  have HBL := hid hb
  obtain ⟨r, HR⟩ : ∃ r, Hid (rcmpV a b = r) := ⟨_, rfl⟩
  rw [HR.out]
  clear ha hb
  go_enter Try.func16, Try.ntmps16
  go_wp2
  generalize World.alloc (World.alloc w _) _ = W at W0 W1 HB ⊢
  go_loopw [5, 6, 7] (fun x y i wr => ∃ k : Nat, k ≤ 16 ∧ i = .int .i64 (k : Int) ∧ x = .int .i64 (gtN a b k : Nat) ∧ y = .int .i64 (gtN b a k : Nat) ∧ Hid (Has wr w.heap.size 24 (vec a)) ∧ Hid (Has wr (w.heap.size + 1) 24 (vec b)) ∧ Hid (Below w.heap.size w wr))
    (fun _ _ i _ => 16 - (intOf i).toNat)
  case atStart => exact ⟨0, by omega, rfl, rfl, rfl, W0, W1, HB⟩
  case round =>
    obtain ⟨k, hk, rfl, rfl, rfl, J1, J2, J3⟩ := hrel
    have b1 := gtYtmmbnobbpnndkaale a b k
    have b2 := gtYtmmbnobbpnndkaale b a k
    by_cases hlt : k < 16
    · have c1 := (J1.out.at_ k).trans (vec_get a k (by rw [HA.out]; exact hlt))
      have c2 := (J2.out.at_ k).trans (vec_get b k (by rw [HBL.out]; exact hlt))
      by_cases h1 : u (at32 b k) < u (at32 a k)
      · have h2 : ¬ u (at32 a k) < u (at32 b k) := by omega
        have G1 := hid (gt_next a b k h1)
        have G2 := hid (gt_stay b a k h2)
        go_wp2
        go_region
        go_wp2
        go_region
        go_wp2
        go_roundw
        case rel => exact ⟨k + 1, by omega, by go_num, by rw [G1.out], by rw [G2.out], J1.out.drawn 2, J2.out.drawn 2, J3.out.drewN' 2⟩
        case measure => simp [intOf]; omega
      · by_cases h2 : u (at32 a k) < u (at32 b k)
        · have G1 := hid (gt_stay a b k h1)
          have G2 := hid (gt_next b a k h2)
          go_wp2
          go_region
          go_wp2
          go_region
          go_wp2
          go_roundw
          case rel => exact ⟨k + 1, by omega, by go_num, by rw [G1.out], by rw [G2.out], J1.out.drawn 2, J2.out.drawn 2, J3.out.drewN' 2⟩
          case measure => simp [intOf]; omega
        · have G1 := hid (gt_stay a b k h1)
          have G2 := hid (gt_stay b a k h2)
          go_wp2
          go_region
          go_wp2
          go_region
          go_wp2
          go_roundw
          case rel => exact ⟨k + 1, by omega, by go_num, by rw [G1.out], by rw [G2.out], J1.out.drawn 2, J2.out.drawn 2, J3.out.drewN' 2⟩
          case measure => simp [intOf]; omega
    · obtain rfl : k = 16 := by omega
      have HR2 := hid (rcmp_of HR.out)
      obtain ⟨p, hp⟩ : ∃ p, Hid (gtN a b 16 = p) := ⟨_, rfl⟩
      obtain ⟨q, hq⟩ : ∃ q, Hid (gtN b a 16 = q) := ⟨_, rfl⟩
      rw [hp.out, hq.out] at HR2 ⊢
      clear hp hq b1 b2 HR
      by_cases hp : 0 < p
      · by_cases hq : 0 < q
        · go_wp2
          go_ret
          exact ⟨by rw [HR2.out, if_pos ⟨hp, hq⟩]; rfl, J3.out⟩
        · go_wp2
          go_ret
          exact ⟨by rw [HR2.out, if_neg (fun h => hq h.2), if_pos hp]; rfl, J3.out⟩
      · by_cases hq : 0 < q
        · go_wp2
          go_ret
          exact ⟨by rw [HR2.out, if_neg (fun h => hp h.1), if_neg hp, if_pos hq]; rfl, J3.out⟩
        · go_wp2
          go_ret
          exact ⟨by rw [HR2.out, if_neg (fun h => hp h.1), if_neg hp, if_neg hq]; rfl, J3.out⟩
end Go.Proofs.Ytmmbnobbpnndkaa
