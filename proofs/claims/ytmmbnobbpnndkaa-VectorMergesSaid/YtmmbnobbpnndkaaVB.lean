/- Versions: sum and first counter, the code's and the document's: what each call does. Conditions: sixteen counters. -/
import Derived.Test.YtmmbnobbpnndkaaVA
namespace Go.Proofs.Ytmmbnobbpnndkaa
open Go.RowKit
theorem u64in (x : Int) (h0 : 0 ≤ x) (h : x < 18446744073709551616) : IntKind.u64.wrap x = x := by
  simp [IntKind.wrap, IntKind.signed, IntKind.bits]; omega
/-- The sum of the first k counters. -/
def sumN (l : List (BitVec 32)) : Nat → Nat
  | 0 => 0
  | k + 1 => sumN l k + (at32 l k).toNat
theorem sumYtmmbnobbpnndkaalt (l : List (BitVec 32)) (k : Nat) : sumN l k ≤ k * 4294967295 := by
  induction k with
  | zero => simp [sumN]
  | succ k ih => have := (at32 l k).isLt; rw [sumN]; omega
theorem sum_next (l : List (BitVec 32)) (k : Nat) (h : k < 16) : IntKind.u64.wrap ((sumN l k : Int) + IntKind.u64.wrap (u (at32 l k))) = (sumN l (k + 1) : Nat) := by
  have h1 := u_nonneg (at32 l k)
  have h2 := u_lt (at32 l k)
  have h3 := sumYtmmbnobbpnndkaalt l k
  rw [u64in _ h1 (by omega), u64in _ (by omega) (by omega), sumN, u]; omega
set_option maxHeartbeats 400000 in
theorem sum_any (l : List (BitVec 32)) (hl : l.length = 16) (w : World) :
    Calls Try.prog 18 #[.agg (vec l)] w fun e w' => e = .returned (.int .u64 (sumN l 16 : Nat)) ∧ Below w.heap.size w w' := by
  have HB : Hid (Has (w.alloc (.cells (vec l) 24)) w.heap.size 24 (vec l)) := Has.fresh w 24 (vec l)
  have HL := hid hl
  clear hl
  go_enter Try.func18, Try.ntmps18
  go_wp2
  go_loop [3, 5] (fun t i => ∃ k : Nat, k ≤ 16 ∧ i = .int .i64 (k : Int) ∧ t = .int .u64 (sumN l k : Nat)) (fun _ i => 16 - (intOf i).toNat)
  case atStart => exact ⟨0, Nat.zero_le _, rfl, rfl⟩
  case round =>
    obtain ⟨k, hk, rfl, rfl⟩ := hrel
    by_cases hlt : k < 16
    · have hc := (HB.out.at_ k).trans (vec_get l k (by rw [HL.out]; omega))
      go_wp2
      go_round
      case rel => exact ⟨k + 1, by omega, by go_num, by rw [sum_next l k hlt]⟩
      case measure => simp [intOf]; omega
    · obtain rfl : k = 16 := by omega
      go_wp2
      go_ret
      exact ⟨rfl, (Below.refl _ _).alloc (Nat.le_refl _) _⟩
set_option maxHeartbeats 400000 in
theorem rsum_any (l : List (BitVec 32)) (hl : l.length = 16) (w : World) :
    Calls Try.prog 19 #[.agg (vec l)] w fun e w' => e = .returned (.int .u64 (sumN l 16 : Nat)) ∧ Below w.heap.size w w' := by
  have HB : Hid (Has (w.alloc (.cells (vec l) 24)) w.heap.size 24 (vec l)) := Has.fresh w 24 (vec l)
  have HL := hid hl
  clear hl
  go_enter Try.func19, Try.ntmps19
  go_wp2
  go_loop [3, 4] (fun t i => ∃ k : Nat, k ≤ 16 ∧ i = .int .i64 (k : Int) ∧ t = .int .u64 (sumN l k : Nat)) (fun _ i => 16 - (intOf i).toNat)
  case atStart => exact ⟨0, Nat.zero_le _, rfl, rfl⟩
  case round =>
    obtain ⟨k, hk, rfl, rfl⟩ := hrel
    by_cases hlt : k < 16
    · have hc := (HB.out.at_ k).trans (vec_get l k (by rw [HL.out]; omega))
      go_wp2
      go_round
      case rel => exact ⟨k + 1, by omega, by go_num, by rw [sum_next l k hlt]⟩
      case measure => simp [intOf]; omega
    · obtain rfl : k = 16 := by omega
      go_wp2
      go_ret
      exact ⟨rfl, (Below.refl _ _).alloc (Nat.le_refl _) _⟩
/-- The first counter above 0, from number k on, as both say it. -/
def leastN (l : List (BitVec 32)) : Nat → Nat → Value
  | 0, _ => .tuple #[.int .i64 0, .bool false]
  | n + 1, k => if at32 l k = 0 then leastN l n (k + 1) else .tuple #[.int .i64 ((k : Int) + 1), .bool true]
theorem u_zero {x : BitVec 32} (h : x = 0) : u x = 0 := by subst h; rfl
theorem u_some {x : BitVec 32} (h : ¬ x = 0) : 0 < u x := by
  have h1 := u_nonneg x
  have h2 : u x ≠ 0 := fun e => h (u_inj (e.trans (u_zero rfl).symm))
  omega
set_option maxHeartbeats 400000 in
theorem least_any (l : List (BitVec 32)) (hl : l.length = 16) (w : World) :
    Calls Try.prog 13 #[.agg (vec l)] w fun e w' => e = .returned (leastN l 16 0) ∧ Below w.heap.size w w' := by
  have HB : Hid (Has (w.alloc (.cells (vec l) 24)) w.heap.size 24 (vec l)) := Has.fresh w 24 (vec l)
  have HL := hid hl
  obtain ⟨v, HV⟩ : ∃ v, Hid (leastN l 16 0 = v) := ⟨_, rfl⟩
  rw [HV.out]
  clear hl
  go_enter Try.func13, Try.ntmps13
  go_wp2
  go_loop [5] (fun i => ∃ k : Nat, k ≤ 16 ∧ i = .int .i64 (k : Int) ∧ Hid (leastN l (16 - k) k = v)) (fun i => 16 - (intOf i).toNat)
  case atStart => exact ⟨0, Nat.zero_le _, rfl, HV⟩
  case round =>
    obtain ⟨k, hk, rfl, HR⟩ := hrel
    by_cases hlt : k < 16
    · have hc := (HB.out.at_ k).trans (vec_get l k (by rw [HL.out]; omega))
      have hs : leastN l (16 - k) k = if at32 l k = 0 then leastN l (16 - (k + 1)) (k + 1) else .tuple #[.int .i64 ((k : Int) + 1), .bool true] := by
        rw [show 16 - k = (16 - (k + 1)) + 1 by omega]; rfl
      by_cases h0 : at32 l k = 0
      · rw [u_zero h0] at hc
        have HN : Hid (leastN l (16 - (k + 1)) (k + 1) = v) := by show _ = _; rw [← HR.out, hs, if_pos h0]
        clear hs h0
        go_wp2
        go_round
        case rel => exact ⟨k + 1, by omega, by go_num, HN⟩
        case measure => simp [intOf]; omega
      · have hp := u_some h0
        have HN : Hid (v = .tuple #[.int .i64 ((k : Int) + 1), .bool true]) := by show _ = _; rw [← HR.out, hs, if_neg h0]
        clear hs h0
        go_wp2
        go_ret2
        exact ⟨by rw [HN.out]; rfl, (Below.refl _ _).alloc (Nat.le_refl _) _⟩
    · obtain rfl : k = 16 := by omega
      go_wp2
      go_ret2
      exact ⟨by rw [← HR.out]; rfl, (Below.refl _ _).alloc (Nat.le_refl _) _⟩
set_option maxHeartbeats 400000 in
theorem rleast_any (l : List (BitVec 32)) (hl : l.length = 16) (w : World) :
    Calls Try.prog 14 #[.agg (vec l)] w fun e w' => e = .returned (leastN l 16 0) ∧ Below w.heap.size w w' := by
  have HB : Hid (Has (w.alloc (.cells (vec l) 24)) w.heap.size 24 (vec l)) := Has.fresh w 24 (vec l)
  have HL := hid hl
  obtain ⟨v, HV⟩ : ∃ v, Hid (leastN l 16 0 = v) := ⟨_, rfl⟩
  rw [HV.out]
  clear hl
  go_enter Try.func14, Try.ntmps14
  go_wp2
  go_loop [4] (fun i => ∃ k : Nat, k ≤ 16 ∧ i = .int .i64 (k : Int) ∧ Hid (leastN l (16 - k) k = v)) (fun i => 16 - (intOf i).toNat)
  case atStart => exact ⟨0, Nat.zero_le _, rfl, HV⟩
  case round =>
    obtain ⟨k, hk, rfl, HR⟩ := hrel
    by_cases hlt : k < 16
    · have hc := (HB.out.at_ k).trans (vec_get l k (by rw [HL.out]; omega))
      have hs : leastN l (16 - k) k = if at32 l k = 0 then leastN l (16 - (k + 1)) (k + 1) else .tuple #[.int .i64 ((k : Int) + 1), .bool true] := by
        rw [show 16 - k = (16 - (k + 1)) + 1 by omega]; rfl
      by_cases h0 : at32 l k = 0
      · rw [u_zero h0] at hc
        have HN : Hid (leastN l (16 - (k + 1)) (k + 1) = v) := by show _ = _; rw [← HR.out, hs, if_pos h0]
        clear hs h0
        go_wp2
        go_round
        case rel => exact ⟨k + 1, by omega, by go_num, HN⟩
        case measure => simp [intOf]; omega
      · have hp := u_some h0
        have hp2 : ¬ u (at32 l k) = 0 := by omega
        have HN : Hid (v = .tuple #[.int .i64 ((k : Int) + 1), .bool true]) := by show _ = _; rw [← HR.out, hs, if_neg h0]
        clear hs h0 hp
        go_wp2
        go_ret2
        exact ⟨by rw [HN.out]; rfl, (Below.refl _ _).alloc (Nat.le_refl _) _⟩
    · obtain rfl : k = 16 := by omega
      go_wp2
      go_ret2
      exact ⟨by rw [← HR.out]; rfl, (Below.refl _ _).alloc (Nat.le_refl _) _⟩
end Go.Proofs.Ytmmbnobbpnndkaa
