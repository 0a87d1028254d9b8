/- The document's digest: prime, Primes, the two tables (caravanref01). No conditions. -/
import Derived.Test.YtoeomghebgbniaaDoorZA
import Derived.Test.YtoeomghebgbniaaDoorSD
import Derived.Laws.AppendOwn
import Derived.Maps.AppendAt
namespace Go.Proofs.YtoeomghebgbniaaDoor
open Go.RowKit
def primeN (n : Nat) : Bool := (List.range 33).all fun e => decide (e < 2) || decide (n < e * e) || !decide (n % e = 0)
theorem primeYtoeomghebgbniaaDoorno {n d : Nat} (h1 : 2 ≤ d) (h2 : d * d ≤ n) (h3 : d < 33) (h : n % d = 0) : primeN n = false := by
  rw [primeN, List.all_eq_false]
  refine ⟨d, List.mem_range.2 h3, ?_⟩
  simp [h]; omega
theorem primeYtoeomghebgbniaaDooryes {n d : Nat} (h2 : n < d * d) (h : ∀ e, 2 ≤ e → e < d → n % e ≠ 0) : primeN n = true := by
  rw [primeN, List.all_eq_true]
  intro e _
  by_cases h1 : e < 2
  · simp [h1]
  · by_cases h3 : e < d
    · simp [h e (by omega) h3]
    · have : n < e * e := Nat.lt_of_lt_of_le h2 (Nat.mul_le_mul (by omega) (by omega))
      simp [this]
set_option maxRecDepth 100000 in
set_option maxHeartbeats 400000 in
theorem prime_any (n : Nat) (h2 : 2 ≤ n) (h3 : n < 1000) (w : World) : Calls Tryd.prog 59 #[.int .u64 (n : Int)] w fun e w' => e = .returned (.bool (primeN n)) ∧ w = w' := by
  have h1 : (1 : Int) < (n : Int) := by omega
  go_enter Tryd.func59, Tryd.ntmps59
  go_wp2
  go_loopw [3] (fun v wr => ∃ d : Nat, v = .int .u64 (d : Int) ∧ 2 ≤ d ∧ d ≤ 33 ∧ Hid (∀ e, 2 ≤ e → e < d → n % e ≠ 0) ∧ w = wr) (fun v _ => 33 - (intOf v).toNat)
  case atStart => exact ⟨2, rfl, by omega, by omega, fun e _ _ => by omega, rfl⟩
  case round =>
    obtain ⟨d, rfl, hd, hd2, HD, rfl⟩ := hrel
    obtain ⟨z, HZ⟩ : ∃ z, Hid (d * d = z) := ⟨_, rfl⟩
    have hz : z < 2000 := by rw [← HZ.out]; exact Nat.lt_of_le_of_lt (Nat.mul_le_mul hd2 hd2) (by decide)
    have w1 : IntKind.u64.wrap ((d : Int) * (d : Int)) = (z : Int) := by
      have := wrapM z
      rw [Nat.mod_eq_of_lt (Nat.lt_trans hz (by decide)), ← HZ.out] at this
      rw [← HZ.out, ← this]; congr 1
    obtain ⟨m, HM⟩ : ∃ m, Hid (n % d = m) := ⟨_, rfl⟩
    have w2 : (n : Int) % (d : Int) = (m : Int) := by rw [← HM.out]; rfl
    have w3 : (n : Int).tmod (d : Int) = (m : Int) := by rw [Int.tmod_eq_emod_of_nonneg (by omega)]; exact w2
    by_cases c : z ≤ n
    · have c1 : (z : Int) ≤ (n : Int) := by omega
      have hd33 : d < 33 := by
        have := HZ.out
        rcases Nat.lt_or_ge d 33 with h | h
        · exact h
        · have := Nat.mul_le_mul h h; omega
      by_cases hm : m = 0
      · subst hm
        have HV : Hid (primeN n = false) := primeYtoeomghebgbniaaDoorno hd (by rw [HZ.out]; exact c) hd33 HM.out
        go_wp2
        go_ret
        exact ⟨ret_bool HV.out.symm, rfl⟩
      · have t1 : ((m : Int) == 0) = false := by simp; omega
        have HD2 : Hid (∀ e, 2 ≤ e → e < d + 1 → n % e ≠ 0) := fun e h4 h5 => by
          rcases Nat.lt_or_ge e d with h | h
          · exact HD.out e h4 h
          · obtain rfl : e = d := by omega
            rw [HM.out]; exact hm
        clear hm
        have w4 : IntKind.u64.wrap ((d : Int) + 1) = ((d + 1 : Nat) : Int) := by
          have := wrapM (d + 1)
          rw [Nat.mod_eq_of_lt (Nat.lt_trans (show d + 1 < 40 by omega) (by decide))] at this
          rw [← this]; congr 1
        go_wp2
        go_roundw
        case rel => exact ⟨d + 1, by go_num, by omega, by omega, HD2, trivial⟩
        case measure => simp [intOf]; omega
    · have c1 : ¬ (z : Int) ≤ (n : Int) := by omega
      have HV : Hid (primeN n = true) := primeYtoeomghebgbniaaDooryes (by rw [HZ.out]; omega) HD.out
      go_wp2
      go_ret
      exact ⟨ret_bool HV.out.symm, rfl⟩
/-- The primes below a number. -/
def pl (n : Nat) : List Nat := (List.range' 2 (n - 2)).filter primeN
def first64 : List Nat := [2, 3, 5, 7, 11, 13, 17, 19, 23, 29, 31, 37, 41, 43, 47, 53, 59, 61, 67, 71, 73, 79, 83, 89, 97, 101, 103, 107, 109, 113, 127, 131, 137, 139, 149, 151, 157, 163, 167, 173, 179, 181, 191, 193, 197, 199, 211, 223, 227, 229, 233, 239, 241, 251, 257, 263, 269, 271, 277, 281, 283, 293, 307, 311]
theorem pl_all : pl 312 = first64 := by decide +kernel
theorem pl_next (n : Nat) (h : 2 ≤ n) : pl (n + 1) = pl n ++ if primeN n then [n] else [] := by
  have e : n + 1 - 2 = (n - 2) + 1 := by omega
  rw [pl, pl, e, List.range'_concat, List.filter_append]
  congr 1
  have e2 : 2 + 1 * (n - 2) = n := by omega
  rw [e2]
  cases hp : primeN n <;> simp [hp]
theorem pl_short : ∀ n, n < 312 → (pl n).length < 64 := by decide +kernel
theorem cube_table : first64.map (fun p => cuUp p 36 % 4294967296) = Sha.kList.map BitVec.toNat := by decide +kernel
theorem square_table : (first64.take 8).map (fun p => sqUp p 37 % 4294967296) = [0x6a09e667, 0xbb67ae85, 0x3c6ef372, 0xa54ff53a, 0x510e527f, 0x9b05688c, 0x1f83d9ab, 0x5be0cd19] := by decide +kernel
end Go.Proofs.YtoeomghebgbniaaDoor
