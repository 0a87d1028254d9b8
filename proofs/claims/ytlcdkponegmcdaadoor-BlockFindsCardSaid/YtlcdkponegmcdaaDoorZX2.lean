/- Several texts in one: PG, ZA, ZB, ZC, ZK, ZM, ZL. Conditions: those said at each. -/
import Derived.Test.YtlcdkponegmcdaaDoorBA
import Derived.Test.YtlcdkponegmcdaaDoorShelf
import Derived.Test.YtlcdkponegmcdaaDoorSD
import Derived.Laws.AppendOwn
import Derived.Maps.AppendAt
import Derived.Test.YtlcdkponegmcdaaDoorZX1
import Derived.Test.YtlcdkponegmcdaaDoorSK
/- A stand-in: what the document's digest needs lies in BA here. No conditions. -/
namespace Go.Proofs.YtlcdkponegmcdaaDoor
open Go.RowKit
theorem ret_bool {a b : Bool} (h : a = b) : Ending.returned (.bool a) = .returned (.bool b) := by rw [h]
end Go.Proofs.YtlcdkponegmcdaaDoor
/- The document's digest: times, above, prime (caravanref01). Conditions: numbers of 64 bits. -/
namespace Go.Proofs.YtlcdkponegmcdaaDoor
open Go.RowKit
def M64 : Nat := 18446744073709551616
theorem wrapM (x : Nat) : IntKind.u64.wrap (x : Int) = ((x % M64 : Nat) : Int) := by
  simp [IntKind.wrap, IntKind.signed, IntKind.bits, M64]
def timesN (hi lo x : Nat) : Nat × Nat := ((lo * x / M64 + hi * x % M64) % M64, lo * x % M64)
def aboveN (hi lo n b : Nat) : Bool := decide (n * 2 ^ b % M64 < hi) || (decide (hi = n * 2 ^ b % M64) && decide (0 < lo))
theorem mul64_any (x y : Nat) (hx : x < M64) (hy : y < M64) (w : World) : Calls Tryd.prog 62 #[.int .u64 (x : Int), .int .u64 (y : Int)] w fun e w' => e = .returned (.tuple #[.int .u64 ((x * y / M64 : Nat) : Int), .int .u64 ((x * y % M64 : Nat) : Int)]) ∧ w = w' :=
  (Tryd.bits_Mul64 x y hx hy w).mono fun _ _ ⟨a, b⟩ => ⟨a, b.symm⟩
set_option maxRecDepth 100000 in
set_option maxHeartbeats 400000 in
theorem times_any (hi lo x : Nat) (_h1 : hi < M64) (h2 : lo < M64) (h3 : x < M64) (w : World) :
    Calls Tryd.prog 56 #[.int .u64 (hi : Int), .int .u64 (lo : Int), .int .u64 (x : Int)] w fun e w' => e = .returned (.tuple #[.int .u64 ((timesN hi lo x).1 : Int), .int .u64 ((timesN hi lo x).2 : Int)]) ∧ w = w' := by
  obtain ⟨q, HQ⟩ : ∃ q, Hid (lo * x / M64 = q) := ⟨_, rfl⟩
  obtain ⟨r, HR⟩ : ∃ r, Hid (lo * x % M64 = r) := ⟨_, rfl⟩
  have HC : Hid (∀ W, Calls Tryd.prog 62 #[.int .u64 (lo : Int), .int .u64 (x : Int)] W fun e w' => e = .returned (.tuple #[.int .u64 (q : Int), .int .u64 (r : Int)]) ∧ W = w') := by
    intro W; rw [← HQ.out, ← HR.out]; exact mul64_any lo x h2 h3 W
  obtain ⟨m, HM⟩ : ∃ m, Hid (hi * x % M64 = m) := ⟨_, rfl⟩
  obtain ⟨t, HT⟩ : ∃ t, Hid ((q + m) % M64 = t) := ⟨_, rfl⟩
  have HV : Hid (timesN hi lo x = (t, r)) := by show _ = _; rw [timesN, HQ.out, HR.out, HM.out, HT.out]
  have w1 : IntKind.u64.wrap ((hi : Int) * (x : Int)) = (m : Int) := by rw [← HM.out, ← wrapM]; congr 1
  have w2 : IntKind.u64.wrap ((q : Int) + (m : Int)) = (t : Int) := by rw [← HT.out, ← wrapM]; congr 1
  clear h2 h3
  go_enter Tryd.func56, Tryd.ntmps56
  go_wp2_with (go_at_call 62; refine (HC.out _).mono ?_; rintro e1 w1 ⟨rfl, rfl⟩)
  go_ret2
  exact ⟨by rw [HV.out]; rfl, rfl⟩
theorem timesYtlcdkponegmcdaaDoorlt (hi lo x : Nat) : (timesN hi lo x).1 < M64 ∧ (timesN hi lo x).2 < M64 := ⟨Nat.mod_lt _ (by decide), Nat.mod_lt _ (by decide)⟩
set_option maxRecDepth 100000 in
set_option maxHeartbeats 400000 in
theorem above_any (hi lo n b : Nat) (h4 : b < 64) (w : World) :
    Calls Tryd.prog 57 #[.int .u64 (hi : Int), .int .u64 (lo : Int), .int .u64 (n : Int), .int .i64 (b : Int)] w fun e w' => e = .returned (.bool (aboveN hi lo n b)) ∧ w = w' := by
  obtain ⟨z, HZ⟩ : ∃ z, Hid (n * 2 ^ b % M64 = z) := ⟨_, rfl⟩
  have w1 : IntKind.u64.wrap ((n : Int) * 2 ^ b) = (z : Int) := by rw [← HZ.out, ← wrapM]; congr 1
  have HV : Hid (aboveN hi lo n b = (decide (z < hi) || (decide (hi = z) && decide (0 < lo)))) := by show _ = _; rw [aboveN, HZ.out]
  rcases Nat.lt_trichotomy z hi with c | c | c
  · have t1 : decide (z < hi) = true := by simp [c]
    have HV2 : Hid (aboveN hi lo n b = true) := by show _ = _; rw [HV.out]; simp [c]
    clear HV c
    go_enter Tryd.func57, Tryd.ntmps57
    go_wp2
    go_ret
    exact ⟨ret_bool HV2.out.symm, rfl⟩
  · subst c
    by_cases hl : 0 < lo
    · have t1 : (0 : Int) < (lo : Int) := by omega
      have HV2 : Hid (aboveN z lo n b = true) := by show _ = _; rw [HV.out]; simp [hl]
      clear HV
      go_enter Tryd.func57, Tryd.ntmps57
      go_wp2
      go_ret
      exact ⟨ret_bool (by rw [HV2.out]), rfl⟩
    · have t1 : ¬ (0 : Int) < (lo : Int) := by omega
      have HV2 : Hid (aboveN z lo n b = false) := by show _ = _; rw [HV.out]; simp; omega
      clear HV
      go_enter Tryd.func57, Tryd.ntmps57
      go_wp2
      go_ret
      exact ⟨ret_bool (by rw [HV2.out]), rfl⟩
  · have t1 : decide (z < hi) = false := by simp; omega
    have t2 : ((hi : Int) == (z : Int)) = false := by simp; omega
    have HV2 : Hid (aboveN hi lo n b = false) := by show _ = _; rw [HV.out]; simp; omega
    clear HV c
    go_enter Tryd.func57, Tryd.ntmps57
    go_wp2
    go_ret
    exact ⟨ret_bool HV2.out.symm, rfl⟩
theorem ret_u32 {a b : Int} (h : a = b) : Ending.returned (.int .u32 a) = .returned (.int .u32 b) := by rw [h]
def sqStep (p r b : Nat) : Nat := let x := (r + 2 ^ b) % M64; let t := timesN 0 x x; if aboveN t.1 t.2 p 0 then r else x
def sqUp (p : Nat) : Nat → Nat
  | 0 => 0
  | k + 1 => sqStep p (sqUp p k) (36 - k)
set_option maxRecDepth 100000 in
set_option maxHeartbeats 400000 in
theorem square_any (p : Nat) (_hp : p < 1000) (w : World) : Calls Tryd.prog 39 #[.int .u64 (p : Int)] w fun e w' => e = .returned (.int .u32 ((sqUp p 37 % 4294967296 : Nat) : Int)) ∧ w = w' := by
  go_enter Tryd.func39, Tryd.ntmps39
  go_wp2
  go_loopw [3, 4] (fun v i wr => ∃ (k r : Nat) (q : Int), k ≤ 37 ∧ v = .int .u64 (r : Int) ∧ i = .int .i64 q ∧ Hid (q = 36 - (k : Int)) ∧ Hid (r = sqUp p k) ∧ r < M64 ∧ w = wr) (fun _ i _ => (intOf i + 1).toNat)
  case atStart => exact ⟨0, 0, 36, by omega, rfl, rfl, rfl, rfl, by decide, rfl⟩
  case round =>
    obtain ⟨k, r, q, hk, rfl, rfl, HQ, HR, hr, rfl⟩ := hrel
    by_cases hlt : k < 37
    · obtain ⟨b, rfl⟩ : ∃ b : Nat, q = (b : Int) := ⟨36 - k, by have := HQ.out; omega⟩
      have hb0 : (0 : Int) ≤ (b : Int) := by omega
      have hb1 : (b : Int) ≤ 36 := by have := HQ.out; omega
      obtain ⟨x, HX⟩ : ∃ x, Hid ((r + 2 ^ b) % M64 = x) := ⟨_, rfl⟩
      have hx : x < M64 := by rw [← HX.out]; exact Nat.mod_lt _ (by decide)
      obtain ⟨e, HE⟩ : ∃ e : Nat, Hid (2 ^ b = e) := ⟨_, rfl⟩
      have he : e < M64 := by rw [← HE.out]; exact Nat.lt_of_le_of_lt (Nat.pow_le_pow_right (by omega) (show b ≤ 36 by omega)) (by decide)
      have w1 : IntKind.u64.wrap (2 ^ b) = (e : Int) := by
        have := wrapM e
        rw [Nat.mod_eq_of_lt he, ← HE.out] at this
        rw [← HE.out, ← this]; congr 1
      have w2 : IntKind.u64.wrap ((r : Int) + (e : Int)) = (x : Int) := by rw [← HX.out, HE.out, ← wrapM]; congr 1
      obtain ⟨h, l, HT⟩ : ∃ h l, Hid (timesN 0 x x = (h, l)) := ⟨_, _, rfl⟩
      obtain ⟨v, HA⟩ : ∃ v, Hid (aboveN h l p 0 = v) := ⟨_, rfl⟩
      have C1 : Hid (∀ W, Calls Tryd.prog 56 #[.int .u64 0, .int .u64 (x : Int), .int .u64 (x : Int)] W fun e w' => e = .returned (.tuple #[.int .u64 (h : Int), .int .u64 (l : Int)]) ∧ W = w') := by
        intro W; have := times_any 0 x x (by decide) hx hx W; rw [HT.out] at this; exact this
      have C2 : Hid (∀ W, Calls Tryd.prog 57 #[.int .u64 (h : Int), .int .u64 (l : Int), .int .u64 (p : Int), .int .i64 0] W fun e w' => e = .returned (.bool v) ∧ W = w') := by
        intro W; have := above_any h l p 0 (by omega) W; rw [HA.out] at this; exact this
      have HS : Hid (sqUp p (k + 1) = if v then r else x) := by
        have hq := HQ.out
        show sqStep p (sqUp p k) (36 - k) = _
        rw [← HR.out, show 36 - k = b by omega, sqStep, HX.out]
        simp only [HT.out, HA.out]
      clear he
      cases v with
      | true =>
        have HS2 : Hid (r = sqUp p (k + 1)) := by show _ = _; rw [HS.out]; rfl
        go_wp2_with fail
        refine (C1.out _).mono ?_; rintro e1 w1 ⟨rfl, rfl⟩
        go_wp2_with fail
        refine (C2.out _).mono ?_; rintro e2 w2 ⟨rfl, rfl⟩
        go_wp2
        go_roundw
        case rel => exact ⟨k + 1, r, _, by omega, rfl, rfl, by show _ = _; have := HQ.out; omega, HS2, hr, trivial⟩
        case measure => simp [intOf]
      | false =>
        have HS2 : Hid (x = sqUp p (k + 1)) := by show _ = _; rw [HS.out]; rfl
        go_wp2_with fail
        refine (C1.out _).mono ?_; rintro e1 w1 ⟨rfl, rfl⟩
        go_wp2_with fail
        refine (C2.out _).mono ?_; rintro e2 w2 ⟨rfl, rfl⟩
        go_wp2
        go_roundw
        case rel => exact ⟨k + 1, x, _, by omega, rfl, rfl, by show _ = _; have := HQ.out; omega, HS2, hx, trivial⟩
        case measure => simp [intOf]
    · obtain rfl : k = 37 := by omega
      have hq : q < 0 := by have := HQ.out; omega
      have HV : Hid (IntKind.u32.wrap (r : Int) = ((sqUp p 37 % 4294967296 : Nat) : Int)) := by
        show _ = _; rw [HR.out]; simp [IntKind.wrap, IntKind.signed, IntKind.bits]
      go_wp2
      go_ret
      exact ⟨ret_u32 HV.out, rfl⟩
def cuStep (p r b : Nat) : Nat := let x := (r + 2 ^ b) % M64; let t := timesN 0 x x; let t := timesN t.1 t.2 x; if aboveN t.1 t.2 p 32 then r else x
def cuUp (p : Nat) : Nat → Nat
  | 0 => 0
  | k + 1 => cuStep p (cuUp p k) (35 - k)
set_option maxRecDepth 100000 in
set_option maxHeartbeats 400000 in
theorem cube_any (p : Nat) (_hp : p < 1000) (w : World) : Calls Tryd.prog 38 #[.int .u64 (p : Int)] w fun e w' => e = .returned (.int .u32 ((cuUp p 36 % 4294967296 : Nat) : Int)) ∧ w = w' := by
  go_enter Tryd.func38, Tryd.ntmps38
  go_wp2
  go_loopw [3, 4] (fun v i wr => ∃ (k r : Nat) (q : Int), k ≤ 36 ∧ v = .int .u64 (r : Int) ∧ i = .int .i64 q ∧ Hid (q = 35 - (k : Int)) ∧ Hid (r = cuUp p k) ∧ r < M64 ∧ w = wr) (fun _ i _ => (intOf i + 1).toNat)
  case atStart => exact ⟨0, 0, 35, by omega, rfl, rfl, rfl, rfl, by decide, rfl⟩
  case round =>
    obtain ⟨k, r, q, hk, rfl, rfl, HQ, HR, hr, rfl⟩ := hrel
    by_cases hlt : k < 36
    · obtain ⟨b, rfl⟩ : ∃ b : Nat, q = (b : Int) := ⟨35 - k, by have := HQ.out; omega⟩
      have hb0 : (0 : Int) ≤ (b : Int) := by omega
      have hb1 : (b : Int) ≤ 35 := by have := HQ.out; omega
      obtain ⟨x, HX⟩ : ∃ x, Hid ((r + 2 ^ b) % M64 = x) := ⟨_, rfl⟩
      have hx : x < M64 := by rw [← HX.out]; exact Nat.mod_lt _ (by decide)
      obtain ⟨e, HE⟩ : ∃ e : Nat, Hid (2 ^ b = e) := ⟨_, rfl⟩
      have he : e < M64 := by rw [← HE.out]; exact Nat.lt_of_le_of_lt (Nat.pow_le_pow_right (by omega) (show b ≤ 35 by omega)) (by decide)
      have w1 : IntKind.u64.wrap (2 ^ b) = (e : Int) := by
        have := wrapM e
        rw [Nat.mod_eq_of_lt he, ← HE.out] at this
        rw [← HE.out, ← this]; congr 1
      have w2 : IntKind.u64.wrap ((r : Int) + (e : Int)) = (x : Int) := by rw [← HX.out, HE.out, ← wrapM]; congr 1
      obtain ⟨h0, l0, HT0⟩ : ∃ h l, Hid (timesN 0 x x = (h, l)) := ⟨_, _, rfl⟩
      obtain ⟨h, l, HT⟩ : ∃ h l, Hid (timesN h0 l0 x = (h, l)) := ⟨_, _, rfl⟩
      have hh : h0 < M64 := by have := (timesYtlcdkponegmcdaaDoorlt 0 x x).1; rw [HT0.out] at this; exact this
      have hl : l0 < M64 := by have := (timesYtlcdkponegmcdaaDoorlt 0 x x).2; rw [HT0.out] at this; exact this
      obtain ⟨v, HA⟩ : ∃ v, Hid (aboveN h l p 32 = v) := ⟨_, rfl⟩
      have C0 : Hid (∀ W, Calls Tryd.prog 56 #[.int .u64 0, .int .u64 (x : Int), .int .u64 (x : Int)] W fun e w' => e = .returned (.tuple #[.int .u64 (h0 : Int), .int .u64 (l0 : Int)]) ∧ W = w') := by
        intro W; have := times_any 0 x x (by decide) hx hx W; rw [HT0.out] at this; exact this
      have C1 : Hid (∀ W, Calls Tryd.prog 56 #[.int .u64 (h0 : Int), .int .u64 (l0 : Int), .int .u64 (x : Int)] W fun e w' => e = .returned (.tuple #[.int .u64 (h : Int), .int .u64 (l : Int)]) ∧ W = w') := by
        intro W; have := times_any h0 l0 x hh hl hx W; rw [HT.out] at this; exact this
      have C2 : Hid (∀ W, Calls Tryd.prog 57 #[.int .u64 (h : Int), .int .u64 (l : Int), .int .u64 (p : Int), .int .i64 32] W fun e w' => e = .returned (.bool v) ∧ W = w') := by
        intro W; have := above_any h l p 32 (by omega) W; rw [HA.out] at this; exact this
      have HS : Hid (cuUp p (k + 1) = if v then r else x) := by
        have hq := HQ.out
        show cuStep p (cuUp p k) (35 - k) = _
        rw [← HR.out, show 35 - k = b by omega, cuStep, HX.out]
        simp only [HT0.out, HT.out, HA.out]
      clear he hh hl
      cases v with
      | true =>
        have HS2 : Hid (r = cuUp p (k + 1)) := by show _ = _; rw [HS.out]; rfl
        go_wp2_with fail
        refine (C0.out _).mono ?_; rintro e0 w0 ⟨rfl, rfl⟩
        go_wp2_with fail
        refine (C1.out _).mono ?_; rintro e1 w1 ⟨rfl, rfl⟩
        go_wp2_with fail
        refine (C2.out _).mono ?_; rintro e2 w2 ⟨rfl, rfl⟩
        go_wp2
        go_roundw
        case rel => exact ⟨k + 1, r, _, by omega, rfl, rfl, by show _ = _; have := HQ.out; omega, HS2, hr, trivial⟩
        case measure => simp [intOf]
      | false =>
        have HS2 : Hid (x = cuUp p (k + 1)) := by show _ = _; rw [HS.out]; rfl
        go_wp2_with fail
        refine (C0.out _).mono ?_; rintro e0 w0 ⟨rfl, rfl⟩
        go_wp2_with fail
        refine (C1.out _).mono ?_; rintro e1 w1 ⟨rfl, rfl⟩
        go_wp2_with fail
        refine (C2.out _).mono ?_; rintro e2 w2 ⟨rfl, rfl⟩
        go_wp2
        go_roundw
        case rel => exact ⟨k + 1, x, _, by omega, rfl, rfl, by show _ = _; have := HQ.out; omega, HS2, hx, trivial⟩
        case measure => simp [intOf]
    · obtain rfl : k = 36 := by omega
      have hq : q < 0 := by have := HQ.out; omega
      have HV : Hid (IntKind.u32.wrap (r : Int) = ((cuUp p 36 % 4294967296 : Nat) : Int)) := by
        show _ = _; rw [HR.out]; simp [IntKind.wrap, IntKind.signed, IntKind.bits]
      go_wp2
      go_ret
      exact ⟨ret_u32 HV.out, rfl⟩
end Go.Proofs.YtlcdkponegmcdaaDoor
/- The document's digest: prime, Primes, the two tables (caravanref01). No conditions. -/
namespace Go.Proofs.YtlcdkponegmcdaaDoor
open Go.RowKit
def primeN (n : Nat) : Bool := (List.range 33).all fun e => decide (e < 2) || decide (n < e * e) || !decide (n % e = 0)
theorem primeYtlcdkponegmcdaaDoorno {n d : Nat} (h1 : 2 ≤ d) (h2 : d * d ≤ n) (h3 : d < 33) (h : n % d = 0) : primeN n = false := by
  rw [primeN, List.all_eq_false]
  refine ⟨d, List.mem_range.2 h3, ?_⟩
  simp [h]; omega
theorem primeYtlcdkponegmcdaaDooryes {n d : Nat} (h2 : n < d * d) (h : ∀ e, 2 ≤ e → e < d → n % e ≠ 0) : primeN n = true := by
  rw [primeN, List.all_eq_true]
  intro e _
  by_cases h1 : e < 2
  · simp [h1]
  · by_cases h3 : e < d
    · simp [h e (by omega) h3]
    · have : n < e * e := Nat.lt_of_lt_of_le h2 (Nat.mul_le_mul (by omega) (by omega))
      simp [this]
set_option maxRecDepth 100000 in
set_option maxHeartbeats 400000 in
theorem prime_any (n : Nat) (h2 : 2 ≤ n) (h3 : n < 1000) (w : World) : Calls Tryd.prog 55 #[.int .u64 (n : Int)] w fun e w' => e = .returned (.bool (primeN n)) ∧ w = w' := by
  have h1 : (1 : Int) < (n : Int) := by omega
  go_enter Tryd.func55, Tryd.ntmps55
  go_wp2
  go_loopw [3] (fun v wr => ∃ d : Nat, v = .int .u64 (d : Int) ∧ 2 ≤ d ∧ d ≤ 33 ∧ Hid (∀ e, 2 ≤ e → e < d → n % e ≠ 0) ∧ w = wr) (fun v _ => 33 - (intOf v).toNat)
  case atStart => exact ⟨2, rfl, by omega, by omega, fun e _ _ => by omega, rfl⟩
  case round =>
    obtain ⟨d, rfl, hd, hd2, HD, rfl⟩ := hrel
    obtain ⟨z, HZ⟩ : ∃ z, Hid (d * d = z) := ⟨_, rfl⟩
    have hz : z < 2000 := by rw [← HZ.out]; exact Nat.lt_of_le_of_lt (Nat.mul_le_mul hd2 hd2) (by decide)
    have w1 : IntKind.u64.wrap ((d : Int) * (d : Int)) = (z : Int) := by
      have := wrapM z
      rw [Nat.mod_eq_of_lt (Nat.lt_trans hz (by decide)), ← HZ.out] at this
      rw [← HZ.out, ← this]; congr 1
    obtain ⟨m, HM⟩ : ∃ m, Hid (n % d = m) := ⟨_, rfl⟩
    have w2 : (n : Int) % (d : Int) = (m : Int) := by rw [← HM.out]; rfl
    have w3 : (n : Int).tmod (d : Int) = (m : Int) := by rw [Int.tmod_eq_emod_of_nonneg (by omega)]; exact w2
    by_cases c : z ≤ n
    · have c1 : (z : Int) ≤ (n : Int) := by omega
      have hd33 : d < 33 := by
        have := HZ.out
        rcases Nat.lt_or_ge d 33 with h | h
        · exact h
        · have := Nat.mul_le_mul h h; omega
      by_cases hm : m = 0
      · subst hm
        have HV : Hid (primeN n = false) := primeYtlcdkponegmcdaaDoorno hd (by rw [HZ.out]; exact c) hd33 HM.out
        go_wp2
        go_ret
        exact ⟨ret_bool HV.out.symm, rfl⟩
      · have t1 : ((m : Int) == 0) = false := by simp; omega
        have HD2 : Hid (∀ e, 2 ≤ e → e < d + 1 → n % e ≠ 0) := fun e h4 h5 => by
          rcases Nat.lt_or_ge e d with h | h
          · exact HD.out e h4 h
          · obtain rfl : e = d := by omega
            rw [HM.out]; exact hm
        clear hm
        have w4 : IntKind.u64.wrap ((d : Int) + 1) = ((d + 1 : Nat) : Int) := by
          have := wrapM (d + 1)
          rw [Nat.mod_eq_of_lt (Nat.lt_trans (show d + 1 < 40 by omega) (by decide))] at this
          rw [← this]; congr 1
        go_wp2
        go_roundw
        case rel => exact ⟨d + 1, by go_num, by omega, by omega, HD2, trivial⟩
        case measure => simp [intOf]; omega
    · have c1 : ¬ (z : Int) ≤ (n : Int) := by omega
      have HV : Hid (primeN n = true) := primeYtlcdkponegmcdaaDooryes (by rw [HZ.out]; omega) HD.out
      go_wp2
      go_ret
      exact ⟨ret_bool HV.out.symm, rfl⟩
/-- The primes below a number. -/
def pl (n : Nat) : List Nat := (List.range' 2 (n - 2)).filter primeN
def first64 : List Nat := [2, 3, 5, 7, 11, 13, 17, 19, 23, 29, 31, 37, 41, 43, 47, 53, 59, 61, 67, 71, 73, 79, 83, 89, 97, 101, 103, 107, 109, 113, 127, 131, 137, 139, 149, 151, 157, 163, 167, 173, 179, 181, 191, 193, 197, 199, 211, 223, 227, 229, 233, 239, 241, 251, 257, 263, 269, 271, 277, 281, 283, 293, 307, 311]
theorem pl_all : pl 312 = first64 := by decide +kernel
theorem pl_next (n : Nat) (h : 2 ≤ n) : pl (n + 1) = pl n ++ if primeN n then [n] else [] := by
  have e : n + 1 - 2 = (n - 2) + 1 := by omega
  rw [pl, pl, e, List.range'_concat, List.filter_append]
  congr 1
  have e2 : 2 + 1 * (n - 2) = n := by omega
  rw [e2]
  cases hp : primeN n <;> simp [hp]
theorem pl_short : ∀ n, n < 312 → (pl n).length < 64 := by decide +kernel
theorem cube_table : first64.map (fun p => cuUp p 36 % 4294967296) = Sha.kList.map BitVec.toNat := by decide +kernel
theorem square_table : (first64.take 8).map (fun p => sqUp p 37 % 4294967296) = [0x6a09e667, 0xbb67ae85, 0x3c6ef372, 0xa54ff53a, 0x510e527f, 0x9b05688c, 0x1f83d9ab, 0x5be0cd19] := by decide +kernel
end Go.Proofs.YtlcdkponegmcdaaDoor
/- The document's digest: Primes (caravanref01). No conditions. -/
namespace Go.Proofs.YtlcdkponegmcdaaDoor
open Go.RowKit
def V64 (n : Nat) : Value := .int .u64 (n : Int)
theorem infoU64 : (Tryd.prog.info? 79).map (fun i => (i.zero, i.size, i.bytes)) = some (some (.int .u64 0), 1, 8) := by kernel_rfl
theorem one_V64 (n : Nat) : ∀ u ∈ [Value.int .u64 (n : Int)], u.oneCell' = true := by
  intro u hu
  rw [List.mem_singleton] at hu
  subst hu; rfl
set_option maxRecDepth 100000 in
set_option maxHeartbeats 400000 in
theorem primes_any (w : World) : Calls Tryd.prog 37 #[.int .i64 64] w fun e w' => ∃ v, e = .returned v ∧ w'.ownsRow w.heap.size 79 1 v 64 (first64.map V64) ∧ Below w.heap.size w w' := by
  obtain ⟨i0, hi, hz0, hz1, hz2⟩ := info_parts infoU64
  go_enter Tryd.func37, Tryd.ntmps37
  go_wp2
  go_loopw [3, 4] (fun v nv wr => ∃ (n m : Nat), nv = .int .u64 (n : Int) ∧ 2 ≤ n ∧ n ≤ 312 ∧ m ≤ 64 ∧ Hid ((pl n).length = m) ∧ Hid (wr.ownsRow w.heap.size 79 1 v m ((pl n).map V64)) ∧ Hid (Below w.heap.size w wr))
    (fun _ nv _ => 312 - (intOf nv).toNat)
  case atStart => exact ⟨2, 0, rfl, by omega, by omega, by omega, rfl, World.ownsRow_nil _ _ _ _, Below.refl _ _⟩
  case round =>
    obtain ⟨n, m, rfl, hn, hn2, hm, HM, HO, HB⟩ := hrel
    have hlen : ∃ A c, u3 = .slice A m c := by
      rcases HO.out.2 with ⟨rfl, h⟩ | ⟨g, c, _, rfl, _⟩
      · exact ⟨none, 0, by rw [h]⟩
      · exact ⟨_, _, rfl⟩
    obtain ⟨A, c, rfl⟩ := hlen
    by_cases hlt : n < 312
    · have hm2 : m < 64 := by rw [← HM.out]; exact pl_short n hlt
      have hm3 : (m : Int) < 64 := by omega
      have w4 : IntKind.u64.wrap ((n : Int) + 1) = ((n + 1 : Nat) : Int) := by
        have := wrapM (n + 1)
        rw [Nat.mod_eq_of_lt (Nat.lt_trans (show n + 1 < 400 by omega) (by decide))] at this
        rw [← this]; congr 1
      have C := hid (fun W => prime_any n hn (by omega) W)
      cases hv : primeN n with
      | true =>
        rw [hv] at C
        have HP : Hid (pl (n + 1) = pl n ++ [n]) := by show _ = _; rw [pl_next n hn, hv]; rfl
        have N2 : Hid (m + 1 ≤ maxLen) := by show _ ≤ _; unfold maxLen; omega
        have N3 : Hid ((m + 1) * 8 ≤ 140737488355328) := by show _ ≤ _; omega
        have N4 : Hid (∀ o, w.heap.size ≤ (wr.alloc o).heap.size) := by intro o; have := HB.out.size; simp; omega
        clear hv
        go_wp2_with fail
        refine (C.out _).mono ?_; rintro e1 w1 ⟨rfl, rfl⟩
        go_wp2_with (at_builtin; refine wpList_append_own _ rfl _ _ 74 rfl w.heap.size 79 i0 (.int .u64 0) 1 8 Tryd.underlying74 hi hz0 hz1 hz2 rfl (by omega) _ _ _ rfl (HO.out.alloc _) ⟨wr.heap.size, 0, none⟩ 1 1 [Value.int .u64 (n : Int)] rfl rfl (cell_one_new _ _ _) (one_V64 n) N2.out N3.out (N4.out _) ?_; intro v' w1 hown' hgrow _)
        have HO2 : Hid (w1.ownsRow w.heap.size 79 1 v' (m + 1) ((pl (n + 1)).map V64)) := by
          rw [HP.out, List.map_append]; exact hown'
        have HM2 : Hid ((pl (n + 1)).length = m + 1) := by show _ = _; rw [HP.out, List.length_append, HM.out]; rfl
        have HB2 : Hid (Below w.heap.size w w1) :=
          ((HB.out.alloc HB.out.size _).grown hgrow (N4.out _) (fun g hg => by
            have := (HO.out.lt g hg).1; exact this))
        clear hown' hgrow
        go_wp2
        go_roundw
        case rel => exact ⟨n + 1, m + 1, rfl, by omega, by omega, by omega, HM2, HO2, HB2⟩
        case measure => simp [intOf]; omega
      | false =>
        rw [hv] at C
        have HP : Hid (pl (n + 1) = pl n) := by show _ = _; rw [pl_next n hn, hv]; simp
        have HO2 : Hid (wr.ownsRow w.heap.size 79 1 (.slice A m c) m ((pl (n + 1)).map V64)) := by
          rw [HP.out]; exact HO
        have HM2 : Hid ((pl (n + 1)).length = m) := by show _ = _; rw [HP.out]; exact HM.out
        clear hv
        go_wp2_with fail
        refine (C.out _).mono ?_; rintro e1 w1 ⟨rfl, rfl⟩
        go_wp2
        go_roundw
        case rel => exact ⟨n + 1, m, rfl, by omega, by omega, by omega, HM2, HO2, HB⟩
        case measure => simp [intOf]; omega
    · obtain rfl : n = 312 := by omega
      have e1 := HM.out
      rw [pl_all] at e1
      obtain rfl : m = 64 := e1.symm
      have HO2 := HO.out
      rw [pl_all] at HO2
      have HO3 := hid HO2
      clear HO2 HO HM e1
      go_wp2
      go_ret
      exact ⟨_, rfl, HO3.out, HB.out⟩
end Go.Proofs.YtlcdkponegmcdaaDoor
/- The document's digest: rows of words that grow, kept and written; the tables' roots by number. Plain, and facts on worlds. -/
namespace Go.Proofs.YtlcdkponegmcdaaDoor.Sha
open Go.RowKit
/-- Block g begins with these words. -/
def Row (w : World) (g : Nat) (l : List (BitVec 32)) : Prop := ∃ cur : Array Value, Has w g 77 cur ∧ cur.toList.take l.length = l.map V32
theorem Row.cell {w : World} {g : Nat} {l : List (BitVec 32)} (h : Row w g l) (i : Nat) (hi : i < l.length) : w.cell? ⟨g, i, none⟩ = some (.int .u32 (u (at32 l i))) := by
  obtain ⟨cur, h1, h2⟩ := h
  rw [h1.at_ i, ← Array.getElem?_toList]
  have : (cur.toList.take l.length)[i]? = (l.map V32)[i]? := by rw [h2]
  rw [List.getElem?_take, if_pos hi] at this
  rw [this, List.getElem?_map, List.getElem?_eq_getElem hi]
  simp [V32, at32, List.getD, List.getElem?_eq_getElem hi]
theorem Row.free {w : World} {g : Nat} {l : List (BitVec 32)} (h : Row w g l) (i : Nat) : w.frozen? ⟨g, i, none⟩ = false := by
  obtain ⟨cur, h1, _⟩ := h
  exact h1.free i
theorem Row.inside {w : World} {g : Nat} {l : List (BitVec 32)} (h : Row w g l) : g < w.heap.size := by
  obtain ⟨cur, h1, _⟩ := h
  exact h1.inside
theorem Row.kept {w w' : World} {B g : Nat} {l : List (BitVec 32)} (h : Row w g l) (hb : Below B w w') (hg : g < B) : Row w' g l := by
  obtain ⟨cur, h1, h2⟩ := h
  exact ⟨cur, h1.kept hb hg, h2⟩
theorem Row.other {w : World} {g : Nat} {l : List (BitVec 32)} (h : Row w g l) {p : Addr} (hp : g ≠ p.block) (v : Value) : Row (w.setCell p v) g l := by
  obtain ⟨cur, h1, h2⟩ := h
  exact ⟨cur, h1.other hp v, h2⟩
theorem Row.put {w : World} {g : Nat} {l : List (BitVec 32)} (h : Row w g l) (i : Nat) (x : BitVec 32) : Row (w.setCell ⟨g, i, none⟩ (.int .u32 (u x))) g (l.set i x) := by
  obtain ⟨cur, h1, h2⟩ := h
  refine ⟨_, h1.put i _, ?_⟩
  rw [List.length_set, Array.toList_setIfInBounds, List.take_set, h2, List.map_set]
  rfl
theorem Row.more {w : World} {g : Nat} {l : List (BitVec 32)} (h : Row w g l) (o : Obj) : Row (w.alloc o) g l := by
  obtain ⟨cur, h1, h2⟩ := h
  exact ⟨cur, h1.more o, h2⟩
theorem Row.drawn {w : World} {g : Nat} {l : List (BitVec 32)} (h : Row w g l) (n : Nat) : Row (w.drewN n) g l := by
  obtain ⟨cur, h1, h2⟩ := h
  exact ⟨cur, h1.drawn n, h2⟩
theorem row_own {w : World} {B n c : Nat} {A : Option Addr} {l : List (BitVec 32)} (hl : l.length = n) (hn : 0 < n) (h : w.ownsRow B 77 1 (.slice A n c) n (l.map V32)) : ∃ g, A = some ⟨g, 0, none⟩ ∧ Row w g l ∧ B ≤ g := by
  rcases h.2 with ⟨_, h2⟩ | ⟨g, cap, cur, h1, h2, h3, _, _, _, h7⟩
  · omega
  · cases h1
    exact ⟨g, rfl, ⟨cur, h3, by rw [hl, ← h7, Nat.mul_one]⟩, h2⟩
def prm (i : Nat) : Nat := first64.getD i 0
theorem prm_lt : ∀ i, i < 64 → prm i < 1000 := by decide
theorem cube_at (i : Nat) (h : i < 64) : ((cuUp (prm i) 36 % 4294967296 : Nat) : Int) = u (at32 kList i) := by
  have e := congrArg (fun l => l[i]?) cube_table
  have l1 : i < first64.length := h
  have l2 : i < kList.length := h
  simp only [List.getElem?_map, List.getElem?_eq_getElem l1, List.getElem?_eq_getElem l2, Option.map_some, Option.some.injEq] at e
  unfold u prm at32
  simp only [List.getD, List.getElem?_eq_getElem l1, List.getElem?_eq_getElem l2, Option.getD_some]
  rw [e]
theorem hTab : hList.map BitVec.toNat = [0x6a09e667, 0xbb67ae85, 0x3c6ef372, 0xa54ff53a, 0x510e527f, 0x9b05688c, 0x1f83d9ab, 0x5be0cd19] := by decide
theorem square_at (i : Nat) (h : i < 8) : ((sqUp (prm i) 37 % 4294967296 : Nat) : Int) = u (at32 hList i) := by
  have e := congrArg (fun l => l[i]?) square_table
  rw [← hTab] at e
  have l1 : i < (first64.take 8).length := h
  have l2 : i < hList.length := h
  have l3 : i < first64.length := Nat.lt_trans h (by decide)
  simp only [List.getElem?_map, List.getElem?_eq_getElem l1, List.getElem?_eq_getElem l2, Option.map_some, Option.some.injEq, List.getElem_take] at e
  unfold u prm at32
  simp only [List.getD, List.getElem?_eq_getElem l3, List.getElem?_eq_getElem l2, Option.getD_some]
  rw [e]
theorem take_next (l : List (BitVec 32)) (i : Nat) (h : i < l.length) : (l.take (i + 1)).map V32 = (l.take i).map V32 ++ [.int .u32 (u (at32 l i))] := by
  rw [List.take_succ_eq_append_getElem h, List.map_append, at32, List.getD, List.getElem?_eq_getElem h]; rfl
/-- The primes' cells. -/
theorem primes_cells {w : World} {B : Nat} {v : Value} (h : w.ownsRow B 79 1 v 64 (first64.map V64)) : ∃ g c, v = .slice (some ⟨g, 0, none⟩) 64 c ∧ g < w.heap.size ∧ B ≤ g ∧ ∀ i, i < 64 → w.cell? ⟨g, i, none⟩ = some (.int .u64 (prm i : Nat)) := by
  have hc := fun g hg => h.cells (g := g) hg
  have hl := fun g hg => h.lt g hg
  rcases h.2 with ⟨_, h2⟩ | ⟨g, cap, cur, rfl, _⟩
  · omega
  · refine ⟨g, cap, rfl, (hl g rfl).2, (hl g rfl).1, fun i hi => ?_⟩
    have l1 : i < first64.length := hi
    have := hc g rfl i (.int .u64 (prm i : Nat)) (by simp [prm, V64, List.getD, List.getElem?_eq_getElem l1])
    have e : (⟨g, 0, none⟩ : Addr).add i = ⟨g, i, none⟩ := by unfold Addr.add; split <;> simp_all
    rwa [e] at this
end Go.Proofs.YtlcdkponegmcdaaDoor.Sha
/- The document's digest: what its rounds keep. Facts on worlds. -/
namespace Go.Proofs.YtlcdkponegmcdaaDoor.Sha
open Go.RowKit
/-- What the rounds keep: the state's row, the roots' row, the result's block, the padded bytes, all old memory. -/
structure Env (w : World) (g4 g5 gp : Nat) (st : List (BitVec 32)) (P : List UInt8) (wr : World) : Prop where
  st : Row wr g4 st
  k : Row wr g5 kList
  res : Has wr w.heap.size 27 zero32
  p : ∀ j, j < P.length → wr.cell? ⟨gp, j, none⟩ = some (V8 (at8 P j))
  pin : gp < wr.heap.size
  below : Below w.heap.size w wr
section
variable {w wr w' : World} {g4 g5 gp N : Nat} {st : List (BitVec 32)} {P : List UInt8}
theorem Env.step (h : Env w g4 g5 gp st P wr) (hb : Below wr.heap.size wr w') : Env w g4 g5 gp st P w' :=
  ⟨h.st.kept hb h.st.inside, h.k.kept hb h.k.inside, h.res.kept hb h.res.inside, fun j hj => (hb.cell (p := ⟨gp, j, none⟩) h.pin).trans (h.p j hj), Nat.lt_of_lt_of_le h.pin hb.size, h.below.trans (hb.mono h.below.size)⟩
theorem Env.put (h : Env w g4 g5 gp st P wr) (h4 : g4 ≠ N) (h5 : g5 ≠ N) (h0 : w.heap.size < N) (hp : gp ≠ N) (i : Nat) (v : Value) : Env w g4 g5 gp st P (wr.setCell ⟨N, i, none⟩ v) :=
  ⟨h.st.other (p := ⟨N, i, none⟩) h4 v, h.k.other (p := ⟨N, i, none⟩) h5 v, h.res.other (p := ⟨N, i, none⟩) (by show w.heap.size ≠ N; omega) v,
    fun j hj => (World.cell?_setCell_other wr ⟨N, i, none⟩ ⟨gp, j, none⟩ v (fun e => hp (by injection e; omega))).trans (h.p j hj), by simpa using h.pin, h.below.setCell (p := ⟨N, i, none⟩) (by show w.heap.size ≤ N; omega) v⟩
theorem Env.raise (h : Env w g4 g5 gp st P wr) (h5 : g5 ≠ g4) (h0 : w.heap.size < g4) (hp : gp ≠ g4) (i : Nat) (x : BitVec 32) : Env w g4 g5 gp (st.set i x) P (wr.setCell ⟨g4, i, none⟩ (.int .u32 (u x))) :=
  ⟨h.st.put i x, h.k.other (p := ⟨g4, i, none⟩) h5 _, h.res.other (p := ⟨g4, i, none⟩) (by show w.heap.size ≠ g4; omega) _,
    fun j hj => (World.cell?_setCell_other wr ⟨g4, i, none⟩ ⟨gp, j, none⟩ _ (fun e => hp (by injection e; omega))).trans (h.p j hj), by simpa using h.pin, h.below.setCell (p := ⟨g4, i, none⟩) (by show w.heap.size ≤ g4; omega) _⟩
theorem Env.drawn (h : Env w g4 g5 gp st P wr) (n : Nat) : Env w g4 g5 gp st P (wr.drewN n) :=
  ⟨h.st.drawn n, h.k.drawn n, h.res.drawn n, fun j hj => h.p j hj, h.pin, h.below.drewN' n⟩
theorem Env.more (h : Env w g4 g5 gp st P wr) (o : Obj) : Env w g4 g5 gp st P (wr.alloc o) := h.step ((Below.refl _ _).alloc (Nat.le_refl _) _)
theorem bytes_owned {w : World} {B L : Nat} {v : Value} {P : List UInt8} (h0 : 0 < L) (h : w.ownsRow B 5 1 v L (P.map V8)) : ∃ g c, v = .slice (some ⟨g, 0, none⟩) L c ∧ L ≤ c ∧ B ≤ g ∧ g < w.heap.size ∧ ∀ j, j < P.length → w.cell? ⟨g, j, none⟩ = some (V8 (at8 P j)) := by
  have hc := fun g hg => h.cells (g := g) hg
  have hl := fun g hg => h.lt g hg
  rcases h.2 with ⟨_, h2⟩ | ⟨g, cap, cur, rfl, _, _, h5, _⟩
  · omega
  · refine ⟨g, cap, rfl, h5, (hl g rfl).1, (hl g rfl).2, fun j hj => ?_⟩
    have := hc g rfl j (V8 (at8 P j)) (by rw [List.getElem?_map, List.getElem?_eq_getElem hj]; simp [at8, List.getD, List.getElem?_eq_getElem hj])
    have e : (⟨g, 0, none⟩ : Addr).add j = ⟨g, j, none⟩ := by unfold Addr.add; split <;> simp_all
    rwa [e] at this
/-- The like, ahead of the padded bytes. -/
structure Env0 (w : World) (g4 g5 : Nat) (wr : World) : Prop where
  st : Row wr g4 hList
  k : Row wr g5 kList
  res : Has wr w.heap.size 27 zero32
  below : Below w.heap.size w wr
theorem Env0.env (h : Env0 w g4 g5 wr) (hb : Below wr.heap.size wr w') (hp : gp < w'.heap.size) (hc : ∀ j, j < P.length → w'.cell? ⟨gp, j, none⟩ = some (V8 (at8 P j))) : Env w g4 g5 gp hList P w' :=
  ⟨h.st.kept hb h.st.inside, h.k.kept hb h.k.inside, h.res.kept hb h.res.inside, hc, hp, h.below.trans (hb.mono h.below.size)⟩
def w64 (p : List UInt8) : List (BitVec 32) := (List.range 64).map (wAt (words p 16))
theorem w64_len (p : List UInt8) : (w64 p).length = 64 := by simp [w64]
theorem w64_at (p : List UInt8) (k : Nat) (h : k < 64) : at32 (w64 p) k = wAt (words p 16) k := by simp [w64, at32, List.getD, h]
theorem w64_row (p : List UInt8) : wRow (words p 16) 64 = (w64 p).map V32 := by simp [wRow, w64, V32]
/-- One block of the padded bytes. -/
theorem blk_bytes (h : Env w g4 g5 gp st P wr) (q c : Nat) (hq : 64 * (q + 1) ≤ P.length) (hc : 64 ≤ c) : Bytes wr (.slice (some ⟨gp, 64 * q, none⟩) 64 c) (blk P q) (some ⟨gp, 64 * q, none⟩) c gp (64 * q) := by
  have hb := blk_len P q hq
  refine ⟨by rw [hb], by rw [hb]; exact hc, (fun h => by cases h), fun a ha j hj => ?_, h.pin, fun _ => rfl⟩
  cases ha
  rw [hb] at hj
  have e : (⟨gp, 64 * q, none⟩ : Addr).add j = ⟨gp, 64 * q + j, none⟩ := by unfold Addr.add; split <;> simp_all
  rw [e, h.p (64 * q + j) (by omega)]
  congr 2
  simp [at8, blk, List.getD, List.getElem?_drop, hj]
theorem run8_at (p : List UInt8) (s : S8) (k : Nat) (h : k < 64) : run8 (words p 16) s (k + 1) = stepS (run8 (words p 16) s k) (at32 kList k) (at32 (w64 p) k) := by
  rw [run8_word _ (words_len p 16), w64_at p k h]
end
def z8 : Array Value := #[.int .u32 0, .int .u32 0, .int .u32 0, .int .u32 0, .int .u32 0, .int .u32 0, .int .u32 0, .int .u32 0]
/-- What a block's rounds keep. -/
structure Env2 (w : World) (g4 g5 gp N g12 : Nat) (st : List (BitVec 32)) (P : List UInt8) (W : List (BitVec 32)) (v : List (BitVec 32)) (wr : World) : Prop where
  env : Env w g4 g5 gp st P wr
  row : Row wr g12 W
  v : Has wr N 81 (vec v)
theorem Env2.start {w w6 : World} {g4 g5 gp g12 : Nat} {st : List (BitVec 32)} {P : List UInt8} {W l : List (BitVec 32)} (h : Env w g4 g5 gp st P w6) (hr : Row w6 g12 W) (z : Array Value) (hz : z = z8) :
    ∃ W7, w6.alloc (.cells z 81) = W7 ∧ Env2 w g4 g5 gp w6.heap.size g12 st P W (copied l 0) W7 := by
  subst hz
  exact ⟨_, rfl, h.more _, hr.more _, Has.fresh w6 81 z8⟩
theorem Env2.apart {w w6 : World} {g4 g5 gp g12 : Nat} {st : List (BitVec 32)} {P : List UInt8} {W : List (BitVec 32)} (h : Env w g4 g5 gp st P w6) (hr : Row w6 g12 W) : g4 ≠ w6.heap.size ∧ g5 ≠ w6.heap.size ∧ w.heap.size < w6.heap.size ∧ gp ≠ w6.heap.size ∧ g12 ≠ w6.heap.size := by
  have h1 := h.st.inside; have h2 := h.k.inside; have h3 := h.res.inside; have h4 := h.pin; have h5 := hr.inside
  exact ⟨by omega, by omega, by omega, by omega, by omega⟩
theorem Env2.put {w wr : World} {g4 g5 gp N g12 : Nat} {st : List (BitVec 32)} {P : List UInt8} {W v : List (BitVec 32)} (h : Env2 w g4 g5 gp N g12 st P W v wr) (hd : g4 ≠ N ∧ g5 ≠ N ∧ w.heap.size < N ∧ gp ≠ N ∧ g12 ≠ N) (i : Nat) (x : BitVec 32) :
    Env2 w g4 g5 gp N g12 st P W (v.set i x) (wr.setCell ⟨N, i, none⟩ (.int .u32 (u x))) :=
  ⟨h.env.put hd.1 hd.2.1 hd.2.2.1 hd.2.2.2.1 i _, h.row.other (p := ⟨N, i, none⟩) hd.2.2.2.2 _, by rw [← vec_set]; exact h.v.put i _⟩
theorem Env2.drawn {w wr : World} {g4 g5 gp N g12 : Nat} {st : List (BitVec 32)} {P : List UInt8} {W v : List (BitVec 32)} (h : Env2 w g4 g5 gp N g12 st P W v wr) (n : Nat) : Env2 w g4 g5 gp N g12 st P W v (wr.drewN n) :=
  ⟨h.env.drawn n, h.row.drawn n, h.v.drawn n⟩
theorem Env2.raise {w wr : World} {g4 g5 gp N g12 : Nat} {st : List (BitVec 32)} {P : List UInt8} {W v : List (BitVec 32)} (h : Env2 w g4 g5 gp N g12 st P W v wr) (h5 : g5 ≠ g4) (h0 : w.heap.size < g4) (hp : gp ≠ g4) (h12 : g12 ≠ g4) (hN : N ≠ g4) (i : Nat) (x : BitVec 32) :
    Env2 w g4 g5 gp N g12 (st.set i x) P W v (wr.setCell ⟨g4, i, none⟩ (.int .u32 (u x))) :=
  ⟨h.env.raise h5 h0 hp i x, h.row.other (p := ⟨g4, i, none⟩) h12 _, h.v.other (p := ⟨g4, i, none⟩) hN _⟩
theorem last_box {w wr : World} {g4 g5 gp : Nat} {st : List (BitVec 32)} {P : List UInt8} (h : Env w g4 g5 gp st P wr) (z : Array Value) (hz : z = zero32) :
    ∃ N W, wr.heap.size = N ∧ wr.alloc (.cells z 27) = W ∧ Hid (Row W g4 st) ∧ Hid (Has W w.heap.size 27 zero32) ∧ Hid (Has W N 27 (bvec (digN st 0))) ∧ Hid (Below w.heap.size w W) ∧ Hid (g4 ≠ N ∧ w.heap.size < N) := by
  subst hz
  exact ⟨_, _, rfl, rfl, h.st.more _, h.res.more _, Has.fresh wr 27 zero32, h.below.alloc h.below.size _, by have := h.st.inside; omega, h.res.inside⟩
theorem add4 (a b c d : BitVec 32) : (u a + u b + u c + u d) % 4294967296 = u (a + b + c + d) := by rw [← Int.emod_add_emod, add3, add32]
theorem not32r (x : BitVec 32) : bits .xor .u32 (u x) 4294967295 = u (~~~x) := by
  have h : (4294967295 : Int) = u (BitVec.allOnes 32) := rfl
  rw [h, xor32, BitVec.xor_allOnes]
theorem sx_num2 (s : S8) (kk ww : BitVec 32) :
    (((u s.h + bits BinOp.xor IntKind.u32 (bits BinOp.xor IntKind.u32 (u (rotR s.e 6)) (u (rotR s.e 11))) (u (rotR s.e 25)) +
            bits BinOp.xor IntKind.u32 (bits BinOp.and IntKind.u32 (u s.e) (u s.f)) (bits BinOp.and IntKind.u32 (bits BinOp.xor IntKind.u32 (u s.e) 4294967295) (u s.g)) + u kk) % 4294967296 + u ww) % 4294967296) = u (sx s kk ww) := by
  simp only [xor32, and32, not32r, add4, add32]
  rfl
theorem turned_s (x : BitVec 32) (c : Int) (h : 1 ≤ c ∧ c ≤ 31) (w : World) :
    Calls Tryd.prog 42 #[.int .u32 (u x), .int .i64 c] w fun e w' => e = .returned (.int .u32 (u (rotR x c.toNat))) ∧ w' = w := by
  obtain ⟨n, rfl⟩ := Int.eq_ofNat_of_zero_le (a := c) (by omega)
  exact (turned_any x n (by omega) (by omega) w).mono fun _ _ ⟨h1, h2⟩ => ⟨h1, h2.symm⟩
end Go.Proofs.YtlcdkponegmcdaaDoor.Sha
/- The document's digest: Sum (caravanref01). Conditions: bytes that lie in a block, at most 100000. -/
namespace Go.Proofs.YtlcdkponegmcdaaDoor.Sha
open Go.RowKit
@[irreducible] def IsSum (ys r : List UInt8) : Prop := shaL ys = r
theorem IsSum.mk {ys r : List UInt8} (h : shaL ys = r) : IsSum ys r := by unfold IsSum; exact h
theorem IsSum.eq {ys r : List UInt8} (h : IsSum ys r) : shaL ys = r := by unfold IsSum at h; exact h
@[irreducible] def IsDig (r P : List UInt8) (m : Nat) : Prop := r = dig (stAt P m) 8
theorem IsDig.mk {r P : List UInt8} {m : Nat} (h : r = dig (stAt P m) 8) : IsDig r P m := by unfold IsDig; exact h
theorem IsDig.eq {r P : List UInt8} {m : Nat} (h : IsDig r P m) : r = dig (stAt P m) 8 := by unfold IsDig at h; exact h
@[irreducible] def IsDigN (st : List (BitVec 32)) (r : List UInt8) : Prop := digN st 32 = r
theorem IsDigN.mk {st : List (BitVec 32)} {r : List UInt8} (h : digN st 32 = r) : IsDigN st r := by unfold IsDigN; exact h
theorem IsDigN.eq {st : List (BitVec 32)} {r : List UInt8} (h : IsDigN st r) : digN st 32 = r := by unfold IsDigN at h; exact h
theorem sum_primes (w w1 : World) (z : Array Value) (hb : Below (w.alloc (.cells z 27)).heap.size (w.alloc (.cells z 27)) w1) (hz : z = zero32) : Hid (Below w.heap.size w w1) ∧ Hid (Has w1 w.heap.size 27 zero32) ∧ Hid (w.heap.size < w1.heap.size) := by
  subst hz
  have := hb.size
  simp at this
  exact ⟨((Below.refl _ _).alloc (Nat.le_refl _) _).trans (hb.mono (by simp)), (Has.fresh w 27 zero32).kept hb (by simp), by show _ < _; omega⟩
set_option maxRecDepth 100000 in
set_option maxHeartbeats 2000000 in
theorem refSum_any (ys : List UInt8) (A : Option Addr) (n cap bb off : Nat) (w : World) (hn : ys.length = n) (hm : n ≤ 100000) (hs : Bytes w (.slice A n cap) ys A cap bb off) :
    Calls Tryd.prog 21 #[.slice A n cap] w fun e w' => e = .returned (.agg (bvec (shaL ys))) ∧ Below w.heap.size w w' := by
  obtain ⟨i0, hi, hz0, hz1, hz2⟩ := info_parts infoU32
  have HS := hid hs
  have HN := hid hn
  obtain ⟨r, HR0⟩ : ∃ r, shaL ys = r := ⟨_, rfl⟩
  have HR := IsSum.mk HR0
  rw [HR0]
  clear HR0
  clear hs hn
  go_enter Tryd.func21, Tryd.ntmps21
  go_wp2_with fail
  refine (primes_any _).mono ?_
  rintro e1 w1 ⟨v, rfl, hown, hb1⟩
  obtain ⟨g3, c3, rfl, h3a, h3b, h3c⟩ := primes_cells hown
  obtain ⟨B1, R1, L1⟩ := sum_primes w w1 _ hb1 rfl
  have P3 := hid h3c
  have G3 := hid h3a
  clear hown hb1 h3a h3b h3c
  go_wp2
  go_loopw [5, 6] (fun v i wr => ∃ (k : Nat) (B : Option Addr) (c : Nat), k ≤ 64 ∧ v = .slice B k c ∧ i = .int .i64 (k : Int) ∧ Hid (wr.ownsRow w1.heap.size 77 1 (.slice B k c) k ((kList.take k).map V32)) ∧ Hid (Below w1.heap.size w1 wr))
    (fun _ i _ => 64 - (intOf i).toNat)
  case atStart => exact ⟨0, none, 0, by omega, rfl, rfl, World.ownsRow_nil _ _ _ _, Below.refl _ _⟩
  case round =>
    obtain ⟨k, B, c, hk, rfl, rfl, HO, HB⟩ := hrel
    by_cases hlt : k < 64
    · as_aux_lemma =>
      have ck := (HB.out.cell (p := ⟨g3, k, none⟩) G3.out).trans (P3.out k hlt)
      have CC : Hid (∀ W, Calls Tryd.prog 38 #[.int .u64 (prm k : Nat)] W fun e w' => e = .returned (.int .u32 (u (at32 kList k))) ∧ W = w') := fun W => by rw [← cube_at k hlt]; exact cube_any (prm k) (prm_lt k hlt) W
      have N2 : Hid (k + 1 ≤ maxLen) := by show _ ≤ _; unfold maxLen; omega
      have N3 : Hid ((k + 1) * 4 ≤ 140737488355328) := by show _ ≤ _; omega
      have N4 : Hid (∀ o, w1.heap.size ≤ (wr.alloc o).heap.size) := by intro o; have := HB.out.size; simp; omega
      go_wp2_with fail
      refine (CC.out _).mono ?_; rintro ee ww ⟨rfl, rfl⟩
      go_wp2_with (at_builtin; refine wpList_append_own _ rfl _ _ 76 rfl w1.heap.size 77 i0 (.int .u32 0) 1 4 Tryd.underlying76 hi hz0 hz1 hz2 rfl (by omega) _ _ _ rfl (HO.out.alloc _) ⟨wr.heap.size, 0, none⟩ 1 1 [Value.int .u32 (u (at32 kList k))] rfl rfl (cell_one_new _ _ _) (one_u32 _) N2.out N3.out (N4.out _) ?_; intro v3 w3 hown hgrow _)
      have HB3 : Hid (Below w1.heap.size w1 w3) :=
        ((HB.out.alloc HB.out.size _).grown hgrow (N4.out _) (fun g hk => (HO.out.lt g hk).1))
      obtain ⟨g5, c5, rfl⟩ := ownsRow_succ hown
      have HO3 : Hid (w3.ownsRow w1.heap.size 77 1 (.slice (some ⟨g5, 0, none⟩) (k + 1) c5) (k + 1) ((kList.take (k + 1)).map V32)) := by
        rw [take_next _ _ hlt]; exact hown
      clear hown hgrow
      go_wp2
      go_roundw
      case rel => exact ⟨k + 1, _, _, by omega, rfl, rfl, HO3, HB3⟩
      case measure => simp [intOf]; omega
    · obtain rfl : k = 64 := by omega
      as_aux_lemma =>
      obtain ⟨g5, rfl, K2, _⟩ := row_own (l := kList) (n := 64) rfl (by omega) HO.out
      have B2 : Hid (Below w.heap.size w wr) := B1.out.trans (HB.out.mono (Nat.le_of_lt L1.out))
      have R2 : Hid (Has wr w.heap.size 27 zero32) := R1.out.kept HB.out L1.out
      have P2 : Hid (∀ i, i < 64 → wr.cell? ⟨g3, i, none⟩ = some (.int .u64 (prm i : Nat))) := fun i hi => (HB.out.cell (p := ⟨g3, i, none⟩) G3.out).trans (P3.out i hi)
      have G2 : Hid (g3 < wr.heap.size) := Nat.lt_of_lt_of_le G3.out HB.out.size
      have K2 := hid K2
      clear P3 G3 HO HB B1 R1 L1
      generalize wr = w2 at *
      rw [show ((64 : Nat) : Int) = 64 from rfl]
      go_wp2
      go_loopw [4, 8] (fun v i wr => ∃ (k : Nat) (B : Option Addr) (c : Nat), k ≤ 8 ∧ v = .slice B k c ∧ i = .int .i64 (k : Int) ∧ Hid (wr.ownsRow w2.heap.size 77 1 (.slice B k c) k ((hList.take k).map V32)) ∧ Hid (Below w2.heap.size w2 wr))
        (fun _ i _ => 8 - (intOf i).toNat)
      case atStart => exact ⟨0, none, 0, by omega, rfl, rfl, World.ownsRow_nil _ _ _ _, Below.refl _ _⟩
      case round =>
        obtain ⟨k, B, cc, hk, rfl, rfl, HO, HB⟩ := hrel
        by_cases hlt : k < 8
        · as_aux_lemma =>
          have ck := (HB.out.cell (p := ⟨g3, k, none⟩) G2.out).trans (P2.out k (by omega))
          have CC : Hid (∀ W, Calls Tryd.prog 39 #[.int .u64 (prm k : Nat)] W fun e w' => e = .returned (.int .u32 (u (at32 hList k))) ∧ W = w') := fun W => by rw [← square_at k hlt]; exact square_any (prm k) (prm_lt k (by omega)) W
          have N2 : Hid (k + 1 ≤ maxLen) := by show _ ≤ _; unfold maxLen; omega
          have N3 : Hid ((k + 1) * 4 ≤ 140737488355328) := by show _ ≤ _; omega
          have N4 : Hid (∀ o, w2.heap.size ≤ (wr.alloc o).heap.size) := by intro o; have := HB.out.size; simp; omega
          go_wp2_with fail
          refine (CC.out _).mono ?_; rintro ee ww ⟨rfl, rfl⟩
          go_wp2_with (at_builtin; refine wpList_append_own _ rfl _ _ 76 rfl w2.heap.size 77 i0 (.int .u32 0) 1 4 Tryd.underlying76 hi hz0 hz1 hz2 rfl (by omega) _ _ _ rfl (HO.out.alloc _) ⟨wr.heap.size, 0, none⟩ 1 1 [Value.int .u32 (u (at32 hList k))] rfl rfl (cell_one_new _ _ _) (one_u32 _) N2.out N3.out (N4.out _) ?_; intro v3 w3 hown hgrow _)
          have HB3 : Hid (Below w2.heap.size w2 w3) :=
            ((HB.out.alloc HB.out.size _).grown hgrow (N4.out _) (fun g hk => (HO.out.lt g hk).1))
          obtain ⟨g4, c4, rfl⟩ := ownsRow_succ hown
          have HO3 : Hid (w3.ownsRow w2.heap.size 77 1 (.slice (some ⟨g4, 0, none⟩) (k + 1) c4) (k + 1) ((hList.take (k + 1)).map V32)) := by
            rw [take_next _ _ hlt]; exact hown
          clear hown hgrow
          go_wp2
          go_roundw
          case rel => exact ⟨k + 1, _, _, by omega, rfl, rfl, HO3, HB3⟩
          case measure => simp [intOf]; omega
        · obtain rfl : k = 8 := by omega
          as_aux_lemma =>
          obtain ⟨g4, rfl, S3, S3b⟩ := row_own (l := hList) (n := 8) rfl (by omega) HO.out
          have B3 : Hid (Below w.heap.size w wr) := B2.out.trans (HB.out.mono B2.out.size)
          have R3 : Hid (Has wr w.heap.size 27 zero32) := R2.out.kept HB.out R2.out.inside
          have K3 : Hid (Row wr g5 kList) := K2.out.kept HB.out K2.out.inside
          have D3 : Hid (g4 ≠ g5) := by show _ ≠ _; have := K2.out.inside; omega
          have D4 : Hid (w.heap.size < g4) := by show _ < _; have := R2.out.inside; omega
          have S3 := hid S3
          clear P2 G2 HO HB B2 R2 K2 S3b
          generalize wr = w3 at *
          have E3 : Hid (Env0 w g4 g5 w3) := ⟨S3.out, K3.out, R3.out, B3.out⟩
          clear S3 K3 R3 B3
          rw [show ((8 : Nat) : Int) = 8 from rfl]
          go_wp2_with fail
          refine (padded_any ys A cap bb off _ n HN.out hm (HS.out.kept E3.out.below (Nat.le_refl _))).mono ?_
          rintro ee w4 ⟨v, rfl, hown, hb⟩
          obtain ⟨P, HP⟩ : ∃ P, Hid (ys ++ padL n = P) := ⟨_, rfl⟩
          rw [HP.out] at hown
          obtain ⟨m, HM⟩ : ∃ m, Hid (P.length = 64 * m) := ⟨P.length / 64, by
            show _ = _
            have := padL_mod n
            rw [← HP.out, List.length_append, HN.out]; omega⟩
          have hm0 : 0 < m := by
            have := HM.out
            rw [← HP.out, List.length_append] at this
            have := padL_pos n; omega
          rw [HM.out] at hown
          obtain ⟨gp, cp, rfl, hcp, hgp, hgq, hpc⟩ := bytes_owned (by omega) hown
          have E4 : Hid (Env w g4 g5 gp (stAt P 0) P w4) := E3.out.env hb hgq hpc
          have D6 : Hid (gp ≠ g4 ∧ gp ≠ g5 ∧ gp ≠ w.heap.size) := by
            have h1 := E3.out.st.inside; have h2 := E3.out.k.inside; have h3 := E3.out.res.inside
            exact ⟨by omega, by omega, by omega⟩
          have HSH : IsDig r P m := IsDig.mk (by
            rw [← HR.eq, sha_blocks ys m (by rw [HN.out, HP.out, HM.out]), HN.out, HP.out])
          have ML : Hid (64 * m ≤ 110000) := by
            show _ ≤ _
            have := HM.out; rw [← HP.out, List.length_append, HN.out] at this
            have := padL_len n; omega
          have HC := hid hcp
          clear E3 hb hown hgp hgq hpc hcp hm HP HN HS HR
          go_wp2
          obtain ⟨L, HL⟩ : ∃ L, Hid (64 * m = L) := ⟨_, rfl⟩
          rw [HL.out]
          go_loopw [11] (fun i wr => ∃ q, q ≤ m ∧ i = .int .i64 ((64 * q : Nat) : Int) ∧ Hid (Env w g4 g5 gp (stAt P q) P wr))
            (fun i _ => L - (intOf i).toNat)
          case atStart => exact ⟨0, by omega, rfl, E4⟩
          case round =>
            obtain ⟨q, hq, rfl, J⟩ := hrel
            by_cases hlt : q < m
            · obtain ⟨a, HA⟩ : ∃ a, Hid (64 * q = a) := ⟨_, rfl⟩
              rw [HA.out]
              have ha0 : a + 64 ≤ L := by have := HA.out; have := HL.out; omega
              have ha1 : (a : Int) < (L : Int) := by omega
              have hLm : L ≤ 110000 := by have := ML.out; have := HL.out; omega
              have hc1 : L ≤ cp := by have := HC.out; have := HL.out; omega
              have hca : ¬ cp = a := by omega
              have hcb : ¬ cp - a = 0 := by omega
              go_wp2_with fail
              have QL : Hid (64 * (q + 1) ≤ P.length) := by show _ ≤ _; rw [HM.out]; omega
              have hBB : Bytes wr (.slice (some ⟨gp, a, none⟩) 64 (cp - a)) (blk P q) (some ⟨gp, a, none⟩) (cp - a) gp a := by
                have := blk_bytes J.out q (cp - a) QL.out (by omega)
                rw [HA.out] at this; exact this
              refine (refWords_any (blk P q) _ (cp - a) gp a wr (blk_len P q QL.out) hBB).mono ?_
              rintro ee w6 ⟨v12, rfl, hown, hb⟩
              rw [w64_row] at hown
              have h64 : ∃ A c, v12 = .slice A 64 c := by
                rcases hown.2 with ⟨_, h⟩ | ⟨g, c, _, h, _⟩
                · omega
                · exact ⟨_, _, h⟩
              obtain ⟨A12, c12, rfl⟩ := h64
              obtain ⟨g12, rfl, hW, hg12⟩ := row_own (w64_len _) (by omega) hown
              have D12 : Hid (g12 ≠ g4) := by show _ ≠ _; have := J.out.st.inside; omega
              have J6 := J.out.step hb
              have AP := hid (Env2.apart J6 hW)
              obtain ⟨st, HST⟩ : ∃ st, Hid (stAt P q = st) := ⟨_, rfl⟩
              rw [HST.out] at J6
              have STL : Hid (st.length = 8) := by show _ = _; rw [← HST.out]; exact stAt_len P q
              have J6 := hid J6
              have hW := hid hW
              clear hBB hown hb J hca hcb hg12
              go_wp2
              generalize hG : World.alloc w6 _ = W7
              obtain ⟨W8, hG0, F⟩ := Env2.start (l := st) J6.out hW.out _ rfl
              obtain rfl : W8 = W7 := hG0.symm.trans hG
              have F := hid F
              obtain ⟨N, HNN⟩ : ∃ N, Hid (w6.heap.size = N) := ⟨_, rfl⟩
              rw [HNN.out] at F AP ⊢
              clear hG hG0 J6 hW HNN
              as_aux_lemma =>
              go_loopw [14] (fun i wr => ∃ k : Nat, k ≤ 8 ∧ i = .int .i64 (k : Int) ∧ Hid (Env2 w g4 g5 gp N g12 st P (w64 (blk P q)) (copied st k) wr))
                (fun i _ => 8 - (intOf i).toNat)
              case atStart => exact ⟨0, by omega, rfl, F⟩
              case round =>
                obtain ⟨k, hk, rfl, F⟩ := hrel
                by_cases hlt8 : k < 8
                · as_aux_lemma =>
                  have ck := F.out.env.st.cell k (by rw [STL.out]; exact hlt8)
                  have cv := (F.out.v.at_ k).trans (vec_get _ k (by rw [copied_len]; exact hlt8))
                  have fv := F.out.v.free k
                  go_wp2
                  go_roundw
                  case rel => exact ⟨k + 1, by omega, by go_num, F.out.put AP.out k _⟩
                  case measure => simp [intOf]; omega
                · obtain rfl : k = 8 := by omega
                  as_aux_lemma =>
                  rw [copied_all] at F
                  rw [show ((8 : Nat) : Int) = 8 from rfl]
                  go_wp2
                  go_loopw [15] (fun i wr => ∃ k : Nat, k ≤ 64 ∧ i = .int .i64 (k : Int) ∧ Hid (Env2 w g4 g5 gp N g12 st P (w64 (blk P q)) (lst8 (run8 (words (blk P q) 16) (start8 st) k)) wr))
                    (fun i _ => 64 - (intOf i).toNat)
                  case atStart => exact ⟨0, by omega, rfl, F⟩
                  case round =>
                    obtain ⟨k, hk, rfl, F⟩ := hrel
                    by_cases hlt6 : k < 64
                    · as_aux_lemma =>
                      have HN8 := hid (run8_at (blk P q) (start8 st) k hlt6)
                      obtain ⟨s, HSS⟩ : ∃ s, Hid (run8 (words (blk P q) 16) (start8 st) k = s) := ⟨_, rfl⟩
                      rw [HSS.out] at F HN8
                      have ck := F.out.env.k.cell k hlt6
                      have cw := F.out.row.cell k (by rw [w64_len]; exact hlt6)
                      obtain ⟨kk, HKK⟩ : ∃ x, Hid (at32 kList k = x) := ⟨_, rfl⟩
                      obtain ⟨ww, HWW⟩ : ∃ x, Hid (at32 (w64 (blk P q)) k = x) := ⟨_, rfl⟩
                      rw [HKK.out] at ck HN8
                      rw [HWW.out] at cw HN8
                      have v0 : wr.cell? ⟨N, 0, none⟩ = some (.int .u32 (u s.a)) := F.out.v.at_ 0
                      have v1 : wr.cell? ⟨N, 1, none⟩ = some (.int .u32 (u s.b)) := F.out.v.at_ 1
                      have v2 : wr.cell? ⟨N, 2, none⟩ = some (.int .u32 (u s.c)) := F.out.v.at_ 2
                      have v4 : wr.cell? ⟨N, 4, none⟩ = some (.int .u32 (u s.e)) := F.out.v.at_ 4
                      have v5 : wr.cell? ⟨N, 5, none⟩ = some (.int .u32 (u s.f)) := F.out.v.at_ 5
                      have v6 : wr.cell? ⟨N, 6, none⟩ = some (.int .u32 (u s.g)) := F.out.v.at_ 6
                      have v7 : wr.cell? ⟨N, 7, none⟩ = some (.int .u32 (u s.h)) := F.out.v.at_ 7
                      go_wp2
                      go_quiet ((go_at_call 42; exact Calls.quiet_of_same (turned_s _ _ (by decide) _)))
                      go_wp2
                      generalize hwq : World.drewN wr _ = wq
                      have FQ : Hid (Env2 w g4 g5 gp N g12 st P (w64 (blk P q)) (lst8 s) wq) := by rw [← hwq]; exact F.out.drawn _
                      clear hwq v0 v1 v2 v4 v5 v6 v7 ck cw F
                      have v0 : wq.cell? ⟨N, 0, none⟩ = some (.int .u32 (u s.a)) := FQ.out.v.at_ 0
                      have v1 : wq.cell? ⟨N, 1, none⟩ = some (.int .u32 (u s.b)) := FQ.out.v.at_ 1
                      have v2 : wq.cell? ⟨N, 2, none⟩ = some (.int .u32 (u s.c)) := FQ.out.v.at_ 2
                      go_quiet ((go_at_call 42; exact Calls.quiet_of_same (turned_s _ _ (by decide) _)))
                      go_wp2
                      generalize hwq : World.drewN wq _ = wz
                      have FZ : Hid (Env2 w g4 g5 gp N g12 st P (w64 (blk P q)) (lst8 s) wz) := by rw [← hwq]; exact FQ.out.drawn _
                      clear hwq v0 v1 v2 FQ
                      rw [sx_num2, sy_num]
                      obtain ⟨X, HX⟩ : ∃ x, Hid (sx s kk ww = x) := ⟨_, rfl⟩
                      obtain ⟨Y, HY⟩ : ∃ y, Hid (sy s = y) := ⟨_, rfl⟩
                      rw [HX.out, HY.out]
                      go_loopw [18] (fun i wr => ∃ j d : Nat, i = .int .i64 (d : Int) ∧ Hid (j + d = 7) ∧ Hid (Env2 w g4 g5 gp N g12 st P (w64 (blk P q)) (moved (lst8 s) j) wr))
                        (fun i _ => (intOf i).toNat)
                      case atStart => exact ⟨0, 7, rfl, rfl, FZ⟩
                      case round =>
                        obtain ⟨j, d, rfl, HD, F⟩ := hrel
                        by_cases hd0 : 0 < d
                        · as_aux_lemma =>
                          obtain ⟨d1, e1, E1⟩ : ∃ d1 : Nat, (d : Int) - 1 = (d1 : Int) ∧ Hid (d = d1 + 1) := ⟨d - 1, by omega, by show _ = _; omega⟩
                          have hd8 : (d : Int) < 8 := by have := HD.out; omega
                          have hl : Hid ((moved (lst8 s) j).length = 8) := moved_len _ _
                          have c1 := (F.out.v.at_ d1).trans (vec_get _ d1 (by rw [hl.out]; have := E1.out; omega))
                          have c2 := (F.out.v.at_ d).trans (vec_get _ d (by rw [hl.out]; omega))
                          have f2 := F.out.v.free d
                          have hdd : (0 : Int) < (d : Int) := by omega
                          have hMV : Hid (moved (lst8 s) (j + 1) = (moved (lst8 s) j).set d (at32 (moved (lst8 s) j) d1)) := by
                            have h1 : 7 - j = d := by have := HD.out; omega
                            have h2 : 6 - j = d1 := by have := HD.out; have := E1.out; omega
                            show _ = _
                            rw [moved, h1, h2]
                          go_wp2
                          go_roundw
                          case rel => exact ⟨j + 1, d1, rfl, by show _ = _; have := HD.out; have := E1.out; omega, by rw [hMV.out]; exact F.out.put AP.out d _⟩
                          case measure => simp [intOf]; have := E1.out; omega
                        · obtain rfl : d = 0 := by omega
                          as_aux_lemma =>
                          have hj7 : j = 7 := by have := HD.out; omega
                          subst hj7
                          rw [moved_all] at F
                          have c4 : wr.cell? ⟨N, 4, none⟩ = some (.int .u32 (u s.d)) := F.out.v.at_ 4
                          have c0 : wr.cell? ⟨N, 0, none⟩ = some (.int .u32 (u s.a)) := F.out.v.at_ 0
                          have f4 := F.out.v.free 4
                          have f0 := F.out.v.free 0
                          go_wp2
                          go_roundw
                          case rel =>
                            refine ⟨k + 1, by omega, by go_num, ?_⟩
                            rw [HN8.out, ← moved_step, moved_all, add32, add32, HX.out, HY.out]
                            exact (F.out.put AP.out 4 _).put AP.out 0 _
                          case measure => simp [intOf]; omega
                    · obtain rfl : k = 64 := by omega
                      as_aux_lemma =>
                      obtain ⟨vv, HVV⟩ : ∃ vv, Hid (lst8 (run8 (words (blk P q) 16) (start8 st) 64) = vv) := ⟨_, rfl⟩
                      have HVL : Hid (vv.length = 8) := by show _ = _; rw [← HVV.out]; rfl
                      have HFD : Hid (raisedTo st vv 8 = stAt P (q + 1)) := by
                        show _ = _
                        rw [← HVV.out, raised_all st STL.out, stAt, HST.out]
                      rw [HVV.out] at F
                      rw [show ((64 : Nat) : Int) = 64 from rfl]
                      clear HVV
                      go_wp2
                      go_loopw [19] (fun i wr => ∃ k : Nat, k ≤ 8 ∧ i = .int .i64 (k : Int) ∧ Hid (Env2 w g4 g5 gp N g12 (raisedTo st vv k) P (w64 (blk P q)) vv wr))
                        (fun i _ => 8 - (intOf i).toNat)
                      case atStart => exact ⟨0, by omega, rfl, F⟩
                      case round =>
                        obtain ⟨k, hk, rfl, F⟩ := hrel
                        by_cases hlt8 : k < 8
                        · as_aux_lemma =>
                          have c1 := F.out.env.st.cell k (by rw [raisedTo_len, STL.out]; exact hlt8)
                          have f1 := F.out.env.st.free k
                          have c2 := (F.out.v.at_ k).trans (vec_get _ k (by rw [HVL.out]; exact hlt8))
                          go_wp2
                          go_region
                          rw [add32]
                          have F2 : Hid (Env2 w g4 g5 gp N g12 (raisedTo st vv (k + 1)) P (w64 (blk P q)) vv (wr.setCell ⟨g4, k, none⟩ (.int .u32 (u (at32 (raisedTo st vv k) k + at32 vv k)))).drew) :=
                            (F.out.raise D3.out.symm D4.out D6.out.1 D12.out AP.out.1.symm k _).drawn 1
                          clear c1 c2 f1 F
                          go_wp2
                          go_roundw
                          case rel => exact ⟨k + 1, by omega, by go_num, F2⟩
                          case measure => simp [intOf]; omega
                        · obtain rfl : k = 8 := by omega
                          as_aux_lemma =>
                          rw [HFD.out] at F
                          go_wp2
                          go_roundw
                          case rel => exact ⟨q + 1, by omega, by have := HA.out; rw [show 64 * (q + 1) = a + 64 by omega]; go_num, F.out.env⟩
                          case measure => simp [intOf]; omega
            · obtain rfl : q = m := by omega
              as_aux_lemma =>
              rw [HL.out]
              obtain ⟨st, HST⟩ : ∃ st, Hid (stAt P q = st) := ⟨_, rfl⟩
              have STL : Hid (st.length = 8) := by show _ = _; rw [← HST.out]; exact stAt_len P q
              have HD2 : IsDigN st r := IsDigN.mk (by rw [HSH.eq, HST.out, ← digYtlcdkponegmcdaaDoorfour])
              rw [HST.out] at J
              go_wp2
              generalize hG : World.alloc wr _ = W9
              obtain ⟨N2, W8, hN2, hG0, Q1, Q2, Q3, Q4, Q5⟩ := last_box J.out _ rfl
              obtain rfl : W8 = W9 := hG0.symm.trans hG
              rw [hN2]
              clear hG hG0 hN2 J
              go_loopw [21] (fun i wr => ∃ k : Nat, k ≤ 32 ∧ i = .int .i64 (k : Int) ∧ Hid (Row wr g4 st) ∧ Hid (Has wr w.heap.size 27 zero32) ∧ Hid (Has wr N2 27 (bvec (digN st k))) ∧ Hid (Below w.heap.size w wr))
                (fun i _ => 32 - (intOf i).toNat)
              case atStart => exact ⟨0, by omega, rfl, Q1, Q2, Q3, Q4⟩
              case round =>
                obtain ⟨k, hk, rfl, J1, J2, J3, J4⟩ := hrel
                by_cases hlt : k < 32
                · as_aux_lemma =>
                  obtain ⟨k4, e4, E4⟩ : ∃ a : Nat, (k : Int) / 4 = (a : Int) ∧ Hid (k / 4 = a) := ⟨k / 4, by omega, rfl⟩
                  obtain ⟨k5, e5, E5⟩ : ∃ a : Nat, (k : Int) % 4 = (a : Int) ∧ Hid (k % 4 = a) := ⟨k % 4, by omega, rfl⟩
                  obtain ⟨k6, e6, E6⟩ : ∃ a : Nat, (24 : Int) - 8 * (k5 : Int) = (a : Int) ∧ Hid (24 - 8 * k5 = a) := ⟨24 - 8 * k5, by have := E5.out; omega, rfl⟩
                  have c1 := J1.out.cell k4 (by rw [STL.out]; have := E4.out; omega)
                  have c2 := (J3.out.at_ k).trans (bvec_get _ k (by rw [digYtlcdkponegmcdaaDoorlen]; exact hlt))
                  have f2 := J3.out.free k
                  have b1 : (k4 : Int) < 8 := by have := E4.out; omega
                  have b2 : (0 : Int) ≤ (k6 : Int) := by omega
                  have b3 : (k6 : Int) ≤ 24 := by have := E6.out; omega
                  have b4 : (k5 : Int) ≤ 3 := by have := E5.out; omega
                  have b5 : (0 : Int) ≤ (k5 : Int) := by omega
                  go_wp2
                  rw [byte_num]
                  have HW : Hid ((digN st k).set k (byteOf (at32 st k4) k6) = digN st (k + 1)) := by
                    show _ = _
                    rw [digN, E4.out, E5.out, E6.out]
                  have K3 : Hid (Has (wr.setCell ⟨N2, k, none⟩ (.int .u8 (b8 (byteOf (at32 st k4) k6)))) N2 27 (bvec (digN st (k + 1)))) := by
                    rw [← HW.out, ← bvec_set]; exact J3.out.put k _
                  go_roundw
                  case rel => exact ⟨k + 1, by omega, by go_num, J1.out.other (p := ⟨N2, k, none⟩) Q5.out.1 _, J2.out.other (p := ⟨N2, k, none⟩) (Nat.ne_of_lt Q5.out.2) _, K3, J4.out.setCell (p := ⟨N2, k, none⟩) (Nat.le_of_lt Q5.out.2) _⟩
                  case measure => simp [intOf]; omega
                · obtain rfl : k = 32 := by omega
                  as_aux_lemma =>
                  rw [HD2.eq] at J3
                  have HRL : Hid (r.length = 32) := by show _ = _; rw [← HD2.eq]; exact digYtlcdkponegmcdaaDoorlen _ _
                  have Y1 := size_dig r HRL.out
                  have Y2 := size_zero r HRL.out
                  go_wp2_with (first
                    | (refine wpList_load_row rfl 27 (.tmp 20) rfl N2 rfl 27 (bvec r) (0, 0) _ J3.out Tryd.underlying27 rfl Y1.out ?_)
                    | (refine wpList_store_row rfl 27 (.tmp 2) (.tmp 195) rfl w.heap.size (bvec r) rfl rfl 27 zero32 J2.out Y1.out Y2.out (bvec_one _) ?_))
                  exact bodyPost_ret (results_cell_row rfl _ _ w.heap.size 27 (bvec r) (0, 0) _ rfl J2.out.row Tryd.underlying27 rfl Y1.out) rfl ⟨rfl, J4.out.rowK (Nat.le_refl _) _⟩
end Go.Proofs.YtlcdkponegmcdaaDoor.Sha
