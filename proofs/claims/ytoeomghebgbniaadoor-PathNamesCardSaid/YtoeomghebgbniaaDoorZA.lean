/- The document's digest: times, above, prime (caravanref01). Conditions: numbers of 64 bits. -/
import Derived.Test.YtoeomghebgbniaaDoorShelf
import Derived.Test.YtoeomghebgbniaaDoorPG
namespace Go.Proofs.YtoeomghebgbniaaDoor
open Go.RowKit
def M64 : Nat := 18446744073709551616
theorem wrapM (x : Nat) : IntKind.u64.wrap (x : Int) = ((x % M64 : Nat) : Int) := by
  simp [IntKind.wrap, IntKind.signed, IntKind.bits, M64]
def timesN (hi lo x : Nat) : Nat × Nat := ((lo * x / M64 + hi * x % M64) % M64, lo * x % M64)
def aboveN (hi lo n b : Nat) : Bool := decide (n * 2 ^ b % M64 < hi) || (decide (hi = n * 2 ^ b % M64) && decide (0 < lo))
theorem mul64_any (x y : Nat) (hx : x < M64) (hy : y < M64) (w : World) : Calls Tryd.prog 74 #[.int .u64 (x : Int), .int .u64 (y : Int)] w fun e w' => e = .returned (.tuple #[.int .u64 ((x * y / M64 : Nat) : Int), .int .u64 ((x * y % M64 : Nat) : Int)]) ∧ w = w' :=
  (Tryd.bits_Mul64 x y hx hy w).mono fun _ _ ⟨a, b⟩ => ⟨a, b.symm⟩
set_option maxRecDepth 100000 in
set_option maxHeartbeats 400000 in
theorem times_any (hi lo x : Nat) (_h1 : hi < M64) (h2 : lo < M64) (h3 : x < M64) (w : World) :
    Calls Tryd.prog 60 #[.int .u64 (hi : Int), .int .u64 (lo : Int), .int .u64 (x : Int)] w fun e w' => e = .returned (.tuple #[.int .u64 ((timesN hi lo x).1 : Int), .int .u64 ((timesN hi lo x).2 : Int)]) ∧ w = w' := by
  obtain ⟨q, HQ⟩ : ∃ q, Hid (lo * x / M64 = q) := ⟨_, rfl⟩
  obtain ⟨r, HR⟩ : ∃ r, Hid (lo * x % M64 = r) := ⟨_, rfl⟩
  have HC : Hid (∀ W, Calls Tryd.prog 74 #[.int .u64 (lo : Int), .int .u64 (x : Int)] W fun e w' => e = .returned (.tuple #[.int .u64 (q : Int), .int .u64 (r : Int)]) ∧ W = w') := by
    intro W; rw [← HQ.out, ← HR.out]; exact mul64_any lo x h2 h3 W
  obtain ⟨m, HM⟩ : ∃ m, Hid (hi * x % M64 = m) := ⟨_, rfl⟩
  obtain ⟨t, HT⟩ : ∃ t, Hid ((q + m) % M64 = t) := ⟨_, rfl⟩
  have HV : Hid (timesN hi lo x = (t, r)) := by show _ = _; rw [timesN, HQ.out, HR.out, HM.out, HT.out]
  have w1 : IntKind.u64.wrap ((hi : Int) * (x : Int)) = (m : Int) := by rw [← HM.out, ← wrapM]; congr 1
  have w2 : IntKind.u64.wrap ((q : Int) + (m : Int)) = (t : Int) := by rw [← HT.out, ← wrapM]; congr 1
  clear h2 h3
  go_enter Tryd.func60, Tryd.ntmps60
  go_wp2_with (go_at_call 74; refine (HC.out _).mono ?_; rintro e1 w1 ⟨rfl, rfl⟩)
  go_ret2
  exact ⟨by rw [HV.out]; rfl, rfl⟩
theorem timesYtoeomghebgbniaaDoorlt (hi lo x : Nat) : (timesN hi lo x).1 < M64 ∧ (timesN hi lo x).2 < M64 := ⟨Nat.mod_lt _ (by decide), Nat.mod_lt _ (by decide)⟩
set_option maxRecDepth 100000 in
set_option maxHeartbeats 400000 in
theorem above_any (hi lo n b : Nat) (h4 : b < 64) (w : World) :
    Calls Tryd.prog 61 #[.int .u64 (hi : Int), .int .u64 (lo : Int), .int .u64 (n : Int), .int .i64 (b : Int)] w fun e w' => e = .returned (.bool (aboveN hi lo n b)) ∧ w = w' := by
  obtain ⟨z, HZ⟩ : ∃ z, Hid (n * 2 ^ b % M64 = z) := ⟨_, rfl⟩
  have w1 : IntKind.u64.wrap ((n : Int) * 2 ^ b) = (z : Int) := by rw [← HZ.out, ← wrapM]; congr 1
  have HV : Hid (aboveN hi lo n b = (decide (z < hi) || (decide (hi = z) && decide (0 < lo)))) := by show _ = _; rw [aboveN, HZ.out]
  rcases Nat.lt_trichotomy z hi with c | c | c
  · have t1 : decide (z < hi) = true := by simp [c]
    have HV2 : Hid (aboveN hi lo n b = true) := by show _ = _; rw [HV.out]; simp [c]
    clear HV c
    go_enter Tryd.func61, Tryd.ntmps61
    go_wp2
    go_ret
    exact ⟨ret_bool HV2.out.symm, rfl⟩
  · subst c
    by_cases hl : 0 < lo
    · have t1 : (0 : Int) < (lo : Int) := by omega
      have HV2 : Hid (aboveN z lo n b = true) := by show _ = _; rw [HV.out]; simp [hl]
      clear HV
      go_enter Tryd.func61, Tryd.ntmps61
      go_wp2
      go_ret
      exact ⟨ret_bool (by rw [HV2.out]), rfl⟩
    · have t1 : ¬ (0 : Int) < (lo : Int) := by omega
      have HV2 : Hid (aboveN z lo n b = false) := by show _ = _; rw [HV.out]; simp; omega
      clear HV
      go_enter Tryd.func61, Tryd.ntmps61
      go_wp2
      go_ret
      exact ⟨ret_bool (by rw [HV2.out]), rfl⟩
  · have t1 : decide (z < hi) = false := by simp; omega
    have t2 : ((hi : Int) == (z : Int)) = false := by simp; omega
    have HV2 : Hid (aboveN hi lo n b = false) := by show _ = _; rw [HV.out]; simp; omega
    clear HV c
    go_enter Tryd.func61, Tryd.ntmps61
    go_wp2
    go_ret
    exact ⟨ret_bool HV2.out.symm, rfl⟩
theorem ret_u32 {a b : Int} (h : a = b) : Ending.returned (.int .u32 a) = .returned (.int .u32 b) := by rw [h]
def sqStep (p r b : Nat) : Nat := let x := (r + 2 ^ b) % M64; let t := timesN 0 x x; if aboveN t.1 t.2 p 0 then r else x
def sqUp (p : Nat) : Nat → Nat
  | 0 => 0
  | k + 1 => sqStep p (sqUp p k) (36 - k)
set_option maxRecDepth 100000 in
set_option maxHeartbeats 400000 in
theorem square_any (p : Nat) (_hp : p < 1000) (w : World) : Calls Tryd.prog 45 #[.int .u64 (p : Int)] w fun e w' => e = .returned (.int .u32 ((sqUp p 37 % 4294967296 : Nat) : Int)) ∧ w = w' := by
  go_enter Tryd.func45, Tryd.ntmps45
  go_wp2
  go_loopw [3, 4] (fun v i wr => ∃ (k r : Nat) (q : Int), k ≤ 37 ∧ v = .int .u64 (r : Int) ∧ i = .int .i64 q ∧ Hid (q = 36 - (k : Int)) ∧ Hid (r = sqUp p k) ∧ r < M64 ∧ w = wr) (fun _ i _ => (intOf i + 1).toNat)
  case atStart => exact ⟨0, 0, 36, by omega, rfl, rfl, rfl, rfl, by decide, rfl⟩
  case round =>
    obtain ⟨k, r, q, hk, rfl, rfl, HQ, HR, hr, rfl⟩ := hrel
    by_cases hlt : k < 37
    · obtain ⟨b, rfl⟩ : ∃ b : Nat, q = (b : Int) := ⟨36 - k, by have := HQ.out; omega⟩
      have hb0 : (0 : Int) ≤ (b : Int) := by omega
      have hb1 : (b : Int) ≤ 36 := by have := HQ.out; omega
      obtain ⟨x, HX⟩ : ∃ x, Hid ((r + 2 ^ b) % M64 = x) := ⟨_, rfl⟩
      have hx : x < M64 := by rw [← HX.out]; exact Nat.mod_lt _ (by decide)
      obtain ⟨e, HE⟩ : ∃ e : Nat, Hid (2 ^ b = e) := ⟨_, rfl⟩
      have he : e < M64 := by rw [← HE.out]; exact Nat.lt_of_le_of_lt (Nat.pow_le_pow_right (by omega) (show b ≤ 36 by omega)) (by decide)
      have w1 : IntKind.u64.wrap (2 ^ b) = (e : Int) := by
        have := wrapM e
        rw [Nat.mod_eq_of_lt he, ← HE.out] at this
        rw [← HE.out, ← this]; congr 1
      have w2 : IntKind.u64.wrap ((r : Int) + (e : Int)) = (x : Int) := by rw [← HX.out, HE.out, ← wrapM]; congr 1
      obtain ⟨h, l, HT⟩ : ∃ h l, Hid (timesN 0 x x = (h, l)) := ⟨_, _, rfl⟩
      obtain ⟨v, HA⟩ : ∃ v, Hid (aboveN h l p 0 = v) := ⟨_, rfl⟩
      have C1 : Hid (∀ W, Calls Tryd.prog 60 #[.int .u64 0, .int .u64 (x : Int), .int .u64 (x : Int)] W fun e w' => e = .returned (.tuple #[.int .u64 (h : Int), .int .u64 (l : Int)]) ∧ W = w') := by
        intro W; have := times_any 0 x x (by decide) hx hx W; rw [HT.out] at this; exact this
      have C2 : Hid (∀ W, Calls Tryd.prog 61 #[.int .u64 (h : Int), .int .u64 (l : Int), .int .u64 (p : Int), .int .i64 0] W fun e w' => e = .returned (.bool v) ∧ W = w') := by
        intro W; have := above_any h l p 0 (by omega) W; rw [HA.out] at this; exact this
      have HS : Hid (sqUp p (k + 1) = if v then r else x) := by
        have hq := HQ.out
        show sqStep p (sqUp p k) (36 - k) = _
        rw [← HR.out, show 36 - k = b by omega, sqStep, HX.out]
        simp only [HT.out, HA.out]
      clear he
      cases v with
      | true =>
        have HS2 : Hid (r = sqUp p (k + 1)) := by show _ = _; rw [HS.out]; rfl
        go_wp2_with fail
        refine (C1.out _).mono ?_; rintro e1 w1 ⟨rfl, rfl⟩
        go_wp2_with fail
        refine (C2.out _).mono ?_; rintro e2 w2 ⟨rfl, rfl⟩
        go_wp2
        go_roundw
        case rel => exact ⟨k + 1, r, _, by omega, rfl, rfl, by show _ = _; have := HQ.out; omega, HS2, hr, trivial⟩
        case measure => simp [intOf]
      | false =>
        have HS2 : Hid (x = sqUp p (k + 1)) := by show _ = _; rw [HS.out]; rfl
        go_wp2_with fail
        refine (C1.out _).mono ?_; rintro e1 w1 ⟨rfl, rfl⟩
        go_wp2_with fail
        refine (C2.out _).mono ?_; rintro e2 w2 ⟨rfl, rfl⟩
        go_wp2
        go_roundw
        case rel => exact ⟨k + 1, x, _, by omega, rfl, rfl, by show _ = _; have := HQ.out; omega, HS2, hx, trivial⟩
        case measure => simp [intOf]
    · obtain rfl : k = 37 := by omega
      have hq : q < 0 := by have := HQ.out; omega
      have HV : Hid (IntKind.u32.wrap (r : Int) = ((sqUp p 37 % 4294967296 : Nat) : Int)) := by
        show _ = _; rw [HR.out]; simp [IntKind.wrap, IntKind.signed, IntKind.bits]
      go_wp2
      go_ret
      exact ⟨ret_u32 HV.out, rfl⟩
def cuStep (p r b : Nat) : Nat := let x := (r + 2 ^ b) % M64; let t := timesN 0 x x; let t := timesN t.1 t.2 x; if aboveN t.1 t.2 p 32 then r else x
def cuUp (p : Nat) : Nat → Nat
  | 0 => 0
  | k + 1 => cuStep p (cuUp p k) (35 - k)
set_option maxRecDepth 100000 in
set_option maxHeartbeats 400000 in
theorem cube_any (p : Nat) (_hp : p < 1000) (w : World) : Calls Tryd.prog 44 #[.int .u64 (p : Int)] w fun e w' => e = .returned (.int .u32 ((cuUp p 36 % 4294967296 : Nat) : Int)) ∧ w = w' := by
  go_enter Tryd.func44, Tryd.ntmps44
  go_wp2
  go_loopw [3, 4] (fun v i wr => ∃ (k r : Nat) (q : Int), k ≤ 36 ∧ v = .int .u64 (r : Int) ∧ i = .int .i64 q ∧ Hid (q = 35 - (k : Int)) ∧ Hid (r = cuUp p k) ∧ r < M64 ∧ w = wr) (fun _ i _ => (intOf i + 1).toNat)
  case atStart => exact ⟨0, 0, 35, by omega, rfl, rfl, rfl, rfl, by decide, rfl⟩
  case round =>
    obtain ⟨k, r, q, hk, rfl, rfl, HQ, HR, hr, rfl⟩ := hrel
    by_cases hlt : k < 36
    · obtain ⟨b, rfl⟩ : ∃ b : Nat, q = (b : Int) := ⟨35 - k, by have := HQ.out; omega⟩
      have hb0 : (0 : Int) ≤ (b : Int) := by omega
      have hb1 : (b : Int) ≤ 35 := by have := HQ.out; omega
      obtain ⟨x, HX⟩ : ∃ x, Hid ((r + 2 ^ b) % M64 = x) := ⟨_, rfl⟩
      have hx : x < M64 := by rw [← HX.out]; exact Nat.mod_lt _ (by decide)
      obtain ⟨e, HE⟩ : ∃ e : Nat, Hid (2 ^ b = e) := ⟨_, rfl⟩
      have he : e < M64 := by rw [← HE.out]; exact Nat.lt_of_le_of_lt (Nat.pow_le_pow_right (by omega) (show b ≤ 35 by omega)) (by decide)
      have w1 : IntKind.u64.wrap (2 ^ b) = (e : Int) := by
        have := wrapM e
        rw [Nat.mod_eq_of_lt he, ← HE.out] at this
        rw [← HE.out, ← this]; congr 1
      have w2 : IntKind.u64.wrap ((r : Int) + (e : Int)) = (x : Int) := by rw [← HX.out, HE.out, ← wrapM]; congr 1
      obtain ⟨h0, l0, HT0⟩ : ∃ h l, Hid (timesN 0 x x = (h, l)) := ⟨_, _, rfl⟩
      obtain ⟨h, l, HT⟩ : ∃ h l, Hid (timesN h0 l0 x = (h, l)) := ⟨_, _, rfl⟩
      have hh : h0 < M64 := by have := (timesYtoeomghebgbniaaDoorlt 0 x x).1; rw [HT0.out] at this; exact this
      have hl : l0 < M64 := by have := (timesYtoeomghebgbniaaDoorlt 0 x x).2; rw [HT0.out] at this; exact this
      obtain ⟨v, HA⟩ : ∃ v, Hid (aboveN h l p 32 = v) := ⟨_, rfl⟩
      have C0 : Hid (∀ W, Calls Tryd.prog 60 #[.int .u64 0, .int .u64 (x : Int), .int .u64 (x : Int)] W fun e w' => e = .returned (.tuple #[.int .u64 (h0 : Int), .int .u64 (l0 : Int)]) ∧ W = w') := by
        intro W; have := times_any 0 x x (by decide) hx hx W; rw [HT0.out] at this; exact this
      have C1 : Hid (∀ W, Calls Tryd.prog 60 #[.int .u64 (h0 : Int), .int .u64 (l0 : Int), .int .u64 (x : Int)] W fun e w' => e = .returned (.tuple #[.int .u64 (h : Int), .int .u64 (l : Int)]) ∧ W = w') := by
        intro W; have := times_any h0 l0 x hh hl hx W; rw [HT.out] at this; exact this
      have C2 : Hid (∀ W, Calls Tryd.prog 61 #[.int .u64 (h : Int), .int .u64 (l : Int), .int .u64 (p : Int), .int .i64 32] W fun e w' => e = .returned (.bool v) ∧ W = w') := by
        intro W; have := above_any h l p 32 (by omega) W; rw [HA.out] at this; exact this
      have HS : Hid (cuUp p (k + 1) = if v then r else x) := by
        have hq := HQ.out
        show cuStep p (cuUp p k) (35 - k) = _
        rw [← HR.out, show 35 - k = b by omega, cuStep, HX.out]
        simp only [HT0.out, HT.out, HA.out]
      clear he hh hl
      cases v with
      | true =>
        have HS2 : Hid (r = cuUp p (k + 1)) := by show _ = _; rw [HS.out]; rfl
        go_wp2_with fail
        refine (C0.out _).mono ?_; rintro e0 w0 ⟨rfl, rfl⟩
        go_wp2_with fail
        refine (C1.out _).mono ?_; rintro e1 w1 ⟨rfl, rfl⟩
        go_wp2_with fail
        refine (C2.out _).mono ?_; rintro e2 w2 ⟨rfl, rfl⟩
        go_wp2
        go_roundw
        case rel => exact ⟨k + 1, r, _, by omega, rfl, rfl, by show _ = _; have := HQ.out; omega, HS2, hr, trivial⟩
        case measure => simp [intOf]
      | false =>
        have HS2 : Hid (x = cuUp p (k + 1)) := by show _ = _; rw [HS.out]; rfl
        go_wp2_with fail
        refine (C0.out _).mono ?_; rintro e0 w0 ⟨rfl, rfl⟩
        go_wp2_with fail
        refine (C1.out _).mono ?_; rintro e1 w1 ⟨rfl, rfl⟩
        go_wp2_with fail
        refine (C2.out _).mono ?_; rintro e2 w2 ⟨rfl, rfl⟩
        go_wp2
        go_roundw
        case rel => exact ⟨k + 1, x, _, by omega, rfl, rfl, by show _ = _; have := HQ.out; omega, HS2, hx, trivial⟩
        case measure => simp [intOf]
    · obtain rfl : k = 36 := by omega
      have hq : q < 0 := by have := HQ.out; omega
      have HV : Hid (IntKind.u32.wrap (r : Int) = ((cuUp p 36 % 4294967296 : Nat) : Int)) := by
        show _ = _; rw [HR.out]; simp [IntKind.wrap, IntKind.signed, IntKind.bits]
      go_wp2
      go_ret
      exact ⟨ret_u32 HV.out, rfl⟩
end Go.Proofs.YtoeomghebgbniaaDoor
