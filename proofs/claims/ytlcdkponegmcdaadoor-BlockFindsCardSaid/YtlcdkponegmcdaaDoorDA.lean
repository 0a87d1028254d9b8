/- block.Size, block.Count: what each call answers. No conditions. -/
import Derived.Test.YtlcdkponegmcdaaDoorBA
import Derived.LoopN
namespace Go.Proofs.YtlcdkponegmcdaaDoor
open Go.RowKit
/-- The block size of a file of n bytes, at most 4096. -/
def szL (n : Nat) : Nat := if n ≤ 512 then 16 else if n ≤ 1024 then 32 else if n ≤ 2048 then 64 else 128
/-- .. of any number; 0 of none. -/
def sizeI (n : Int) : Nat := if n < 0 ∨ 4096 < n then 0 else szL n.toNat
/-- How many blocks a file of n bytes has. -/
def cntL (n : Nat) : Nat := (n + szL n - 1) / szL n
def cntI (n : Int) : Nat := if n < 0 ∨ 4096 < n then 0 else cntL n.toNat
theorem szL_cases (n : Nat) : szL n = 16 ∨ szL n = 32 ∨ szL n = 64 ∨ szL n = 128 := by
  unfold szL; split <;> (try split) <;> (try split) <;> simp
theorem szL_pos (n : Nat) : 0 < szL n := by have := szL_cases n; omega
theorem sizeI_nat (n : Nat) (h : n ≤ 4096) : sizeI (n : Int) = szL n := by unfold sizeI; rw [if_neg (by omega)]; rfl
theorem sizeI_no (n : Int) (h : n < 0 ∨ 4096 < n) : sizeI n = 0 := by unfold sizeI; rw [if_pos h]
theorem cntI_nat (n : Nat) (h : n ≤ 4096) : cntI (n : Int) = cntL n := by unfold cntI; rw [if_neg (by omega)]; rfl
theorem cntI_no (n : Int) (h : n < 0 ∨ 4096 < n) : cntI n = 0 := by unfold cntI; rw [if_pos h]
theorem szL_dbl {s m : Nat} (h : s * 32 < m) (hm : m ≤ 4096) (hc : s = 16 ∨ s = 32 ∨ s = 64 ∨ s = 128) : s * 2 ≤ szL m := by
  have h1 : szL m = if m ≤ 512 then 16 else if m ≤ 1024 then 32 else if m ≤ 2048 then 64 else 128 := rfl
  by_cases a : m ≤ 512
  · omega
  · by_cases b : m ≤ 1024
    · rw [if_neg a, if_pos b] at h1; omega
    · by_cases c : m ≤ 2048
      · rw [if_neg a, if_neg b, if_pos c] at h1; omega
      · rw [if_neg a, if_neg b, if_neg c] at h1; omega
theorem szL_end {s m : Nat} (h : ¬ s * 32 < m) (h2 : s ≤ szL m) (hc : s = 16 ∨ s = 32 ∨ s = 64 ∨ s = 128) : s = szL m := by
  have h1 : szL m = if m ≤ 512 then 16 else if m ≤ 1024 then 32 else if m ≤ 2048 then 64 else 128 := rfl
  by_cases a : m ≤ 512
  · rw [if_pos a] at h1; omega
  · by_cases b : m ≤ 1024
    · rw [if_neg a, if_pos b] at h1; omega
    · by_cases c : m ≤ 2048
      · rw [if_neg a, if_neg b, if_pos c] at h1; omega
      · rw [if_neg a, if_neg b, if_neg c] at h1; omega
theorem ret_i {a b : Int} (h : a = b) : Ending.returned (.int .i64 a) = .returned (.int .i64 b) := by rw [h]
set_option maxRecDepth 100000 in
set_option maxHeartbeats 400000 in
theorem size_any (n : Int) (w : World) : Calls Tryd.prog 10 #[.int .i64 n] w fun e w' => e = .returned (.int .i64 (sizeI n : Int)) ∧ w = w' := by
  by_cases h1 : n < 0
  · have HV : Hid ((sizeI n : Int) = 0) := by show _ = _; rw [sizeI_no n (.inl h1)]; rfl
    go_enter Tryd.func10, Tryd.ntmps10
    go_wp2
    go_ret
    exact ⟨ret_i HV.out.symm, rfl⟩
  · by_cases h2 : 4096 < n
    · have HV : Hid ((sizeI n : Int) = 0) := by show _ = _; rw [sizeI_no n (.inr h2)]; rfl
      go_enter Tryd.func10, Tryd.ntmps10
      go_wp2
      go_ret
      exact ⟨ret_i HV.out.symm, rfl⟩
    · obtain ⟨m, rfl⟩ := Int.eq_ofNat_of_zero_le (a := n) (by omega)
      have h3 : ¬ 4096 < m := by omega
      have HV : Hid ((sizeI (m : Int) : Int) = (szL m : Int)) := by show _ = _; rw [sizeI_nat m (by omega)]
      go_enter Tryd.func10, Tryd.ntmps10
      go_wp2
      go_loopw [3] (fun v wr => ∃ s : Nat, v = .int .i64 (s : Int) ∧ s ≤ 128 ∧ Hid (s ≤ szL m ∧ (s = 16 ∨ s = 32 ∨ s = 64 ∨ s = 128)) ∧ w = wr) (fun v _ => 200 - (intOf v).toNat)
      case atStart => exact ⟨16, rfl, by omega, (⟨by have := szL_cases m; omega, .inl rfl⟩ : 16 ≤ szL m ∧ (16 = 16 ∨ 16 = 32 ∨ 16 = 64 ∨ 16 = 128)), rfl⟩
      case round =>
        obtain ⟨s, rfl, hs, H, rfl⟩ := hrel
        have w1 : IntKind.i64.wrap ((s : Int) * 32) = (s : Int) * 32 := i64in _ (by omega) (by omega)
        have w2 : IntKind.i64.wrap ((s : Int) * 2) = (s : Int) * 2 := i64in _ (by omega) (by omega)
        by_cases hlt : (s : Int) * 32 < (m : Int)
        · go_wp2
          go_roundw
          case rel =>
            have := H.out
            have h5 : s * 2 ≤ szL m := szL_dbl (by omega) (by omega) this.2
            have h6 := szL_cases m
            exact ⟨s * 2, by rw [Int.natCast_mul]; rfl, by omega, (⟨h5, by omega⟩ : s * 2 ≤ szL m ∧ _), trivial⟩
          case measure => have := H.out; simp [intOf]; omega
        · have HE : Hid (s = szL m) := szL_end (by omega) H.out.1 H.out.2
          go_wp2
          go_ret
          exact ⟨ret_i (by rw [HV.out, HE.out]), rfl⟩
set_option maxRecDepth 100000 in
set_option maxHeartbeats 400000 in
theorem count_any (n : Int) (w : World) : Calls Tryd.prog 12 #[.int .i64 n] w fun e w' => e = .returned (.int .i64 (cntI n : Int)) ∧ w = w' := by
  by_cases h : n < 0 ∨ 4096 < n
  · have HV : Hid ((cntI n : Int) = 0) := by show _ = _; rw [cntI_no n h]; rfl
    have C := hid (size_any n)
    rw [sizeI_no n h] at C
    clear h
    go_enter Tryd.func12, Tryd.ntmps12
    go_wp2_with (go_at_call 10; refine (C.out _).mono ?_; rintro e1 w1 ⟨rfl, rfl⟩)
    go_ret
    exact ⟨ret_i HV.out.symm, rfl⟩
  · obtain ⟨m, rfl⟩ := Int.eq_ofNat_of_zero_le (a := n) (by omega)
    have C := hid (size_any (m : Int))
    rw [sizeI_nat m (by omega)] at C
    have hb := szL_cases m
    obtain ⟨s, HS⟩ : ∃ s, Hid (szL m = s) := ⟨_, rfl⟩
    rw [HS.out] at C hb
    have HV : Hid ((cntI (m : Int) : Int) = (((m + s - 1) / s : Nat) : Int)) := by show _ = _; rw [cntI_nat m (by omega), cntL, HS.out]
    have hs0 : ((s : Int) == 0) = false := by simp; omega
    have hs1 : ¬ (s : Int) = 0 := by omega
    have w1 : IntKind.i64.wrap ((m : Int) + (s : Int)) = (m : Int) + s := i64in _ (by omega) (by omega)
    have w2 : IntKind.i64.wrap ((m : Int) + (s : Int) - 1) = ((m + s - 1 : Nat) : Int) := by rw [i64in _ (by omega) (by omega)]; omega
    have w3 : wrap64 (((m + s - 1 : Nat) : Int) / (s : Int)) = (((m + s - 1) / s : Nat) : Int) := by
      rw [← Int.natCast_ediv]
      have := Nat.div_le_self (m + s - 1) s
      generalize (m + s - 1) / s = q at this ⊢
      simp only [wrap64]; omega
    clear hb h
    go_enter Tryd.func12, Tryd.ntmps12
    go_wp2_with (go_at_call 10; refine (C.out _).mono ?_; rintro e1 w1 ⟨rfl, rfl⟩)
    go_ret
    refine ⟨ret_i ?_, rfl⟩
    rw [HV.out]
    exact w3
end Go.Proofs.YtlcdkponegmcdaaDoor
