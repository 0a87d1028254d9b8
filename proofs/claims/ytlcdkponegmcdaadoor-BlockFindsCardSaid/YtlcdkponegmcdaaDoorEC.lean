/- The document's Size and Count; the walk of BlockSizes. Conditions: the listed table. -/
import Derived.Test.YtlcdkponegmcdaaDoorEB
namespace Go.Proofs.YtlcdkponegmcdaaDoor
open Go.RowKit
def lszs : List Nat := [16, 32, 64, 128, 256]
theorem lsz_at (k : Nat) (hk : k < 5) : lszs.getD k 0 = 2 ^ k * 16 := by
  rcases k with _ | _ | _ | _ | _ | k <;> first | rfl | omega
set_option maxRecDepth 100000 in
set_option maxHeartbeats 4000000 in
theorem rsize_any (n : Int) (w : World) : Calls Tryd.prog 11 #[.int .i64 n] w fun e w' => e = .returned (.int .i64 (sizeI n : Int)) ∧ Below w.heap.size w w' := by
  by_cases h1 : n < 0
  · have HV : Hid ((sizeI n : Int) = 0) := by show _ = _; rw [sizeI_no n (.inl h1)]; rfl
    go_enter Tryd.func11, Tryd.ntmps11
    go_wp2
    go_ret
    exact ⟨ret_i HV.out.symm, Below.refl _ _⟩
  · by_cases h2 : 4096 < n
    · have HV : Hid ((sizeI n : Int) = 0) := by show _ = _; rw [sizeI_no n (.inr h2)]; rfl
      go_enter Tryd.func11, Tryd.ntmps11
      go_wp2
      go_ret
      exact ⟨ret_i HV.out.symm, Below.refl _ _⟩
    · obtain ⟨m, rfl⟩ := Int.eq_ofNat_of_zero_le (a := n) (by omega)
      have h3 : ¬ 4096 < m := by omega
      have HV : Hid ((sizeI (m : Int) : Int) = (szL m : Int)) := by show _ = _; rw [sizeI_nat m (by omega)]
      have HH : Hid (Has (w.alloc (.cells #[.int .i64 16, .int .i64 32, .int .i64 64, .int .i64 128, .int .i64 256] 3)) w.heap.size 3 #[.int .i64 16, .int .i64 32, .int .i64 64, .int .i64 128, .int .i64 256]) := Has.fresh w 3 _
      have HB : Hid (Below w.heap.size w (w.alloc (.cells #[.int .i64 16, .int .i64 32, .int .i64 64, .int .i64 128, .int .i64 256] 3))) := (Below.refl _ _).alloc (Nat.le_refl _) _
      go_enter Tryd.func11, Tryd.ntmps11
      go_wp2
      go_loopw [4] (fun v wr => ∃ k : Nat, v = .int .i64 (k : Int) ∧ k ≤ 3 ∧ Hid (k = 0 ∨ 2 ^ (k - 1) * 512 < m) ∧ wr = w.alloc (.cells #[.int .i64 16, .int .i64 32, .int .i64 64, .int .i64 128, .int .i64 256] 3)) (fun v _ => 5 - (intOf v).toNat)
      case atStart => exact ⟨0, rfl, by omega, (.inl rfl : 0 = 0 ∨ _), rfl⟩
      case round =>
        obtain ⟨k, rfl, hk, H, rfl⟩ := hrel
        have w1 : IntKind.i64.wrap ((k : Int) + 1) = (k : Int) + 1 := i64in _ (by omega) (by omega)
        have hk5 : (k : Int) < 5 := by omega
        have c0 : (w.alloc (.cells #[.int .i64 16, .int .i64 32, .int .i64 64, .int .i64 128, .int .i64 256] 3)).cell? ⟨w.heap.size, k, none⟩ = some (.int .i64 ((lszs.getD k 0 : Nat) : Int)) := by
          rw [HH.out.at_]
          rcases k with _ | _ | _ | _ | k <;> first | rfl | omega
        obtain ⟨z, HZ⟩ : ∃ z, Hid (lszs.getD k 0 = z) := ⟨_, rfl⟩
        rw [HZ.out] at c0
        have hz : z = 16 ∨ z = 32 ∨ z = 64 ∨ z = 128 := by
          have := HZ.out
          rcases k with _ | _ | _ | _ | k
          · exact .inl this.symm
          · exact .inr (.inl this.symm)
          · exact .inr (.inr (.inl this.symm))
          · exact .inr (.inr (.inr this.symm))
          · omega
        have w2 : IntKind.i64.wrap ((z : Int) * 32) = (z : Int) * 32 := i64in _ (by omega) (by omega)
        by_cases hlt : (m : Int) ≤ (z : Int) * 32
        · have HE : Hid (z = szL m) := by
            show _ = _
            have h5 : szL m = if m ≤ 512 then 16 else if m ≤ 1024 then 32 else if m ≤ 2048 then 64 else 128 := rfl
            have h6 := H.out
            have h7 := HZ.out
            rcases k with _ | _ | _ | _ | k
            · obtain rfl : z = 16 := h7.symm
              rw [if_pos (by omega)] at h5; exact h5.symm
            · obtain rfl : z = 32 := h7.symm
              simp at h6
              rw [if_neg (by omega), if_pos (by omega)] at h5; exact h5.symm
            · obtain rfl : z = 64 := h7.symm
              simp at h6
              rw [if_neg (by omega), if_neg (by omega), if_pos (by omega)] at h5; exact h5.symm
            · obtain rfl : z = 128 := h7.symm
              simp at h6
              rw [if_neg (by omega), if_neg (by omega), if_neg (by omega)] at h5; exact h5.symm
            · omega
          clear hz
          go_wp2
          go_ret
          exact ⟨ret_i (by rw [HV.out, HE.out]), HB.out⟩
        · have HN : Hid (k + 1 ≤ 3 ∧ 2 ^ (k + 1 - 1) * 512 < m) := by
            show _ ∧ _
            have h7 := HZ.out
            rcases k with _ | _ | _ | _ | k
            · obtain rfl : z = 16 := h7.symm
              simp; omega
            · obtain rfl : z = 32 := h7.symm
              simp; omega
            · obtain rfl : z = 64 := h7.symm
              simp; omega
            · obtain rfl : z = 128 := h7.symm
              omega
            · omega
          clear hz
          go_wp2
          go_roundw
          case rel => exact ⟨k + 1, by go_num, HN.out.1, (.inr HN.out.2 : k + 1 = 0 ∨ 2 ^ (k + 1 - 1) * 512 < m), trivial⟩
          case measure => simp [intOf]; omega
set_option maxRecDepth 100000 in
set_option maxHeartbeats 4000000 in
theorem rcount_any (n : Int) (w : World) : Calls Tryd.prog 13 #[.int .i64 n] w fun e w' => e = .returned (.int .i64 (cntI n : Int)) ∧ Below w.heap.size w w' := by
  by_cases h : n < 0 ∨ 4096 < n
  · have HV : Hid ((cntI n : Int) = 0) := by show _ = _; rw [cntI_no n h]; rfl
    have C := hid (rsize_any n w)
    rw [sizeI_no n h] at C
    clear h
    go_enter Tryd.func13, Tryd.ntmps13
    go_wp2_with (go_at_call 11; refine C.out.mono ?_; rintro e1 w1 ⟨rfl, hb1⟩)
    go_loopw [4] (fun v wr => v = .int .i64 0 ∧ wr = w1) (fun _ _ => 0)
    case atStart => exact ⟨rfl, rfl⟩
    case round =>
      obtain ⟨rfl, rfl⟩ := hrel
      go_wp2
      go_ret
      exact ⟨ret_i HV.out.symm, hb1⟩
  · obtain ⟨m, rfl⟩ := Int.eq_ofNat_of_zero_le (a := n) (by omega)
    have C := hid (rsize_any (m : Int) w)
    rw [sizeI_nat m (by omega)] at C
    have hb := szL_cases m
    obtain ⟨s, HS⟩ : ∃ s, Hid (szL m = s) := ⟨_, rfl⟩
    rw [HS.out] at C hb
    obtain ⟨c, HC⟩ : ∃ c, Hid (cntL m = c) := ⟨_, rfl⟩
    have HV : Hid ((cntI (m : Int) : Int) = (c : Int)) := by show _ = _; rw [cntI_nat m (by omega), HC.out]
    have HK : Hid (∀ k : Nat, k * s < m ↔ k < c) := by
      intro k
      rw [← HC.out, cntL, HS.out, Nat.lt_div_iff_mul_lt (by omega)]
      constructor <;> intro h <;> omega
    have hm : m ≤ 4096 := by omega
    have hs0 : (0 : Int) < (s : Int) := by omega
    have hs8 : s ≤ 128 := by omega
    clear hb h
    go_enter Tryd.func13, Tryd.ntmps13
    go_wp2_with (go_at_call 11; refine C.out.mono ?_; rintro e1 w1 ⟨rfl, hb1⟩)
    have HB1 := hid hb1
    clear hb1
    go_loopw [4] (fun v wr => ∃ k : Nat, v = .int .i64 (k : Int) ∧ k ≤ c ∧ k ≤ m ∧ wr = w1) (fun v _ => c - (intOf v).toNat)
    case atStart => exact ⟨0, rfl, by omega, by omega, rfl⟩
    case round =>
      obtain ⟨k, rfl, hk, hkm, rfl⟩ := hrel
      have w1 : IntKind.i64.wrap ((k : Int) + 1) = (k : Int) + 1 := i64in _ (by omega) (by omega)
      obtain ⟨q, HQ⟩ : ∃ q, Hid (k * s = q) := ⟨_, rfl⟩
      have hq : q ≤ 4096 * 128 := by rw [← HQ.out]; exact Nat.mul_le_mul (by omega) hs8
      have w2 : IntKind.i64.wrap ((k : Int) * (s : Int)) = (q : Int) := by
        have e : (k : Int) * (s : Int) = (q : Int) := by rw [← HQ.out, Int.natCast_mul]
        rw [e]; exact i64in _ (by omega) (by omega)
      have hK := HK.out k
      rw [HQ.out] at hK
      by_cases hlt : q < m
      · have h1 : (q : Int) < (m : Int) := by omega
        have HN : Hid (k < c) := hK.1 hlt
        have hkm2 : k + 1 ≤ m := by
          rcases Nat.eq_zero_or_pos k with h | h
          · omega
          · have := HQ.out; have : k ≤ k * s := Nat.le_mul_of_pos_right k (by omega); omega
        clear hK
        go_wp2
        go_roundw
        case rel => exact ⟨k + 1, by go_num, HN.out, hkm2, trivial⟩
        case measure => have := HN.out; simp [intOf]; omega
      · have h1 : ¬ (q : Int) < (m : Int) := by omega
        have HE : Hid (k = c) := by show _ = _; have : ¬ k < c := fun e => hlt (hK.2 e); omega
        clear hK
        go_wp2
        go_ret
        exact ⟨ret_i (by rw [HV.out, HE.out]), HB1.out⟩
set_option maxRecDepth 100000 in
set_option maxHeartbeats 4000000 in
theorem sizes_any (n : Int) (w : World) (hT : Sha.Tab w) : Calls Tryd.prog 3 #[.int .i64 n] w fun e w' => e = .returned (.bool true) ∧ Below w.heap.size w w' := by
  have C1 := hid (size_any n)
  have C2 := hid (rsize_any n)
  have C3 := hid (count_any n)
  have C4 := hid (rcount_any n)
  have HT := hid hT
  have HP := hid hT.pos
  generalize (sizeI n : Int) = s at C1 C2
  generalize (cntI n : Int) = c at C3 C4
  clear hT
  go_enter Tryd.func3, Tryd.ntmps3
  go_wp2_with (first
    | (go_at_call 10; refine (C1.out _).mono ?_; rintro e1 w1 ⟨rfl, rfl⟩)
    | (go_at_call 11; refine (C2.out _).mono ?_; rintro e2 w2 ⟨rfl, hb2⟩)
    | (go_at_call 12; refine (C3.out _).mono ?_; rintro e3 w3 ⟨rfl, rfl⟩)
    | (go_at_call 13; refine (C4.out _).mono ?_; rintro e4 w4 ⟨rfl, hb4⟩
       have B4 : Hid (Below w.heap.size w w4) := hb2.trans (hb4.mono hb2.size)
       clear hb2 hb4)
    | (go_at_call 14; refine (awake_any _ (HT.out.kept B4.out HP.out)).mono ?_; rintro e5 w5 ⟨rfl, hb5⟩))
  go_ret
  exact ⟨rfl, B4.out.trans (hb5.mono B4.out.size)⟩
end Go.Proofs.YtlcdkponegmcdaaDoor
