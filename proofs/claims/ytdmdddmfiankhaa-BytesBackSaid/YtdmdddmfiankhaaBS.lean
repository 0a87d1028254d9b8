/- What is laid is taken back; what is cut tears: plain facts. No conditions. -/
import Derived.Test.YtdmdddmfiankhaaBR
namespace Go.Proofs.Ytdmdddmfiankhaa
open Go.RowKit
theorem wid_pow {k : Nat} (h : k < 4) : wid ((2 ^ k : Nat) : Int) = true := by
  obtain rfl | rfl | rfl | rfl : k = 0 ∨ k = 1 ∨ k = 2 ∨ k = 3 := by omega
  all_goals rfl
theorem numL_pow {k : Nat} (h : k < 4) (n : Nat) : (numL ((2 ^ k : Nat) : Int) n).length = 2 ^ k := by
  rw [numL, if_pos (wid_pow h), highs_len, Int.toNat_natCast]
theorem numT_val (x : Int) (n : Nat) (hn : n < 18446744073709551616) (h4 : kd x < 4) : n % 256 ^ (2 ^ kd x) = numT x n := by
  unfold numT
  obtain h | h | h | h : kd x = 0 ∨ kd x = 1 ∨ kd x = 2 ∨ kd x = 3 := by omega
  all_goals
    rw [h]
    simp
  omega
theorem nxt_good (ys zs : List UInt8) (k : Int) (hw : wid k = true) (hl : (ys.length : Int) = k) : nxt (false, ys ++ zs) k = some (valL ys) := by
  unfold nxt
  rw [if_pos ⟨rfl, hw, by simp; omega⟩]
  have : k.toNat = ys.length := by omega
  rw [this, List.take_left]
theorem nxt_less (ys : List UInt8) (t : Bool) (k : Int) (hl : (ys.length : Int) < k) : nxt (t, ys) k = none := by
  unfold nxt
  rw [if_neg (fun h => by have := h.2.2; simp only at this; omega)]
theorem numL_two (n : Nat) : (numL 2 n).length = 2 := by rw [numL, if_pos (show wid 2 = true from rfl), highs_len]; rfl
theorem val_two (n : Nat) (h : n ≤ 65535) : valL (numL 2 n) = n := by rw [val_numL 2 rfl]; exact Nat.mod_eq_of_lt (by show n < 256 ^ 2; omega)
theorem back_pure (x : Int) (n : Nat) (hn : n < 18446744073709551616) (s : ByteArray) (zs : List UInt8) : backS x n s (false, thL x n s ++ zs) = (true, (false, zs)) := by
  have hk := kd_le x
  by_cases h4 : kd x = 4
  · rw [backS, if_pos h4, thL, if_pos h4]
    generalize ht : (tl s).take 300 = t
    have hl : t.length ≤ 300 := by rw [← ht, List.length_take]; omega
    have hn2 : nxt (false, textL t ++ zs) 2 = some t.length := by
      rw [textL, List.append_assoc, nxt_good _ _ 2 rfl (by rw [numL_two]; rfl), val_two _ (by omega)]
    have e : textS (false, textL t ++ zs) 300 = (t, (false, zs)) := by
      rw [textS, hn2]
      have hd : (textL t ++ zs).drop 2 = t ++ zs := by
        rw [textL, List.append_assoc]
        have := numL_two t.length
        rw [← this, List.drop_left]
      simp only [hd]
      rw [if_pos ⟨by omega, by rw [textL]; simp [numL_two]; omega⟩, List.take_left, List.drop_left]
    rw [e]; simp
  · have h5 : kd x < 4 := by omega
    rw [backS, if_neg h4, thL, if_neg h4]
    have hln := numL_pow h5 n
    have hn2 := nxt_good (numL ((2 ^ kd x : Nat) : Int) n) zs ((2 ^ kd x : Nat) : Int) (wid_pow h5) (by rw [hln])
    rw [val_numL _ (wid_pow h5), Int.toNat_natCast, numT_val x n hn h5] at hn2
    have e : numS (false, numL ((2 ^ kd x : Nat) : Int) n ++ zs) ((2 ^ kd x : Nat) : Int) = (numT x n, (false, zs)) := by
      rw [numS, hn2]
      simp only
      rw [Int.toNat_natCast]
      have : (numL ((2 ^ kd x : Nat) : Int) n ++ zs).drop (2 ^ kd x) = zs := by
        conv => lhs; arg 1; rw [← hln]
        rw [List.drop_left]
      rw [this]
    rw [e]; simp
/-- What is cut within a thing tears. -/
theorem cut_pure (x : Int) (n : Nat) (s : ByteArray) (c : Nat) (hc : c < (thL x n s).length) : (backS x n s (false, (thL x n s).take c)).2.1 = true := by
  have hk := kd_le x
  by_cases h4 : kd x = 4
  · rw [thL, if_pos h4] at hc
    rw [backS, if_pos h4, thL, if_pos h4]
    generalize ht : (tl s).take 300 = t at hc ⊢
    have hl : t.length ≤ 300 := by rw [← ht, List.length_take]; omega
    have hT : (textL t).length = 2 + t.length := by rw [textL, List.length_append, numL_two]
    by_cases h2 : c < 2
    · rw [textS, nxt_less _ _ 2 (by rw [List.length_take]; omega)]; rfl
    · have e1 : (textL t).take c = numL 2 t.length ++ t.take (c - 2) := by
        rw [textL, List.take_append, numL_two, List.take_of_length_le (by rw [numL_two]; omega)]
      have hn2 : nxt (false, (textL t).take c) 2 = some t.length := by
        rw [e1, nxt_good _ _ 2 rfl (by rw [numL_two]; rfl), val_two _ (by omega)]
      rw [textS, hn2]
      simp only
      rw [if_neg (fun h => by have := h.2; rw [List.length_take] at this; omega)]
      rfl
  · have h5 : kd x < 4 := by omega
    rw [thL, if_neg h4] at hc
    rw [backS, if_neg h4, thL, if_neg h4]
    rw [numL_pow h5] at hc
    rw [numS, nxt_less _ _ _ (by rw [List.length_take, numL_pow h5]; omega)]; rfl
theorem thL_len (x : Int) (n : Nat) (s : ByteArray) : (thL x n s).length ≤ 310 := by
  unfold thL
  split
  · rw [textL, List.length_append, numL_two, List.length_take]; omega
  · have := numL_len ((2 ^ kd x : Nat) : Int) n; omega
end Go.Proofs.Ytdmdddmfiankhaa
