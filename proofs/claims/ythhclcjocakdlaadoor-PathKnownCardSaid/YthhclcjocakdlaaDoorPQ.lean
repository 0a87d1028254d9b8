/- The walk of the law PathLost: conflict names of unlike times, or devices, are unlike. Conditions: a world in which the listed variables lie. -/
import Derived.Test.YthhclcjocakdlaaDoorPJ
namespace Go.Proofs.YthhclcjocakdlaaDoor
open Go.RowKit
/-- What decimal digits say. -/
def valL (l : List UInt8) : Nat := l.foldl (fun a c => 10 * a + (c.toNat - 48)) 0
theorem valL_snoc (l : List UInt8) (c : UInt8) : valL (l ++ [c]) = 10 * valL l + (c.toNat - 48) := by simp [valL]
theorem valL_zero (n : Nat) (l : List UInt8) : valL (List.replicate n 48 ++ l) = valL l := by
  unfold valL
  rw [List.foldl_append]
  congr 1
  induction n with
  | zero => rfl
  | succ n ih => rw [List.replicate_succ, List.foldl_cons]; exact ih
theorem valL_dec (n : Nat) : ∀ u, u ≤ n → valL (Lib.decDigits u) = u := by
  induction n with
  | zero => intro u h; obtain rfl : u = 0 := by omega
            rw [Lib.decDigits]; rfl
  | succ n ih =>
    intro u h
    rw [Lib.decDigits]
    by_cases h10 : u < 10
    · rw [dif_pos h10]
      simp [valL]; omega
    · rw [dif_neg h10, valL_snoc, ih (u / 10) (by omega)]
      simp; omega
theorem padL_inj {a b : Int} {m : Nat} (ha : 0 ≤ a) (hb : 0 ≤ b) (h : padL a m = padL b m) : a = b := by
  have h2 := congrArg valL h
  rw [padL, padL, valL_zero, valL_zero, Lib.itoa, if_neg (by omega), Lib.itoa, if_neg (by omega), valL_dec _ _ (Nat.le_refl _), valL_dec _ _ (Nat.le_refl _)] at h2
  omega
theorem padL_ten (t : Int) (h0 : 0 ≤ t) (h1 : t ≤ 4294967295) : (padL t 10).length = 10 := by
  rw [padL, List.length_append, List.length_replicate, Lib.itoa, if_neg (by omega), Lib.decDigits_length]
  have := nDigits_bound 9 t.toNat (by omega)
  omega
theorem beside_inj {p a b : List UInt8} (h : besideL p a = besideL p b) : a = b := by
  unfold besideL at h
  split at h
  · exact h
  · have := List.append_cancel_left h; simpa using this
theorem conflict_inj (p : List UInt8) {t t' y y' : Int} (h0 : 0 ≤ t) (h1 : t ≤ 4294967295) (k0 : 0 ≤ t') (k1 : t' ≤ 4294967295) (y0 : 0 ≤ y) (y1 : 0 ≤ y') (h : conflictL p t y = conflictL p t' y') : t = t' ∧ y = y' := by
  have h2 := beside_inj h
  unfold clashL at h2
  have h3 := List.append_cancel_left (List.append_cancel_right h2)
  rw [List.append_assoc, List.append_assoc] at h3
  have h4 := List.append_cancel_left h3
  have h5 := List.append_inj h4 (by rw [padL_ten t h0 h1, padL_ten t' k0 k1])
  exact ⟨padL_inj (m := 10) h0 k0 h5.1, padL_inj (m := 2) y0 y1 (List.cons.inj h5.2).2⟩
theorem conflict_v (s : ByteArray) (t y : Int) (h1 : 0 ≤ t) (h2 : t ≤ 4294967295) (h3 : 1 ≤ y) (h4 : y ≤ 16) (x : ByteArray) (m : Bool) (hm : Hid (mayB (tl s) = m)) (hx : Hid (ba (if mayB (tl s) then conflictL (tl s) t y else []) = x)) (w : World) (hG : Gd w) (hs : s.size ≤ 4000) :
    Calls Tryd.prog 38 #[.string s, .int .i64 t, .int .i64 y] w fun e w' => e = .returned (.tuple #[.string x, .bool m]) ∧ Below w.heap.size w w' := by
  have hm' := hm.out
  rw [← hx.out, hm']
  cases m with
  | false => exact conflict_no s t y hm' w hG hs
  | true =>
    have hl : s.size ≤ 300 := by
      unfold mayB at hm'; simp only [Bool.and_eq_true, decide_eq_true_eq] at hm'
      have := hm'.1.1; rw [tl_length] at this; omega
    exact conflict_yes s t y hm' h1 h2 h3 h4 w hG hl
set_option maxRecDepth 100000 in
set_option maxHeartbeats 1000000 in
theorem lost_any (a0 : ByteArray) (t1 t2 b1 b2 : Int) (w : World) (hG : Gd w) (ha0 : a0.size ≤ maxLen) (h1 : 0 ≤ t1) (h2 : t1 ≤ 4294967295) (k1 : 0 ≤ t2) (k2 : t2 ≤ 4294967295) (p1 : 0 ≤ b1) (p2 : b1 ≤ 255) (q1 : 0 ≤ b2) (q2 : b2 ≤ 255) :
    Calls Tryd.prog 12 #[.agg #[.string a0, .int .u32 t1, .int .u32 t2, .int .u8 b1, .int .u8 b2]] w fun e w' => e = .returned (.bool true) ∧ Below w.heap.size w w' := by
  have HG := hid hG
  obtain ⟨a, HA⟩ : ∃ a, Hid (ba ((tl a0).take 400) = a) := ⟨_, rfl⟩
  have ka := small_cut a0 a HA.out
  have CA : Hid (∀ W, Calls Tryd.prog 17 #[.string a0] W fun e w' => e = .returned (.string a) ∧ W = w') := by intro W; rw [← HA.out]; exact cut_str a0 W ha0
  obtain ⟨m, hm⟩ : ∃ m, mayB (tl a) = m := ⟨_, rfl⟩
  obtain ⟨x, hx⟩ : ∃ x, ba (if mayB (tl a) then conflictL (tl a) t1 (1 + b1 % 16) else []) = x := ⟨_, rfl⟩
  obtain ⟨y, hy⟩ : ∃ y, ba (if mayB (tl a) then conflictL (tl a) t2 (1 + b2 % 16) else []) = y := ⟨_, rfl⟩
  have C1 : Hid (∀ W, Gd W → Calls Tryd.prog 38 #[.string a, .int .i64 t1, .int .i64 (1 + b1 % 16)] W fun e w' => e = .returned (.tuple #[.string x, .bool m]) ∧ Below W.heap.size W w') := fun W h =>
    conflict_v a t1 (1 + b1 % 16) h1 h2 (by omega) (by omega) x m hm hx W h (by omega)
  have C2 : Hid (∀ W, Gd W → Calls Tryd.prog 38 #[.string a, .int .i64 t2, .int .i64 (1 + b2 % 16)] W fun e w' => e = .returned (.tuple #[.string y, .bool m]) ∧ Below W.heap.size W w') := fun W h =>
    conflict_v a t2 (1 + b2 % 16) k1 k2 (by omega) (by omega) y m hm hy W h (by omega)
  have HX : Hid (m = true → (x.toList == y.toList) = decide (t1 = t2 ∧ b1 % 16 = b2 % 16)) := by
    intro e
    rw [toList_tl, toList_tl, ← hx, ← hy, hm, e, if_pos rfl, if_pos rfl, tl_ba, tl_ba]
    by_cases h : t1 = t2 ∧ b1 % 16 = b2 % 16
    · rw [decide_eq_true h, h.1, h.2]; simp
    · rw [decide_eq_false h]
      refine beq_eq_false_iff_ne.2 (fun e => h ?_)
      have := conflict_inj (tl a) h1 h2 k1 k2 (by omega) (by omega) e
      exact ⟨this.1, by omega⟩
  clear hG hm hx hy
  have key : m = false ∨ (m = true ∧ t1 ≠ t2) ∨ (m = true ∧ t1 = t2 ∧ b1 % 16 ≠ b2 % 16) ∨ (m = true ∧ t1 = t2 ∧ b1 % 16 = b2 % 16) := by
    cases m <;> simp <;> omega
  rcases key with rfl | ⟨rfl, hne⟩ | ⟨rfl, rfl, hne⟩ | ⟨rfl, rfl, heq⟩
  · clear HX
    go_enter Tryd.func12, Tryd.ntmps12
    go_wp2_with fail
    refine (CA.out _).mono ?_; rintro e1 w1 ⟨rfl, rfl⟩
    go_wp2
    go_region
    go_wp2_with fail
    refine (C1.out _ (HG.out.kept (((Below.refl _ _).alloc (Nat.le_refl _) _).alloc (by simp) _).drew)).mono ?_; rintro e2 w2 ⟨rfl, hb2⟩
    have B2 : Hid (Below w.heap.size w w2) := (((Below.refl w.heap.size w).alloc (Nat.le_refl _) _).alloc (by simp) _).drew.trans (hb2.mono (by simp; omega))
    have A2 : Hid (Has w2 (w.heap.size + 1) 44 #[.int .u8 b1, .int .u8 b2]) := Has.kept (Has.drawn (Has.fresh' _ _ _ (by simp)) 1) hb2 (by simp)
    have c0 : w2.cell? ⟨w.heap.size + 1, 0, none⟩ = some (.int .u8 b1) := A2.out.at_ 0
    have c1 : w2.cell? ⟨w.heap.size + 1, 1, none⟩ = some (.int .u8 b2) := A2.out.at_ 1
    clear hb2
    go_wp2_with fail
    refine (C2.out _ (HG.out.kept B2.out)).mono ?_; rintro e3 w3 ⟨rfl, hb3⟩
    have B3 : Hid (Below w.heap.size w w3) := B2.out.trans (hb3.mono B2.out.size)
    have A3 : Hid (Has w3 (w.heap.size + 1) 44 #[.int .u8 b1, .int .u8 b2]) := A2.out.kept hb3 A2.out.inside
    have c0 : w3.cell? ⟨w.heap.size + 1, 0, none⟩ = some (.int .u8 b1) := A3.out.at_ 0
    have c1 : w3.cell? ⟨w.heap.size + 1, 1, none⟩ = some (.int .u8 b2) := A3.out.at_ 1
    clear hb3
    go_wp2_with fail
    refine (works_any _ (HG.out.kept B3.out)).mono ?_; rintro e4 w4 ⟨rfl, hb4⟩; have B4 : Hid (Below w.heap.size w w4) := B3.out.trans (hb4.mono B3.out.size); clear hb4
    go_wp2
    go_ret
    exact ⟨rfl, B4.out⟩
  · have g1 : (t1 == t2) = false := by simp [hne]
    have g2 : (x.toList == y.toList) = false := by rw [HX.out rfl]; simp [hne]
    clear HX hne
    go_enter Tryd.func12, Tryd.ntmps12
    go_wp2_with fail
    refine (CA.out _).mono ?_; rintro e1 w1 ⟨rfl, rfl⟩
    go_wp2
    go_region
    go_wp2_with fail
    refine (C1.out _ (HG.out.kept (((Below.refl _ _).alloc (Nat.le_refl _) _).alloc (by simp) _).drew)).mono ?_; rintro e2 w2 ⟨rfl, hb2⟩
    have B2 : Hid (Below w.heap.size w w2) := (((Below.refl w.heap.size w).alloc (Nat.le_refl _) _).alloc (by simp) _).drew.trans (hb2.mono (by simp; omega))
    have A2 : Hid (Has w2 (w.heap.size + 1) 44 #[.int .u8 b1, .int .u8 b2]) := Has.kept (Has.drawn (Has.fresh' _ _ _ (by simp)) 1) hb2 (by simp)
    have c0 : w2.cell? ⟨w.heap.size + 1, 0, none⟩ = some (.int .u8 b1) := A2.out.at_ 0
    have c1 : w2.cell? ⟨w.heap.size + 1, 1, none⟩ = some (.int .u8 b2) := A2.out.at_ 1
    clear hb2
    go_wp2_with fail
    refine (C2.out _ (HG.out.kept B2.out)).mono ?_; rintro e3 w3 ⟨rfl, hb3⟩
    have B3 : Hid (Below w.heap.size w w3) := B2.out.trans (hb3.mono B2.out.size)
    have A3 : Hid (Has w3 (w.heap.size + 1) 44 #[.int .u8 b1, .int .u8 b2]) := A2.out.kept hb3 A2.out.inside
    have c0 : w3.cell? ⟨w.heap.size + 1, 0, none⟩ = some (.int .u8 b1) := A3.out.at_ 0
    have c1 : w3.cell? ⟨w.heap.size + 1, 1, none⟩ = some (.int .u8 b2) := A3.out.at_ 1
    clear hb3
    go_wp2_with fail
    refine (works_any _ (HG.out.kept B3.out)).mono ?_; rintro e4 w4 ⟨rfl, hb4⟩; have B4 : Hid (Below w.heap.size w w4) := B3.out.trans (hb4.mono B3.out.size); clear hb4
    go_wp2
    go_ret
    exact ⟨rfl, B4.out⟩
  · have g1 : (b1 % 16 == b2 % 16) = false := by simp [hne]
    have g2 : (x.toList == y.toList) = false := by rw [HX.out rfl]; simp [hne]
    clear HX hne
    go_enter Tryd.func12, Tryd.ntmps12
    go_wp2_with fail
    refine (CA.out _).mono ?_; rintro e1 w1 ⟨rfl, rfl⟩
    go_wp2
    go_region
    go_wp2_with fail
    refine (C1.out _ (HG.out.kept (((Below.refl _ _).alloc (Nat.le_refl _) _).alloc (by simp) _).drew)).mono ?_; rintro e2 w2 ⟨rfl, hb2⟩
    have B2 : Hid (Below w.heap.size w w2) := (((Below.refl w.heap.size w).alloc (Nat.le_refl _) _).alloc (by simp) _).drew.trans (hb2.mono (by simp; omega))
    have A2 : Hid (Has w2 (w.heap.size + 1) 44 #[.int .u8 b1, .int .u8 b2]) := Has.kept (Has.drawn (Has.fresh' _ _ _ (by simp)) 1) hb2 (by simp)
    have c0 : w2.cell? ⟨w.heap.size + 1, 0, none⟩ = some (.int .u8 b1) := A2.out.at_ 0
    have c1 : w2.cell? ⟨w.heap.size + 1, 1, none⟩ = some (.int .u8 b2) := A2.out.at_ 1
    clear hb2
    go_wp2_with fail
    refine (C2.out _ (HG.out.kept B2.out)).mono ?_; rintro e3 w3 ⟨rfl, hb3⟩
    have B3 : Hid (Below w.heap.size w w3) := B2.out.trans (hb3.mono B2.out.size)
    have A3 : Hid (Has w3 (w.heap.size + 1) 44 #[.int .u8 b1, .int .u8 b2]) := A2.out.kept hb3 A2.out.inside
    have c0 : w3.cell? ⟨w.heap.size + 1, 0, none⟩ = some (.int .u8 b1) := A3.out.at_ 0
    have c1 : w3.cell? ⟨w.heap.size + 1, 1, none⟩ = some (.int .u8 b2) := A3.out.at_ 1
    clear hb3
    go_wp2_with fail
    refine (works_any _ (HG.out.kept B3.out)).mono ?_; rintro e4 w4 ⟨rfl, hb4⟩; have B4 : Hid (Below w.heap.size w w4) := B3.out.trans (hb4.mono B3.out.size); clear hb4
    go_wp2
    go_ret
    exact ⟨rfl, B4.out⟩
  · have g1 : (b1 % 16 == b2 % 16) = true := by simp [heq]
    have g2 : (x.toList == y.toList) = true := by rw [HX.out rfl]; simp [heq]
    clear HX heq
    go_enter Tryd.func12, Tryd.ntmps12
    go_wp2_with fail
    refine (CA.out _).mono ?_; rintro e1 w1 ⟨rfl, rfl⟩
    go_wp2
    go_region
    go_wp2_with fail
    refine (C1.out _ (HG.out.kept (((Below.refl _ _).alloc (Nat.le_refl _) _).alloc (by simp) _).drew)).mono ?_; rintro e2 w2 ⟨rfl, hb2⟩
    have B2 : Hid (Below w.heap.size w w2) := (((Below.refl w.heap.size w).alloc (Nat.le_refl _) _).alloc (by simp) _).drew.trans (hb2.mono (by simp; omega))
    have A2 : Hid (Has w2 (w.heap.size + 1) 44 #[.int .u8 b1, .int .u8 b2]) := Has.kept (Has.drawn (Has.fresh' _ _ _ (by simp)) 1) hb2 (by simp)
    have c0 : w2.cell? ⟨w.heap.size + 1, 0, none⟩ = some (.int .u8 b1) := A2.out.at_ 0
    have c1 : w2.cell? ⟨w.heap.size + 1, 1, none⟩ = some (.int .u8 b2) := A2.out.at_ 1
    clear hb2
    go_wp2_with fail
    refine (C2.out _ (HG.out.kept B2.out)).mono ?_; rintro e3 w3 ⟨rfl, hb3⟩
    have B3 : Hid (Below w.heap.size w w3) := B2.out.trans (hb3.mono B2.out.size)
    have A3 : Hid (Has w3 (w.heap.size + 1) 44 #[.int .u8 b1, .int .u8 b2]) := A2.out.kept hb3 A2.out.inside
    have c0 : w3.cell? ⟨w.heap.size + 1, 0, none⟩ = some (.int .u8 b1) := A3.out.at_ 0
    have c1 : w3.cell? ⟨w.heap.size + 1, 1, none⟩ = some (.int .u8 b2) := A3.out.at_ 1
    clear hb3
    go_wp2_with fail
    refine (works_any _ (HG.out.kept B3.out)).mono ?_; rintro e4 w4 ⟨rfl, hb4⟩; have B4 : Hid (Below w.heap.size w w4) := B3.out.trans (hb4.mono B3.out.size); clear hb4
    go_wp2
    go_ret
    exact ⟨rfl, B4.out⟩
end Go.Proofs.YthhclcjocakdlaaDoor
