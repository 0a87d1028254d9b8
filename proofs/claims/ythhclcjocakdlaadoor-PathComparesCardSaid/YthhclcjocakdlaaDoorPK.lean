/- The document's order of texts (caravanref02.rank, Cmp), and the law PathCompares' walk. Conditions: a world in which the listed variables lie. -/
import Derived.Test.YthhclcjocakdlaaDoorPJ
namespace Go.Proofs.YthhclcjocakdlaaDoor
open Go.RowKit
def rankN (l : List UInt8) (k : Nat) : Nat := if k < l.length then rk (at8 l k) + 1 else 0
theorem rank_lt {a b : List UInt8} {k : Nat} (h1 : k ≤ a.length) (h2 : k ≤ b.length) (h : a.take k = b.take k) (hr : rankN a k < rankN b k) : cmpL a b = -1 := by
  unfold rankN at hr
  have hb : k < b.length := by
    rcases Nat.lt_or_ge k b.length with h' | h'
    · exact h'
    · rw [if_neg (show ¬ k < b.length by omega)] at hr; omega
  rw [if_pos hb] at hr
  by_cases ha : k < a.length
  · rw [if_pos ha] at hr
    have hne : at8 a k ≠ at8 b k := by intro e; rw [e] at hr; omega
    rw [cmpL_at a b k ha hb h hne, if_pos (by omega)]
  · rw [cmpL_drop a b k h1 h2 h, List.drop_of_length_le (l := a) (by omega), List.drop_eq_getElem_cons hb, cmpL]
theorem rank_gt {a b : List UInt8} {k : Nat} (h1 : k ≤ a.length) (h2 : k ≤ b.length) (h : a.take k = b.take k) (hr : rankN b k < rankN a k) : cmpL a b = 1 := by
  have := rank_lt h2 h1 h.symm hr
  rw [cmpL_neg] at this; omega
theorem rank_eq {a b : List UInt8} {k : Nat} (h1 : k ≤ a.length) (h2 : k ≤ b.length) (h : a.take k = b.take k) (hr : rankN a k = rankN b k) : (a.take (k + 1) = b.take (k + 1)) ∧ ((k + 1 ≤ a.length ∧ k + 1 ≤ b.length) ∨ (a = b ∧ k = a.length)) := by
  unfold rankN at hr
  by_cases ha : k < a.length <;> by_cases hb : k < b.length
  · rw [if_pos ha, if_pos hb] at hr
    exact ⟨take_same ha hb h (rk_inj (by omega)), .inl ⟨ha, hb⟩⟩
  · rw [if_pos ha, if_neg hb] at hr; omega
  · rw [if_neg ha, if_pos hb] at hr; omega
  · rw [List.take_of_length_le (by omega), List.take_of_length_le (by omega)] at h
    subst h
    exact ⟨rfl, .inr ⟨rfl, by omega⟩⟩
set_option maxRecDepth 100000 in
set_option maxHeartbeats 400000 in
theorem rrank_any (s : ByteArray) (k : Nat) (w : World) (_hs : s.size ≤ 140737488355328) (_hk : k ≤ 140737488355330) :
    Calls Tryd.prog 66 #[.string s, .int .i64 (k : Int)] w fun e w' => e = .returned (.int .i64 ((rankN (tl s) k : Nat) : Int)) ∧ w = w' := by
  by_cases hlt : k < s.size
  · have i1 := index_str s k hlt
    have HV : Hid (rankN (tl s) k = rk (at8 (tl s) k) + 1) := by show _ = _; rw [rankN, if_pos (by rw [tl_length]; exact hlt)]
    have hlt' : ¬ ((s.size : Int) ≤ (k : Int)) := by omega
    generalize at8 (tl s) k = x at i1 HV
    have b1 := b8_nonneg x
    have b2 := b8_lt x
    by_cases c : b8 x = 47
    · have t1 : (b8 x == 47) = true := by simp [c]
      have HR : Hid (rk x = 0) := by show _ = _; rw [rk, if_pos (b8_inj c)]
      clear c
      go_enter Tryd.func66, Tryd.ntmps66
      go_wp2
      go_ret
      exact ⟨ret_i64 (by rw [HV.out, HR.out]; rfl), rfl⟩
    · have t1 : (b8 x == 47) = false := by simp [c]
      have HR : Hid (rk x = x.toNat + 1) := by show _ = _; rw [rk, if_neg (fun e => c (by rw [e]; rfl))]
      clear c
      go_enter Tryd.func66, Tryd.ntmps66
      go_wp2
      go_ret
      exact ⟨ret_i64 (by rw [HV.out, HR.out]; unfold b8; omega), rfl⟩
  · have HV : Hid (rankN (tl s) k = 0) := by show _ = _; rw [rankN, if_neg (by rw [tl_length]; exact hlt)]
    have hle : (s.size : Int) ≤ (k : Int) := by omega
    go_enter Tryd.func66, Tryd.ntmps66
    go_wp2
    go_ret
    exact ⟨ret_i64 (by rw [HV.out]; rfl), rfl⟩
set_option maxRecDepth 100000 in
set_option maxHeartbeats 400000 in
theorem rcmp_any (a b : ByteArray) (w : World) (ha : a.size ≤ 140737488355328) (hb : b.size ≤ 140737488355328) :
    Calls Tryd.prog 35 #[.string a, .string b] w fun e w' => e = .returned (.int .i64 (cmpL (tl a) (tl b))) ∧ w = w' := by
  have L1 : Hid ((tl a).length = a.size) := tl_length a
  have L2 : Hid ((tl b).length = b.size) := tl_length b
  go_enter Tryd.func35, Tryd.ntmps35
  go_wp2
  go_loopw [5] (fun i wr => ∃ k : Nat, i = .int .i64 (k : Int) ∧ k ≤ a.size + 1 ∧ k ≤ b.size + 1 ∧ Hid ((tl a).take k = (tl b).take k) ∧ Hid ((k ≤ a.size ∧ k ≤ b.size) ∨ (tl a = tl b ∧ k = a.size + 1)) ∧ w = wr)
    (fun i _ => a.size + 2 - (intOf i).toNat)
  case atStart => exact ⟨0, rfl, by omega, by omega, rfl, .inl ⟨by omega, by omega⟩, rfl⟩
  case round =>
    obtain ⟨k, rfl, hk1, hk2, HT, HO, rfl⟩ := hrel
    rcases HO.out with ⟨h1, h2⟩ | ⟨h1, h2⟩
    · have g1 : (k : Int) ≤ (a.size : Int) := by omega
      obtain ⟨x, hx⟩ : ∃ x, rankN (tl a) k = x := ⟨_, rfl⟩
      obtain ⟨y, hy⟩ : ∃ y, rankN (tl b) k = y := ⟨_, rfl⟩
      have X : Hid (∀ W, Calls Tryd.prog 66 #[.string a, .int .i64 (k : Int)] W fun e w' => e = .returned (.int .i64 (x : Int)) ∧ W = w') := by intro W; rw [← hx]; exact rrank_any a k W ha (by omega)
      have Y : Hid (∀ W, Calls Tryd.prog 66 #[.string b, .int .i64 (k : Int)] W fun e w' => e = .returned (.int .i64 (y : Int)) ∧ W = w') := by intro W; rw [← hy]; exact rrank_any b k W hb (by omega)
      have P1 : Hid (x < y → cmpL (tl a) (tl b) = -1) := fun h => rank_lt (by rw [L1.out]; exact h1) (by rw [L2.out]; exact h2) HT.out (by rw [hx, hy]; exact h)
      have P2 : Hid (y < x → cmpL (tl a) (tl b) = 1) := fun h => rank_gt (by rw [L1.out]; exact h1) (by rw [L2.out]; exact h2) HT.out (by rw [hx, hy]; exact h)
      have P3 : Hid (x = y → ((tl a).take (k + 1) = (tl b).take (k + 1)) ∧ ((k + 1 ≤ a.size ∧ k + 1 ≤ b.size) ∨ (tl a = tl b ∧ k + 1 = a.size + 1)) ∧ k + 1 ≤ b.size + 1) := fun h => by
        have := rank_eq (by rw [L1.out]; exact h1) (by rw [L2.out]; exact h2) HT.out (by rw [hx, hy]; exact h)
        rw [L1.out, L2.out] at this
        exact ⟨this.1, this.2.imp id (fun e => ⟨e.1, by rw [e.2]⟩), by omega⟩
      clear hx hy
      rcases Nat.lt_trichotomy x y with hc | hc | hc
      · have HV := hid (P1.out hc)
        have g2 : (x : Int) < (y : Int) := by omega
        clear P1 P2 P3 HO hc
        go_wp2_with fail
        refine (X.out _).mono ?_; rintro e1 w1 ⟨rfl, rfl⟩
        go_wp2_with fail
        refine (Y.out _).mono ?_; rintro e2 w2 ⟨rfl, rfl⟩
        go_wp2
        go_ret
        exact ⟨ret_i64 HV.out.symm, rfl⟩
      · subst hc
        have HV := hid (P3.out rfl)
        clear P1 P2 P3 HO
        go_wp2_with fail
        refine (X.out _).mono ?_; rintro e1 w1 ⟨rfl, rfl⟩
        go_wp2_with fail
        refine (Y.out _).mono ?_; rintro e2 w2 ⟨rfl, rfl⟩
        go_wp2
        go_roundw
        case rel => exact ⟨k + 1, by go_num, by omega, HV.out.2.2, HV.out.1, HV.out.2.1, trivial⟩
        case measure => simp [intOf]; omega
      · have HV := hid (P2.out hc)
        have g2 : (y : Int) < (x : Int) := by omega
        clear P1 P2 P3 HO hc
        go_wp2_with fail
        refine (X.out _).mono ?_; rintro e1 w1 ⟨rfl, rfl⟩
        go_wp2_with fail
        refine (Y.out _).mono ?_; rintro e2 w2 ⟨rfl, rfl⟩
        go_wp2
        go_ret
        exact ⟨ret_i64 HV.out.symm, rfl⟩
    · have HV : Hid (cmpL (tl a) (tl b) = 0) := (cmpL_zero _ _).2 h1
      have HL : Hid (a.size = b.size) := by have := congrArg List.length h1; rw [L1.out, L2.out] at this; exact this
      have g1 : ¬ ((k : Int) ≤ (a.size : Int)) := by omega
      have g2 : ¬ ((k : Int) ≤ (b.size : Int)) := by have := HL.out; omega
      clear HO h1 h2
      go_wp2
      go_ret
      exact ⟨ret_i64 HV.out.symm, rfl⟩
set_option maxRecDepth 100000 in
set_option maxHeartbeats 400000 in
theorem compares_any (a0 b0 : ByteArray) (w : World) (hG : Gd w) (ha0 : a0.size ≤ maxLen) (hb0 : b0.size ≤ maxLen) :
    Calls Tryd.prog 6 #[.string a0, .string b0] w fun e w' => e = .returned (.bool true) ∧ Below w.heap.size w w' := by
  have HG := hid hG
  obtain ⟨a, HA⟩ : ∃ a, Hid (ba ((tl a0).take 400) = a) := ⟨_, rfl⟩
  obtain ⟨b, HB⟩ : ∃ b, Hid (ba ((tl b0).take 400) = b) := ⟨_, rfl⟩
  have ka := small_cut a0 a HA.out
  have kb := small_cut b0 b HB.out
  have CA : Hid (∀ W, Calls Tryd.prog 17 #[.string a0] W fun e w' => e = .returned (.string a) ∧ W = w') := by intro W; rw [← HA.out]; exact cut_str a0 W ha0
  have CB : Hid (∀ W, Calls Tryd.prog 17 #[.string b0] W fun e w' => e = .returned (.string b) ∧ W = w') := by intro W; rw [← HB.out]; exact cut_str b0 W hb0
  obtain ⟨x, hx⟩ : ∃ x, cmpL (tl a) (tl b) = x := ⟨_, rfl⟩
  have X : Hid (∀ W, Calls Tryd.prog 34 #[.string a, .string b] W fun e w' => e = .returned (.int .i64 x) ∧ Below W.heap.size W w') := by intro W; rw [← hx]; exact cmp_any a b W (by omega) (by omega)
  have Y : Hid (∀ W, Calls Tryd.prog 35 #[.string a, .string b] W fun e w' => e = .returned (.int .i64 x) ∧ W = w') := by intro W; rw [← hx]; exact rcmp_any a b W (by omega) (by omega)
  clear hG hx
  go_enter Tryd.func6, Tryd.ntmps6
  go_wp2_with fail
  refine (CA.out _).mono ?_; rintro e1 w1 ⟨rfl, rfl⟩
  go_wp2_with fail
  refine (CB.out _).mono ?_; rintro e2 w2 ⟨rfl, rfl⟩
  go_wp2_with fail
  refine (X.out _).mono ?_; rintro e4 w4 ⟨rfl, hb4⟩; have B4 := hid hb4; clear hb4
  go_wp2_with fail
  refine (Y.out _).mono ?_; rintro e5 w5 ⟨rfl, rfl⟩
  go_wp2_with fail
  refine (works_any _ (HG.out.kept B4.out)).mono ?_; rintro e8 w8 ⟨rfl, hb8⟩; have B8 : Hid (Below w.heap.size w w8) := B4.out.trans (hb8.mono B4.out.size); clear hb8
  go_wp2
  go_ret
  exact ⟨rfl, B8.out⟩
end Go.Proofs.YthhclcjocakdlaaDoor
