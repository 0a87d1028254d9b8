/- (*Tape).Num, Below, Text, Bytes, End: what each call does. Conditions: a tape that NewTape made. -/
import Derived.Test.YtakgbopkkechgaaBH
namespace Go.Proofs.Ytakgbopkkechgaa
open Go.RowKit
def numS (s : St) (k : Int) : Nat × St := match nxt s k with
  | some n => (n, (s.1, s.2.drop k.toNat))
  | none => (0, tear s)
def belowS (s : St) (k : Int) (most : Nat) : Nat × St := match nxt s k with
  | some n => if n ≤ most ∧ n ≤ 4611686018427387904 then (n, (s.1, s.2.drop k.toNat)) else (0, tear s)
  | none => (0, tear s)
def textS (s : St) (most : Int) : List UInt8 × St := match nxt s 2 with
  | some n => if (n : Int) ≤ most ∧ n + 2 ≤ s.2.length then ((s.2.drop 2).take n, (s.1, (s.2.drop 2).drop n)) else ([], tear s)
  | none => ([], tear s)
def bytesS (s : St) (n : Int) : List UInt8 × St := if s.1 = false ∧ 0 ≤ n ∧ n ≤ (s.2.length : Int) then (s.2.take n.toNat, (s.1, s.2.drop n.toNat)) else ([], tear s)
def endS (s : St) : St := if s.2.length = 0 then s else tear s
theorem next_none (g : Nat) (s : St) (k : Int) (w : World) (h : Tp w g s) (hn : nxt s k = none) :
    Calls Try.prog 38 #[.pointer (some ⟨g, 0, none⟩), .int .i64 k] w fun e w' => e = .returned (.tuple #[.int .u64 0, .bool false]) ∧ w = w' := by
  have := next_any g s k w h
  rw [hn] at this; exact this
theorem next_some (g : Nat) (s : St) (k : Int) (n : Nat) (w : World) (h : Tp w g s) (hn : nxt s k = some n) :
    Calls Try.prog 38 #[.pointer (some ⟨g, 0, none⟩), .int .i64 k] w fun e w' => e = .returned (.tuple #[.int .u64 (n : Int), .bool true]) ∧ w = w' := by
  have := next_any g s k w h
  rw [hn] at this; exact this
set_option maxRecDepth 100000 in
set_option maxHeartbeats 400000 in
theorem below_any (g : Nat) (s : St) (k : Int) (most : Nat) (w : World) (h : Tp w g s) :
    Calls Try.prog 34 #[.pointer (some ⟨g, 0, none⟩), .int .i64 k, .int .u64 (most : Int)] w fun e w' => e = .returned (.int .i64 ((belowS s k most).1 : Nat)) ∧ Tp w' g (belowS s k most).2 ∧ Grw g w w' := by
  have CT := hid (tear_any g s w h)
  rcases hn : nxt s k with _ | n
  · have CN := hid (next_none g s k w h hn)
    rw [belowS, hn]
    clear hn h
    go_enter Try.func34, Try.ntmps34
    go_wp2_with (first
      | (go_at_call 38; refine CN.out.mono ?_; rintro e w' ⟨rfl, rfl⟩)
      | (go_at_call 39; refine CT.out.mono ?_; rintro e w' ⟨rfl, ht, hg⟩))
    go_ret
    exact ⟨rfl, ht, hg⟩
  · have CN := hid (next_some g s k n w h hn)
    obtain ⟨h0, h1, h8, hl, h9⟩ := nxt_lt s k n hn
    rw [belowS, hn]
    obtain ⟨m, rfl⟩ : ∃ m : Nat, k = (m : Int) := ⟨k.toNat, by omega⟩
    obtain ⟨A, L, cap, A2, L2, cap2, bb, off, c2, HLE, HB0, hr2, HP⟩ := tp_pass (t := s.1) (xs := s.2) h m (by omega)
    have HQ := hid (HP.out w (Below.refl _ _))
    have e2 := HQ.out.2.2.2
    by_cases hc : n ≤ most ∧ n ≤ 4611686018427387904
    · simp only [if_pos hc]
      have b1 : (n : Int) ≤ (most : Int) := by omega
      have b2 : (n : Int) ≤ 4611686018427387904 := by omega
      have b3 : IntKind.i64.wrap (n : Int) = n := i64in _ (by omega) (by omega)
      clear hn h hl hc h0 h9
      go_enter Try.func34, Try.ntmps34
      go_wp2_with (go_at_call 38; refine CN.out.mono ?_; rintro e w' ⟨rfl, rfl⟩)
      all_goals
        go_ret
        exact ⟨rfl, by first | exact HQ.out.1 | (rw [Int.toNat_natCast]; exact HQ.out.1), HQ.out.2.1⟩
    · simp only [if_neg hc]
      by_cases hq : (4611686018427387904 : Int) < (most : Int)
      · have b1 : (4611686018427387904 : Int) < (n : Int) := by omega
        clear hn h hl hc h0 h9
        go_enter Try.func34, Try.ntmps34
        go_wp2_with (first
          | (go_at_call 38; refine CN.out.mono ?_; rintro e w' ⟨rfl, rfl⟩)
          | (go_at_call 39; refine CT.out.mono ?_; rintro e w' ⟨rfl, ht, hg⟩))
        go_ret
        exact ⟨rfl, ht, hg⟩
      · have b1 : (most : Int) < (n : Int) := by omega
        clear hn h hl hc h0 h9
        go_enter Try.func34, Try.ntmps34
        go_wp2_with (first
          | (go_at_call 38; refine CN.out.mono ?_; rintro e w' ⟨rfl, rfl⟩)
          | (go_at_call 39; refine CT.out.mono ?_; rintro e w' ⟨rfl, ht, hg⟩))
        go_ret
        exact ⟨rfl, ht, hg⟩
end Go.Proofs.Ytakgbopkkechgaa
