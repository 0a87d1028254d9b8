/- The document's digest: blocks after blocks against bytes that are fed one by one; its bytes by number. Plain. -/
import Derived.Test.YtoeomghebgbniaaDoorSJ
import Derived.Test.YtoeomghebgbniaaDoorZF
namespace Go.Proofs.YtoeomghebgbniaaDoor.Sha
open Go.RowKit
def blk (P : List UInt8) (k : Nat) : List UInt8 := (P.drop (64 * k)).take 64
/-- The eight words behind the first k blocks. -/
def stAt (P : List UInt8) : Nat → List (BitVec 32)
  | 0 => hList
  | k + 1 => foldL (stAt P k) (blk P k)
theorem stAt_len (P : List UInt8) (k : Nat) : (stAt P k).length = 8 := by
  cases k with
  | zero => rfl
  | succ k => exact sums_len _ _
theorem blk_len (P : List UInt8) (k : Nat) (h : 64 * (k + 1) ≤ P.length) : (blk P k).length = 64 := by simp [blk]; omega
theorem splice_whole (l c : List UInt8) (h : l.length = c.length) : splice l 0 c = c := by
  unfold splice
  simp [← h]
theorem feed_blocks (P : List UInt8) (k : Nat) : 64 * k ≤ P.length → (feed newS (P.take (64 * k))).ws = stAt P k ∧ (feed newS (P.take (64 * k))).n = 64 * k ∧ (feed newS (P.take (64 * k))).ps.length = 64 := by
  induction k with
  | zero => intro _; exact ⟨by simp [feed, newS, stAt], by simp [feed, newS], by simp [feed, newS]⟩
  | succ k ih =>
    intro h
    obtain ⟨h1, h2, h3⟩ := ih (by omega)
    have hb := blk_len P k h
    have e : P.take (64 * (k + 1)) = P.take (64 * k) ++ blk P k := by
      rw [blk, show 64 * (k + 1) = 64 * k + 64 by omega, List.take_add]
    have hm : (feed newS (P.take (64 * k))).n % 64 = 0 := by rw [h2]; omega
    have hf := feed_full (blk P k) (feed newS (P.take (64 * k))) h3 (by omega) (by omega)
    rw [e, feed_append, hf, hm, splice_whole _ _ (by rw [h3, hb]), h1, h2, hb]
    exact ⟨rfl, by show 64 * k + 64 = 64 * (k + 1); omega, by first | exact hb | rfl⟩
theorem padL_mod (n : Nat) : (n + (padL n).length) % 64 = 0 := by simp [padL, padHead, lenBytes]; omega
/-- The digest, by blocks. -/
theorem sha_blocks (xs : List UInt8) (m : Nat) (h : (xs ++ padL xs.length).length = 64 * m) : shaL xs = dig (stAt (xs ++ padL xs.length) m) 8 := by
  have hn : (feed newS xs).n = xs.length := by rw [feed_n]; show 0 + _ = _; omega
  unfold shaL fin
  rw [hn, ← feed_append]
  have := (feed_blocks (xs ++ padL xs.length) m (by omega)).1
  rw [List.take_of_length_le (by omega)] at this
  rw [this]
/-- Byte after byte. -/
def digN (ws : List (BitVec 32)) : Nat → List UInt8
  | 0 => List.replicate 32 0
  | k + 1 => (digN ws k).set k (byteOf (at32 ws (k / 4)) (24 - 8 * (k % 4)))
theorem digYtoeomghebgbniaaDoorlen (ws : List (BitVec 32)) (k : Nat) : (digN ws k).length = 32 := by
  induction k with
  | zero => simp [digN]
  | succ k ih => rw [digN, List.length_set, ih]
theorem digYtoeomghebgbniaaDoorfour (ws : List (BitVec 32)) (k : Nat) : digN ws (4 * k) = dig ws k := by
  induction k with
  | zero => rfl
  | succ k ih =>
    rw [show 4 * (k + 1) = 4 * k + 1 + 1 + 1 + 1 by omega]
    simp only [digN, dig, ih]
    rw [show 4 * k / 4 = k by omega, show (4 * k + 1) / 4 = k by omega, show (4 * k + 1 + 1) / 4 = k by omega, show (4 * k + 1 + 1 + 1) / 4 = k by omega,
      show 4 * k % 4 = 0 by omega, show (4 * k + 1) % 4 = 1 by omega, show (4 * k + 1 + 1) % 4 = 2 by omega, show (4 * k + 1 + 1 + 1) % 4 = 3 by omega]
/-- The eight words moved on by one, the last j of them. -/
def moved (l : List (BitVec 32)) : Nat → List (BitVec 32)
  | 0 => l
  | j + 1 => (moved l j).set (7 - j) (at32 (moved l j) (6 - j))
theorem moved_len (l : List (BitVec 32)) (j : Nat) : (moved l j).length = l.length := by
  induction j with
  | zero => rfl
  | succ j ih => rw [moved, List.length_set, ih]
def lst8 (s : S8) : List (BitVec 32) := [s.a, s.b, s.c, s.d, s.e, s.f, s.g, s.h]
theorem moved_all (s : S8) : moved (lst8 s) 7 = [s.a, s.a, s.b, s.c, s.d, s.e, s.f, s.g] := rfl
theorem moved_step (s : S8) (kk ww : BitVec 32) : ((moved (lst8 s) 7).set 4 (s.d + sx s kk ww)).set 0 (sx s kk ww + sy s) = lst8 (stepS s kk ww) := rfl
/-- The words of a state, each raised by one of another row, the first i of them. -/
def raisedTo (l v : List (BitVec 32)) : Nat → List (BitVec 32)
  | 0 => l
  | i + 1 => (raisedTo l v i).set i (at32 (raisedTo l v i) i + at32 v i)
theorem raisedTo_len (l v : List (BitVec 32)) (i : Nat) : (raisedTo l v i).length = l.length := by
  induction i with
  | zero => rfl
  | succ i ih => rw [raisedTo, List.length_set, ih]
def start8 (l : List (BitVec 32)) : S8 := ⟨at32 l 0, at32 l 1, at32 l 2, at32 l 3, at32 l 4, at32 l 5, at32 l 6, at32 l 7⟩
theorem raised_row (l : List (BitVec 32)) (hl : l.length = 8) (R : S8) : raisedTo l (lst8 R) 8 = sums l R := by
  match l, hl with
  | [a, b, c, d, e, f, g, h], _ => simp [raisedTo, lst8, sums, at32]
theorem raised_all (l : List (BitVec 32)) (hl : l.length = 8) (p : List UInt8) : raisedTo l (lst8 (run8 (words p 16) (start8 l) 64)) 8 = foldL l p := by
  have e : foldL l p = sums l (run8 (words p 16) (start8 l) 64) := by unfold foldL start8; rfl
  rw [e]
  generalize run8 (words p 16) (start8 l) 64 = R
  clear e
  exact raised_row l hl R
/-- The words laid one by one. -/
def copied (l : List (BitVec 32)) : Nat → List (BitVec 32)
  | 0 => List.replicate 8 0
  | i + 1 => (copied l i).set i (at32 l i)
theorem copied_len (l : List (BitVec 32)) (i : Nat) : (copied l i).length = 8 := by
  induction i with
  | zero => simp [copied]
  | succ i ih => rw [copied, List.length_set, ih]
theorem copied_all (l : List (BitVec 32)) : copied l 8 = lst8 (start8 l) := rfl
end Go.Proofs.YtoeomghebgbniaaDoor.Sha
