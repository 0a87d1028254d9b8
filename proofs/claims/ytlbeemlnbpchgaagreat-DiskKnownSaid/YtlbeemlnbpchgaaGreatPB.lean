/- Paths as lists of bytes: the parts between the slashes, what a name is, what a path is, where it stands. Plain facts, no program. -/
import Derived.Test.YtlbeemlnbpchgaaGreatPA
import Derived.Lib.IndexMore
namespace Go.Proofs.YtlbeemlnbpchgaaGreat
open Go.RowKit
/-- What stands ahead of the first slash, what behind it, whether there is one. -/
def cutS : List UInt8 → List UInt8 × List UInt8 × Bool
  | [] => ([], [], false)
  | c :: l => if c = 47 then ([], l, true) else (c :: (cutS l).1, (cutS l).2.1, (cutS l).2.2)
theorem cut_one (l : List UInt8) : Lib.cut l [47] = cutS l := by
  induction l with
  | nil => rfl
  | cons c l ih =>
    have hge := Lib.index_ge l [47]
    unfold Lib.cut Lib.index cutS
    by_cases hc : c = 47
    · subst hc; rfl
    · have h1 : [47].isPrefixOf (c :: l) = false := by simp [List.isPrefixOf, Ne.symm hc]
      rw [if_neg (show ¬ [47].isPrefixOf (c :: l) = true by rw [h1]; decide), if_neg hc, ← ih]
      unfold Lib.cut
      by_cases hi : Lib.index l [47] = -1
      · rw [hi]; rfl
      · have h0 : (0 : Int) ≤ Lib.index l [47] := by omega
        have h2 : ¬ (Lib.index l [47] == -1) = true := by simpa using hi
        rw [if_neg h2, if_pos h0, if_pos (show (0 : Int) ≤ Lib.index l [47] + 1 by omega)]
        obtain ⟨n, hn⟩ := Int.eq_ofNat_of_zero_le h0
        rw [hn]
        have e : ((n : Int) + 1).toNat = n + 1 := by omega
        simp only [e, Int.toNat_natCast, List.take_succ_cons, List.length_singleton]
        rw [show n + 1 + 1 = (n + 1) + 1 from rfl, List.drop_succ_cons]
/-- The parts between the slashes. -/
def pieces : List UInt8 → List (List UInt8)
  | [] => [[]]
  | c :: l => if c = 47 then [] :: pieces l else match pieces l with | p :: ps => (c :: p) :: ps | [] => [[c]]
theorem pieces_cut (l : List UInt8) : pieces l = if (cutS l).2.2 then (cutS l).1 :: pieces (cutS l).2.1 else [(cutS l).1] := by
  induction l with
  | nil => rfl
  | cons c l ih =>
    rw [pieces, cutS]
    by_cases hc : c = 47
    · rw [if_pos hc, if_pos hc, if_pos rfl]
    · rw [if_neg hc, if_neg hc, ih]
      cases h : (cutS l).2.2
      · rfl
      · rfl
theorem cutS_len (l : List UInt8) : (cutS l).2.1.length ≤ l.length ∧ (cutS l).1.length ≤ l.length ∧ ((cutS l).2.2 = true → (cutS l).2.1.length < l.length) := by
  induction l with
  | nil => simp [cutS]
  | cons c l ih =>
    unfold cutS
    by_cases hc : c = 47
    · simp [hc]
    · rw [if_neg hc]; simp only [List.length_cons]; refine ⟨by omega, by omega, fun h => by have := ih.2.2 h; omega⟩
theorem pieces_ne (l : List UInt8) : pieces l ≠ [] := by
  rw [pieces_cut]; split <;> simp
def lastP (l : List UInt8) : List UInt8 := (pieces l).getLast (pieces_ne l)
def okB (c : UInt8) : Bool := !decide (b8 c < 32) && !(b8 c == 127) && !(b8 c == 47)
def headB (l : List UInt8) : Bool := !decide (l = []) && decide (l.length ≤ 48) && !decide (l = [46]) && !decide (l = [46, 46])
/-- Is it a name? -/
def nameB (l : List UInt8) : Bool := headB l && l.all okB
def eachF : List (List UInt8) → Nat → List UInt8 → Bool × Nat × List UInt8
  | [], n, b => (true, n, b)
  | p :: ps, n, _ => if decide (n + 1 ≤ 6) && nameB p then eachF ps (n + 1) p else (false, n + 1, p)
def goodB (l : List UInt8) : Bool := decide ((pieces l).length ≤ 6) && (pieces l).all nameB
def aheadL (l : List UInt8) : List UInt8 := l.take (l.length - (lastP l).length - 1)
/-- Is it a path? -/
def mayB (l : List UInt8) : Bool := decide (l.length ≤ 160) && goodB l && decide ((aheadL l).length ≤ 111)
/-- Where a path stands: its parent and its last part; nothing of what is no path. -/
def findV (l : List UInt8) : List UInt8 × List UInt8 := if mayB l then (aheadL l, lastP l) else ([], [])
theorem eachF_good (ps : List (List UInt8)) : ∀ n b, (eachF ps n b).1 = (decide (ps = [] ∨ ps.length + n ≤ 6) && ps.all nameB) := by
  induction ps with
  | nil => intro n b; rfl
  | cons p ps ih =>
    intro n b
    unfold eachF
    by_cases h1 : n + 1 ≤ 6 <;> cases h2 : nameB p
    · simp [h2]
    · simp only [h1, decide_true, Bool.and_true, if_pos]
      rw [ih]
      have e : decide (ps = [] ∨ ps.length + (n + 1) ≤ 6) = decide (p :: ps = [] ∨ (p :: ps).length + n ≤ 6) := by
        rw [decide_eq_decide]
        simp only [List.length_cons, reduceCtorEq, false_or]
        constructor
        · rintro (rfl | h)
          · simp; omega
          · omega
        · intro h; right; omega
      rw [e]; simp [h2]
    · simp [h2]
    · simp [h1]; intro h; omega
theorem eachF_base (ps : List (List UInt8)) (h : ps ≠ []) : ∀ n b, (eachF ps n b).1 = true → (eachF ps n b).2.2 = ps.getLast h := by
  induction ps with
  | nil => exact absurd rfl h
  | cons p ps ih =>
    intro n b hg
    unfold eachF at hg ⊢
    split at hg
    · rename_i hc
      rw [if_pos hc]
      by_cases hp : ps = []
      · subst hp; rfl
      · rw [ih hp _ _ hg, List.getLast_cons hp]
    · cases hg
theorem goodB_each (l : List UInt8) : (eachF (pieces l) 0 []).1 = goodB l := by
  rw [eachF_good]; unfold goodB; congr 1; rw [decide_eq_decide]; simp [pieces_ne]
theorem goodB_base (l : List UInt8) (h : goodB l = true) : (eachF (pieces l) 0 []).2.2 = lastP l := eachF_base _ (pieces_ne l) 0 [] (by rw [goodB_each, h])
theorem nameB_ne {l : List UInt8} (h : nameB l = true) : l ≠ [] := by
  rintro rfl; simp [nameB, headB] at h
theorem mayB_good {l : List UInt8} (h : mayB l = true) : goodB l = true := by
  unfold mayB at h; simp only [Bool.and_eq_true] at h; exact h.1.2
theorem good_all {l : List UInt8} (h : goodB l = true) : ∀ p ∈ pieces l, nameB p = true := by
  unfold goodB at h; simp only [Bool.and_eq_true, List.all_eq_true] at h; exact h.2
theorem lastP_mem (l : List UInt8) : lastP l ∈ pieces l := List.getLast_mem _
theorem mayB_last {l : List UInt8} (h : mayB l = true) : lastP l ≠ [] := nameB_ne (good_all (mayB_good h) _ (lastP_mem l))
/-- No path stands at the zero place. -/
theorem findV_zero (l : List UInt8) : mayB l = !decide ((findV l).1 = [] ∧ (findV l).2 = []) := by
  unfold findV
  cases h : mayB l
  · simp
  · simp [mayB_last h]
end Go.Proofs.YtlbeemlnbpchgaaGreat
