/- The plain model of a disk: what it has, what lasts, the effects since, the fuse; what a crash leaves. Plain facts, no program. -/
import Derived.Test.YtlbeemlnbpchgaaGreatWQ
namespace Go.Proofs.YtlbeemlnbpchgaaGreat
/-- An effect with the first bytes of its data alone. -/
def cutE : Eff → Nat → Eff
  | .write p d t, n => .write p (d.take n) t
  | .append p d, n => .append p (d.take n)
  | x, _ => x
/-- How long its data are. -/
def dataE : Eff → Nat
  | .write _ d _ => d.length
  | .append _ d => d.length
  | _ => 0
theorem cutE_all (x : Eff) (n : Nat) (h : dataE x ≤ n) : cutE x n = x := by
  cases x <;> simp only [cutE, dataE] at * <;> rw [List.take_of_length_le h]
structure Mo where
  now : Tr
  last : Tr
  since : List Eff
  fuse : Int
  room : Nat
def burnF (f : Int) : Int := if 0 < f then f - 1 else f
def doM (M : Mo) (x : Eff) : Int × Mo :=
  if M.fuse = 0 then (20, M) else if (stepE M.room M.now x).1 = 0 then (0, ⟨(stepE M.room M.now x).2, M.last, M.since ++ [x], burnF M.fuse, M.room⟩) else ((stepE M.room M.now x).1, M)
def syncM (M : Mo) : Int × Mo := if M.fuse = 0 then (20, M) else (0, ⟨M.now, M.now, [], burnF M.fuse, M.room⟩)
/-- An effect by a pick. -/
def pickE (room : Nat) (L : Tr) (x : Eff) (k : Nat) : Tr := if k = 0 then L else if k = 1 then (stepE room L x).2 else (stepE room L (cutE x (k - 2))).2
def crashL (room : Nat) : Tr → List Eff → List Nat → Tr
  | L, [], _ => L
  | L, _ :: _, [] => L
  | L, x :: xs, k :: ks => crashL room (pickE room L x k) xs ks
def crashM (M : Mo) (ks : List Nat) : Mo := ⟨crashL M.room M.last M.since ks, crashL M.room M.last M.since ks, [], -1, M.room⟩
def fuseM (M : Mo) (n : Int) : Int × Mo := if n < 0 then (2, M) else if M.fuse = 0 then (20, M) else (0, ⟨M.now, M.last, M.since, n, M.room⟩)
def newM (room : Nat) : Mo := ⟨[], [], [], -1, room⟩
/-- All effects, done anew. -/
def replay (room : Nat) (L : Tr) (xs : List Eff) : Tr := xs.foldl (fun T x => (stepE room T x).2) L
/-- What holds of any disk. -/
structure Good (M : Mo) : Prop where
  w1 : WFT M.room M.now
  w2 : WFT M.room M.last
  re : replay M.room M.last M.since = M.now
  f0 : -1 ≤ M.fuse
  f1 : M.fuse ≤ 9223372036854775807
theorem step_err {room : Nat} {L : Tr} (x : Eff) (h : (stepE room L x).1 ≠ 0) : (stepE room L x).2 = L := by
  cases x <;> simp only [stepE, addE, putE] at * <;> (repeat' split) <;> simp_all
theorem Good.new (room : Nat) : Good (newM room) := ⟨WFT.nil _, WFT.nil _, rfl, (by show (-1 : Int) ≤ -1; omega), (by show (-1 : Int) ≤ _; omega)⟩
theorem burn_le {f : Int} (h0 : -1 ≤ f) (h1 : f ≤ 9223372036854775807) : -1 ≤ burnF f ∧ burnF f ≤ 9223372036854775807 := by unfold burnF; split <;> omega
theorem Good.do {M : Mo} (h : Good M) (x : Eff) : Good (doM M x).2 := by
  unfold doM
  split
  · exact h
  · split
    · have hb := burn_le h.f0 h.f1
      exact ⟨step_wft h.w1 x, h.w2, by show replay _ _ (_ ++ [x]) = _; unfold replay; rw [List.foldl_append]; show (stepE _ (replay _ _ _) x).2 = _; rw [h.re], hb.1, hb.2⟩
    · exact h
theorem Good.sync {M : Mo} (h : Good M) : Good (syncM M).2 := by
  unfold syncM
  split
  · exact h
  · have hb := burn_le h.f0 h.f1
    exact ⟨h.w1, h.w1, rfl, hb.1, hb.2⟩
theorem pick_wft {room : Nat} {L : Tr} (h : WFT room L) (x : Eff) (k : Nat) : WFT room (pickE room L x k) := by
  unfold pickE
  split
  · exact h
  · split
    · exact step_wft h _
    · exact step_wft h _
theorem crash_wft {room : Nat} : ∀ (xs : List Eff) (ks : List Nat) {L : Tr}, WFT room L → WFT room (crashL room L xs ks)
  | [], _, _, h => h
  | _ :: _, [], _, h => h
  | x :: xs, k :: ks, _, h => crash_wft xs ks (pick_wft h x k)
theorem Good.crash {M : Mo} (h : Good M) (ks : List Nat) : Good (crashM M ks) :=
  ⟨crash_wft _ _ h.w2, crash_wft _ _ h.w2, rfl, (by show (-1 : Int) ≤ -1; omega), (by show (-1 : Int) ≤ _; omega)⟩
theorem Good.fuse {M : Mo} (h : Good M) {n : Int} (hn : n ≤ 9223372036854775807) : Good (fuseM M n).2 := by
  unfold fuseM
  split
  · exact h
  · split
    · exact h
    · exact ⟨h.w1, h.w2, h.re, by show -1 ≤ n; omega, hn⟩
theorem crash_snoc (room : Nat) : ∀ (xs : List Eff) (ks : List Nat) (x : Eff) (k : Nat) (L : Tr), xs.length = ks.length → crashL room L (xs ++ [x]) (ks ++ [k]) = pickE room (crashL room L xs ks) x k
  | [], [], _, _, _, _ => rfl
  | [], _ :: _, _, _, _, h => by simp at h
  | _ :: _, [], _, _, _, h => by simp at h
  | _ :: xs, _ :: ks, x, k, _, h => crash_snoc room xs ks x k _ (by simpa using h)
theorem crash_take (room : Nat) : ∀ (xs : List Eff) (ks : List Nat) (L : Tr) (n : Nat), xs.length ≤ n ∨ ks.length ≤ n → crashL room L xs ks = crashL room L (xs.take n) (ks.take n)
  | [], _, _, _, _ => by simp [crashL]
  | _ :: _, [], _, n, h => by cases n <;> simp [crashL]
  | x :: xs, k :: ks, L, 0, h => by simp at h
  | x :: xs, k :: ks, L, n + 1, h => by
    show crashL _ _ xs ks = crashL _ _ (xs.take n) (ks.take n)
    exact crash_take room xs ks _ n (by simpa using h)
theorem crash_none (room : Nat) (L : Tr) (xs : List Eff) : crashL room L xs [] = L := by cases xs <;> rfl
theorem crash_ones (room : Nat) : ∀ (xs : List Eff) (L : Tr), crashL room L xs (List.replicate xs.length 1) = replay room L xs
  | [], _ => rfl
  | x :: xs, L => by
    show crashL room (pickE room L x 1) xs (List.replicate xs.length 1) = _
    rw [crash_ones room xs]; rfl
end Go.Proofs.YtlbeemlnbpchgaaGreat
