/- Several texts in one. Conditions: those said at each. -/
import Derived.Test.YtahkcemdbfjilaaGreatDoorWb04
set_option linter.unusedSimpArgs false
set_option linter.unusedVariables false
set_option maxRecDepth 100000
namespace Go.Proofs.YtahkcemdbfjilaaGreatDoor
def argE : Eff → Int
 | .write p _ t => if mayB p then (if timeB t then 0 else 2) else 10
 | .append p _ => if mayB p then 0 else 10
 | .mkdir p => if mayB p then 0 else 10
 | .link p g t => if mayB p then (if timeB t && decide (1 ≤ g.length) && decide (g.length ≤ 160) then 0 else 2) else 10
 | .rename a b => if mayB a && mayB b then (if b = a ∨ withinB b a = true then 2 else 0) else 10
 | .remove p => if mayB p then 0 else 10
def nextE (room : Nat) (L : Tr) : Eff → Int × Tr
 | .write p d t => if homeE L p = 0 then (if takenE L p = 0 then putE room L p ⟨1, d, [], t⟩ else (takenE L p, L)) else (homeE L p, L)
 | .append p d => match look L p with | some n => if takenE L p = 0 then putE room L p ⟨n.kind, n.data ++ d, n.target, n.time⟩ else (takenE L p, L) | none => (5, L)
 | .mkdir p => addE room L p ⟨2, [], [], 0⟩
 | .link p g t => addE room L p ⟨3, [], g, t⟩
 | .rename a b => if (look L a).isSome then (if homeE L b = 0 then (if kindP L b = 2 ∨ (kindP L a = 2 ∧ (look L b).isSome) then (12, L) else if farB b (innerL L a) then (0, mvAll L a b (innerL L a)) else (10, L)) else (homeE L b, L)) else (5, L)
 | .remove p => if (look L p).isSome then (if innerL L p = [] then (0, del L p) else (22, L)) else (5, L)
theorem step_split (room : Nat) (L : Tr) (x : Eff) : stepE room L x = if argE x = 0 then nextE room L x else (argE x, L) := by
 cases x with
 | write p d t =>
  by_cases h0 : mayB p = true
  · by_cases h1 : timeB t = true
    · have ha : argE (.write p d t) = 0 := by simp only [argE, if_pos h0, if_pos h1]
      rw [if_pos ha]; simp only [stepE, nextE, if_pos h0, if_pos h1]
    · have ha : argE (.write p d t) = 2 := by simp only [argE, if_pos h0, if_neg h1]
      rw [if_neg (by rw [ha]; decide), ha]; simp only [stepE, if_pos h0, if_neg h1]
  · have ha : argE (.write p d t) = 10 := by simp only [argE, if_neg h0]
    rw [if_neg (by rw [ha]; decide), ha]; simp only [stepE, if_neg h0]
 | append p d =>
  by_cases h0 : mayB p = true
  · have ha : argE (.append p d) = 0 := by simp only [argE, if_pos h0]
    rw [if_pos ha]; simp only [stepE, nextE, if_pos h0]
    cases look L p <;> rfl
  · have ha : argE (.append p d) = 10 := by simp only [argE, if_neg h0]
    rw [if_neg (by rw [ha]; decide), ha]; simp only [stepE, if_neg h0]
 | mkdir p =>
  by_cases h0 : mayB p = true
  · have ha : argE (.mkdir p) = 0 := by simp only [argE, if_pos h0]
    rw [if_pos ha]; simp only [stepE, nextE, if_pos h0]
  · have ha : argE (.mkdir p) = 10 := by simp only [argE, if_neg h0]
    rw [if_neg (by rw [ha]; decide), ha]; simp only [stepE, if_neg h0]
 | link p g t =>
  by_cases h0 : mayB p = true
  · by_cases h1 : (timeB t && decide (1 ≤ g.length) && decide (g.length ≤ 160)) = true
    · have ha : argE (.link p g t) = 0 := by simp only [argE, if_pos h0, if_pos h1]
      rw [if_pos ha]; simp only [stepE, nextE, if_pos h0, if_pos h1]
    · have ha : argE (.link p g t) = 2 := by simp only [argE, if_pos h0, if_neg h1]
      rw [if_neg (by rw [ha]; decide), ha]; simp only [stepE, if_pos h0, if_neg h1]
  · have ha : argE (.link p g t) = 10 := by simp only [argE, if_neg h0]
    rw [if_neg (by rw [ha]; decide), ha]; simp only [stepE, if_neg h0]
 | rename a b =>
  by_cases h0 : (mayB a && mayB b) = true
  · by_cases h1 : b = a ∨ withinB b a = true
    · have ha : argE (.rename a b) = 2 := by simp only [argE, if_pos h0, if_pos h1]
      rw [if_neg (by rw [ha]; decide), ha]; simp only [stepE, if_pos h0, if_pos h1]
    · have ha : argE (.rename a b) = 0 := by simp only [argE, if_pos h0, if_neg h1]
      rw [if_pos ha]; simp only [stepE, nextE, if_pos h0, if_neg h1]
  · have ha : argE (.rename a b) = 10 := by simp only [argE, if_neg h0]
    rw [if_neg (by rw [ha]; decide), ha]; simp only [stepE, if_neg h0]
 | remove p =>
  by_cases h0 : mayB p = true
  · have ha : argE (.remove p) = 0 := by simp only [argE, if_pos h0]
    rw [if_pos ha]; simp only [stepE, nextE, if_pos h0]
  · have ha : argE (.remove p) = 10 := by simp only [argE, if_neg h0]
    rw [if_neg (by rw [ha]; decide), ha]; simp only [stepE, if_neg h0]
theorem step_arg {room : Nat} {L : Tr} {x : Eff} (h : (stepE room L x).1 = 0) : argE x = 0 := by
 rw [step_split] at h
 split at h
 · assumption
 · exact absurd h ‹_›
def TG (L : Tr) : Prop := ∀ p n, look L p = some n → n.kind = 1 → n.target = []
theorem TG.nil : TG [] := fun p n h => by cases h
theorem TG.ins {L : Tr} (h : TG L) (p : By) {n : Nd} (hn : n.kind = 1 → n.target = []) : TG (ins p n L) := by
 intro q m hq hk
 rw [look_ins] at hq
 split at hq
 · injection hq with hq; subst hq; exact hn hk
 · exact h q m hq hk
theorem TG.del {L : Tr} (h : TG L) (p : By) : TG (del L p) := by
 intro q m hq hk
 rw [look_del] at hq
 split at hq
 · cases hq
 · exact h q m hq hk
theorem TG.put {L : Tr} (h : TG L) (room : Nat) (p : By) {n : Nd} (hn : n.kind = 1 → n.target = []) : TG (putE room L p n).2 := by
 unfold putE; split
 · exact h.ins p hn
 · exact h
theorem TG.add {L : Tr} (h : TG L) (room : Nat) (p : By) {n : Nd} (hn : n.kind = 1 → n.target = []) : TG (addE room L p n).2 := by
 unfold addE; split
 · split
   · exact h
   · exact h.put room p hn
 · exact h
theorem TG.mv1 {T : Tr} (h : TG T) (a b : By) : TG (mv1 T a b) := by
 unfold Go.Proofs.YtahkcemdbfjilaaGreatDoor.mv1
 refine TG.del (TG.ins h b ?_) a
 cases hl : look T a with
 | none => intro hk; cases hk
 | some n => exact h a n hl
theorem TG.mvs {a b : By} (rs : List By) : ∀ {T : Tr}, TG T → TG (mvs a b T rs) := by
 induction rs with
 | nil => intro T h; exact h
 | cons r rs ih => intro T h; exact ih (h.mv1 _ _)
theorem TG.step {room : Nat} {L : Tr} (h : TG L) (x : Eff) : TG (stepE room L x).2 := by
 rw [step_split]
 split
 · cases x with
   | write p d t =>
    simp only [nextE]; split
    · split
      · exact h.put _ _ (fun _ => rfl)
      · exact h
    · exact h
   | append p d =>
    simp only [nextE]; split
    · rename_i n hl
      split
      · exact h.put _ _ (h p n hl)
      · exact h
    · exact h
   | mkdir p => exact h.add _ _ (fun k => by cases k)
   | link p g t => exact h.add _ _ (fun k => by cases k)
   | rename a b =>
    simp only [nextE]; split
    · split
      · split
        · exact h
        · split
          · exact TG.mvs _ ((h.del b).mv1 a b)
          · exact h
      · exact h
    · exact h
   | remove p =>
    simp only [nextE]; split
    · split
      · exact h.del p
      · exact h
    · exact h
 · exact h
structure GoodR (M : Mo) : Prop where
 good : Good M
 t1 : TG M.now
 t2 : TG M.last
 args : ∀ x ∈ M.since, argE x = 0
theorem GoodR.new (room : Nat) : GoodR (newM room) := ⟨Good.new room, TG.nil, TG.nil, fun x h => by cases h⟩
theorem GoodR.do {M : Mo} (h : GoodR M) (x : Eff) : GoodR (doM M x).2 := by
 refine ⟨h.good.do x, ?_, ?_, ?_⟩ <;> unfold doM <;> split
 · exact h.t1
 · split
   · exact h.t1.step x
   · exact h.t1
 · exact h.t2
 · split <;> exact h.t2
 · exact h.args
 · split
   · rename_i he
     intro y hy
     rcases List.mem_append.1 hy with k | k
     · exact h.args y k
     · rw [List.mem_singleton] at k; rw [k]; exact step_arg he
   · exact h.args
end Go.Proofs.YtahkcemdbfjilaaGreatDoor
