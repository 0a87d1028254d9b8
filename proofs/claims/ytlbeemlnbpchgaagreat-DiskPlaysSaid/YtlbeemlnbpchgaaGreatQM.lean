/- Several texts in one: WV. Conditions: those said at each. -/
import Derived.Test.YtlbeemlnbpchgaaGreatQC
/- The plain model of a disk, in the document's words: what an effect's own arguments say, what it makes of a tree, and how a tree is moved. Plain facts, no program. -/
namespace Go.Proofs.YtlbeemlnbpchgaaGreat
/-- What an effect's own arguments say. -/
def argE : Eff → Int
  | .write p _ t => if mayB p then (if timeB t then 0 else 2) else 10
  | .append p _ => if mayB p then 0 else 10
  | .mkdir p => if mayB p then 0 else 10
  | .link p g t => if mayB p then (if timeB t && decide (1 ≤ g.length) && decide (g.length ≤ 160) then 0 else 2) else 10
  | .rename a b => if mayB a && mayB b then (if b = a ∨ withinB b a = true then 2 else 0) else 10
  | .remove p => if mayB p then 0 else 10
/-- What an effect makes of a tree whose arguments may be. -/
def nextE (room : Nat) (L : Tr) : Eff → Int × Tr
  | .write p d t => if homeE L p = 0 then (if takenE L p = 0 then putE room L p ⟨1, d, [], t⟩ else (takenE L p, L)) else (homeE L p, L)
  | .append p d => match look L p with | some n => if takenE L p = 0 then putE room L p ⟨n.kind, n.data ++ d, n.target, n.time⟩ else (takenE L p, L) | none => (5, L)
  | .mkdir p => addE room L p ⟨2, [], [], 0⟩
  | .link p g t => addE room L p ⟨3, [], g, t⟩
  | .rename a b => if (look L a).isSome then (if homeE L b = 0 then (if kindP L b = 2 ∨ (kindP L a = 2 ∧ (look L b).isSome) then (12, L) else if farB b (innerL L a) then (0, mvAll L a b (innerL L a)) else (10, L)) else (homeE L b, L)) else (5, L)
  | .remove p => if (look L p).isSome then (if innerL L p = [] then (0, del L p) else (22, L)) else (5, L)
theorem step_split (room : Nat) (L : Tr) (x : Eff) : stepE room L x = if argE x = 0 then nextE room L x else (argE x, L) := by
  cases x with
  | write p d t =>
    by_cases h0 : mayB p = true
    · by_cases h1 : timeB t = true
      · have ha : argE (.write p d t) = 0 := by simp only [argE, if_pos h0, if_pos h1]
        rw [if_pos ha]; simp only [stepE, nextE, if_pos h0, if_pos h1]
      · have ha : argE (.write p d t) = 2 := by simp only [argE, if_pos h0, if_neg h1]
        rw [if_neg (by rw [ha]; decide), ha]; simp only [stepE, if_pos h0, if_neg h1]
    · have ha : argE (.write p d t) = 10 := by simp only [argE, if_neg h0]
      rw [if_neg (by rw [ha]; decide), ha]; simp only [stepE, if_neg h0]
  | append p d =>
    by_cases h0 : mayB p = true
    · have ha : argE (.append p d) = 0 := by simp only [argE, if_pos h0]
      rw [if_pos ha]; simp only [stepE, nextE, if_pos h0]
      cases look L p <;> rfl
    · have ha : argE (.append p d) = 10 := by simp only [argE, if_neg h0]
      rw [if_neg (by rw [ha]; decide), ha]; simp only [stepE, if_neg h0]
  | mkdir p =>
    by_cases h0 : mayB p = true
    · have ha : argE (.mkdir p) = 0 := by simp only [argE, if_pos h0]
      rw [if_pos ha]; simp only [stepE, nextE, if_pos h0]
    · have ha : argE (.mkdir p) = 10 := by simp only [argE, if_neg h0]
      rw [if_neg (by rw [ha]; decide), ha]; simp only [stepE, if_neg h0]
  | link p g t =>
    by_cases h0 : mayB p = true
    · by_cases h1 : (timeB t && decide (1 ≤ g.length) && decide (g.length ≤ 160)) = true
      · have ha : argE (.link p g t) = 0 := by simp only [argE, if_pos h0, if_pos h1]
        rw [if_pos ha]; simp only [stepE, nextE, if_pos h0, if_pos h1]
      · have ha : argE (.link p g t) = 2 := by simp only [argE, if_pos h0, if_neg h1]
        rw [if_neg (by rw [ha]; decide), ha]; simp only [stepE, if_pos h0, if_neg h1]
    · have ha : argE (.link p g t) = 10 := by simp only [argE, if_neg h0]
      rw [if_neg (by rw [ha]; decide), ha]; simp only [stepE, if_neg h0]
  | rename a b =>
    by_cases h0 : (mayB a && mayB b) = true
    · by_cases h1 : b = a ∨ withinB b a = true
      · have ha : argE (.rename a b) = 2 := by simp only [argE, if_pos h0, if_pos h1]
        rw [if_neg (by rw [ha]; decide), ha]; simp only [stepE, if_pos h0, if_pos h1]
      · have ha : argE (.rename a b) = 0 := by simp only [argE, if_pos h0, if_neg h1]
        rw [if_pos ha]; simp only [stepE, nextE, if_pos h0, if_neg h1]
    · have ha : argE (.rename a b) = 10 := by simp only [argE, if_neg h0]
      rw [if_neg (by rw [ha]; decide), ha]; simp only [stepE, if_neg h0]
  | remove p =>
    by_cases h0 : mayB p = true
    · have ha : argE (.remove p) = 0 := by simp only [argE, if_pos h0]
      rw [if_pos ha]; simp only [stepE, nextE, if_pos h0]
    · have ha : argE (.remove p) = 10 := by simp only [argE, if_neg h0]
      rw [if_neg (by rw [ha]; decide), ha]; simp only [stepE, if_neg h0]
theorem argE_cut (x : Eff) (n : Nat) : argE (cutE x n) = argE x := by cases x <;> rfl
theorem step_arg {room : Nat} {L : Tr} {x : Eff} (h : (stepE room L x).1 = 0) : argE x = 0 := by
  rw [step_split] at h
  split at h
  · assumption
  · exact absurd h ‹_›
/-- Files have no target. -/
def TG (L : Tr) : Prop := ∀ p n, look L p = some n → n.kind = 1 → n.target = []
theorem TG.nil : TG [] := fun p n h => by cases h
theorem TG.ins {L : Tr} (h : TG L) (p : By) {n : Nd} (hn : n.kind = 1 → n.target = []) : TG (ins p n L) := by
  intro q m hq hk
  rw [look_ins] at hq
  split at hq
  · injection hq with hq; subst hq; exact hn hk
  · exact h q m hq hk
theorem TG.del {L : Tr} (h : TG L) (p : By) : TG (del L p) := by
  intro q m hq hk
  rw [look_del] at hq
  split at hq
  · cases hq
  · exact h q m hq hk
theorem TG.put {L : Tr} (h : TG L) (room : Nat) (p : By) {n : Nd} (hn : n.kind = 1 → n.target = []) : TG (putE room L p n).2 := by
  unfold putE; split
  · exact h.ins p hn
  · exact h
theorem TG.add {L : Tr} (h : TG L) (room : Nat) (p : By) {n : Nd} (hn : n.kind = 1 → n.target = []) : TG (addE room L p n).2 := by
  unfold addE; split
  · split
    · exact h
    · exact h.put room p hn
  · exact h
theorem TG.mv1 {T : Tr} (h : TG T) (a b : By) : TG (mv1 T a b) := by
  unfold Go.Proofs.YtlbeemlnbpchgaaGreat.mv1
  refine TG.del (TG.ins h b ?_) a
  cases hl : look T a with
  | none => intro hk; cases hk
  | some n => exact h a n hl
theorem TG.mvs {a b : By} (rs : List By) : ∀ {T : Tr}, TG T → TG (mvs a b T rs) := by
  induction rs with
  | nil => intro T h; exact h
  | cons r rs ih => intro T h; exact ih (h.mv1 _ _)
theorem TG.step {room : Nat} {L : Tr} (h : TG L) (x : Eff) : TG (stepE room L x).2 := by
  rw [step_split]
  split
  · cases x with
    | write p d t =>
      simp only [nextE]; split
      · split
        · exact h.put _ _ (fun _ => rfl)
        · exact h
      · exact h
    | append p d =>
      simp only [nextE]; split
      · rename_i n hl
        split
        · exact h.put _ _ (h p n hl)
        · exact h
      · exact h
    | mkdir p => exact h.add _ _ (fun k => by cases k)
    | link p g t => exact h.add _ _ (fun k => by cases k)
    | rename a b =>
      simp only [nextE]; split
      · split
        · split
          · exact h
          · split
            · exact TG.mvs _ ((h.del b).mv1 a b)
            · exact h
        · exact h
      · exact h
    | remove p =>
      simp only [nextE]; split
      · split
        · exact h.del p
        · exact h
      · exact h
  · exact h
theorem TG.pick {room : Nat} {L : Tr} (h : TG L) (x : Eff) (k : Nat) : TG (pickE room L x k) := by
  unfold pickE; split
  · exact h
  · split
    · exact h.step x
    · exact h.step _
theorem TG.crash {room : Nat} : ∀ (xs : List Eff) (ks : List Nat) {L : Tr}, TG L → TG (crashL room L xs ks)
  | [], _, _, h => h
  | _ :: _, [], _, h => h
  | x :: xs, k :: ks, _, h => TG.crash xs ks (h.pick x k)
/-- What the document's disk keeps besides. -/
structure GoodR (M : Mo) : Prop where
  good : Good M
  t1 : TG M.now
  t2 : TG M.last
  args : ∀ x ∈ M.since, argE x = 0
theorem GoodR.new (room : Nat) : GoodR (newM room) := ⟨Good.new room, TG.nil, TG.nil, fun x h => by cases h⟩
theorem GoodR.do {M : Mo} (h : GoodR M) (x : Eff) : GoodR (doM M x).2 := by
  refine ⟨h.good.do x, ?_, ?_, ?_⟩ <;> unfold doM <;> split
  · exact h.t1
  · split
    · exact h.t1.step x
    · exact h.t1
  · exact h.t2
  · split <;> exact h.t2
  · exact h.args
  · split
    · rename_i he
      intro y hy
      rcases List.mem_append.1 hy with k | k
      · exact h.args y k
      · rw [List.mem_singleton] at k; rw [k]; exact step_arg he
    · exact h.args
theorem GoodR.sync {M : Mo} (h : GoodR M) : GoodR (syncM M).2 := by
  refine ⟨h.good.sync, ?_, ?_, ?_⟩ <;> unfold syncM <;> split
  · exact h.t1
  · exact h.t1
  · exact h.t2
  · exact h.t1
  · exact h.args
  · exact fun x k => by cases k
theorem GoodR.crash {M : Mo} (h : GoodR M) (ks : List Nat) : GoodR (crashM M ks) :=
  ⟨h.good.crash ks, TG.crash _ _ h.t2, TG.crash _ _ h.t2, fun x k => by cases k⟩
theorem GoodR.fuse {M : Mo} (h : GoodR M) {n : Int} (hn : n ≤ 9223372036854775807) : GoodR (fuseM M n).2 := by
  refine ⟨h.good.fuse hn, ?_, ?_, ?_⟩ <;> unfold fuseM <;> split
  · exact h.t1
  · split <;> exact h.t1
  · exact h.t2
  · split <;> exact h.t2
  · exact h.args
  · split <;> exact h.args
/-! ### moved, as the document does it -/
/-- Does it move? -/
def movesB (a p : By) : Bool := decide (p = a) || withinB p a
/-- Where it goes. -/
def toP (a b p : By) : By := b ++ p.drop a.length
def strike (a : By) (T : Tr) (xs : Tr) : Tr := xs.foldl (fun T x => if movesB a x.1 then del T x.1 else T) T
def lay (a b : By) (T : Tr) (xs : Tr) : Tr := xs.foldl (fun T x => if movesB a x.1 then ins (toP a b x.1) x.2 T else T) T
def mvR (L : Tr) (a b : By) : Tr := lay a b (strike a (del L b) L) L
theorem strike_snoc (a : By) (T xs : Tr) (x : By × Nd) : strike a T (xs ++ [x]) = if movesB a x.1 then del (strike a T xs) x.1 else strike a T xs := by simp [strike, List.foldl_append]
theorem lay_snoc (a b : By) (T xs : Tr) (x : By × Nd) : lay a b T (xs ++ [x]) = if movesB a x.1 then ins (toP a b x.1) x.2 (lay a b T xs) else lay a b T xs := by simp [lay, List.foldl_append]
theorem srt_strike (a : By) (xs : Tr) : ∀ T, Srt T → Srt (strike a T xs) := by
  induction xs with
  | nil => intro T h; exact h
  | cons x xs ih =>
    intro T h
    refine ih _ ?_
    show Srt (if movesB a x.1 then del T x.1 else T)
    split
    · exact srt_del h _
    · exact h
theorem srt_lay (a b : By) (xs : Tr) : ∀ T, Srt T → Srt (lay a b T xs) := by
  induction xs with
  | nil => intro T h; exact h
  | cons x xs ih =>
    intro T h
    refine ih _ ?_
    show Srt (if movesB a x.1 then ins (toP a b x.1) x.2 T else T)
    split
    · exact srt_ins h _ _
    · exact h
theorem look_strike (a : By) (xs : Tr) : ∀ T q, look (strike a T xs) q = if movesB a q = true ∧ ∃ x ∈ xs, x.1 = q then none else look T q := by
  induction xs with
  | nil => intro T q; simp [strike]
  | cons x xs ih =>
    intro T q
    show look (strike a (if movesB a x.1 then del T x.1 else T) xs) q = _
    rw [ih]
    by_cases h1 : movesB a q = true ∧ ∃ y ∈ xs, y.1 = q
    · obtain ⟨k1, y, k2, k3⟩ := h1
      rw [if_pos ⟨k1, y, k2, k3⟩, if_pos ⟨k1, y, List.mem_cons_of_mem _ k2, k3⟩]
    · rw [if_neg h1]
      by_cases h2 : x.1 = q
      · by_cases h3 : movesB a q = true
        · have e1 : movesB a x.1 = true := by rw [h2]; exact h3
          have e2 : movesB a q = true ∧ ∃ y ∈ x :: xs, y.1 = q := ⟨h3, x, List.mem_cons_self, h2⟩
          rw [if_pos e1, if_pos e2, h2, look_del, if_pos rfl]
        · have e1 : ¬ movesB a x.1 = true := by rw [h2]; exact h3
          have e2 : ¬ (movesB a q = true ∧ ∃ y ∈ x :: xs, y.1 = q) := fun k => h3 k.1
          rw [if_neg e1, if_neg e2]
      · have e2 : ¬ (movesB a q = true ∧ ∃ y ∈ x :: xs, y.1 = q) := fun ⟨k1, y, k2, k3⟩ => by
          rcases List.mem_cons.1 k2 with e | e
          · exact h2 (e ▸ k3)
          · exact h1 ⟨k1, y, e, k3⟩
        rw [if_neg e2]
        split
        · rw [look_del, if_neg (fun e => h2 e.symm)]
        · rfl
theorem look_lay (a b : By) (xs : Tr) : ∀ T q, (∀ x ∈ xs, ∀ y ∈ xs, movesB a x.1 = true → movesB a y.1 = true → toP a b x.1 = toP a b y.1 → x = y) →
    look (lay a b T xs) q = (match xs.find? (fun x => movesB a x.1 && decide (toP a b x.1 = q)) with | some x => some x.2 | none => look T q) := by
  induction xs with
  | nil => intro T q _; rfl
  | cons x xs ih =>
    intro T q hi
    show look (lay a b (if movesB a x.1 then ins (toP a b x.1) x.2 T else T) xs) q = _
    rw [ih _ _ (fun y hy z hz => hi y (List.mem_cons_of_mem _ hy) z (List.mem_cons_of_mem _ hz)), List.find?_cons]
    cases hm : movesB a x.1 with
    | false => simp
    | true =>
      simp only [if_true, Bool.true_and]
      by_cases hq : toP a b x.1 = q
      · rw [decide_eq_true hq]
        simp only
        cases hf : xs.find? (fun x => movesB a x.1 && decide (toP a b x.1 = q)) with
        | none => simp only; rw [look_ins, if_pos hq.symm]
        | some y =>
          have h1 := List.find?_some hf
          have h2 := List.mem_of_find?_eq_some hf
          simp only [Bool.and_eq_true, decide_eq_true_eq] at h1
          have := hi x List.mem_cons_self y (List.mem_cons_of_mem _ h2) hm h1.1 (hq.trans h1.2.symm)
          rw [this]
      · rw [decide_eq_false hq]
        simp only
        rw [look_ins, if_neg (fun e => hq e.symm)]
theorem toP_self (a b : By) : toP a b a = b := by simp [toP]
theorem toP_behind (a b r : By) : toP a b (a ++ 47 :: r) = b ++ 47 :: r := by simp [toP]
open Classical in
/-- Moved as the document does it is moved. -/
theorem Moves.same {room : Nat} {L : Tr} {a b : By} (h : Moves room L a b) : mvR L a b = mvAll L a b (innerL L a) := by
  have hA := h.apart
  have hmB : ∀ p, (Go.Proofs.YtlbeemlnbpchgaaGreat.look L p).isSome → (movesB a p = true ↔ p = a ∨ ∃ r, p = a ++ 47 :: r) := by
    intro p hp
    unfold movesB
    simp only [Bool.or_eq_true, decide_eq_true_eq]
    constructor
    · rintro (e | e)
      · exact .inl e
      · exact .inr (withinB_yes h.ma e)
    · rintro (e | e)
      · exact .inl e
      · exact .inr (withinB_mk (h.wft.may p hp) h.ma e)
  have hin : ∀ x ∈ L, (Go.Proofs.YtlbeemlnbpchgaaGreat.look L x.1).isSome := fun x hx => by
    obtain ⟨p, n⟩ := x
    rw [mem_look h.wft.srt hx]; rfl
  have htoP : ∀ x ∈ L, ∀ y ∈ L, movesB a x.1 = true → movesB a y.1 = true → toP a b x.1 = toP a b y.1 → x = y := by
    intro x hx y hy h1 h2 he
    have h1 := (hmB _ (hin x hx)).1 h1
    have h2 := (hmB _ (hin y hy)).1 h2
    have hp : x.1 = y.1 := by
      unfold toP at he
      have he := List.append_cancel_left he
      rcases h1 with e1 | ⟨r, e1⟩ <;> rcases h2 with e2 | ⟨s, e2⟩ <;> rw [e1, e2] at he ⊢ <;> simp at he
      · rw [he]
    obtain ⟨p, n⟩ := x
    obtain ⟨q, m⟩ := y
    simp only at hp
    subst hp
    have := (mem_look h.wft.srt hx).symm.trans (mem_look h.wft.srt hy)
    injection this with this
    rw [this]
  refine tree_ext (srt_lay _ _ _ _ (srt_strike _ _ _ (srt_del h.wft.srt _))) (h.srt _) fun q => ?_
  rw [h.look (List.Perm.refl _)]
  show Go.Proofs.YtlbeemlnbpchgaaGreat.look (lay a b (strike a (del L b) L) L) q = _
  rw [look_lay a b L _ q htoP]
  have hS : Go.Proofs.YtlbeemlnbpchgaaGreat.look (strike a (del L b) L) q = if q = a ∨ ∃ r, q = a ++ 47 :: r then none else if q = b then none else Go.Proofs.YtlbeemlnbpchgaaGreat.look L q := by
    rw [look_strike, look_del]
    by_cases c : q = a ∨ ∃ r, q = a ++ 47 :: r
    · rw [if_pos c]
      cases hl : Go.Proofs.YtlbeemlnbpchgaaGreat.look L q with
      | none =>
        split
        · rfl
        · split <;> rfl
      | some n => rw [if_pos ⟨(hmB q (by rw [hl]; rfl)).2 c, ⟨q, n⟩, look_mem hl, rfl⟩]
    · rw [if_neg c]
      rw [if_neg]
      rintro ⟨k, x, hx, rfl⟩
      exact c ((hmB _ (hin x hx)).1 k)
  have hb0 : ∀ x : By, b ++ 47 :: x ≠ b := fun x e => by have := congrArg List.length e; simp at this
  have hd : ∀ x : By, (b ++ 47 :: x).drop (b.length + 1) = x := fun x => by
    rw [show b ++ 47 :: x = (b ++ [47]) ++ x by simp, List.drop_left' (by simp)]
  -- who goes to q
  have hwho : ∀ x ∈ L, movesB a x.1 = true → toP a b x.1 = q → (x.1 = a ∧ q = b) ∨ ∃ r, x.1 = a ++ 47 :: r ∧ q = b ++ 47 :: r := by
    intro x hx h1 h2
    rcases (hmB _ (hin x hx)).1 h1 with e | ⟨r, e⟩
    · exact .inl ⟨e, by rw [← h2, e, toP_self]⟩
    · exact .inr ⟨r, e, by rw [← h2, e, toP_behind]⟩
  cases hf : L.find? (fun x => movesB a x.1 && decide (toP a b x.1 = q)) with
  | some x =>
    have h1 := List.find?_some hf
    have h2 := List.mem_of_find?_eq_some hf
    simp only [Bool.and_eq_true, decide_eq_true_eq] at h1
    have hlx : Go.Proofs.YtlbeemlnbpchgaaGreat.look L x.1 = some x.2 := mem_look h.wft.srt h2
    rcases hwho x h2 h1.1 h1.2 with ⟨e1, e2⟩ | ⟨r, e1, e2⟩
    · rw [if_pos e2, ← e1, hlx]
    · rw [if_neg (fun k => hb0 r (e2.symm.trans k)), if_pos ⟨r, e2, by rw [← e1, hlx]; rfl⟩, e2, hd, ← e1, hlx]
  | none =>
    have hno := List.find?_eq_none.1 hf
    simp only
    rw [hS]
    have hsrc := h.src
    have hnb : q ≠ b := by
      intro e
      obtain ⟨n, hn⟩ := Option.isSome_iff_exists.1 hsrc
      have := hno ⟨a, n⟩ (look_mem hn)
      simp [movesB, toP_self, e] at this
    have hnr : ¬ ∃ r, q = b ++ 47 :: r ∧ (Go.Proofs.YtlbeemlnbpchgaaGreat.look L (a ++ 47 :: r)).isSome := by
      rintro ⟨r, e, hl⟩
      have hm := (hmB _ hl).2 (.inr ⟨r, rfl⟩)
      obtain ⟨n, hn⟩ := Option.isSome_iff_exists.1 hl
      have := hno ⟨_, n⟩ (look_mem hn)
      simp [hm, toP_behind, e] at this
    rw [if_neg hnb, if_neg hnr, if_neg hnb]
/-- Where all that moves may be. -/
def farR (L : Tr) (a b : By) : Bool := L.all fun x => !movesB a x.1 || mayB (toP a b x.1)
theorem far_same {room : Nat} {L : Tr} {a b : By} (h : WFT room L) (ha : mayB a = true) (hb : mayB b = true) : farR L a b = farB b (innerL L a) := by
  rw [Bool.eq_iff_iff]
  unfold farR farB
  rw [List.all_eq_true, List.all_eq_true]
  constructor
  · intro hx r hr
    have hl := (h.inner (may_ne ha) r).1 hr
    obtain ⟨n, hn⟩ := Option.isSome_iff_exists.1 hl
    have := hx ⟨_, n⟩ (look_mem hn)
    have hw : movesB a (a ++ 47 :: r) = true := by
      unfold movesB
      rw [withinB_mk (h.may _ hl) ha ⟨r, rfl⟩]; simp
    simp only [hw, toP_behind] at this
    simpa using this
  · intro hr x hx
    cases hm : movesB a x.1 with
    | false => rfl
    | true =>
      simp only [Bool.not_true, Bool.false_or]
      have hl : (look L x.1).isSome := by
        obtain ⟨p, n⟩ := x
        rw [mem_look h.srt hx]; rfl
      unfold movesB at hm
      simp only [Bool.or_eq_true, decide_eq_true_eq] at hm
      rcases hm with e | e
      · rw [e, toP_self]; exact hb
      · obtain ⟨r, e⟩ := withinB_yes ha e
        rw [e, toP_behind]
        exact hr r ((h.inner (may_ne ha) r).2 (by rw [← e]; exact hl))
end Go.Proofs.YtlbeemlnbpchgaaGreat
