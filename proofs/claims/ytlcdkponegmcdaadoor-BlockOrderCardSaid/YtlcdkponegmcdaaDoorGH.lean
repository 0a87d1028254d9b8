/- Rows of acts: whose file is the last of its name; what a finder holds behind them, whatever the order. No conditions. -/
import Derived.Test.YtlcdkponegmcdaaDoorGF
namespace Go.Proofs.YtlcdkponegmcdaaDoor
open Go.RowKit
def good (x : ActT) : Bool := decide (x.long ≤ 4096)
/-- An act's file. -/
def dataTo (x : ActT) (k : Nat) : By := (List.range k).map fun i => if x.text.size = 0 then 0 else at8 (tl x.text) (i % x.text.size)
@[irreducible] def dataL (x : ActT) : By := dataTo x (min x.long.toNat 5000)
theorem dataTo_len (x : ActT) (k : Nat) : (dataTo x k).length = k := by simp [dataTo]
theorem dataTo_next (x : ActT) (k : Nat) : dataTo x (k + 1) = dataTo x k ++ [if x.text.size = 0 then 0 else at8 (tl x.text) (k % x.text.size)] := by simp [dataTo, List.range_succ]
theorem dataL_len (x : ActT) : (dataL x).length = min x.long.toNat 5000 := by unfold dataL; exact dataTo_len _ _
theorem dataL_good {x : ActT} (h : good x = true) : (dataL x).length ≤ 4096 := by
  rw [dataL_len]; have := of_decide_eq_true h; omega
theorem dataL_bad {x : ActT} (h : good x = false) : 4096 < (dataL x).length := by
  rw [dataL_len]; have := of_decide_eq_false h; omega
def nm (x : ActT) : By := tl x.name
open Classical in
noncomputable def stepF (F : By → Option By) (x : ActT) : By → Option By := if good x = true then putF F (nm x) (dataL x) else F
noncomputable def FA (xs : List ActT) : By → Option By := xs.foldl stepF (fun _ => none)
theorem FTrydsnoc (xs : List ActT) (x : ActT) : FA (xs ++ [x]) = stepF (FA xs) x := by simp [FA, List.foldl_append]
theorem FTrydtake (xs : List ActT) (k : Nat) (h : k < xs.length) : FA (xs.take (k + 1)) = stepF (FA (xs.take k)) (xs.getD k act0) := by
  rw [List.take_succ_eq_append_getElem h, FTrydsnoc, List.getD, List.getElem?_eq_getElem h]; rfl
/-- Is there a later file of that name? -/
def lat (x : ActT) (r : List ActT) : Bool := r.any fun y => decide (y.name = x.name) && good y
def lastR : List ActT → List ActT
  | [] => []
  | x :: r => if (good x && !lat x r) = true then x :: lastR r else lastR r
open Classical in
noncomputable def lk : List ActT → By → Option By
  | [], _ => none
  | x :: r, n => match lk r n with
    | some D => some D
    | none => if good x = true ∧ nm x = n then some (dataL x) else none
theorem nm_inj {x y : ActT} (h : nm x = nm y) : x.name = y.name := by
  unfold nm tl at h
  have h2 : x.name.data = y.name.data := Array.toList_inj.1 h
  cases hx : x.name; cases hy : y.name
  rw [hx, hy] at h2
  exact congrArg ByteArray.mk h2
open Classical in
theorem foldl_lk (xs : List ActT) : ∀ (F : By → Option By) (n : By), (xs.foldl stepF F) n = match lk xs n with | some D => some D | none => F n := by
  induction xs with
  | nil => intro F n; rfl
  | cons x r ih =>
    intro F n
    rw [List.foldl_cons, ih]
    show _ = match (match lk r n with | some D => some D | none => if good x = true ∧ nm x = n then some (dataL x) else none) with | some D => some D | none => F n
    cases h : lk r n with
    | some D => rfl
    | none =>
      simp only
      unfold stepF
      by_cases hg : good x = true
      · rw [if_pos hg]
        unfold putF
        by_cases hn : nm x = n
        · rw [if_pos hn.symm, if_pos ⟨hg, hn⟩]
        · rw [if_neg (fun e => hn e.symm), if_neg (fun e => hn e.2)]
      · rw [if_neg hg, if_neg (fun e => hg e.1)]
theorem FTrydlk (xs : List ActT) (n : By) : FA xs n = lk xs n := by
  unfold FA
  rw [foldl_lk]
  cases lk xs n <;> rfl
open Classical in
theorem lk_none {xs : List ActT} {n : By} : lk xs n = none ↔ ∀ y ∈ xs, ¬ (good y = true ∧ nm y = n) := by
  induction xs with
  | nil => simp [lk]
  | cons x r ih =>
    show (match lk r n with | some D => some D | none => if good x = true ∧ nm x = n then some (dataL x) else none) = none ↔ _
    constructor
    · intro h
      cases hr : lk r n with
      | some D => rw [hr] at h; cases h
      | none =>
        rw [hr] at h
        simp only at h
        intro y hy
        rcases List.mem_cons.1 hy with rfl | hy
        · intro e; rw [if_pos e] at h; cases h
        · exact ih.1 hr y hy
    · intro h
      have hr : lk r n = none := ih.2 fun y hy => h y (List.mem_cons_of_mem _ hy)
      rw [hr]
      simp only
      exact if_neg (h x (List.mem_cons_self ..))
theorem lat_iff {x : ActT} {r : List ActT} : lat x r = true ↔ ∃ y ∈ r, good y = true ∧ nm y = nm x := by
  unfold lat
  rw [List.any_eq_true]
  constructor
  · rintro ⟨y, hy, h⟩
    rw [Bool.and_eq_true] at h
    exact ⟨y, hy, h.2, by unfold nm; rw [of_decide_eq_true h.1]⟩
  · rintro ⟨y, hy, h1, h2⟩
    exact ⟨y, hy, by rw [Bool.and_eq_true]; exact ⟨decide_eq_true (nm_inj h2), h1⟩⟩
open Classical in
theorem lk_last (xs : List ActT) (n D : By) : lk xs n = some D ↔ ∃ x ∈ lastR xs, nm x = n ∧ dataL x = D := by
  induction xs with
  | nil => simp [lk, lastR]
  | cons x r ih =>
    show (match lk r n with | some D => some D | none => if good x = true ∧ nm x = n then some (dataL x) else none) = some D ↔ _
    rw [lastR]
    by_cases hc : (good x && !lat x r) = true
    · rw [if_pos hc]
      rw [Bool.and_eq_true, Bool.not_eq_true'] at hc
      have hno : nm x = n → lk r n = none := fun e => lk_none.2 fun y hy hh => by
        have : lat x r = true := lat_iff.2 ⟨y, hy, hh.1, by rw [hh.2, e]⟩
        rw [this] at hc; exact absurd hc.2 (by decide)
      constructor
      · intro h
        cases hr : lk r n with
        | some D' =>
          rw [hr] at h
          simp only [Option.some.injEq] at h
          subst h
          obtain ⟨y, hy, h2⟩ := ih.1 hr
          exact ⟨y, List.mem_cons_of_mem _ hy, h2⟩
        | none =>
          rw [hr] at h
          simp only at h
          by_cases e : good x = true ∧ nm x = n
          · rw [if_pos e] at h; injection h with h
            exact ⟨x, List.mem_cons_self .., e.2, h⟩
          · rw [if_neg e] at h; cases h
      · rintro ⟨y, hy, h1, h2⟩
        rcases List.mem_cons.1 hy with rfl | hy
        · rw [hno h1]
          simp only
          rw [if_pos ⟨hc.1, h1⟩, h2]
        · rw [ih.2 ⟨y, hy, h1, h2⟩]
    · rw [if_neg hc, ← ih]
      cases hr : lk r n with
      | some D' => rfl
      | none =>
        simp only
        rw [if_neg]
        rintro ⟨h1, h2⟩
        apply hc
        rw [Bool.and_eq_true, Bool.not_eq_true']
        refine ⟨h1, ?_⟩
        cases hl : lat x r with
        | false => rfl
        | true =>
          obtain ⟨y, hy, h3, h4⟩ := lat_iff.1 hl
          exact absurd ⟨h3, h4.trans h2⟩ (lk_none.1 hr y hy)
theorem last_sub {xs : List ActT} : ∀ y ∈ lastR xs, y ∈ xs ∧ good y = true := by
  induction xs with
  | nil => intro y hy; cases hy
  | cons x r ih =>
    intro y hy
    rw [lastR] at hy
    by_cases hc : (good x && !lat x r) = true
    · rw [if_pos hc] at hy
      rcases List.mem_cons.1 hy with rfl | hy
      · rw [Bool.and_eq_true] at hc; exact ⟨List.mem_cons_self .., hc.1⟩
      · exact ⟨List.mem_cons_of_mem _ (ih y hy).1, (ih y hy).2⟩
    · rw [if_neg hc] at hy
      exact ⟨List.mem_cons_of_mem _ (ih y hy).1, (ih y hy).2⟩
def Apartn (l : List ActT) : Prop := l.Pairwise fun x y => nm x ≠ nm y
theorem last_apart (xs : List ActT) : Apartn (lastR xs) := by
  induction xs with
  | nil => exact List.Pairwise.nil
  | cons x r ih =>
    rw [lastR]
    by_cases hc : (good x && !lat x r) = true
    · rw [if_pos hc]
      refine List.Pairwise.cons (fun y hy e => ?_) ih
      rw [Bool.and_eq_true, Bool.not_eq_true'] at hc
      have : lat x r = true := lat_iff.2 ⟨y, (last_sub y hy).1, (last_sub y hy).2, e.symm⟩
      rw [this] at hc; exact absurd hc.2 (by decide)
    · rw [if_neg hc]; exact ih
open Classical in
theorem lk_apart {l : List ActT} (h : Apartn l) (hg : ∀ x ∈ l, good x = true) (n D : By) : lk l n = some D ↔ ∃ x ∈ l, nm x = n ∧ dataL x = D := by
  induction l with
  | nil => simp [lk]
  | cons x r ih =>
    have ih := ih (List.Pairwise.of_cons h) (fun y hy => hg y (List.mem_cons_of_mem _ hy))
    have hx : ∀ {z}, z ∈ r → nm x ≠ nm z := fun {z} hz => List.rel_of_pairwise_cons h hz
    show (match lk r n with | some D => some D | none => if good x = true ∧ nm x = n then some (dataL x) else none) = some D ↔ _
    constructor
    · intro h
      cases hr : lk r n with
      | some D' =>
        rw [hr] at h
        simp only [Option.some.injEq] at h
        subst h
        obtain ⟨y, hy, h2⟩ := ih.1 hr
        exact ⟨y, List.mem_cons_of_mem _ hy, h2⟩
      | none =>
        rw [hr] at h
        simp only at h
        by_cases e : good x = true ∧ nm x = n
        · rw [if_pos e] at h; injection h with h
          exact ⟨x, List.mem_cons_self .., e.2, h⟩
        · rw [if_neg e] at h; cases h
    · rintro ⟨y, hy, h1, h2⟩
      rcases List.mem_cons.1 hy with rfl | hy
      · have : lk r n = none := lk_none.2 fun z hz hh => hx hz (h1.trans hh.2.symm)
        rw [this]
        simp only
        rw [if_pos ⟨hg y (List.mem_cons_self ..), h1⟩, h2]
      · rw [ih.2 ⟨y, hy, h1, h2⟩]
/-- The last files, put the other way round: the same. -/
theorem FTrydback (xs : List ActT) : FA (lastR xs).reverse = FA xs := by
  have ha : Apartn (lastR xs).reverse := by
    unfold Apartn
    rw [List.pairwise_reverse]
    exact (last_apart xs).imp fun h e => h e.symm
  have hg : ∀ x ∈ (lastR xs).reverse, good x = true := fun x hx => (last_sub x (List.mem_reverse.1 hx)).2
  funext n
  have h : ∀ D, FA (lastR xs).reverse n = some D ↔ FA xs n = some D := fun D => by
    rw [FTrydlk, FTrydlk, lk_apart ha hg, lk_last]
    constructor
    · rintro ⟨x, hx, k⟩; exact ⟨x, List.mem_reverse.1 hx, k⟩
    · rintro ⟨x, hx, k⟩; exact ⟨x, List.mem_reverse.2 hx, k⟩
  cases h1 : FA xs n with
  | some D => exact (h D).2 h1
  | none =>
    cases h2 : FA (lastR xs).reverse n with
    | none => rfl
    | some D => rw [(h D).1 h2] at h1; cases h1
theorem FTrydat (xs : List ActT) (x : ActT) (hx : x ∈ lastR xs) : FA xs (nm x) = some (dataL x) := by
  rw [FTrydlk, lk_last]; exact ⟨x, hx, rfl, rfl⟩
theorem FTrydmem (xs : List ActT) (n D : By) : FA xs n = some D ↔ ∃ x ∈ lastR xs, nm x = n ∧ dataL x = D := by rw [FTrydlk, lk_last]
theorem len_le {l1 : List By} : ∀ {l2 : List By}, l1.Nodup → (∀ n ∈ l1, n ∈ l2) → l1.length ≤ l2.length := by
  induction l1 with
  | nil => intro l2 _ _; exact Nat.zero_le _
  | cons x r ih =>
    intro l2 h hs
    have hx : x ∈ l2 := hs x (List.mem_cons_self ..)
    have h1 := List.nodup_cons.1 h
    have := ih (l2 := l2.erase x) h1.2 (fun n hn => (List.mem_erase_of_ne (fun e => h1.1 (by rw [← e]; exact hn))).2 (hs n (List.mem_cons_of_mem _ hn)))
    rw [List.length_erase_of_mem hx] at this
    have := List.length_pos_of_mem hx
    simp only [List.length_cons]
    omega
/-- As many names as files. -/
theorem keys_len (xs : List ActT) (keys : List By) (h : keys.Nodup) (hk : ∀ n, n ∈ keys ↔ (FA xs n).isSome = true) : keys.length = (lastR xs).length := by
  have hn : ((lastR xs).map nm).Nodup := by
    unfold List.Nodup
    rw [List.pairwise_map]
    exact last_apart xs
  have hm : ∀ n, n ∈ keys ↔ n ∈ (lastR xs).map nm := fun n => by
    rw [hk, Option.isSome_iff_exists]
    constructor
    · rintro ⟨D, hD⟩
      obtain ⟨x, hx, h1, _⟩ := (FTrydmem xs n D).1 hD
      exact List.mem_map.2 ⟨x, hx, h1⟩
    · intro hx
      obtain ⟨x, hx', rfl⟩ := List.mem_map.1 hx
      exact ⟨_, FTrydat xs x hx'⟩
  have h1 := len_le h (fun n hn => (hm n).1 hn)
  have h2 := len_le hn (fun n hn => (hm n).2 hn)
  rw [List.length_map] at h1 h2
  omega
end Go.Proofs.YtlcdkponegmcdaaDoor
