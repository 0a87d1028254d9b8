/- Files of patterns, plain: lines, what a file says, what of it was read before. No program. -/
import Derived.Test.YtpipkgkfhbagmaaGreatDoorJO
import Derived.Lib.IndexMore
namespace Go.Proofs.YtpipkgkfhbagmaaGreatDoor.Glob
open Go.RowKit
abbrev Fl := List (By × By)
def blk (c : UInt8) : Bool := (c == 32) || (c == 9)
/-- A text without blanks at its ends. -/
def trimR (s : By) : By := (s.reverse.dropWhile blk).reverse
def trimB (s : By) : By := (trimR s).dropWhile blk
/-- What stands ahead of the first byte 10, what behind it, whether there is one. -/
def cutN : By → By × By × Bool
  | [] => ([], [], false)
  | c :: l => if c = 10 then ([], l, true) else (c :: (cutN l).1, (cutN l).2.1, (cutN l).2.2)
theorem cut_ten (l : By) : Lib.cut l [10] = cutN l := by
  induction l with
  | nil => rfl
  | cons c l ih =>
    have hge := Lib.index_ge l [10]
    unfold Lib.cut Lib.index cutN
    by_cases hc : c = 10
    · subst hc; rfl
    · have h1 : [10].isPrefixOf (c :: l) = false := by simp [List.isPrefixOf, Ne.symm hc]
      rw [if_neg (show ¬ [10].isPrefixOf (c :: l) = true by rw [h1]; decide), if_neg hc, ← ih]
      unfold Lib.cut
      by_cases hi : Lib.index l [10] = -1
      · rw [hi]; rfl
      · have h0 : (0 : Int) ≤ Lib.index l [10] := by omega
        have h2 : ¬ (Lib.index l [10] == -1) = true := by simpa using hi
        rw [if_neg h2, if_pos h0, if_pos (show (0 : Int) ≤ Lib.index l [10] + 1 by omega)]
        obtain ⟨n, hn⟩ := Int.eq_ofNat_of_zero_le h0
        rw [hn]
        have e : ((n : Int) + 1).toNat = n + 1 := by omega
        simp only [e, Int.toNat_natCast, List.take_succ_cons, List.length_singleton]
        rw [show n + 1 + 1 = (n + 1) + 1 from rfl, List.drop_succ_cons]
theorem cutYtpipkgkfhbagmaaGreatDoorlen (l : By) : (cutN l).2.1.length ≤ l.length ∧ (cutN l).1.length ≤ l.length ∧ ((cutN l).2.2 = true → (cutN l).2.1.length < l.length) := by
  induction l with
  | nil => simp [cutN]
  | cons c l ih =>
    unfold cutN
    by_cases hc : c = 10
    · simp [hc]
    · rw [if_neg hc]; simp only [List.length_cons]; refine ⟨by omega, by omega, fun h => by have := ih.2.2 h; omega⟩
/-- What stands between the bytes 10. -/
def rowsN : By → List By
  | [] => [[]]
  | c :: l => if c = 10 then [] :: rowsN l else match rowsN l with | p :: ps => (c :: p) :: ps | [] => [[c]]
theorem rowsYtpipkgkfhbagmaaGreatDoorcut (l : By) : rowsN l = if (cutN l).2.2 then (cutN l).1 :: rowsN (cutN l).2.1 else [(cutN l).1] := by
  induction l with
  | nil => rfl
  | cons c l ih =>
    rw [rowsN, cutN]
    by_cases hc : c = 10
    · rw [if_pos hc, if_pos hc, if_pos rfl]
    · rw [if_neg hc, if_neg hc, ih]
      cases h : (cutN l).2.2
      · rfl
      · rfl
def idle (s : By) : Bool := decide (s = []) || pre [47, 47] s
/-- A file's lines that say something. -/
def linesL (l : By) : List By := ((rowsN l).map trimB).filter fun s => !idle s
theorem linesL_cut (l : By) : linesL l = (if idle (trimB (cutN l).1) then [] else [trimB (cutN l).1]) ++ (if (cutN l).2.2 then linesL (cutN l).2.1 else []) := by
  unfold linesL
  rw [rowsYtpipkgkfhbagmaaGreatDoorcut]
  cases (cutN l).2.2 <;> cases h : idle (trimB (cutN l).1) <;> simp [h]
theorem trimR_len (s : By) : (trimR s).length ≤ s.length := by
  unfold trimR; rw [List.length_reverse]; have := (List.dropWhile_suffix blk (l := s.reverse)).length_le; simpa using this
theorem trimB_len (s : By) : (trimB s).length ≤ s.length := by
  unfold trimB; exact Nat.le_trans (List.dropWhile_suffix blk).length_le (trimR_len s)
theorem rowsYtpipkgkfhbagmaaGreatDoorlen (n : Nat) : ∀ l : By, l.length ≤ n → ∀ p ∈ rowsN l, p.length ≤ l.length := by
  induction n with
  | zero => intro l h p hp; obtain rfl := List.length_eq_zero_iff.1 (Nat.le_zero.1 h); simp [rowsN] at hp; simp [hp]
  | succ n ih =>
    intro l h p hp
    rw [rowsYtpipkgkfhbagmaaGreatDoorcut] at hp
    have h1 := cutYtpipkgkfhbagmaaGreatDoorlen l
    split at hp
    · rename_i hc
      rcases List.mem_cons.1 hp with rfl | hp
      · exact h1.2.1
      · exact Nat.le_trans (ih _ (by have := h1.2.2 hc; omega) p hp) h1.1
    · simp only [List.mem_singleton] at hp; subst hp; exact h1.2.1
theorem linesL_len {l s : By} (h : s ∈ linesL l) : s.length ≤ l.length := by
  unfold linesL at h
  obtain ⟨h1, _⟩ := List.mem_filter.1 h
  obtain ⟨p, hp, rfl⟩ := List.mem_map.1 h1
  exact Nat.le_trans (trimB_len p) (rowsYtpipkgkfhbagmaaGreatDoorlen _ l (Nat.le_refl _) p hp)
/-- The mark of a line that includes a file. -/
def incM : By := [35, 105, 110, 99, 108, 117, 100, 101, 32]
def findF (fs : Fl) (name : By) : Option By := match fs.find? (fun f => f.1 == name) with | none => none | some f => some f.2
/-- A file's lines, one behind the other. -/
def stepL (rd : By → List By → Except Int (List By)) : List By → List By → Except Int (List By)
  | [], ps => .ok ps
  | s :: ls, ps =>
    if pre incM s then match rd (s.drop 9) ps with | .error e => .error e | .ok qs => stepL rd ls qs
    else if ps.length = 64 then .error 3 else if perr s ≠ 0 then .error (perr s) else stepL rd ls (ps ++ [s])
/-- The patterns of a file that is read within others, behind those that there are. -/
def readL (fs : Fl) : Nat → List By → By → List By → Except Int (List By)
  | 0, within, name, _ => match findF fs name with | none => .error 5 | some _ => if name ∈ within then .error 22 else .error 3
  | k + 1, within, name, ps => match findF fs name with | none => .error 5 | some t => if name ∈ within then .error 22 else stepL (readL fs k (within ++ [name])) (linesL t) ps
/-- What a file says, whatever it is within. -/
def flatS (rd : By → Option (List By)) : List By → Option (List By)
  | [] => some []
  | s :: ls =>
    if pre incM s then match rd (s.drop 9), flatS rd ls with | some a, some b => some (a ++ b) | _, _ => none
    else if perr s ≠ 0 then none else match flatS rd ls with | some b => some (s :: b) | none => none
def flat (fs : Fl) : Nat → By → Option (List By)
  | 0, _ => none
  | k + 1, name => match findF fs name with | none => none | some t => flatS (flat fs k) (linesL t)
theorem flatS_mono {rd rd' : By → Option (List By)} (h : ∀ y l, rd y = some l → rd' y = some l) : ∀ ls l, flatS rd ls = some l → flatS rd' ls = some l := by
  intro ls
  induction ls with
  | nil => intro l hl; exact hl
  | cons s ls ih =>
    intro l hl
    unfold flatS at hl ⊢
    split at hl
    · rename_i hp
      rw [if_pos hp]
      cases h1 : rd (s.drop 9) with
      | none => rw [h1] at hl; cases hl
      | some a =>
        cases h2 : flatS rd ls with
        | none => rw [h1, h2] at hl; cases hl
        | some b => rw [h1, h2] at hl; rw [h _ _ h1, ih _ h2]; exact hl
    · rename_i hp
      rw [if_neg hp]
      split at hl
      · cases hl
      · rename_i hq
        rw [if_neg hq]
        cases h2 : flatS rd ls with
        | none => rw [h2] at hl; cases hl
        | some b => rw [h2] at hl; rw [ih _ h2]; exact hl
theorem flat_mono1 (fs : Fl) (k : Nat) : ∀ name l, flat fs k name = some l → flat fs (k + 1) name = some l := by
  induction k with
  | zero => intro name l h; cases h
  | succ k ih =>
    intro name l h
    unfold flat at h ⊢
    cases hf : findF fs name with
    | none => rw [hf] at h; cases h
    | some t => rw [hf] at h; exact flatS_mono ih _ _ h
theorem flat_mono {fs : Fl} {k k' : Nat} (hk : k ≤ k') {name : By} {l : List By} (h : flat fs k name = some l) : flat fs k' name = some l := by
  induction hk with
  | refl => exact h
  | step _ ih => exact flat_mono1 _ _ _ _ ih
/-- Each file that is included says something. -/
theorem flatS_inc {rd : By → Option (List By)} : ∀ {ls : List By} {l : List By}, flatS rd ls = some l → ∀ s ∈ ls, pre incM s = true → (rd (s.drop 9)).isSome
  | [], _, _, s, hs, _ => by cases hs
  | t :: ls, l, h, s, hs, hp => by
    unfold flatS at h
    split at h
    · cases h1 : rd (t.drop 9) with
      | none => rw [h1] at h; cases h
      | some a =>
        cases h2 : flatS rd ls with
        | none => rw [h1, h2] at h; cases h
        | some b =>
          rcases List.mem_cons.1 hs with rfl | hs
          · rw [h1]; rfl
          · exact flatS_inc h2 s hs hp
    · rename_i ht
      split at h
      · cases h
      · cases h2 : flatS rd ls with
        | none => rw [h2] at h; cases h
        | some b =>
          rcases List.mem_cons.1 hs with rfl | hs
          · exact absurd hp ht
          · exact flatS_inc h2 s hs hp
theorem stepL_flat {rd : By → List By → Except Int (List By)} {rf : By → Option (List By)} (h : ∀ y ps qs, rd y ps = .ok qs → ∃ l, rf y = some l ∧ qs = ps ++ l) :
    ∀ ls ps qs, stepL rd ls ps = .ok qs → ∃ l, flatS rf ls = some l ∧ qs = ps ++ l := by
  intro ls
  induction ls with
  | nil => intro ps qs hq; simp only [stepL, Except.ok.injEq] at hq; exact ⟨[], rfl, by simp [hq]⟩
  | cons s ls ih =>
    intro ps qs hq
    unfold stepL at hq
    unfold flatS
    split at hq
    · rename_i hp
      rw [if_pos hp]
      cases h1 : rd (s.drop 9) ps with
      | error e => rw [h1] at hq; cases hq
      | ok rs =>
        rw [h1] at hq
        obtain ⟨a, ha, rfl⟩ := h _ _ _ h1
        obtain ⟨b, hb, rfl⟩ := ih _ _ hq
        exact ⟨a ++ b, by rw [ha, hb], by simp⟩
    · rename_i hp
      rw [if_neg hp]
      split at hq
      · cases hq
      · split at hq
        · cases hq
        · rename_i he
          rw [if_neg he]
          obtain ⟨b, hb, rfl⟩ := ih _ _ hq
          exact ⟨s :: b, by rw [hb], by simp⟩
theorem readL_flat (fs : Fl) (k : Nat) : ∀ within name ps qs, readL fs k within name ps = .ok qs → ∃ l, flat fs k name = some l ∧ qs = ps ++ l := by
  induction k with
  | zero =>
    intro within name ps qs h
    unfold readL at h
    split at h
    · cases h
    · split at h <;> cases h
  | succ k ih =>
    intro within name ps qs h
    unfold readL at h
    unfold flat
    cases hf : findF fs name with
    | none => rw [hf] at h; cases h
    | some t =>
      rw [hf] at h
      simp only at h
      split at h
      · cases h
      · exact stepL_flat (fun y ps qs => ih _ y ps qs) _ _ _ h
/-- Whatever a file is within says something only if the file does, with less around it. -/
def Chain (fs : Fl) (within : List By) (name : By) : Prop := ∀ x ∈ within, ∀ j, (flat fs (j + 1) x).isSome → (flat fs j name).isSome
theorem Chain.nil (fs : Fl) (name : By) : Chain fs [] name := fun x hx => by cases hx
theorem Chain.free {fs : Fl} {within : List By} {name : By} (h : Chain fs within name) {k : Nat} {l : List By} (hf : flat fs k name = some l) : name ∉ within := by
  intro hm
  have : ∀ j, (flat fs j name).isSome → False := by
    intro j
    induction j with
    | zero => intro h0; cases h0
    | succ j ih => intro h0; exact ih (h name hm j h0)
  exact this k (by rw [hf]; rfl)
theorem Chain.down {fs : Fl} {within : List By} {name t : By} (h : Chain fs within name) (hf : findF fs name = some t) {s : By} (hs : s ∈ linesL t) (hp : pre incM s = true) : Chain fs (within ++ [name]) (s.drop 9) := by
  have key : ∀ j, (flat fs (j + 1) name).isSome → (flat fs j (s.drop 9)).isSome := by
    intro j hj
    cases hv : flat fs (j + 1) name with
    | none => rw [hv] at hj; cases hj
    | some v => unfold flat at hv; rw [hf] at hv; exact flatS_inc hv s hs hp
  intro x hx j hj
  rcases List.mem_append.1 hx with hx | hx
  · have h1 := h x hx j hj
    cases j with
    | zero => cases h1
    | succ j =>
      have h2 := key j h1
      cases hv : flat fs j (s.drop 9) with
      | none => rw [hv] at h2; cases h2
      | some v => rw [flat_mono1 _ _ _ _ hv]; rfl
  · obtain rfl := List.mem_singleton.1 hx
    exact key j hj
/-- Patterns behind others: all, or the list is full. -/
def addL (ps l : List By) : Except Int (List By) := if ps.length + l.length ≤ 64 then .ok (ps ++ l) else .error 3
theorem stepL_add {rd : By → List By → Except Int (List By)} {rf : By → Option (List By)} : ∀ ls l ps, (∀ s ∈ ls, pre incM s = true → ∀ a qs, rf (s.drop 9) = some a → qs.length ≤ 64 → rd (s.drop 9) qs = addL qs a) → flatS rf ls = some l → ps.length ≤ 64 → stepL rd ls ps = addL ps l := by
  intro ls
  induction ls with
  | nil =>
    intro l ps _ hl hp
    simp only [flatS, Option.some.injEq] at hl
    subst hl
    unfold stepL addL
    rw [if_pos (by simpa using hp)]; simp
  | cons s ls ih =>
    intro l ps h hl hp
    unfold flatS at hl
    unfold stepL
    split at hl
    · rename_i hi
      rw [if_pos hi]
      cases h1 : rf (s.drop 9) with
      | none => rw [h1] at hl; cases hl
      | some a =>
        cases h2 : flatS rf ls with
        | none => rw [h1, h2] at hl; cases hl
        | some b =>
          rw [h1, h2] at hl
          simp only [Option.some.injEq] at hl
          subst hl
          rw [h s (by simp) hi a ps h1 hp]
          unfold addL
          by_cases hq : ps.length + a.length ≤ 64
          · rw [if_pos hq]
            simp only
            rw [ih b (ps ++ a) (fun t ht => h t (by simp [ht])) h2 (by simpa using hq)]
            unfold addL
            simp only [List.length_append, List.append_assoc, Nat.add_assoc]
          · rw [if_neg hq, if_neg (by simp only [List.length_append]; omega)]
    · rename_i hi
      rw [if_neg hi]
      split at hl
      · cases hl
      · rename_i he
        cases h2 : flatS rf ls with
        | none => rw [h2] at hl; cases hl
        | some b =>
          rw [h2] at hl
          simp only [Option.some.injEq] at hl
          subst hl
          by_cases h64 : ps.length = 64
          · rw [if_pos h64]; unfold addL; rw [if_neg (by simp only [List.length_cons]; omega)]
          · rw [if_neg h64, if_neg he, ih b (ps ++ [s]) (fun t ht => h t (by simp [ht])) h2 (by simp; omega)]
            unfold addL
            simp only [List.length_append, List.length_cons, List.length_nil, List.append_assoc, List.cons_append, List.nil_append, Nat.add_assoc, Nat.add_comm 1]
theorem readL_add (fs : Fl) (k : Nat) : ∀ within name ps l, flat fs k name = some l → Chain fs within name → ps.length ≤ 64 → readL fs k within name ps = addL ps l := by
  induction k with
  | zero => intro within name ps l h; cases h
  | succ k ih =>
    intro within name ps l h hc hp
    have hfree := hc.free h
    unfold readL
    unfold flat at h
    cases hf : findF fs name with
    | none => rw [hf] at h; cases h
    | some t =>
      rw [hf] at h
      simp only
      rw [if_neg hfree]
      exact stepL_add _ _ _ (fun s hs hi a qs ha hq => ih _ _ _ _ ha (hc.down hf hs hi) hq) h hp
theorem stepL_64 {rd : By → List By → Except Int (List By)} (h : ∀ y ps qs, rd y ps = .ok qs → ps.length ≤ 64 → qs.length ≤ 64) : ∀ ls ps qs, stepL rd ls ps = .ok qs → ps.length ≤ 64 → qs.length ≤ 64 := by
  intro ls
  induction ls with
  | nil => intro ps qs hq hp; simp only [stepL, Except.ok.injEq] at hq; rw [← hq]; exact hp
  | cons s ls ih =>
    intro ps qs hq hp
    unfold stepL at hq
    split at hq
    · cases h1 : rd (s.drop 9) ps with
      | error e => rw [h1] at hq; cases hq
      | ok rs => rw [h1] at hq; exact ih _ _ hq (h _ _ _ h1 hp)
    · split at hq
      · cases hq
      · split at hq
        · cases hq
        · exact ih _ _ hq (by simp; omega)
theorem readL_64 (fs : Fl) (k : Nat) : ∀ within name ps qs, readL fs k within name ps = .ok qs → ps.length ≤ 64 → qs.length ≤ 64 := by
  induction k with
  | zero =>
    intro within name ps qs h
    unfold readL at h
    split at h
    · cases h
    · split at h <;> cases h
  | succ k ih =>
    intro within name ps qs h hp
    unfold readL at h
    split at h
    · cases h
    · split at h
      · cases h
      · exact stepL_64 (fun y ps qs => ih _ y ps qs) _ _ _ h hp
end Go.Proofs.YtpipkgkfhbagmaaGreatDoor.Glob
