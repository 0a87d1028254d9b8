/- What a finder's places are: of each file the first block of a digest. Plain; no conditions. -/
import Derived.Test.YtlcdkponegmcdaaDoorDV
namespace Go.Proofs.YtlcdkponegmcdaaDoor
open Go.RowKit Go.Maps
def IsFirst (hs : List By) (d : By) (i : Nat) : Prop := i < hs.length ∧ hs.getD i [] = d ∧ ∀ j, j < i → hs.getD j [] ≠ d
theorem IsFirst.uniq {hs : List By} {d : By} {i j : Nat} (h : IsFirst hs d i) (k : IsFirst hs d j) : i = j := by
  rcases Nat.lt_trichotomy i j with h1 | h1 | h1
  · exact absurd h.2.1 (k.2.2 i h1)
  · exact h1
  · exact absurd k.2.1 (h.2.2 j h1)
theorem isFirst_ex {hs : List By} {d : By} (k : Nat) (hk : k < hs.length) (hd : hs.getD k [] = d) : ∃ i, i ≤ k ∧ IsFirst hs d i := by
  induction k using Nat.strongRecOn with
  | _ k ih =>
    by_cases h : ∃ j, j < k ∧ hs.getD j [] = d
    · obtain ⟨j, hj, hd2⟩ := h
      obtain ⟨i, hi, hf⟩ := ih j hj (by omega) hd2
      exact ⟨i, by omega, hf⟩
    · exact ⟨k, Nat.le_refl _, hk, hd, fun j hj e => h ⟨j, hj, e⟩⟩
structure Rep (F : By → Option By) (P : By → List Pl) : Prop where
  srt : ∀ d, Srt (P d)
  mem : ∀ d n i, (n, i) ∈ P d ↔ ∃ xs, F n = some xs ∧ IsFirst (hashes xs) d i
theorem rep_none : Rep (fun _ => none) (fun _ => []) := ⟨fun _ => List.Pairwise.nil, fun d n i => by simp⟩
theorem dropP_srt {P : By → List Pl} (h : ∀ d, Srt (P d)) (d t : By) : ∀ x, Srt (dropP P d t x) := by
  intro x
  unfold dropP
  by_cases e : x = d
  · subst e
    cases hh : hasN (P x) t
    · simp; exact h x
    · simp; exact out_srt (h x)
  · simp [e]; exact h x
theorem dropP_mem {P : By → List Pl} (h : ∀ d, Srt (P d)) (d t x : By) (q : Pl) : q ∈ dropP P d t x ↔ q ∈ P x ∧ (q.1 ≠ t ∨ d ≠ x) := by
  unfold dropP
  by_cases e : x = d
  · subst e
    cases hh : hasN (P x) t
    · simp only [if_pos, Bool.false_eq_true, if_false]
      constructor
      · intro hq
        refine ⟨hq, .inl fun e => ?_⟩
        have : hasN (P x) t = true := hasYtlcdkponegmcdaaDoormem.2 ⟨q.2, by rw [← e]; exact hq⟩
        rw [hh] at this; cases this
      · exact fun hq => hq.1
    · simp only [if_pos]
      rw [out_mem (h x) hh]
      simp
  · simp only [if_neg e]
    constructor
    · exact fun hq => ⟨hq, .inr (fun e2 => e e2.symm)⟩
    · exact fun hq => hq.1
theorem dropTo_srt {P : By → List Pl} (h : ∀ d, Srt (P d)) (hs : List By) (t : By) (k : Nat) : ∀ d, Srt (dropTo P hs t k d) := by
  induction k with
  | zero => exact h
  | succ k ih => exact dropP_srt ih _ t
theorem dropTo_mem {P : By → List Pl} (h : ∀ d, Srt (P d)) (hs : List By) (t : By) (k : Nat) (x : By) (q : Pl) : q ∈ dropTo P hs t k x ↔ q ∈ P x ∧ (q.1 ≠ t ∨ ∀ j, j < k → hs.getD j [] ≠ x) := by
  induction k with
  | zero => exact ⟨fun hq => ⟨hq, .inr (fun j hj => by omega)⟩, fun hq => hq.1⟩
  | succ k ih =>
    rw [dropTo, dropP_mem (dropTo_srt h hs t k), ih]
    constructor
    · rintro ⟨⟨h1, h2⟩, h3⟩
      refine ⟨h1, ?_⟩
      rcases h2 with h2 | h2
      · exact .inl h2
      · rcases h3 with h3 | h3
        · exact .inl h3
        · refine .inr (fun j hj => ?_)
          rcases Nat.lt_or_ge j k with hjk | hjk
          · exact h2 j hjk
          · obtain rfl : j = k := by omega
            exact h3
    · rintro ⟨h1, h2⟩
      rcases h2 with h2 | h2
      · exact ⟨⟨h1, .inl h2⟩, .inl h2⟩
      · exact ⟨⟨h1, .inr (fun j hj => h2 j (by omega))⟩, .inr (h2 k (by omega))⟩
theorem rep_del {F : By → Option By} {P : By → List Pl} (h : Rep F P) (t : By) : Rep (delF F t) (fgP F P t) := by
  unfold fgP
  cases hF : F t with
  | none => rw [delF_id hF]; exact h
  | some xs =>
    refine ⟨dropTo_srt h.srt _ t _, fun d n i => ?_⟩
    show (n, i) ∈ dropTo P (hashes xs) t (cntL xs.length) d ↔ _
    rw [dropTo_mem h.srt, h.mem]
    unfold delF
    constructor
    · rintro ⟨⟨ys, h1, h2⟩, h3⟩
      have hn : n ≠ t := by
        rcases h3 with h3 | h3
        · exact h3
        · intro e
          subst e
          rw [hF] at h1; injection h1 with h1; subst h1
          have := h2.1
          rw [hashes_len] at this
          exact h3 i this h2.2.1
      exact ⟨ys, by rw [if_neg hn]; exact h1, h2⟩
    · rintro ⟨ys, h1, h2⟩
      by_cases hn : n = t
      · rw [if_pos hn] at h1; cases h1
      · rw [if_neg hn] at h1
        exact ⟨⟨ys, h1, h2⟩, .inl hn⟩
theorem noteP_srt {P : By → List Pl} (h : ∀ d, Srt (P d)) (d : By) (q : Pl) : ∀ x, Srt (noteP P d q x) := by
  intro x
  unfold noteP
  by_cases e : x = d
  · subst e
    cases hh : hasN (P x) q.1
    · simp; exact ins_srt (h x) hh
    · simp; exact h x
  · simp [e]; exact h x
theorem noteP_mem {P : By → List Pl} (d : By) (q : Pl) (x : By) (r : Pl) : r ∈ noteP P d q x ↔ r ∈ P x ∨ (r = q ∧ d = x ∧ hasN (P x) q.1 = false) := by
  unfold noteP
  by_cases e : x = d
  · subst e
    cases hh : hasN (P x) q.1
    · simp only [if_pos, Bool.false_eq_true, if_false, ins_mem]
      constructor
      · rintro (h | h)
        · exact .inr ⟨h, trivial, trivial⟩
        · exact .inl h
      · rintro (h | ⟨h, _⟩)
        · exact .inr h
        · exact .inl h
    · simp
  · simp only [if_neg e]
    constructor
    · exact .inl
    · rintro (h | ⟨_, h, _⟩)
      · exact h
      · exact absurd h.symm e
theorem noteTo_srt {P : By → List Pl} (h : ∀ d, Srt (P d)) (hs : List By) (t : By) (k : Nat) : ∀ d, Srt (noteTo P hs t k d) := by
  induction k with
  | zero => exact h
  | succ k ih => exact noteP_srt ih _ _
theorem noteTo_mem {P : By → List Pl} (hs : List By) (t : By) (hno : ∀ d i, (t, i) ∉ P d) (k : Nat) (hk : k ≤ hs.length) (x n : By) (i : Nat) : (n, i) ∈ noteTo P hs t k x ↔ (n, i) ∈ P x ∨ (n = t ∧ i < k ∧ IsFirst hs x i) := by
  induction k with
  | zero =>
    constructor
    · exact .inl
    · rintro (h | ⟨_, h, _⟩)
      · exact h
      · omega
  | succ k ih =>
    have ih := ih (by omega)
    rw [noteTo, noteP_mem, ih]
    constructor
    · rintro ((h | ⟨h1, h2, h3⟩) | ⟨h1, h2, h3⟩)
      · exact .inl h
      · exact .inr ⟨h1, by omega, h3⟩
      · injection h1 with h1 h4
        refine .inr ⟨h1, by omega, ?_⟩
        subst h4
        refine ⟨by omega, h2, fun j hj e => ?_⟩
        obtain ⟨i', hi', hf⟩ := isFirst_ex j (by omega) e
        have : (t, i') ∈ noteTo P hs t i x := by
          clear h3
          have : ∀ k, k ≤ hs.length → i' < k → (t, i') ∈ noteTo P hs t k x := by
            intro k
            induction k with
            | zero => intro _ h; omega
            | succ k ihk =>
              intro hk1 hk2
              rw [noteTo, noteP_mem]
              rcases Nat.lt_or_ge i' k with h5 | h5
              · exact .inl (ihk (by omega) h5)
              · obtain rfl : i' = k := by omega
                cases hh : hasN (noteTo P hs t i' x) t with
                | false => exact .inr ⟨rfl, hf.2.1, rfl⟩
                | true =>
                  obtain ⟨i2, hi2⟩ := hasYtlcdkponegmcdaaDoormem.1 hh
                  exfalso
                  have : ∀ m, m ≤ i' → ∀ i2, (t, i2) ∉ noteTo P hs t m x := by
                    intro m
                    induction m with
                    | zero => intro _ i2; exact hno x i2
                    | succ m ihm =>
                      intro hm i2 hc
                      rw [noteTo, noteP_mem] at hc
                      rcases hc with hc | ⟨_, hc, _⟩
                      · exact ihm (by omega) i2 hc
                      · exact hf.2.2 m (by omega) hc
                  exact this i' (Nat.le_refl _) i2 hi2
          exact this i (by omega) (by omega)
        have h6 := hasYtlcdkponegmcdaaDoormem.2 ⟨i', this⟩
        have h3' : hasN (noteTo P hs t i x) t = false := h3
        rw [h6] at h3'; cases h3'
    · rintro (h | ⟨h1, h2, h3⟩)
      · exact .inl (.inl h)
      · rcases Nat.lt_or_ge i k with h4 | h4
        · exact .inl (.inr ⟨h1, h4, h3⟩)
        · obtain rfl : i = k := by omega
          refine .inr ⟨by rw [h1], h3.2.1, ?_⟩
          cases hh : hasN (noteTo P hs t i x) t with
          | false => rfl
          | true =>
            obtain ⟨i2, hi2⟩ := hasYtlcdkponegmcdaaDoormem.1 hh
            exfalso
            have : ∀ m, m ≤ i → ∀ i2, (t, i2) ∉ noteTo P hs t m x := by
              intro m
              induction m with
              | zero => intro _ i2; exact hno x i2
              | succ m ihm =>
                intro hm i2 hc
                rw [noteTo, noteP_mem] at hc
                rcases hc with hc | ⟨_, hc, _⟩
                · exact ihm (by omega) i2 hc
                · exact h3.2.2 m (by omega) hc
            exact this i (Nat.le_refl _) i2 hi2
theorem rep_put {F : By → Option By} {P : By → List Pl} (h : Rep F P) (t xs : By) : Rep (putF F t xs) (addP F P t xs) := by
  have hd := rep_del h t
  have hno : ∀ d i, (t, i) ∉ fgP F P t d := fun d i hc => by
    obtain ⟨ys, h1, _⟩ := (hd.mem d t i).1 hc
    unfold delF at h1
    rw [if_pos rfl] at h1; cases h1
  refine ⟨noteTo_srt hd.srt _ t _, fun d n i => ?_⟩
  show (n, i) ∈ noteTo (fgP F P t) (hashes xs) t (cntL xs.length) d ↔ _
  rw [noteTo_mem _ _ hno _ (by rw [hashes_len]; exact Nat.le_refl _), hd.mem]
  unfold putF delF
  constructor
  · rintro (⟨ys, h1, h2⟩ | ⟨h1, h2, h3⟩)
    · by_cases hn : n = t
      · rw [if_pos hn] at h1; cases h1
      · rw [if_neg hn] at h1 ⊢
        exact ⟨ys, h1, h2⟩
    · rw [if_pos h1]
      exact ⟨xs, rfl, h3⟩
  · rintro ⟨ys, h1, h2⟩
    by_cases hn : n = t
    · rw [if_pos hn] at h1
      injection h1 with h1; subst h1
      exact .inr ⟨hn, by have := h2.1; rwa [hashes_len] at this, h2⟩
    · rw [if_neg hn] at h1
      exact .inl ⟨ys, by rw [if_neg hn]; exact h1, h2⟩
end Go.Proofs.YtlcdkponegmcdaaDoor
