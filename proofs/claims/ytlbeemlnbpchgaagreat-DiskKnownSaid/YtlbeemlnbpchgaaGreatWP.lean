/- The plain model of a disk, first half: trees as lists of nodes at paths: looked up, put in, struck. Plain facts, no program. -/
import Derived.Test.YtlbeemlnbpchgaaGreatPL
import Derived.Test.YtlbeemlnbpchgaaGreatPW
namespace Go.Proofs.YtlbeemlnbpchgaaGreat
abbrev By := List UInt8
structure Nd where
  kind : Int
  data : By
  target : By
  time : Int
abbrev Tr := List (By × Nd)
def look : Tr → By → Option Nd
  | [], _ => none
  | (q, n) :: L, p => if q = p then some n else look L p
def del (L : Tr) (p : By) : Tr := L.filter fun x => decide (x.1 ≠ p)
def ins (p : By) (n : Nd) : Tr → Tr
  | [] => [(p, n)]
  | (q, m) :: L => if cmpL p q ≤ 0 then (p, n) :: del ((q, m) :: L) p else (q, m) :: ins p n L
def useN (n : Nd) : Nat := 64 + n.data.length
def usedL : Tr → Nat
  | [] => 0
  | (_, n) :: L => useN n + usedL L
def useP (L : Tr) (p : By) : Nat := match look L p with | some n => useN n | none => 0
/-- In the order of paths. -/
def Srt (L : Tr) : Prop := L.Pairwise fun a b => cmpL a.1 b.1 = -1
theorem look_none {L : Tr} {p : By} : look L p = none ↔ ∀ x ∈ L, x.1 ≠ p := by
  induction L with
  | nil => simp [look]
  | cons a L ih =>
    obtain ⟨q, n⟩ := a
    rw [look]
    by_cases h : q = p
    · simp [h]
    · rw [if_neg h, ih]; simp [h]
theorem look_mem {L : Tr} {p : By} {n : Nd} (h : look L p = some n) : (p, n) ∈ L := by
  induction L with
  | nil => cases h
  | cons a L ih =>
    obtain ⟨q, m⟩ := a
    rw [look] at h
    split at h
    · rename_i e; obtain rfl := e; cases h; exact List.mem_cons_self
    · exact List.mem_cons_of_mem _ (ih h)
theorem cmpL_ne {a b : By} (h : cmpL a b = -1) : a ≠ b := by rintro rfl; rw [cmpL_self] at h; cases h
theorem mem_look {L : Tr} (hs : Srt L) {p : By} {n : Nd} (h : (p, n) ∈ L) : look L p = some n := by
  induction L with
  | nil => cases h
  | cons a L ih =>
    obtain ⟨q, m⟩ := a
    rw [look]
    obtain ⟨h1, h2⟩ := List.pairwise_cons.1 hs
    rcases List.mem_cons.1 h with e | e
    · injection e with e1 e2; rw [if_pos e1.symm, e2]
    · rw [if_neg (cmpL_ne (h1 _ e)), ih h2 e]
theorem look_some {L : Tr} (hs : Srt L) {p : By} {n : Nd} : look L p = some n ↔ (p, n) ∈ L := ⟨look_mem, mem_look hs⟩
theorem look_del (L : Tr) (p q : By) : look (del L p) q = if q = p then none else look L q := by
  induction L with
  | nil => simp [del, look]
  | cons a L ih =>
    obtain ⟨x, m⟩ := a
    unfold del at ih ⊢
    by_cases h : x = p
    · rw [List.filter_cons, if_neg (by simp [h]), ih, look]
      by_cases e : q = p
      · rw [if_pos e, if_pos e]
      · rw [if_neg e, if_neg e, if_neg (by rw [h]; exact fun k => e k.symm)]
    · rw [List.filter_cons, if_pos (by simp [h]), look, look, ih]
      by_cases e : x = q
      · rw [if_pos e, if_pos e, if_neg (by rw [← e]; exact h)]
      · rw [if_neg e, if_neg e]
theorem look_ins (p : By) (n : Nd) (L : Tr) (q : By) : look (ins p n L) q = if q = p then some n else look L q := by
  induction L with
  | nil => simp only [ins, look, eq_comm]
  | cons a L ih =>
    obtain ⟨x, m⟩ := a
    rw [ins]
    by_cases h : cmpL p x ≤ 0
    · rw [if_pos h, look, look_del]
      by_cases e : q = p
      · rw [if_pos e.symm, if_pos e]
      · rw [if_neg (fun k => e k.symm), if_neg e, if_neg e]
    · rw [if_neg h, look, ih, look]
      have hne : x ≠ p := by rintro rfl; rw [cmpL_self] at h; exact h (Int.le_refl 0)
      by_cases e : x = q
      · rw [if_pos e, if_pos e, if_neg (by rw [← e]; exact hne)]
      · rw [if_neg e, if_neg e]
theorem srt_del {L : Tr} (h : Srt L) (p : By) : Srt (del L p) := h.filter _
theorem mem_ins {p : By} {n : Nd} {L : Tr} {x : By × Nd} (h : x ∈ ins p n L) : x = (p, n) ∨ x ∈ L := by
  induction L with
  | nil => rw [ins] at h; simp at h; exact .inl h
  | cons a L ih =>
    obtain ⟨q, m⟩ := a
    rw [ins] at h
    split at h
    · rcases List.mem_cons.1 h with e | e
      · exact .inl e
      · exact .inr (List.mem_filter.1 e).1
    · rcases List.mem_cons.1 h with e | e
      · exact .inr (by rw [e]; exact List.mem_cons_self)
      · rcases ih e with e | e
        · exact .inl e
        · exact .inr (List.mem_cons_of_mem _ e)
theorem srt_ins {L : Tr} (h : Srt L) (p : By) (n : Nd) : Srt (ins p n L) := by
  induction L with
  | nil => exact List.pairwise_singleton _ _
  | cons a L ih =>
    obtain ⟨q, m⟩ := a
    obtain ⟨h1, h2⟩ := List.pairwise_cons.1 h
    rw [ins]
    split
    · rename_i hc
      refine List.pairwise_cons.2 ⟨?_, srt_del h p⟩
      intro x hx
      obtain ⟨hm, hne⟩ := List.mem_filter.1 hx
      have hne : x.1 ≠ p := by simpa using hne
      have hpq : cmpL p q = -1 ∨ p = q := by
        rcases cmpL_vals p q with e | e | e
        · exact .inl e
        · exact .inr ((cmpL_zero _ _).1 e)
        · omega
      rcases List.mem_cons.1 hm with e | e
      · rcases hpq with k | k
        · rw [e]; exact k
        · exact absurd (by rw [e, k]) hne
      · rcases hpq with k | k
        · exact cmpL_trans _ _ _ k (h1 _ e)
        · rw [k]; exact h1 _ e
    · rename_i hc
      refine List.pairwise_cons.2 ⟨?_, ih h2⟩
      intro x hx
      rcases mem_ins hx with e | e
      · rw [e]
        have := cmpL_neg p q
        rcases cmpL_vals p q with k | k | k <;> (show cmpL q p = -1) <;> omega
      · exact h1 _ e
theorem head_least {q : By} {m : Nd} {L : Tr} (h : Srt ((q, m) :: L)) {p : By} {n : Nd} (hp : look ((q, m) :: L) p = some n) : p = q ∨ cmpL q p = -1 := by
  rcases List.mem_cons.1 (look_mem hp) with e | e
  · injection e with e1 _; exact .inl e1
  · exact .inr ((List.pairwise_cons.1 h).1 _ e)
/-- Two trees that tell the same of all paths are one. -/
theorem tree_ext {L K : Tr} (hl : Srt L) (hk : Srt K) (h : ∀ p, look L p = look K p) : L = K := by
  induction L generalizing K with
  | nil =>
    cases K with
    | nil => rfl
    | cons b K => obtain ⟨r, m⟩ := b; have := h r; rw [look, look, if_pos rfl] at this; cases this
  | cons a L ih =>
    obtain ⟨q, n⟩ := a
    cases K with
    | nil => have := h q; rw [look, look, if_pos rfl] at this; cases this
    | cons b K =>
      obtain ⟨r, m⟩ := b
      have e1 : look ((r, m) :: K) q = some n := by rw [← h, look, if_pos rfl]
      have e2 : look ((q, n) :: L) r = some m := by rw [h, look, if_pos rfl]
      have hqr : q = r := by
        rcases head_least hk e1 with e | e
        · exact e
        · rcases head_least hl e2 with k | k
          · exact k.symm
          · have := cmpL_neg q r; rw [e, k] at this; cases this
      subst hqr
      rw [look, if_pos rfl] at e1
      injection e1 with e1
      subst e1
      obtain ⟨l1, l2⟩ := List.pairwise_cons.1 hl
      obtain ⟨k1, k2⟩ := List.pairwise_cons.1 hk
      rw [ih l2 k2 (fun p => by
        have hp := h p
        rw [look, look] at hp
        by_cases e : q = p
        · subst e
          rw [look_none.2 (fun x hx => (cmpL_ne (l1 x hx)).symm), look_none.2 (fun x hx => (cmpL_ne (k1 x hx)).symm)]
        · rw [if_neg e, if_neg e] at hp; exact hp)]
theorem del_same {L : Tr} {p : By} (h : look L p = none) : del L p = L := by
  unfold del
  rw [List.filter_eq_self]
  intro x hx
  simpa using look_none.1 h x hx
theorem used_del {L : Tr} (h : Srt L) (p : By) : usedL (del L p) + useP L p = usedL L := by
  induction L with
  | nil => rfl
  | cons a L ih =>
    obtain ⟨q, n⟩ := a
    obtain ⟨h1, h2⟩ := List.pairwise_cons.1 h
    have ih := ih h2
    by_cases e : q = p
    · subst e
      have hn : look L q = none := look_none.2 (fun x hx => (cmpL_ne (h1 x hx)).symm)
      have : del ((q, n) :: L) q = L := by
        show List.filter _ _ = _
        rw [List.filter_cons, if_neg (by simp)]; exact del_same hn
      rw [this, usedL, useP, look, if_pos rfl]; simp only; omega
    · have h3 : del ((q, n) :: L) p = (q, n) :: del L p := by
        show List.filter _ _ = _
        rw [List.filter_cons, if_pos (by simpa using e)]; rfl
      have h4 : useP ((q, n) :: L) p = useP L p := by rw [useP, useP, look, if_neg e]
      rw [h3, h4, usedL, usedL]; omega
theorem used_ins {L : Tr} (h : Srt L) (p : By) (n : Nd) : usedL (ins p n L) + useP L p = usedL L + useN n := by
  induction L with
  | nil => simp [ins, usedL, useP, look]
  | cons a L ih =>
    obtain ⟨q, m⟩ := a
    obtain ⟨h1, h2⟩ := List.pairwise_cons.1 h
    have ih := ih h2
    rw [ins]
    split
    · have := used_del h p
      rw [usedL]; omega
    · rename_i hc
      have e : q ≠ p := by rintro rfl; rw [cmpL_self] at hc; exact hc (Int.le_refl 0)
      have h4 : useP ((q, m) :: L) p = useP L p := by rw [useP, useP, look, if_neg e]
      rw [h4, usedL, usedL]; omega
theorem useP_le {L : Tr} (h : Srt L) (p : By) : useP L p ≤ usedL L := by have := used_del h p; omega
/-- How many there are. -/
theorem len_del {L : Tr} (h : Srt L) (p : By) : (del L p).length = if (look L p).isSome then L.length - 1 else L.length := by
  induction L with
  | nil => rfl
  | cons a L ih =>
    obtain ⟨q, n⟩ := a
    obtain ⟨h1, h2⟩ := List.pairwise_cons.1 h
    have ih := ih h2
    by_cases e : q = p
    · subst e
      have hn : look L q = none := look_none.2 (fun x hx => (cmpL_ne (h1 x hx)).symm)
      have : del ((q, n) :: L) q = L := by
        show List.filter _ _ = _
        rw [List.filter_cons, if_neg (by simp)]; exact del_same hn
      rw [this, look, if_pos rfl]; simp
    · have h3 : del ((q, n) :: L) p = (q, n) :: del L p := by
        show List.filter _ _ = _
        rw [List.filter_cons, if_pos (by simpa using e)]; rfl
      rw [h3, look, if_neg e, List.length_cons, ih]
      cases hl : look L p with
      | none => simp
      | some m =>
        have : 0 < L.length := List.length_pos_of_mem (look_mem hl)
        simp; omega
theorem len_ins {L : Tr} (h : Srt L) (p : By) (n : Nd) : (ins p n L).length = if (look L p).isSome then L.length else L.length + 1 := by
  induction L with
  | nil => rfl
  | cons a L ih =>
    obtain ⟨q, m⟩ := a
    obtain ⟨h1, h2⟩ := List.pairwise_cons.1 h
    have ih := ih h2
    rw [ins]
    split
    · have := len_del h p
      rw [List.length_cons, this]
      split
      · rw [List.length_cons]; omega
      · rfl
    · rename_i hc
      have e : q ≠ p := by rintro rfl; rw [cmpL_self] at hc; exact hc (Int.le_refl 0)
      rw [look, if_neg e, List.length_cons, ih]
      split <;> simp
theorem used_len {L : Tr} : 64 * L.length ≤ usedL L := by
  induction L with
  | nil => exact Nat.le_refl 0
  | cons a L ih => obtain ⟨q, m⟩ := a; rw [usedL, List.length_cons, useN]; omega
theorem used_mem {L : Tr} {x : By × Nd} (h : x ∈ L) : useN x.2 ≤ usedL L := by
  induction L with
  | nil => cases h
  | cons a L ih =>
    obtain ⟨q, m⟩ := a
    rw [usedL]
    rcases List.mem_cons.1 h with e | e
    · rw [e]; show useN m ≤ _; omega
    · have := ih e; omega
end Go.Proofs.YtlbeemlnbpchgaaGreat
