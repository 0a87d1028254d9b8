/- The law GlobPlain: its walk. No conditions. -/
import Derived.Test.YtbbbopdlefeffaaJW
namespace Go.Proofs.Ytbbbopdlefeffaa.Glob
open Go.RowKit
/-- A text, each byte but the slashes behind a backslash. -/
def esc : By → By
  | [] => []
  | c :: l => if c = 47 then c :: esc l else 92 :: c :: esc l
theorem esc_cons (c : UInt8) (l : By) : esc (c :: l) = if c = 47 then c :: esc l else 92 :: c :: esc l := rfl
def plainL (s : By) : By := 47 :: esc s
theorem esc_len (s : By) : (esc s).length ≤ 2 * s.length := by
  induction s with
  | nil => simp [esc]
  | cons c l ih => unfold esc; split <;> simp <;> omega
theorem esc_app (a b : By) : esc (a ++ b) = esc a ++ esc b := by
  induction a with
  | nil => rfl
  | cons c l ih =>
    rw [List.cons_append, esc, esc, ih]
    split <;> rfl
theorem elemL_esc (c : UInt8) (l : By) : elemL (esc (c :: l)) = some (.byt c, esc l) := by
  rw [esc_cons]
  by_cases h : c = 47
  · subst h
    rw [if_pos rfl]
    have h1 : pre [42, 42] (47 :: esc l) = false := by simp [pre, List.isPrefixOf]
    rw [elemL_byt _ h1 (by rfl) (by rfl) (by rfl)]
    have : cbL (47 :: esc l) = some (47, esc l) := by
      unfold cbL
      have : pre [92] (47 :: esc l) = false := by simp [pre, List.isPrefixOf]
      rw [this]; simp [at8]
    rw [this]
  · rw [if_neg h]
    have h1 : pre [42, 42] (92 :: c :: esc l) = false := by simp [pre, List.isPrefixOf]
    rw [elemL_byt _ h1 (by rfl) (by rfl) (by rfl)]
    have : cbL (92 :: c :: esc l) = some (c, esc l) := by
      unfold cbL
      have : pre [92] (92 :: c :: esc l) = true := by simp [pre, List.isPrefixOf]
      rw [this]; simp [at8, h]
    rw [this]
theorem elems_esc (s : By) : ∀ acc : List El, 0 < acc.length + s.length → elems (esc s) acc = some (acc ++ s.map El.byt) := by
  induction s with
  | nil => intro acc h; rw [elems_eq]; simp at h; simp [esc, Nat.ne_of_gt h]
  | cons c l ih =>
    intro acc h
    rw [elems_eq, elemL_esc, if_neg (by rw [esc_cons]; split <;> simp)]
    show elems (esc l) (acc ++ [El.byt c]) = _
    rw [ih _ (by simp; omega)]
    simp
theorem parse_plain (s : By) (h : s ≠ []) : parseL (plainL s) = some ⟨0, true, s.map El.byt⟩ := by
  unfold parseL plainL
  have e : marks 0 (47 :: esc s) = some (0, 47 :: esc s) := by
    rw [marks_eq]; simp [cutM, pre, List.isPrefixOf]
  rw [e]
  have e2 : pre [47] (47 :: esc s) = true := by simp [pre, List.isPrefixOf]
  simp only [e2, if_true]
  rw [show (47 :: esc s).drop 1 = esc s from rfl, elems_esc s [] (by simp; exact List.length_pos_iff.2 h)]
  rfl
theorem byt_holds (c d : UInt8) : holdsE false (.byt c) d = (d == c) := by
  simp only [holdsE, inF, List.any_cons, List.any_nil, hasR, Bool.false_and, Bool.or_false]
  rw [Bool.eq_iff_iff]
  simp only [Bool.and_eq_true, decide_eq_true_eq, beq_iff_eq]
  constructor
  · rintro ⟨h1, h2⟩; exact UInt8.toNat_inj.1 (by omega)
  · rintro rfl; exact ⟨Nat.le_refl _, Nat.le_refl _⟩
theorem wh_bytes (s : By) : ∀ l, wh (hsOf false (s.map El.byt)) l = true ↔ l = s := by
  induction s with
  | nil => intro l; exact wh_nil l
  | cons c s ih =>
    intro l
    rw [List.map_cons, show hsOf false (El.byt c :: s.map El.byt) = (holdsE false (.byt c), false) :: hsOf false (s.map El.byt) from rfl, wh_cons]
    constructor
    · rintro ⟨u, v, rfl, hu, hv⟩
      simp only [Mt, Bool.false_eq_true, if_false] at hu
      obtain ⟨d, rfl, hd⟩ := hu
      rw [byt_holds] at hd
      rw [(ih v).1 hv, eq_of_beq hd]; rfl
    · rintro rfl
      exact ⟨[c], s, rfl, by simp only [Mt, Bool.false_eq_true, if_false]; exact ⟨c, rfl, by rw [byt_holds]; simp⟩, (ih s).2 rfl⟩
theorem pre_iff (p s : By) : pre p s = true ↔ ∃ t, s = p ++ t := by
  unfold pre; rw [List.isPrefixOf_iff_prefix]
  constructor
  · rintro ⟨t, h⟩; exact ⟨t, h.symm⟩
  · rintro ⟨t, h⟩; exact ⟨t, h.symm⟩
theorem mB_plain (s path : By) (hl : path.length ≤ 160) : mB true (hsOf false (s.map El.byt)) path = (decide (path = s) || pre (s ++ [47]) path) := by
  rw [Bool.eq_iff_iff, mB_iff]
  simp only [Bool.or_eq_true, decide_eq_true_eq]
  rw [pre_iff]
  constructor
  · rintro ⟨_, a, b, hab, hb, hst, he, hw⟩
    have ha : a = 0 := by unfold startB at hst; simpa using hst
    subst ha
    have hw := (wh_bytes s _).1 hw
    unfold seg at hw
    simp only [List.drop_zero, Nat.sub_zero] at hw
    unfold endB at he
    by_cases hbl : b = path.length
    · subst hbl; rw [List.take_length] at hw; exact .inl hw
    · right
      have h1 : (b == path.length) = false := by simp [hbl]
      rw [h1, Bool.false_or, at8_get (by omega)] at he
      refine ⟨path.drop (b + 1), ?_⟩
      rw [← hw, ← eq_of_beq he, List.append_assoc]
      have := List.take_append_drop b path
      rw [List.drop_eq_getElem_cons (by omega)] at this
      exact this.symm
  · intro h
    refine ⟨hl, 0, s.length, Nat.zero_le _, ?_, by unfold startB; rfl, ?_, ?_⟩
    · rcases h with rfl | ⟨t, rfl⟩
      · exact Nat.le_refl _
      · simp
    · unfold endB
      rcases h with rfl | ⟨t, rfl⟩
      · simp
      · rw [List.append_assoc, at8_app_r (Nat.le_refl _)]; simp [at8]
    · rw [wh_bytes]
      unfold seg
      simp only [List.drop_zero, Nat.sub_zero]
      rcases h with rfl | ⟨t, rfl⟩
      · exact List.take_length
      · rw [List.append_assoc, List.take_left]
end Go.Proofs.Ytbbbopdlefeffaa.Glob
