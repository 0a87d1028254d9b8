/- Temp and conflict names are paths of the same parent, and are told for what they are. Plain facts. -/
import Derived.Test.YthhclcjocakdlaaDoorQB
import Derived.Test.YthhclcjocakdlaaDoorPZ
import Derived.Test.YthhclcjocakdlaaDoorPQ
namespace Go.Proofs.YthhclcjocakdlaaDoor
open Go.RowKit
theorem okB_47 {x : List UInt8} (h : x.all okB = true) : ∀ c ∈ x, c ≠ 47 := by
  intro c hc e
  have := List.all_eq_true.1 h c hc
  rw [e] at this
  revert this; decide
theorem nameB_ok {x : List UInt8} (h : nameB x = true) : x.all okB = true ∧ x.length ≤ 48 := by
  unfold nameB headB at h
  simp only [Bool.and_eq_true, decide_eq_true_eq] at h
  exact ⟨h.2, h.1.1.1.2⟩
theorem nameB_mk {x : List UInt8} (h1 : x.all okB = true) (h2 : 3 ≤ x.length) (h3 : x.length ≤ 48) : nameB x = true := by
  unfold nameB headB
  have a : x ≠ [] := by rintro rfl; simp at h2
  have b : x ≠ [46] := by rintro rfl; simp at h2
  have c : x ≠ [46, 46] := by rintro rfl; simp at h2
  simp [h1, h3, a, b, c]
theorem beside_may {l x : List UInt8} (h : mayB l = true) (hx : nameB x = true) : mayB (besideL (aheadL l) x) = true ∧ aheadL (besideL (aheadL l) x) = aheadL l ∧ lastP (besideL (aheadL l) x) = x := by
  obtain ⟨ho, hl⟩ := nameB_ok hx
  have hn := okB_47 ho
  have hp := pieces_no x hn
  rcases may_split h with ⟨e1, _, _⟩ | ⟨e1, e2, e3, _⟩
  · rw [e1, besideL, if_pos rfl]
    refine ⟨may_of (by omega) (by rw [hp]; simp) (by rw [hp]; simp [hx]) (by rw [aheadL_one hp]; simp), aheadL_one hp, lastP_one hp⟩
  · rw [besideL, if_neg e1]
    have hq := pieces_snoc (aheadL l) x hn
    have hlen := (may_parts h).2.2.2
    have hsum : (aheadL l ++ 47 :: x).length = (aheadL l).length + (x.length + 1) := by simp
    obtain ⟨_, _, p3, _⟩ := may_parts e3
    have hc : (pieces (aheadL l)).length + 1 ≤ 6 := by
      rcases split_last l with e | ⟨a, b, f1, f2⟩
      · exact absurd (aheadL_one e) e1
      · have := (may_parts h).2.1
        rw [f2, List.length_append] at this
        rw [aheadL_two f1 f2]; simpa using this
    refine ⟨may_of (by omega) (by rw [hq, List.length_append]; simpa using hc) (by rw [hq, List.all_append, p3]; simp [hx]) (by rw [aheadL_two rfl hq]; exact hlen), aheadL_two rfl hq, lastP_two hq⟩
theorem all_take {x : List UInt8} (h : x.all okB = true) (n : Nat) : (x.take n).all okB = true :=
  List.all_eq_true.2 fun c hc => List.all_eq_true.1 h c (List.mem_of_mem_take hc)
theorem all_drop {x : List UInt8} (h : x.all okB = true) (n : Nat) : (x.drop n).all okB = true :=
  List.all_eq_true.2 fun c hc => List.all_eq_true.1 h c (List.mem_of_mem_drop hc)
theorem dC_ok (x : UInt8) (h : x.toNat < 16) : okB (Sha.dC x) = true := by
  have e : ∀ m : Fin 16, okB (Sha.dC (UInt8.ofNat m.val)) = true := by decide
  have := e ⟨x.toNat, h⟩
  simpa using this
theorem text_ok (h : List UInt8) : (Sha.textL h).all okB = true := by
  rw [Sha.textL, Sha.textUp, List.all_eq_true]
  intro c hc
  obtain ⟨i, _, hc⟩ := List.mem_flatMap.1 hc
  generalize Sha.at8 h i = x at hc
  have hx := x.toNat_lt
  simp only [List.mem_cons, List.not_mem_nil, or_false] at hc
  rcases hc with rfl | rfl
  · exact dC_ok _ (by simp [Sha.hi4]; omega)
  · exact dC_ok _ (by simp [Sha.lo4]; omega)
theorem hex_ok (l : List UInt8) : (hexL l).all okB = true := text_ok _
theorem tempPart_name {l p : List UInt8} (h : nameB l = true) : nameB (tempPart l p) = true ∧ (tempPart l p).length ≤ 23 := by
  obtain ⟨ho, _⟩ := nameB_ok h
  have hl : (tempPart l p).length ≤ 23 := by
    simp only [tempPart, List.length_append, List.length_take, List.length_cons, List.length_nil]; omega
  refine ⟨nameB_mk ?_ (by simp [tempPart]) (by omega), hl⟩
  rw [tempPart, List.all_append, List.all_append, all_take ho, all_take (hex_ok p)]; decide
theorem tempPart_is (l p : List UInt8) : [126, 116, 126].isPrefixOf (tempPart l p) = true :=
  List.isPrefixOf_iff_prefix.2 ⟨l.take 12 ++ (hexL p).take 8, by simp [tempPart]⟩
/-- Decimal digits. -/
def digB (c : UInt8) : Prop := 48 ≤ c.toNat ∧ c.toNat ≤ 57
theorem dec_dig (n : Nat) : ∀ u, u ≤ n → ∀ c ∈ Lib.decDigits u, digB c := by
  induction n with
  | zero =>
    intro u h c hc
    obtain rfl : u = 0 := by omega
    rw [Lib.decDigits] at hc
    simp at hc; subst hc; exact ⟨by decide, by decide⟩
  | succ n ih =>
    intro u h c hc
    rw [Lib.decDigits] at hc
    by_cases h10 : u < 10
    · rw [dif_pos h10] at hc
      simp only [List.mem_singleton] at hc
      subst hc
      simp [digB]; omega
    · rw [dif_neg h10] at hc
      rcases List.mem_append.1 hc with hc | hc
      · exact ih (u / 10) (by omega) c hc
      · simp only [List.mem_singleton] at hc
        subst hc
        simp [digB]; omega
theorem pad_dig {n : Int} (h : 0 ≤ n) (m : Nat) : ∀ c ∈ padL n m, digB c := by
  intro c hc
  rw [padL, Lib.itoa, if_neg (by omega)] at hc
  rcases List.mem_append.1 hc with hc | hc
  · rw [(List.mem_replicate.1 hc).2]; exact ⟨by decide, by decide⟩
  · exact dec_dig _ _ (Nat.le_refl _) c hc
theorem dig_ok {c : UInt8} (h : digB c) : okB c = true := by
  obtain ⟨h1, h2⟩ := h
  have a : ¬ b8 c < 32 := by unfold b8; omega
  have b : ¬ b8 c = 127 := by unfold b8; omega
  have d : ¬ b8 c = 47 := by unfold b8; omega
  simp [okB, a, b, d]
theorem dig_fits {c : UInt8} (h : digB c) : fitsB c 35 = true := by
  obtain ⟨h1, h2⟩ := h
  rw [fitsB, if_pos rfl]
  have a : 48 ≤ b8 c := by unfold b8; omega
  have b : b8 c ≤ 57 := by unfold b8; omega
  simp [a, b]
theorem pad_ok {n : Int} (h : 0 ≤ n) (m : Nat) : (padL n m).all okB = true := List.all_eq_true.2 fun c hc => dig_ok (pad_dig h m c hc)
theorem padL_two (y : Int) (h0 : 0 ≤ y) (h1 : y ≤ 16) : (padL y 2).length = 2 := by
  rw [padL, List.length_append, List.length_replicate, Lib.itoa, if_neg (by omega), Lib.decDigits_length]
  have := nDigits_bound 1 y.toNat (by omega)
  omega
theorem trim_ok {x e : List UInt8} (h : x.all okB = true) : (Lib.trimSuffix x e).all okB = true := by
  unfold Lib.trimSuffix; split
  · exact all_take h _
  · exact h
theorem ext_ok {x : List UInt8} (h : x.all okB = true) : (extS (ba x)).all okB = true := by
  unfold extS; split
  · rfl
  · exact all_drop h _
def midL (t y : Int) : List UInt8 := markL ++ padL t 10 ++ 45 :: padL y 2
theorem midL_len {t y : Int} (h1 : 0 ≤ t) (h2 : t ≤ 4294967295) (h3 : 0 ≤ y) (h4 : y ≤ 16) : (midL t y).length = 28 := by
  rw [midL, List.length_append, List.length_append, List.length_cons, padL_ten t h1 h2, padL_two y h3 h4]; rfl
theorem clash_name {l : List UInt8} {t y : Int} (h : nameB l = true) (h1 : 0 ≤ t) (h2 : t ≤ 4294967295) (h3 : 0 ≤ y) (h4 : y ≤ 16) : nameB (clashL l t y) = true := by
  obtain ⟨ho, _⟩ := nameB_ok h
  have hm := midL_len h1 h2 h3 h4
  have he := (extS_len (ba l)).1
  have hs : (stemL l).length ≤ 20 - (extS (ba l)).length := by rw [stemL, List.length_take]; omega
  have hl : (clashL l t y).length = (stemL l).length + 28 + (extS (ba l)).length := by
    rw [clashL, List.length_append, List.length_append]; show _ + (midL t y).length + _ = _; rw [hm]
  refine nameB_mk ?_ (by omega) (by omega)
  rw [clashL, List.all_append, List.all_append, ext_ok ho, stemL, all_take (trim_ok ho), List.all_append, List.all_append, List.all_cons, pad_ok h1, pad_ok h3]
  decide
theorem mid_fits {t y : Int} (h1 : 0 ≤ t) (h2 : t ≤ 4294967295) (h3 : 0 ≤ y) (h4 : y ≤ 16) : ∀ j, j < 28 → fitsB (at8 (midL t y) j) (at8 shapeL j) = true := by
  have d1 := pad_dig h1 10
  have d2 := pad_dig h3 2
  have l1 := padL_ten t h1 h2
  have l2 := padL_two y h3 h4
  unfold midL
  generalize padL t 10 = A at d1 l1
  generalize padL y 2 = B at d2 l2
  match A, l1, B, l2 with
  | [a0, a1, a2, a3, a4, a5, a6, a7, a8, a9], _, [b0, b1], _ =>
    have f := fun c hc => dig_fits (d1 c hc)
    have g := fun c hc => dig_fits (d2 c hc)
    intro j hj
    have hj : j = 0 ∨ j = 1 ∨ j = 2 ∨ j = 3 ∨ j = 4 ∨ j = 5 ∨ j = 6 ∨ j = 7 ∨ j = 8 ∨ j = 9 ∨ j = 10 ∨ j = 11 ∨ j = 12 ∨ j = 13 ∨ j = 14 ∨ j = 15 ∨ j = 16 ∨ j = 17 ∨ j = 18 ∨ j = 19 ∨ j = 20 ∨ j = 21 ∨ j = 22 ∨ j = 23 ∨ j = 24 ∨ j = 25 ∨ j = 26 ∨ j = 27 := by omega
    rcases hj with rfl | rfl | rfl | rfl | rfl | rfl | rfl | rfl | rfl | rfl | rfl | rfl | rfl | rfl | rfl | rfl | rfl | rfl | rfl | rfl | rfl | rfl | rfl | rfl | rfl | rfl | rfl | rfl
    · rfl
    · rfl
    · rfl
    · rfl
    · rfl
    · rfl
    · rfl
    · rfl
    · rfl
    · rfl
    · rfl
    · rfl
    · rfl
    · rfl
    · rfl
    · exact f a0 (by simp)
    · exact f a1 (by simp)
    · exact f a2 (by simp)
    · exact f a3 (by simp)
    · exact f a4 (by simp)
    · exact f a5 (by simp)
    · exact f a6 (by simp)
    · exact f a7 (by simp)
    · exact f a8 (by simp)
    · exact f a9 (by simp)
    · rfl
    · exact g b0 (by simp)
    · exact g b1 (by simp)
theorem clash_mark {l : List UInt8} {t y : Int} (h1 : 0 ≤ t) (h2 : t ≤ 4294967295) (h3 : 0 ≤ y) (h4 : y ≤ 16) : markB (clashL l t y) = true := by
  have hm := midL_len h1 h2 h3 h4
  have hl : (clashL l t y).length = (stemL l).length + 28 + (extS (ba l)).length := by
    rw [clashL, List.length_append, List.length_append]; show _ + (midL t y).length + _ = _; rw [hm]
  refine markB_yes (i := (stemL l).length) (by omega) ?_
  rw [upTo, List.all_eq_true]
  intro j hj
  have hj := List.mem_range.1 hj
  have e : at8 (clashL l t y) ((stemL l).length + j) = at8 (midL t y) j := by
    show at8 (stemL l ++ midL t y ++ extS (ba l)) _ = _
    simp only [at8, List.getD]
    rw [List.getElem?_append_left (by rw [List.length_append, hm]; omega), List.getElem?_append_right (by omega), Nat.add_sub_cancel_left]
  rw [e]
  exact mid_fits h1 h2 h3 h4 j hj
end Go.Proofs.YthhclcjocakdlaaDoor
