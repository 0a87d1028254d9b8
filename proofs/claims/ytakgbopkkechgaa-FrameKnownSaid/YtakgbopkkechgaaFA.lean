/- The plain model of frames and readers: a frame's bytes, what a reader gives next, frames there and back. No conditions but the ones said. -/
import Derived.Test.YtakgbopkkechgaaBI
namespace Go.Proofs.Ytakgbopkkechgaa
open Go.RowKit
theorem low_zero (a : Nat) (x : UInt8) : lowB (256 * a + x.toNat) 0 = x := by
  have hx := x.toNat_lt
  apply UInt8.toNat_inj.1
  simp [lowB]
theorem low_next (a : Nat) (x : UInt8) (j : Nat) : lowB (256 * a + x.toNat) (j + 1) = lowB a j := by
  have hx := x.toNat_lt
  have e : (256 * a + x.toNat) / 256 = a := by omega
  rw [lowB, lowB, Nat.pow_succ, Nat.mul_comm (256 ^ j) 256, ← Nat.div_div_eq_div_mul, e]
theorem highs_val : ∀ (m : Nat) (l : List UInt8), l.length = m → highs (valL l) m m = l := by
  intro m
  induction m with
  | zero => intro l h; obtain rfl := List.eq_nil_of_length_eq_zero h; rfl
  | succ k ih =>
    intro l h
    obtain ⟨l', x, rfl⟩ : ∃ l' x, l = l' ++ [x] := ⟨l.take k, at8 l k, by rw [← take_snoc l k (by omega), List.take_of_length_le (by omega)]⟩
    have hl : l'.length = k := by simpa using h
    rw [valL_snoc, highs_next, show k + 1 - 1 - k = 0 by omega, low_zero]
    congr 1
    refine Eq.trans ?_ (ih l' hl)
    unfold highs
    apply List.map_congr_left
    intro i hi
    rw [List.mem_range] at hi
    rw [show k + 1 - 1 - i = (k - 1 - i) + 1 by omega, low_next]
/-- What bytes say, laid again. -/
theorem numL_val (k : Int) (hk : wid k = true) (l : List UInt8) (hl : (l.length : Int) = k) : numL k (valL l) = l := by
  rw [numL, if_pos hk]
  exact highs_val _ l (by omega)
theorem val_highs (n m j : Nat) (h : j ≤ m) : valL (highs n m j) = n / 256 ^ (m - j) % 256 ^ j := by
  induction j with
  | zero => simp [highs, valL, Nat.mod_one]
  | succ j ih =>
    rw [highs_next, valL_snoc, ih (by omega)]
    have e1 : m - j = (m - (j + 1)) + 1 := by omega
    have e2 : m - 1 - j = m - (j + 1) := by omega
    rw [e1, e2, Nat.pow_succ, ← Nat.div_div_eq_div_mul, show (256 : Nat) ^ (j + 1) = 256 * 256 ^ j from by rw [Nat.pow_succ, Nat.mul_comm], Nat.mod_mul]
    have e3 : (lowB n (m - (j + 1))).toNat = n / 256 ^ (m - (j + 1)) % 256 := by simp [lowB]
    rw [e3]; omega
/-- What is laid, read again. -/
theorem val_numL (k : Int) (hk : wid k = true) (n : Nat) : valL (numL k n) = n % 256 ^ k.toNat := by
  rw [numL, if_pos hk, val_highs _ _ _ (Nat.le_refl _)]; simp
/-- A frame's bytes. -/
def frL (k : UInt8) (body : List UInt8) : List UInt8 := numL 4 (body.length + 1) ++ k :: body
theorem num4_len (n : Nat) : (numL 4 n).length = 4 := by
  rw [numL, if_pos (by decide), highs_len]; rfl
theorem num1 (k : UInt8) : numL 1 k.toNat = [k] := by
  have e := numL_val 1 (by decide) [k] rfl
  simpa [valL] using e
theorem frL_len (k : UInt8) (body : List UInt8) : (frL k body).length = body.length + 5 := by
  rw [frL, List.length_append, num4_len, List.length_cons]; omega
/-- What a reader gives next. -/
inductive Out where
  | wait
  | bad
  | one (k : UInt8) (body rest : List UInt8)
def cnt (l : List UInt8) : Nat := valL (l.take 4)
def okKind (k : UInt8) : Prop := 1 ≤ k.toNat ∧ k.toNat ≤ 9
instance (k : UInt8) : Decidable (okKind k) := by unfold okKind; infer_instance
def outL (l : List UInt8) : Out :=
  if l.length < 4 then .wait else
  if cnt l = 0 ∨ 16385 < cnt l then .bad else
  if l.length = 4 then .wait else
  if ¬ okKind (at8 l 4) then .bad else
  if l.length < 4 + cnt l then .wait else .one (at8 l 4) ((l.drop 5).take (cnt l - 1)) (l.drop (4 + cnt l))
/-- A frame is one that may be. -/
def okF (f : UInt8 × List UInt8) : Prop := okKind f.1 ∧ f.2.length ≤ 16384
theorem cnt_fr (k : UInt8) (body rest : List UInt8) (h : body.length ≤ 16384) : cnt (frL k body ++ rest) = body.length + 1 := by
  rw [cnt, frL, List.append_assoc, List.take_left' (num4_len _), val_numL 4 (by decide)]
  exact Nat.mod_eq_of_lt (by show body.length + 1 < 256 ^ 4; omega)
theorem four_fr (k : UInt8) (body rest : List UInt8) : at8 (frL k body ++ rest) 4 = k := by
  have e : (frL k body ++ rest)[4]? = some k := by
    rw [frL, List.append_assoc, List.getElem?_append_right (by rw [num4_len]; omega), num4_len]; rfl
  rw [at8, List.getD, e]; rfl
/-- A frame that was laid comes out. -/
theorem out_fr (k : UInt8) (body rest : List UInt8) (hk : okKind k) (h : body.length ≤ 16384) : outL (frL k body ++ rest) = .one k body rest := by
  have hl : (frL k body ++ rest).length = body.length + 5 + rest.length := by rw [List.length_append, frL_len]
  have e5 : (frL k body ++ rest).drop 5 = body ++ rest := by
    have : frL k body ++ rest = (numL 4 (body.length + 1) ++ [k]) ++ (body ++ rest) := by simp [frL]
    rw [this, List.drop_left' (by rw [List.length_append, num4_len]; rfl)]
  have e6 : (frL k body ++ rest).drop (4 + (body.length + 1)) = rest := List.drop_left' (by rw [frL_len]; omega)
  rw [outL, cnt_fr k body rest h, four_fr, hl, if_neg (by omega), if_neg (by omega), if_neg (by omega), if_neg (by simpa using hk), if_neg (by omega), e5, e6]
  congr 1
  rw [Nat.add_sub_cancel, List.take_left' rfl]
/-- What comes out, laid again, is what went in. -/
theorem out_back {l : List UInt8} {k : UInt8} {body rest : List UInt8} (h : outL l = .one k body rest) : l = frL k body ++ rest ∧ okKind k ∧ body.length ≤ 16384 := by
  unfold outL at h
  split at h
  · cases h
  · split at h
    · cases h
    · split at h
      · cases h
      · split at h
        · cases h
        · split at h
          · cases h
          · rename_i h1 h2 h3 h4 h5
            injection h with e1 e2 e3
            have hb : body.length = cnt l - 1 := by rw [← e2, List.length_take, List.length_drop]; omega
            refine ⟨?_, by rw [← e1]; simpa using h4, by omega⟩
            have c1 : cnt l - 1 + 1 = cnt l := by omega
            have c2 : numL 4 (body.length + 1) = l.take 4 := by
              rw [hb, c1, cnt]
              exact numL_val 4 (by decide) _ (by rw [List.length_take]; omega)
            have c3 : l.drop 4 = at8 l 4 :: l.drop 5 := by
              rw [List.drop_eq_getElem_cons (by omega), at8, List.getD, List.getElem?_eq_getElem (by omega)]; rfl
            have c4 : l.drop 5 = body ++ rest := by
              rw [← e2, ← e3]
              have : l.drop (4 + cnt l) = (l.drop 5).drop (cnt l - 1) := by rw [List.drop_drop]; congr 1; omega
              rw [this, List.take_append_drop]
            rw [frL, c2, List.append_assoc, List.cons_append, ← c4, ← e1, ← c3, List.take_append_drop]
/-- Of the beginning of what may come out nothing breaks. -/
theorem out_pre {k : UInt8} {body Y h t : List UInt8} (hk : okKind k) (hb : body.length ≤ 16384) (e : h ++ t = frL k body ++ Y) :
    (outL h = .wait ∧ h.length < (frL k body).length) ∨ ∃ h', outL h = .one k body h' ∧ h = frL k body ++ h' ∧ h' ++ t = Y := by
  by_cases hl : (frL k body).length ≤ h.length
  · obtain ⟨h', rfl⟩ : ∃ h', h = frL k body ++ h' := by
      have := congrArg (List.take (frL k body).length) e
      rw [List.take_append_of_le_length hl, List.take_left' rfl] at this
      exact ⟨h.drop (frL k body).length, (List.take_append_drop (frL k body).length h).symm.trans (by rw [this])⟩
    refine .inr ⟨h', out_fr k body h' hk hb, rfl, ?_⟩
    rw [List.append_assoc] at e
    exact List.append_cancel_left e
  · refine .inl ⟨?_, by omega⟩
    have hfl := frL_len k body
    rw [outL]
    by_cases h4 : h.length < 4
    · rw [if_pos h4]
    · have ct : cnt h = body.length + 1 := by
        have h1 : valL ((h ++ t).take 4) = valL ((frL k body ++ Y).take 4) := by rw [e]
        rw [List.take_append_of_le_length (by omega)] at h1
        exact h1.trans (cnt_fr k body Y hb)
      rw [if_neg h4, ct, if_neg (by omega)]
      by_cases h5 : h.length = 4
      · rw [if_pos h5]
      · have c4 : at8 h 4 = k := by
          have h1 : at8 (h ++ t) 4 = at8 (frL k body ++ Y) 4 := by rw [e]
          rw [four_fr] at h1
          rw [← h1, at8, at8, List.getD, List.getD, List.getElem?_append_left (by omega)]
        rw [if_neg h5, c4, if_neg (by simpa using hk), if_pos (by omega)]
theorem out_short {l : List UInt8} (h : l.length < 4) : outL l = .wait := by rw [outL, if_pos h]
/-- A reader: is it broken, and what it holds. -/
abbrev RS := Bool × List UInt8
def pushE (R : RS) (ys : List UInt8) : Int := if R.1 then 4 else if 131072 < R.2.length + ys.length then 3 else 0
def pushR (R : RS) (ys : List UInt8) : RS := if R.1 then R else if 131072 < R.2.length + ys.length then R else (false, R.2 ++ ys)
end Go.Proofs.Ytakgbopkkechgaa
