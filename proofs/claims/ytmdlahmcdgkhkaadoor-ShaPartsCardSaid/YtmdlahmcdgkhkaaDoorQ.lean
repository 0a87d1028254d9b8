/- Texts of digests there and back, as lists. No conditions. -/
import Derived.Test.YtmdlahmcdgkhkaaDoorP
namespace Go.Proofs.YtmdlahmcdgkhkaaDoor
open Go.RowKit
theorem dV_dC (n : Nat) (h : n < 16) : dV (dC (UInt8.ofNat n)) = some (UInt8.ofNat n) := by
  have : ∀ m : Fin 16, dV (dC (UInt8.ofNat m.val)) = some (UInt8.ofNat m.val) := by decide
  exact this ⟨n, h⟩
theorem dC_dV {c v : UInt8} (h : dV c = some v) : dC v = c ∧ v.toNat < 16 := by
  have hb := dV_some h
  have hv := v.toNat_lt
  have hc := c.toNat_lt
  unfold dC
  rcases hb with ⟨h1, h2, h3⟩ | ⟨h1, h2, h3⟩
  · rw [if_pos (by omega)]
    exact ⟨UInt8.toNat_inj.1 (by simp; omega), by omega⟩
  · rw [if_neg (by omega)]
    exact ⟨UInt8.toNat_inj.1 (by simp; omega), by omega⟩
theorem hilo (x : UInt8) : hi4 x * 16 + lo4 x = x := by
  have := x.toNat_lt
  apply UInt8.toNat_inj.1
  simp [hi4, lo4, UInt8.toNat_add, UInt8.toNat_mul]; omega
theorem hi_of {a b : UInt8} (ha : a.toNat < 16) (hb : b.toNat < 16) : hi4 (a * 16 + b) = a ∧ lo4 (a * 16 + b) = b := by
  have e : (a * 16 + b).toNat = a.toNat * 16 + b.toNat := by simp [UInt8.toNat_add, UInt8.toNat_mul]; omega
  constructor
  · apply UInt8.toNat_inj.1; simp only [hi4, e]; simp; omega
  · apply UInt8.toNat_inj.1; simp only [lo4, e]; simp; omega
theorem textUp_get (h : List UInt8) (k i : Nat) (hi : i < k) : at8 (textUp h k) (2 * i) = dC (hi4 (at8 h i)) ∧ at8 (textUp h k) (2 * i + 1) = dC (lo4 (at8 h i)) := by
  induction k with
  | zero => omega
  | succ k ih =>
    have hl := textUp_len h k
    rw [textUp_next]
    rcases Nat.lt_or_ge i k with h1 | h1
    · have := ih h1
      rw [← this.1, ← this.2]
      constructor <;> simp only [at8, List.getD] <;> rw [List.getElem?_append_left (by omega)]
    · obtain rfl : i = k := by omega
      constructor <;> simp only [at8, List.getD] <;> rw [List.getElem?_append_right (by omega), hl]
      · simp
      · rw [show 2 * i + 1 - 2 * i = 1 by omega]; simp
theorem of_text (h : List UInt8) (hl : h.length = 32) : ofL (textL h) = some h := by
  have key : ∀ k, k ≤ 32 → hexUp (textL h) k = some (h.take k ++ List.replicate (32 - k) 0) := by
    intro k
    induction k with
    | zero => intro _; simp [hexUp]
    | succ k ih =>
      intro hk
      have e1 := (textUp_get h 32 k (by omega)).1
      have e2 := (textUp_get h 32 k (by omega)).2
      have d1 : dV (at8 (textL h) (2 * k)) = some (hi4 (at8 h k)) := by
        show dV (at8 (textUp h 32) (2 * k)) = _
        rw [e1]; exact dV_dC _ (by have := (at8 h k).toNat_lt; omega)
      have d2 : dV (at8 (textL h) (2 * k + 1)) = some (lo4 (at8 h k)) := by
        show dV (at8 (textUp h 32) (2 * k + 1)) = _
        rw [e2]; exact dV_dC _ (by omega)
      rw [hexUp_next (ih (by omega)) d1 d2, hilo]
      congr 1
      have hk2 : k < h.length := by omega
      rw [List.set_append, if_neg (by simp; omega), List.length_take, Nat.min_eq_left (by omega), Nat.sub_self]
      rw [show 32 - k = (32 - (k + 1)) + 1 by omega, List.replicate_succ, List.set_cons_zero, List.take_succ_eq_append_getElem hk2]
      simp [at8, List.getD, List.getElem?_eq_getElem hk2]
      rw [List.take_succ_eq_append_getElem hk2, List.append_assoc]; rfl
  unfold ofL
  rw [if_pos (by exact textUp_len h 32), key 32 (by omega)]
  simp [List.take_of_length_le (show h.length ≤ 32 by omega)]
theorem textUp_set (h : List UInt8) (k : Nat) (v : UInt8) : textUp (h.set k v) k = textUp h k := by
  have : ∀ j, j ≤ k → textUp (h.set k v) j = textUp h j := by
    intro j
    induction j with
    | zero => intro _; rfl
    | succ j ih =>
      intro hj
      have e : at8 (h.set k v) j = at8 h j := by simp [at8, List.getD, List.getElem?_set, show k ≠ j by omega]
      rw [textUp_next, textUp_next, ih (by omega), e]
  exact this k (Nat.le_refl _)
theorem text_hex (l : List UInt8) (hl : l.length = 64) (k : Nat) : k ≤ 32 → ∀ x, hexUp l k = some x → textUp x k = l.take (2 * k) := by
  induction k with
  | zero => intro _ x _; rfl
  | succ k ih =>
    intro hk x hx
    simp only [hexUp] at hx
    split at hx
    · rename_i h a b hh ha hb
      obtain rfl := Option.some.inj hx
      have hlen := hexUp_len l k h hh
      obtain ⟨a1, a2⟩ := dC_dV ha
      obtain ⟨b1, b2⟩ := dC_dV hb
      have e : at8 (h.set k (a * 16 + b)) k = a * 16 + b := by simp [at8, List.getD, show k < h.length by omega]
      rw [textUp_next, textUp_set, ih (by omega) h hh, e, (hi_of a2 b2).1, (hi_of a2 b2).2, a1, b1]
      rw [show 2 * (k + 1) = 2 * k + 1 + 1 by omega]
      simp [at8, List.getD, List.getElem?_eq_getElem (show 2 * k < l.length by omega), List.getElem?_eq_getElem (show 2 * k + 1 < l.length by omega)]
      rw [List.take_succ_eq_append_getElem (show 2 * k + 1 < l.length by omega), List.take_succ_eq_append_getElem (show 2 * k < l.length by omega), List.append_assoc]; rfl
    · cases hx
theorem text_of_of (l x : List UInt8) (h : ofL l = some x) : textL x = l := by
  unfold ofL at h
  split at h
  · rename_i hl
    have := text_hex l hl 32 (by omega) x h
    rw [textL, this, List.take_of_length_le (by omega)]
  · cases h
/-- An operation that its guard lets by. -/
theorem wpList_wanted {P : Program} {ops : Array Oper} {Q : Exit → Act → World → Prop} {a : Act} {w : World} {rest : List Oper} {o : Oper} (hw : Region.wanted o (yielded ops a.tmps) = true)
    (h : ∀ K : Act → World → Prop, (∀ a w, wpList P ops Q rest a w → K a w) → o.wp P a w K Q) : wpList P ops Q (o :: rest) a w :=
  wpList_step fun K hK => by rw [if_pos hw]; exact h K hK
theorem wpList_load_g {P : Program} {ops : Array Oper} {rest : List Oper} {o : Oper} {a : Act} {w : World} {Q : Exit → Act → World → Prop} (hw : Region.wanted o (yielded ops a.tmps) = true) (ty : TypeId) (x : Operand) (ho : o.op = .load ty x)
    (g : Nat) (hx : a.eval x = .pointer (some ⟨g, 0, none⟩)) (t : TypeId) (cs : Array Value) (fr : Nat × Nat) (hl : (loadVar ty ⟨g, 0, none⟩).run P w = .ok (.agg cs) w)
    (h : wpList P ops Q rest (a.put o.dst (.agg cs)) w) : wpList P ops Q (o :: rest) a w :=
  wpList_wanted hw fun _ hK => by
    unfold Oper.wp execOp
    simp only [ho, hx, Instr.loadAt, Instr.sureAddr, Sem.run_bind, Sem.run_pure, Result.andThen_ok, hl]
    exact hK _ _ h
end Go.Proofs.YtmdlahmcdgkhkaaDoor
