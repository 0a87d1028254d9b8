/- The document's patterns: begins, written: what each call does. No conditions. -/
import Derived.Test.YtpipkgkfhbagmaaGreatDoorJO
namespace Go.Proofs.YtpipkgkfhbagmaaGreatDoor.Glob
open Go.RowKit
set_option maxRecDepth 100000 in
theorem begins_any (s p : By) (w : World) :
    Calls Tryz.prog 47 #[.string (ba s), .string (ba p)] w fun e w' => e = .returned (.bool (pre p s)) ∧ w = w' := by
  have z1 := ba_size s
  have z2 := ba_size p
  have HP := hid (pre_take p s)
  by_cases h : p.length ≤ s.length
  · go_enter Tryz.func47, Tryz.ntmps47
    go_wp2
    go_ret
    exact ⟨ret_bool (by rw [HP.out, toList_ba, ba_take, toList_ba]), rfl⟩
  · go_enter Tryz.func47, Tryz.ntmps47
    go_wp2
    go_ret
    refine ⟨ret_bool ?_, rfl⟩
    cases hb : pre p s with
    | false => rfl
    | true => exact absurd (pre_len hb) h
def wrL (s : By) : Option (UInt8 × By) :=
  let t := cutP [92] s
  if t.length = 0 then none else if at8 t 0 == 47 then none else some (at8 t 0, t.drop 1)
theorem wrL_cb (s : By) : wrL s = match cbL s with | none => none | some (c, r) => if c == 47 then none else some (c, r) := by
  have e : cbL s = if (cutP [92] s).length = 0 then none else if pre [92] s && (at8 (cutP [92] s) 0 == 47) then none else some (at8 (cutP [92] s) 0, (cutP [92] s).drop 1) := rfl
  rw [e]
  unfold wrL
  simp only
  generalize cutP [92] s = t
  generalize pre [92] s = b
  by_cases h : t.length = 0
  · rw [if_pos h, if_pos h]
  · rw [if_neg h, if_neg h]
    cases h7 : at8 t 0 == 47 with
    | false => simp [h7]
    | true => cases b <;> simp [h7]
theorem wrL_len {s : By} {c : UInt8} {r : By} (h : wrL s = some (c, r)) : r.length < s.length := by
  rw [wrL_cb] at h
  cases hcb : cbL s with
  | none => rw [hcb] at h; cases h
  | some y =>
    obtain ⟨d, u⟩ := y
    rw [hcb] at h
    simp only at h
    split at h
    · cases h
    · simp only [Option.some.injEq, Prod.mk.injEq] at h
      rw [← h.2]; exact cbL_len hcb
/-- A range of a class, as the document takes it. -/
def spanR (s : By) : Option (Rg × By) :=
  match wrL s with
  | none => none
  | some (lo, r) =>
    if decide (1 < r.length) && (at8 r 0 == 45) && !(at8 r 1 == 93) then
      match wrL (r.drop 1) with
      | none => none
      | some (hi, r2) => if decide (hi.toNat < lo.toNat) then none else some ((lo, hi), r2)
    else some ((lo, lo), r)
theorem spanR_eq (s : By) : spanL s = spanR s := by
  unfold spanL spanR
  rw [wrL_cb]
  cases cbL s with
  | none => rfl
  | some y =>
    obtain ⟨lo, r⟩ := y
    simp only
    cases h7 : lo == 47 with
    | true =>
      simp only [if_true, Bool.not_true, Bool.and_false, Bool.false_and]
      split
      · split
        · rfl
        · simp
      · simp
    | false =>
      simp only [Bool.false_eq_true, if_false, Bool.not_false, Bool.and_true]
      split
      · rw [wrL_cb]
        cases cbL (r.drop 1) with
        | none => rfl
        | some y =>
          obtain ⟨hi, r2⟩ := y
          simp only
          cases h8 : hi == 47 with
          | true => simp
          | false =>
            simp only [Bool.not_false, Bool.and_true, Bool.false_eq_true, if_false]
            by_cases hh : hi.toNat < lo.toNat
            · rw [decide_eq_true hh, decide_eq_false (show ¬ lo.toNat ≤ hi.toNat by omega)]; rfl
            · rw [decide_eq_false hh, decide_eq_true (show lo.toNat ≤ hi.toNat by omega)]; rfl
      · simp
def wrV (x : Option (UInt8 × By)) : Value := cbV x
set_option maxRecDepth 100000 in
theorem wr_any (s : By) (w : World) :
    Calls Tryz.prog 67 #[.string (ba s)] w fun e w' => e = .returned (cbV (wrL s)) ∧ ∃ n, w' = w.drewN n := by
  have z := ba_size s
  obtain ⟨t, ht⟩ : ∃ t, cutP [92] s = t := ⟨_, rfl⟩
  have HE : Hid (wrL s = if t.length = 0 then none else if at8 t 0 == 47 then none else some (at8 t 0, t.drop 1)) := by subst ht; rfl
  have zt := ba_size t
  have HD := hid (ba_drop t 1)
  have HTL : Hid (∀ (W : World), 0 < t.length → (Instr.index 9 (.string (ba t)) (.int .i64 0)).run Tryz.prog W = .ok (.int .u8 (b8 (at8 t 0))) W) := fun W h => idx0 t h W
  have q7 := b8_eq (at8 t 0) 47
  rw [show b8 47 = 47 from rfl] at q7
  cases hb : pre [92] s with
  | false =>
    have e : t = s := by rw [← ht]; unfold cutP; rw [hb]; rfl
    subst e
    have hpo := pre_one 92 t
    rw [hb] at hpo
    clear ht hb zt
    by_cases h0 : t.length = 0
    · have g0 : ((t.length : Int) == 0) = true := by simp [h0]
      have HN : Hid (wrL t = none) := HE.out.trans (if_pos h0)
      clear hpo h0 HE
      go_enter Tryz.func67, Tryz.ntmps67
      go_wp2
      refine bodyPost_ret (results_tmp3 rfl _ _ _) rfl ⟨?_, 0, rfl⟩
      rw [HN.out]; rfl
    · have g0 : ((t.length : Int) == 0) = false := by simp; intro h; exact h0 (by rw [h]; rfl)
      have g1 : (0 : Int) < (t.length : Int) := by omega
      have i0 := HTL.out
      have i0' : ∀ (W : World), (Instr.index 9 (.string (ba t)) (.int .i64 0)).run Tryz.prog W = .ok (.int .u8 (b8 (at8 t 0))) W := fun W => i0 W (by omega)
      have q9 : (b8 (at8 t 0) == 92) = false := by
        rw [show (92 : Int) = b8 92 from rfl, b8_eq]
        have : decide (t = []) = false := by simp; rintro rfl; exact h0 rfl
        rw [this] at hpo
        simpa using hpo.symm
      have HN : Hid (wrL t = if at8 t 0 == 47 then none else some (at8 t 0, t.drop 1)) := HE.out.trans (if_neg h0)
      clear HTL i0 hpo h0 HE
      generalize at8 t 0 = x at *
      obtain ⟨bq, hbq⟩ : ∃ bq, (x == 47) = bq := ⟨_, rfl⟩
      rw [hbq] at q7 HN
      clear hbq
      cases bq with
      | true =>
        go_enter Tryz.func67, Tryz.ntmps67
        go_wp2
        refine bodyPost_ret (results_tmp3 rfl _ _ _) rfl ⟨?_, 0, rfl⟩
        rw [HN.out]; rfl
      | false =>
        go_enter Tryz.func67, Tryz.ntmps67
        go_wp2
        go_quiet (fail)
        go_wp2
        refine bodyPost_ret (results_tmp3 rfl _ _ _) rfl ⟨?_, _, rfl⟩
        rw [HN.out]
        simp [cbV, HD.out]
  | true =>
    have e : t = s.drop 1 := by rw [← ht]; unfold cutP; rw [hb]; rfl
    have hpl : 1 ≤ s.length := by have := pre_len hb; simpa using this
    have hpo := pre_one 92 s
    rw [hb] at hpo
    have g1 : (0 : Int) < (s.length : Int) := by omega
    have gh1 : (1 : Int) ≤ (s.length : Int) := by omega
    have i1 := idx0 s (by omega)
    have q9 : (b8 (at8 s 0) == 92) = true := by
      rw [show (92 : Int) = b8 92 from rfl, b8_eq]
      simp only [Bool.and_eq_true, Bool.true_eq] at hpo
      exact hpo.2
    have zd := ba_drop s 1
    rw [← e] at zd
    clear e ht hb hpo
    generalize at8 s 0 = y at *
    by_cases h0 : t.length = 0
    · have g0 : ((t.length : Int) == 0) = true := by simp [h0]
      have HN : Hid (wrL s = none) := HE.out.trans (if_pos h0)
      clear h0 HE
      go_enter Tryz.func67, Tryz.ntmps67
      go_wp2
      refine bodyPost_ret (results_tmp3 rfl _ _ _) rfl ⟨?_, 0, rfl⟩
      rw [HN.out]; rfl
    · have g0 : ((t.length : Int) == 0) = false := by simp; intro h; exact h0 (by rw [h]; rfl)
      have g3 : (0 : Int) < (t.length : Int) := by omega
      have i0 := HTL.out
      have i0' : ∀ (W : World), (Instr.index 9 (.string (ba t)) (.int .i64 0)).run Tryz.prog W = .ok (.int .u8 (b8 (at8 t 0))) W := fun W => i0 W (by omega)
      have HN : Hid (wrL s = if at8 t 0 == 47 then none else some (at8 t 0, t.drop 1)) := HE.out.trans (if_neg h0)
      clear HTL i0 h0 HE
      generalize at8 t 0 = x at *
      obtain ⟨bq, hbq⟩ : ∃ bq, (x == 47) = bq := ⟨_, rfl⟩
      rw [hbq] at q7 HN
      clear hbq
      cases bq with
      | true =>
        go_enter Tryz.func67, Tryz.ntmps67
        go_wp2
        refine bodyPost_ret (results_tmp3 rfl _ _ _) rfl ⟨?_, 0, rfl⟩
        rw [HN.out]; rfl
      | false =>
        go_enter Tryz.func67, Tryz.ntmps67
        go_wp2
        go_quiet (fail)
        go_wp2
        refine bodyPost_ret (results_tmp3 rfl _ _ _) rfl ⟨?_, _, rfl⟩
        rw [HN.out]
        simp [cbV, HD.out]
end Go.Proofs.YtpipkgkfhbagmaaGreatDoor.Glob
