/- Glob: HasPrefix, CutPrefix, cutByte, cutSpan: what each call does. No conditions. -/
import Derived.Test.YtpipkgkfhbagmaaGreatDoorJP
namespace Go.Proofs.YtpipkgkfhbagmaaGreatDoor.Glob
open Go.RowKit
set_option maxRecDepth 100000 in
theorem slpre_any (s p : By) (w : World) :
    Calls Tryz.prog 58 #[.string (ba s), .string (ba p)] w fun e w' => e = .returned (.bool (pre p s)) ∧ w = w' := by
  have z1 := ba_size s
  have z2 := ba_size p
  have HP := hid (pre_take p s)
  by_cases h : p.length ≤ s.length
  · go_enter Tryz.func58, Tryz.ntmps58
    go_wp2
    go_ret
    exact ⟨ret_bool (by rw [HP.out, toList_ba, ba_take, toList_ba]), rfl⟩
  · go_enter Tryz.func58, Tryz.ntmps58
    go_wp2
    go_ret
    refine ⟨ret_bool ?_, rfl⟩
    cases hb : pre p s with
    | false => rfl
    | true => exact absurd (pre_len hb) h
theorem pre_any (s p : By) (w : World) :
    Calls Tryz.prog 32 #[.string (ba s), .string (ba p)] w fun e w' => e = .returned (.bool (pre p s)) ∧ w = w' := by
  go_enter Tryz.func32, Tryz.ntmps32
  go_wp2_with (go_at_call 58; refine (slpre_any _ _ _).mono ?_; rintro e1 w1 ⟨rfl, rfl⟩)
  go_ret
  exact ⟨rfl, rfl⟩
def cutP (p s : By) : By := if pre p s then s.drop p.length else s
theorem cutP_len (p s : By) : (cutP p s).length ≤ s.length := by unfold cutP; split <;> simp
set_option maxRecDepth 100000 in
theorem slcut_any (s p : By) (w : World) :
    Calls Tryz.prog 33 #[.string (ba s), .string (ba p)] w fun e w' => e = .returned (.tuple #[.string (ba (cutP p s)), .bool (pre p s)]) ∧ w = w' := by
  have z1 := ba_size s
  have z2 := ba_size p
  have hc := slpre_any s p w
  cases hb : pre p s with
  | false =>
    rw [hb] at hc
    go_enter Tryz.func33, Tryz.ntmps33
    go_wp2_with (go_at_call 58; refine hc.mono ?_; rintro e1 w1 ⟨rfl, rfl⟩)
    go_ret2
    refine ⟨?_, rfl⟩
    unfold cutP; rw [hb]; rfl
  | true =>
    rw [hb] at hc
    have hl := pre_len hb
    go_enter Tryz.func33, Tryz.ntmps33
    go_wp2_with (go_at_call 58; refine hc.mono ?_; rintro e1 w1 ⟨rfl, rfl⟩)
    go_ret2
    refine ⟨?_, rfl⟩
    unfold cutP; rw [hb, if_pos rfl, ← ba_drop]; rfl
theorem cut_any (s p : By) (w : World) :
    Calls Tryz.prog 16 #[.string (ba s), .string (ba p)] w fun e w' => e = .returned (.tuple #[.string (ba (cutP p s)), .bool (pre p s)]) ∧ w = w' := by
  go_enter Tryz.func16, Tryz.ntmps16
  go_wp2_with (go_at_call 33; refine (slcut_any _ _ _).mono ?_; rintro e1 w1 ⟨rfl, rfl⟩)
  go_ret2
  exact ⟨rfl, rfl⟩
def cbV (x : Option (UInt8 × By)) : Value := match x with
  | none => .tuple #[.int .u8 0, .string ⟨#[]⟩, .bool false]
  | some (c, r) => .tuple #[.int .u8 (b8 c), .string (ba r), .bool true]
theorem idx0 (t : By) (h : 0 < t.length) (w : World) : (Instr.index 9 (.string (ba t)) (.int .i64 0)).run Tryz.prog w = .ok (.int .u8 (b8 (at8 t 0))) w := index_str t 0 h w
theorem idx1 (t : By) (h : 1 < t.length) (w : World) : (Instr.index 9 (.string (ba t)) (.int .i64 1)).run Tryz.prog w = .ok (.int .u8 (b8 (at8 t 1))) w := index_str t 1 h w
set_option maxRecDepth 100000 in
theorem cb_any (s : By) (w : World) :
    Calls Tryz.prog 88 #[.string (ba s)] w fun e w' => e = .returned (cbV (cbL s)) ∧ ∃ n, w' = w.drewN n := by
  obtain ⟨t, ht⟩ : ∃ t, t = cutP [92] s := ⟨_, rfl⟩
  obtain ⟨b, hb⟩ : ∃ b, pre [92] s = b := ⟨_, rfl⟩
  have HE : Hid (cbL s = if t.length = 0 then none else if b && (at8 t 0 == 47) then none else some (at8 t 0, t.drop 1)) := by
    subst hb; subst ht; rfl
  have hc : ∀ W, Calls Tryz.prog 16 #[.string (ba s), .string ⟨#[92]⟩] W fun e w' => e = .returned (.tuple #[.string (ba t), .bool b]) ∧ W = w' := by
    intro W; have := cut_any s [92] W; rw [← ht, hb] at this; exact this
  clear ht hb
  have z := ba_size t
  have zt := toList_ba t
  by_cases h0 : t.length = 0
  · obtain rfl := List.length_eq_zero_iff.1 h0
    go_enter Tryz.func88, Tryz.ntmps88
    go_wp2_with (go_at_call 16; refine (hc _).mono ?_; rintro e1 w1 ⟨rfl, rfl⟩)
    refine bodyPost_ret (results_tmp3 rfl _ _ _) rfl ⟨?_, 0, rfl⟩
    rw [HE.out]; rfl
  · have i0 := idx0 t (by omega)
    have e0 : (t == []) = false := by cases t with | nil => exact absurd rfl h0 | cons _ _ => rfl
    have H0 := hid h0
    have HD := hid (ba_drop t 1)
    have q7 := b8_eq (at8 t 0) 47
    rw [show b8 47 = 47 from rfl] at q7
    generalize at8 t 0 = x at HE i0 q7
    obtain ⟨c, hc7⟩ : ∃ c, (x == 47) = c := ⟨_, rfl⟩
    rw [hc7] at HE q7
    cases b with
    | false =>
      go_enter Tryz.func88, Tryz.ntmps88
      go_wp2_with (go_at_call 16; refine (hc _).mono ?_; rintro e1 w1 ⟨rfl, rfl⟩)
      go_quiet (fail)
      go_wp2
      refine bodyPost_ret (results_tmp3 rfl _ _ _) rfl ⟨?_, _, rfl⟩
      rw [HE.out, if_neg H0.out]
      simp [cbV, HD.out]
    | true =>
      cases c with
      | true =>
        go_enter Tryz.func88, Tryz.ntmps88
        go_wp2_with (go_at_call 16; refine (hc _).mono ?_; rintro e1 w1 ⟨rfl, rfl⟩)
        refine bodyPost_ret (results_tmp3 rfl _ _ _) rfl ⟨?_, 0, rfl⟩
        rw [HE.out, if_neg H0.out]; rfl
      | false =>
        go_enter Tryz.func88, Tryz.ntmps88
        go_wp2_with (go_at_call 16; refine (hc _).mono ?_; rintro e1 w1 ⟨rfl, rfl⟩)
        go_quiet (fail)
        go_wp2
        refine bodyPost_ret (results_tmp3 rfl _ _ _) rfl ⟨?_, _, rfl⟩
        rw [HE.out, if_neg H0.out]
        simp [cbV, HD.out]
end Go.Proofs.YtpipkgkfhbagmaaGreatDoor.Glob
