/- path.May, Base, Parent, Within: what they answer of any text. Conditions: a world in which the listed variables lie, at most 4000 bytes. -/
import Derived.Test.YtlbeemlnbpchgaaGreatPE
namespace Go.Proofs.YtlbeemlnbpchgaaGreat
open Go.RowKit
theorem find_no (s : ByteArray) (h : mayB (tl s) = false) (w : World) (hG : Gd w) (hs : s.size ≤ 4000) :
    Calls Tryz.prog 91 #[.string s] w fun e w' => e = .returned (.agg #[.string ⟨#[]⟩, .string ⟨#[]⟩]) ∧ Below w.heap.size w w' := by
  have := find_any s w hG hs
  rw [findV_no h] at this; exact this
theorem find_yes (s a b : ByteArray) (h : Hid (mayB (tl s) = true ∧ ba (aheadL (tl s)) = a ∧ ba (lastP (tl s)) = b)) (w : World) (hG : Gd w) (hs : s.size ≤ 4000) :
    Calls Tryz.prog 91 #[.string s] w fun e w' => e = .returned (.agg #[.string a, .string b]) ∧ Below w.heap.size w w' := by
  have := find_any s w hG hs
  rw [findV_yes h.out.1, plc, h.out.2.1, h.out.2.2] at this; exact this
theorem last_ne {s b : ByteArray} (h : mayB (tl s) = true) (hb : ba (lastP (tl s)) = b) : ¬ b.toList = [] := by
  rw [toList_tl, ← hb, tl_ba]; exact mayB_last h
set_option maxRecDepth 100000 in
set_option maxHeartbeats 400000 in
theorem may_any (s : ByteArray) (w : World) (hG : Gd w) (hs : s.size ≤ 4000) :
    Calls Tryz.prog 70 #[.string s] w fun e w' => e = .returned (.bool (mayB (tl s))) ∧ Below w.heap.size w w' := by
  have HG := hid hG
  clear hG
  cases hm : mayB (tl s) with
  | false =>
    have HM := hid hm
    clear hm
    go_enter Tryz.func70, Tryz.ntmps70
    go_wp2_with (go_at_call 91; refine (find_no s HM.out _ HG.out hs).mono ?_; rintro e1 w1 ⟨rfl, hb1⟩; have B1 := hid hb1; clear hb1)
    go_ret
    exact ⟨rfl, B1.out⟩
  | true =>
    obtain ⟨a, b, HV⟩ : ∃ a b, Hid (mayB (tl s) = true ∧ ba (aheadL (tl s)) = a ∧ ba (lastP (tl s)) = b) := ⟨_, _, hm, rfl, rfl⟩
    have hb : ¬ b.toList = [] := last_ne hm HV.out.2.2
    clear hm
    by_cases ha : a.toList = []
    all_goals
      go_enter Tryz.func70, Tryz.ntmps70
      go_wp2_with (go_at_call 91; refine (find_yes s a b HV _ HG.out hs).mono ?_; rintro e1 w1 ⟨rfl, hb1⟩; have B1 := hid hb1; clear hb1)
      go_ret
      exact ⟨rfl, B1.out⟩
set_option maxRecDepth 100000 in
set_option maxHeartbeats 400000 in
theorem parent_any (s : ByteArray) (w : World) (hG : Gd w) (hs : s.size ≤ 4000) :
    Calls Tryz.prog 41 #[.string s] w fun e w' => e = .returned (.tuple #[.string (ba (findV (tl s)).1), .bool (mayB (tl s))]) ∧ Below w.heap.size w w' := by
  have HG := hid hG
  clear hG
  cases hm : mayB (tl s) with
  | false =>
    have HM := hid hm
    have HF := hid (findV_no hm)
    clear hm
    go_enter Tryz.func41, Tryz.ntmps41
    go_wp2_with (go_at_call 91; refine (find_no s HM.out _ HG.out hs).mono ?_; rintro e1 w1 ⟨rfl, hb1⟩; have B1 := hid hb1; clear hb1)
    go_quiet (fail)
    go_wp2
    go_ret2
    exact ⟨by rw [HF.out]; rfl, (B1.out.alloc B1.out.size _).drewN' _⟩
  | true =>
    obtain ⟨a, b, HV⟩ : ∃ a b, Hid (mayB (tl s) = true ∧ ba (aheadL (tl s)) = a ∧ ba (lastP (tl s)) = b) := ⟨_, _, hm, rfl, rfl⟩
    have hb : ¬ b.toList = [] := last_ne hm HV.out.2.2
    have HF := hid (findV_yes hm)
    clear hm
    by_cases ha : a.toList = []
    all_goals
      go_enter Tryz.func41, Tryz.ntmps41
      go_wp2_with (go_at_call 91; refine (find_yes s a b HV _ HG.out hs).mono ?_; rintro e1 w1 ⟨rfl, hb1⟩; have B1 := hid hb1; clear hb1)
      go_quiet (fail)
      go_wp2
      go_ret2
      exact ⟨by rw [HF.out]; simp only [HV.out.2.1]; rfl, (B1.out.alloc B1.out.size _).drewN' _⟩
/-- Does a path lie within a directory? -/
def withinB (p d : List UInt8) : Bool := if d = [] then mayB p else mayB p && mayB d && (d ++ [47]).isPrefixOf p
theorem hasPrefix_s (s p : ByteArray) (w : World) : Calls Tryz.prog 81 #[.string s, .string p] w fun e w' => e = .returned (.bool (Lib.hasPrefix (tl s) (tl p))) ∧ w = w' :=
  (Tryz.strings_HasPrefix s p w).mono fun _ _ ⟨a, b⟩ => ⟨a, b.symm⟩
set_option maxRecDepth 100000 in
set_option maxHeartbeats 400000 in
theorem within_any (p d : ByteArray) (w : World) (hG : Gd w) (hp : p.size ≤ 4000) (hd : d.size ≤ 4000) :
    Calls Tryz.prog 111 #[.string p, .string d] w fun e w' => e = .returned (.bool (withinB (tl p) (tl d))) ∧ Below w.heap.size w w' := by
  have HG := hid hG
  clear hG
  by_cases h0 : d.toList = []
  · have HW : Hid (withinB (tl p) (tl d) = mayB (tl p)) := by show _ = _; rw [withinB, if_pos (by rw [← toList_tl, h0])]
    go_enter Tryz.func111, Tryz.ntmps111
    go_wp2_with (go_at_call 70; refine (may_any p _ HG.out hp).mono ?_; rintro e1 w1 ⟨rfl, hb1⟩; have B1 := hid hb1; clear hb1)
    go_ret
    exact ⟨by rw [HW.out]; rfl, B1.out⟩
  · have h0' : d.toList.isEmpty = false := by simpa using h0
    have HW : Hid (withinB (tl p) (tl d) = (mayB (tl p) && mayB (tl d) && (tl d ++ [47]).isPrefixOf (tl p))) := by show _ = _; rw [withinB, if_neg (by rw [← toList_tl]; exact h0)]
    cases h1 : mayB (tl p) with
    | false =>
      have M1 : Hid (∀ W, Gd W → Calls Tryz.prog 70 #[.string p] W fun e w' => e = .returned (.bool false) ∧ Below W.heap.size W w') := by
        intro W h; rw [← h1]; exact may_any p W h hp
      have H1 := hid h1
      clear h1
      go_enter Tryz.func111, Tryz.ntmps111
      go_wp2_with (go_at_call 70; refine (M1.out _ HG.out).mono ?_; rintro e1 w1 ⟨rfl, hb1⟩; have B1 := hid hb1; clear hb1)
      go_ret
      exact ⟨by rw [HW.out, H1.out]; rfl, B1.out⟩
    | true =>
      have M1 : Hid (∀ W, Gd W → Calls Tryz.prog 70 #[.string p] W fun e w' => e = .returned (.bool true) ∧ Below W.heap.size W w') := by
        intro W h; rw [← h1]; exact may_any p W h hp
      have H1 := hid h1
      clear h1
      cases h2 : mayB (tl d) with
      | false =>
        have M2 : Hid (∀ W, Gd W → Calls Tryz.prog 70 #[.string d] W fun e w' => e = .returned (.bool false) ∧ Below W.heap.size W w') := by
          intro W h; rw [← h2]; exact may_any d W h hd
        have H2 := hid h2
        clear h2
        go_enter Tryz.func111, Tryz.ntmps111
        go_wp2_with fail
        refine (M1.out _ HG.out).mono ?_; rintro e1 w1 ⟨rfl, hb1⟩; have B1 := hid hb1; clear hb1
        go_wp2_with fail
        refine (M2.out _ (HG.out.kept B1.out)).mono ?_; rintro e2 w2 ⟨rfl, hb2⟩; have B2 : Hid (Below w.heap.size w w2) := B1.out.trans (hb2.mono B1.out.size); clear hb2
        go_wp2
        go_ret
        exact ⟨by rw [HW.out, H1.out, H2.out]; rfl, B2.out⟩
      | true =>
        have M2 : Hid (∀ W, Gd W → Calls Tryz.prog 70 #[.string d] W fun e w' => e = .returned (.bool true) ∧ Below W.heap.size W w') := by
          intro W h; rw [← h2]; exact may_any d W h hd
        have H2 := hid h2
        clear h2
        go_enter Tryz.func111, Tryz.ntmps111
        go_wp2_with fail
        refine (M1.out _ HG.out).mono ?_; rintro e1 w1 ⟨rfl, hb1⟩; have B1 := hid hb1; clear hb1
        go_wp2_with fail
        refine (M2.out _ (HG.out.kept B1.out)).mono ?_; rintro e2 w2 ⟨rfl, hb2⟩; have B2 : Hid (Below w.heap.size w w2) := B1.out.trans (hb2.mono B1.out.size); clear hb2
        go_wp2_with fail
        refine (hasPrefix_s p _ _).mono ?_; rintro e3 w3 ⟨rfl, rfl⟩
        go_wp2
        go_ret
        refine ⟨?_, B2.out⟩
        rw [HW.out, H1.out, H2.out]
        rfl
end Go.Proofs.YtlbeemlnbpchgaaGreat
