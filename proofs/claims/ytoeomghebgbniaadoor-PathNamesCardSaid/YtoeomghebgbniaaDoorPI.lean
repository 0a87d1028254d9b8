/- caravanlaw02.works and cut. Conditions: a world in which the listed variables lie. -/
import Derived.Test.YtoeomghebgbniaaDoorPH
namespace Go.Proofs.YtoeomghebgbniaaDoor
open Go.RowKit
def wkIn : ByteArray := ⟨#[100, 47, 110, 111, 116, 101, 115, 46, 116, 120, 116]⟩
def wkOut : ByteArray := ⟨#[100, 47, 110, 111, 116, 101, 115, 46, 115, 121, 110, 99, 45, 99, 111, 110, 102, 108, 105, 99, 116, 45, 48, 48, 48, 48, 48, 48, 48, 48, 55, 55, 45, 48, 51, 46, 116, 120, 116]⟩
theorem wk_may : mayB (tl wkIn) = true := by decide +kernel
theorem wk_out : ba (conflictL (tl wkIn) 77 3) = wkOut := by
  have : conflictL (tl wkIn) 77 3 = tl wkOut := by decide +kernel
  rw [this, ba_tl]
theorem wk_may1 : mayB [97, 47, 98, 32, 99] = true := by decide +kernel
theorem wk_may2 : mayB [97, 47, 47, 98] = false := by decide +kernel
set_option maxRecDepth 100000 in
set_option maxHeartbeats 400000 in
theorem works_any (w : World) (hG : Gd w) : Calls Tryd.prog 13 #[] w fun e w' => e = .returned (.bool true) ∧ Below w.heap.size w w' := by
  have HG := hid hG
  have C1 : Hid (∀ W, Gd W → Calls Tryd.prog 7 #[.string ⟨#[100, 47, 110, 111, 116, 101, 115, 46, 116, 120, 116]⟩, .int .i64 77, .int .i64 3] W fun e w' => e = .returned (.tuple #[.string wkOut, .bool true]) ∧ Below W.heap.size W w') := by
    intro W h
    have := conflict_yes wkIn 77 3 wk_may (by omega) (by omega) (by omega) (by omega) W h (by decide)
    rw [wk_out] at this; exact this
  have C2 : Hid (∀ W, Gd W → Calls Tryd.prog 34 #[.string ⟨#[97, 47, 98, 32, 99]⟩] W fun e w' => e = .returned (.bool true) ∧ Below W.heap.size W w') := by
    intro W h
    have := may_any ⟨#[97, 47, 98, 32, 99]⟩ W h (by decide)
    rw [show mayB (tl ⟨#[97, 47, 98, 32, 99]⟩) = true from wk_may1] at this; exact this
  have C3 : Hid (∀ W, Gd W → Calls Tryd.prog 34 #[.string ⟨#[97, 47, 47, 98]⟩] W fun e w' => e = .returned (.bool false) ∧ Below W.heap.size W w') := by
    intro W h
    have := may_any ⟨#[97, 47, 47, 98]⟩ W h (by decide)
    rw [show mayB (tl ⟨#[97, 47, 47, 98]⟩) = false from wk_may2] at this; exact this
  have kw : (wkOut.toList == [100, 47, 110, 111, 116, 101, 115, 46, 115, 121, 110, 99, 45, 99, 111, 110, 102, 108, 105, 99, 116, 45, 48, 48, 48, 48, 48, 48, 48, 48, 55, 55, 45, 48, 51, 46, 116, 120, 116]) = true := by
    rw [toList_tl]; decide +kernel
  clear hG
  go_enter Tryd.func13, Tryd.ntmps13
  go_wp2_with fail
  refine (C1.out _ HG.out).mono ?_; rintro e1 w1 ⟨rfl, hb1⟩; have B1 := hid hb1; clear hb1
  go_wp2_with fail
  refine (C2.out _ (HG.out.kept B1.out)).mono ?_; rintro e2 w2 ⟨rfl, hb2⟩; have B2 : Hid (Below w.heap.size w w2) := B1.out.trans (hb2.mono B1.out.size); clear hb2
  go_wp2_with fail
  refine (C3.out _ (HG.out.kept B2.out)).mono ?_; rintro e3 w3 ⟨rfl, hb3⟩; have B3 : Hid (Below w.heap.size w w3) := B2.out.trans (hb3.mono B2.out.size); clear hb3
  go_wp2
  go_ret
  exact ⟨rfl, B3.out⟩
set_option maxRecDepth 100000 in
set_option maxHeartbeats 400000 in
theorem cut_str (s : ByteArray) (w : World) (hs : s.size ≤ maxLen) : Calls Tryd.prog 4 #[.string s] w fun e w' => e = .returned (.string (ba ((tl s).take 400))) ∧ w = w' := by
  unfold maxLen at hs
  have hm : min (s.size : Int) (400 : Int) = ((min s.size 400 : Nat) : Int) := by omega
  have hle : ((min s.size 400 : Nat) : Int) ≤ (s.size : Int) := by omega
  have HT : Hid ((tl s).take (min s.size 400) = (tl s).take 400) := by
    show _ = _; rw [← tl_length s]; rw [List.take_eq_take_iff]; omega
  go_enter Tryd.func4, Tryd.ntmps4
  go_wp2
  go_ret
  refine ⟨ret_str ?_, rfl⟩
  rw [← HT.out, ← ba_take]
end Go.Proofs.YtoeomghebgbniaaDoor
