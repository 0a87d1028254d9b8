/- path.May, Base, Parent, Within: what they answer of any text. Conditions: a world in which the listed variables lie, at most 4000 bytes. -/
import Derived.Test.YtpipkgkfhbagmaaGreatDoorPE
namespace Go.Proofs.YtpipkgkfhbagmaaGreatDoor
open Go.RowKit
theorem find_no (s : ByteArray) (h : mayB (tl s) = false) (w : World) (hG : Gd w) (hs : s.size ≤ 4000) :
    Calls Tryz.prog 39 #[.string s] w fun e w' => e = .returned (.agg #[.string ⟨#[]⟩, .string ⟨#[]⟩]) ∧ Below w.heap.size w w' := by
  have := find_any s w hG hs
  rw [findV_no h] at this; exact this
theorem find_yes (s a b : ByteArray) (h : Hid (mayB (tl s) = true ∧ ba (aheadL (tl s)) = a ∧ ba (lastP (tl s)) = b)) (w : World) (hG : Gd w) (hs : s.size ≤ 4000) :
    Calls Tryz.prog 39 #[.string s] w fun e w' => e = .returned (.agg #[.string a, .string b]) ∧ Below w.heap.size w w' := by
  have := find_any s w hG hs
  rw [findV_yes h.out.1, plc, h.out.2.1, h.out.2.2] at this; exact this
theorem last_ne {s b : ByteArray} (h : mayB (tl s) = true) (hb : ba (lastP (tl s)) = b) : ¬ b.toList = [] := by
  rw [toList_tl, ← hb, tl_ba]; exact mayB_last h
set_option maxRecDepth 100000 in
set_option maxHeartbeats 400000 in
theorem may_any (s : ByteArray) (w : World) (hG : Gd w) (hs : s.size ≤ 4000) :
    Calls Tryz.prog 19 #[.string s] w fun e w' => e = .returned (.bool (mayB (tl s))) ∧ Below w.heap.size w w' := by
  have HG := hid hG
  clear hG
  cases hm : mayB (tl s) with
  | false =>
    have HM := hid hm
    clear hm
    go_enter Tryz.func19, Tryz.ntmps19
    go_wp2_with (go_at_call 39; refine (find_no s HM.out _ HG.out hs).mono ?_; rintro e1 w1 ⟨rfl, hb1⟩; have B1 := hid hb1; clear hb1)
    go_ret
    exact ⟨rfl, B1.out⟩
  | true =>
    obtain ⟨a, b, HV⟩ : ∃ a b, Hid (mayB (tl s) = true ∧ ba (aheadL (tl s)) = a ∧ ba (lastP (tl s)) = b) := ⟨_, _, hm, rfl, rfl⟩
    have hb : ¬ b.toList = [] := last_ne hm HV.out.2.2
    clear hm
    by_cases ha : a.toList = []
    all_goals
      go_enter Tryz.func19, Tryz.ntmps19
      go_wp2_with (go_at_call 39; refine (find_yes s a b HV _ HG.out hs).mono ?_; rintro e1 w1 ⟨rfl, hb1⟩; have B1 := hid hb1; clear hb1)
      go_ret
      exact ⟨rfl, B1.out⟩
/-- Does a path lie within a directory? -/
def withinB (p d : List UInt8) : Bool := if d = [] then mayB p else mayB p && mayB d && (d ++ [47]).isPrefixOf p
theorem hasPrefix_s (s p : ByteArray) (w : World) : Calls Tryz.prog 32 #[.string s, .string p] w fun e w' => e = .returned (.bool (Lib.hasPrefix (tl s) (tl p))) ∧ w = w' :=
  (Tryz.strings_HasPrefix s p w).mono fun _ _ ⟨a, b⟩ => ⟨a, b.symm⟩
end Go.Proofs.YtpipkgkfhbagmaaGreatDoor
