/- The law GlobKnown: its examples, reckoned. No program. -/
import Derived.Test.YtbbbopdlefeffaaKI
namespace Go.Proofs.Ytbbbopdlefeffaa.Glob
open Go.RowKit
def ofM (s path : By) : Bool := if 128 < s.length then false else match parseL s with | none => false | some p => matchP p.rooted p.hs path
theorem ofB_M (s path : By) : ofB s path = ofM s path := by
  unfold ofB ofM
  split
  · rfl
  · cases parseL s with
    | none => rfl
    | some p => exact mB_match _ _ _
def L1 (r : By) : List By := [[97, 42, 99], [97, 99], [97, 42, 99], [97, 98, 99], [47, 97, 42, 99], [97, 98, 99], [47, 97, 42, 99], [97, 98, 99, 47, 121], [40, 63, 105, 41, 88, 63], [120, 121], [40, 63, 105, 41, 88, 63], [88, 89], [40, 63, 105, 41, 88, 63], [122, 47, 120, 121], [91, 33, 97, 45, 99, 93, 120], [100, 120], [97, 91, 98, 45, 93, 92, 42], [97, 45, 42], [97, 91, 98, 45, 93, 92, 42], [97, 98, 42], [91, 97, 45, 99, 93], [98], [40, 63, 105, 41, 91, 97, 45, 99, 93], [66], [42, 42], r]
def L2 (r : By) : List By := [[97, 42, 99], [97, 98, 99, 100], [40, 63, 105, 41, 88, 63], [120, 47, 121], [40, 63, 105, 41, 88, 63], [120], [91, 33, 97, 45, 99, 93, 120], [97, 120], [91, 33, 97, 45, 99, 93, 120], [47, 120], [97, 91, 98, 45, 93, 92, 42], [97, 45, 98], [42, 42], r, [40, 63, 105, 41, 91, 33, 97, 45, 99, 93], [66]]
def L3 : List By := [[], [33], [47], [33, 33, 97], [91], [91, 93], [91, 98, 45, 97, 93], [92], [92, 47], [91, 97, 47, 93], [40, 63, 105, 41, 40, 63, 105, 41, 97], [40, 63, 100, 41, 33, 40, 63, 100, 41, 97], [91, 33, 93], [91, 97, 45, 47, 93], [91, 92]]
set_option maxRecDepth 100000 in
theorem known1' : ∀ j : Fin 13, ofM ((L1 (List.replicate 160 97)).getD (2 * j.val) []) ((L1 (List.replicate 160 97)).getD (2 * j.val + 1) []) = true := by decide +kernel
theorem known1 (j : Nat) (hj : j < 13) : ofB ((L1 (List.replicate 160 97)).getD (2 * j) []) ((L1 (List.replicate 160 97)).getD (2 * j + 1) []) = true := (ofB_M _ _).trans (known1' ⟨j, hj⟩)
set_option maxRecDepth 100000 in
theorem known2' : ∀ j : Fin 8, ofM ((L2 (List.replicate 161 97)).getD (2 * j.val) []) ((L2 (List.replicate 161 97)).getD (2 * j.val + 1) []) = false := by decide +kernel
theorem known2 (j : Nat) (hj : j < 8) : ofB ((L2 (List.replicate 161 97)).getD (2 * j) []) ((L2 (List.replicate 161 97)).getD (2 * j + 1) []) = false := (ofB_M _ _).trans (known2' ⟨j, hj⟩)
theorem known3' : ∀ j : Fin 15, decide (perr (L3.getD j.val []) = 4) = true := by decide +kernel
theorem known3 (j : Nat) (hj : j < 15) : decide (perr (L3.getD j []) = 4) = true := known3' ⟨j, hj⟩
set_option maxRecDepth 100000 in
theorem k129 : perr (List.replicate 129 97) = 3 := by decide +kernel
set_option maxRecDepth 100000 in
theorem k128 : perr (List.replicate 128 42) = 0 := by decide +kernel
abbrev t7 : By := [40, 63, 100, 41, 33, 40, 63, 105, 41, 47, 97]
theorem k7 : perr t7 = 0 := by decide +kernel
theorem k7p : parseL t7 = some ⟨7, true, [.byt 97]⟩ := by kernel_rfl
theorem k7m : mB true (hsOf true [.byt 97]) [65] = true := by decide +kernel
end Go.Proofs.Ytbbbopdlefeffaa.Glob
