/-
  DERIVED. GIVEN WITH THE SEED: THE CARDS: each row of YtahkcemdbfjilaaGreatDoorRows.lean that lists a variable, with what it lists TIED to the program's text (the seventh form; the later family's looks); each row that meets fmt, with fmt's text TOLD by the authors' own Lean function (tested against real Go, not proved from fmt's source: count such statements apart). THE CARD IS WHAT COUNTS. Prove the row's statement (the work); the ties are given (YtahkcemdbfjilaaGreatDoorTie.lean); close each card by the builder's one call (the guide's Derived/Test/ToyasCard.lean, 'card_holds'). Laid BY PROGRAM, IN A SANDBOX (cutbox-door.mjs). By AI agents, Wed Nov 11 2026. No macro, syntax, notation, axiom, sorry.
-/
import Derived.Test.YtahkcemdbfjilaaGreatDoorRows
import GoSem.ClaimSeven
namespace Go.Proofs.YtahkcemdbfjilaaGreatDoor
namespace Rows

/-- THE TIED CARD OF 'caravanlaw17.WalkFinds'. -/
def walkFindsCard : Claim7 := { stood := { row := walkFindsRow, standIns := [], harness := (true, "1216c860bcd7e6bccceab7fedb0008ce5430f84bf76c7ab633c2b8ff50a25b22"), looks := false }, kinds := [], alts := [], laidByText := true, laidKinds := [.data, .data, .pinned], laidTests := true, laidLooks := .later }
def WalkFindsCardSaid : Prop := Claim7.holds Tryz.pinned (.plain (OpenSpec.ofChange walkFindsSpec)) walkFindsCard

/-- THE TIED CARD OF 'caravanlaw17.WalkItems'. -/
def walkItemsCard : Claim7 := { stood := { row := walkItemsRow, standIns := [], harness := (true, "1216c860bcd7e6bccceab7fedb0008ce5430f84bf76c7ab633c2b8ff50a25b22"), looks := false }, kinds := [], alts := [], laidByText := true, laidKinds := [.data, .data, .pinned], laidTests := true, laidLooks := .later }
def WalkItemsCardSaid : Prop := Claim7.holds Tryz.pinned (.plain (OpenSpec.ofChange walkItemsSpec)) walkItemsCard

/-- THE TIED CARD OF 'caravanlaw17.WalkKnown'. -/
def walkKnownCard : Claim7 := { stood := { row := walkKnownRow, standIns := [], harness := (true, "1216c860bcd7e6bccceab7fedb0008ce5430f84bf76c7ab633c2b8ff50a25b22"), looks := false }, kinds := [], alts := [], laidByText := true, laidKinds := [.data, .data, .pinned], laidTests := true, laidLooks := .later }
def WalkKnownCardSaid : Prop := Claim7.holds Tryz.pinned (.plain (OpenSpec.ofChange walkKnownSpec)) walkKnownCard

/-- THE TIED CARD OF 'caravanlaw17.WalkAll'. -/
def walkAllCard : Claim7 := { stood := { row := walkAllRow, standIns := [], harness := (true, "1216c860bcd7e6bccceab7fedb0008ce5430f84bf76c7ab633c2b8ff50a25b22"), looks := false }, kinds := [], alts := [], laidByText := true, laidKinds := [.data, .data, .pinned], laidTests := true, laidLooks := .later }
def WalkAllCardSaid : Prop := Claim7.holds Tryz.pinned (.plain (OpenSpec.ofChange walkAllSpec)) walkAllCard

/-- THE TIED CARD OF 'caravanlaw17.WalkLess'. -/
def walkLessCard : Claim7 := { stood := { row := walkLessRow, standIns := [], harness := (true, "1216c860bcd7e6bccceab7fedb0008ce5430f84bf76c7ab633c2b8ff50a25b22"), looks := false }, kinds := [], alts := [], laidByText := true, laidKinds := [.data, .data, .pinned], laidTests := true, laidLooks := .later }
def WalkLessCardSaid : Prop := Claim7.holds Tryz.pinned (.plain (OpenSpec.ofChange walkLessSpec)) walkLessCard

/-- THE SECOND FORM's CARD OF 'caravanlaw17.WalkFinds'. -/
def walkFindsUptoCard : Claim7 := { stood := { row := walkFindsUptoRow, standIns := [], harness := (true, "1216c860bcd7e6bccceab7fedb0008ce5430f84bf76c7ab633c2b8ff50a25b22"), looks := false }, kinds := [], alts := [], laidByText := true, laidKinds := [.data, .data, .pinned], laidTests := true, laidLooks := .later }
def WalkFindsUptoCardSaid : Prop := Claim7.holds Tryz.pinned (.plain (OpenSpec.upto walkFindsSpec)) walkFindsUptoCard

/-- THE SECOND FORM's CARD OF 'caravanlaw17.WalkItems'. -/
def walkItemsUptoCard : Claim7 := { stood := { row := walkItemsUptoRow, standIns := [], harness := (true, "1216c860bcd7e6bccceab7fedb0008ce5430f84bf76c7ab633c2b8ff50a25b22"), looks := false }, kinds := [], alts := [], laidByText := true, laidKinds := [.data, .data, .pinned], laidTests := true, laidLooks := .later }
def WalkItemsUptoCardSaid : Prop := Claim7.holds Tryz.pinned (.plain (OpenSpec.upto walkItemsSpec)) walkItemsUptoCard

/-- THE SECOND FORM's CARD OF 'caravanlaw17.WalkKnown'. -/
def walkKnownUptoCard : Claim7 := { stood := { row := walkKnownUptoRow, standIns := [], harness := (true, "1216c860bcd7e6bccceab7fedb0008ce5430f84bf76c7ab633c2b8ff50a25b22"), looks := false }, kinds := [], alts := [], laidByText := true, laidKinds := [.data, .data, .pinned], laidTests := true, laidLooks := .later }
def WalkKnownUptoCardSaid : Prop := Claim7.holds Tryz.pinned (.plain (OpenSpec.upto walkKnownSpec)) walkKnownUptoCard

/-- THE SECOND FORM's CARD OF 'caravanlaw17.WalkAll'. -/
def walkAllUptoCard : Claim7 := { stood := { row := walkAllUptoRow, standIns := [], harness := (true, "1216c860bcd7e6bccceab7fedb0008ce5430f84bf76c7ab633c2b8ff50a25b22"), looks := false }, kinds := [], alts := [], laidByText := true, laidKinds := [.data, .data, .pinned], laidTests := true, laidLooks := .later }
def WalkAllUptoCardSaid : Prop := Claim7.holds Tryz.pinned (.plain (OpenSpec.upto walkAllSpec)) walkAllUptoCard

/-- THE SECOND FORM's CARD OF 'caravanlaw17.WalkLess'. -/
def walkLessUptoCard : Claim7 := { stood := { row := walkLessUptoRow, standIns := [], harness := (true, "1216c860bcd7e6bccceab7fedb0008ce5430f84bf76c7ab633c2b8ff50a25b22"), looks := false }, kinds := [], alts := [], laidByText := true, laidKinds := [.data, .data, .pinned], laidTests := true, laidLooks := .later }
def WalkLessUptoCardSaid : Prop := Claim7.holds Tryz.pinned (.plain (OpenSpec.upto walkLessSpec)) walkLessUptoCard
end Rows
end Go.Proofs.YtahkcemdbfjilaaGreatDoor
