/-
  DERIVED. GIVEN WITH THE SEED: THE CARDS: each row of YtabidnlbgdecbaaGreatDoorRows.lean that lists a variable, with what it lists TIED to the program's text (the seventh form; the later family's looks); each row that meets fmt, with fmt's text TOLD by the authors' own Lean function (tested against real Go, not proved from fmt's source: count such statements apart). THE CARD IS WHAT COUNTS. Prove the row's statement (the work); the ties are given (YtabidnlbgdecbaaGreatDoorTie.lean); close each card by the builder's one call (the guide's Derived/Test/ToyasCard.lean, 'card_holds'). Laid BY PROGRAM, IN A SANDBOX (cutbox-door.mjs). By AI agents, Wed Nov 11 2026. No macro, syntax, notation, axiom, sorry.
-/
import Derived.Test.YtabidnlbgdecbaaGreatDoorRows
import GoSem.ClaimSeven
namespace Go.Proofs.YtabidnlbgdecbaaGreatDoor
namespace Rows

/-- THE TIED CARD OF 'caravanlaw19.ArchiveGoes'. -/
def archiveGoesCard : Claim7 := { stood := { row := archiveGoesRow, standIns := [], harness := (true, "48480c3f23a49de09340f6aeb27b23b5e4278d6ce0abab55c7200c3d375b6d73"), looks := true }, kinds := [], alts := [], laidByText := true, laidKinds := [.data, .data, .data, .sentinel, .sentinel], laidTests := true, laidLooks := .later }
def ArchiveGoesCardSaid : Prop := Claim7.holds Tryz.pinned (.plain (OpenSpec.ofChange archiveGoesSpec)) archiveGoesCard

/-- THE TIED CARD OF 'caravanlaw19.ArchiveKnown'. -/
def archiveKnownCard : Claim7 := { stood := { row := archiveKnownRow, standIns := [], harness := (true, "48480c3f23a49de09340f6aeb27b23b5e4278d6ce0abab55c7200c3d375b6d73"), looks := true }, kinds := [], alts := [], laidByText := true, laidKinds := [.data, .data, .data, .sentinel, .sentinel], laidTests := true, laidLooks := .later }
def ArchiveKnownCardSaid : Prop := Claim7.holds Tryz.pinned (.plain (OpenSpec.ofChange archiveKnownSpec)) archiveKnownCard

/-- THE TIED CARD OF 'caravanlaw19.ArchiveKeeps'. -/
def archiveKeepsCard : Claim7 := { stood := { row := archiveKeepsRow, standIns := [], harness := (true, "48480c3f23a49de09340f6aeb27b23b5e4278d6ce0abab55c7200c3d375b6d73"), looks := true }, kinds := [], alts := [], laidByText := true, laidKinds := [.data, .data, .data, .sentinel, .sentinel], laidTests := true, laidLooks := .later }
def ArchiveKeepsCardSaid : Prop := Claim7.holds Tryz.pinned (.plain (OpenSpec.ofChange archiveKeepsSpec)) archiveKeepsCard

/-- THE TIED CARD OF 'caravanlaw19.ArchiveBack'. -/
def archiveBackCard : Claim7 := { stood := { row := archiveBackRow, standIns := [], harness := (true, "48480c3f23a49de09340f6aeb27b23b5e4278d6ce0abab55c7200c3d375b6d73"), looks := true }, kinds := [], alts := [], laidByText := true, laidKinds := [.data, .data, .data, .sentinel, .sentinel], laidTests := true, laidLooks := .later }
def ArchiveBackCardSaid : Prop := Claim7.holds Tryz.pinned (.plain (OpenSpec.ofChange archiveBackSpec)) archiveBackCard

/-- THE TIED CARD OF 'caravanlaw19.ArchiveTurn'. -/
def archiveTurnCard : Claim7 := { stood := { row := archiveTurnRow, standIns := [], harness := (true, "48480c3f23a49de09340f6aeb27b23b5e4278d6ce0abab55c7200c3d375b6d73"), looks := true }, kinds := [], alts := [], laidByText := true, laidKinds := [.data, .data, .data, .sentinel, .sentinel], laidTests := true, laidLooks := .later }
def ArchiveTurnCardSaid : Prop := Claim7.holds Tryz.pinned (.plain (OpenSpec.ofChange archiveTurnSpec)) archiveTurnCard

/-- THE SECOND FORM's CARD OF 'caravanlaw19.ArchiveGoes'. -/
def archiveGoesUptoCard : Claim7 := { stood := { row := archiveGoesUptoRow, standIns := [], harness := (true, "48480c3f23a49de09340f6aeb27b23b5e4278d6ce0abab55c7200c3d375b6d73"), looks := true }, kinds := [], alts := [], laidByText := true, laidKinds := [.data, .data, .data, .sentinel, .sentinel], laidTests := true, laidLooks := .later }
def ArchiveGoesUptoCardSaid : Prop := Claim7.holds Tryz.pinned (.plain (OpenSpec.upto archiveGoesSpec)) archiveGoesUptoCard

/-- THE SECOND FORM's CARD OF 'caravanlaw19.ArchiveKnown'. -/
def archiveKnownUptoCard : Claim7 := { stood := { row := archiveKnownUptoRow, standIns := [], harness := (true, "48480c3f23a49de09340f6aeb27b23b5e4278d6ce0abab55c7200c3d375b6d73"), looks := true }, kinds := [], alts := [], laidByText := true, laidKinds := [.data, .data, .data, .sentinel, .sentinel], laidTests := true, laidLooks := .later }
def ArchiveKnownUptoCardSaid : Prop := Claim7.holds Tryz.pinned (.plain (OpenSpec.upto archiveKnownSpec)) archiveKnownUptoCard

/-- THE SECOND FORM's CARD OF 'caravanlaw19.ArchiveKeeps'. -/
def archiveKeepsUptoCard : Claim7 := { stood := { row := archiveKeepsUptoRow, standIns := [], harness := (true, "48480c3f23a49de09340f6aeb27b23b5e4278d6ce0abab55c7200c3d375b6d73"), looks := true }, kinds := [], alts := [], laidByText := true, laidKinds := [.data, .data, .data, .sentinel, .sentinel], laidTests := true, laidLooks := .later }
def ArchiveKeepsUptoCardSaid : Prop := Claim7.holds Tryz.pinned (.plain (OpenSpec.upto archiveKeepsSpec)) archiveKeepsUptoCard

/-- THE SECOND FORM's CARD OF 'caravanlaw19.ArchiveBack'. -/
def archiveBackUptoCard : Claim7 := { stood := { row := archiveBackUptoRow, standIns := [], harness := (true, "48480c3f23a49de09340f6aeb27b23b5e4278d6ce0abab55c7200c3d375b6d73"), looks := true }, kinds := [], alts := [], laidByText := true, laidKinds := [.data, .data, .data, .sentinel, .sentinel], laidTests := true, laidLooks := .later }
def ArchiveBackUptoCardSaid : Prop := Claim7.holds Tryz.pinned (.plain (OpenSpec.upto archiveBackSpec)) archiveBackUptoCard

/-- THE SECOND FORM's CARD OF 'caravanlaw19.ArchiveTurn'. -/
def archiveTurnUptoCard : Claim7 := { stood := { row := archiveTurnUptoRow, standIns := [], harness := (true, "48480c3f23a49de09340f6aeb27b23b5e4278d6ce0abab55c7200c3d375b6d73"), looks := true }, kinds := [], alts := [], laidByText := true, laidKinds := [.data, .data, .data, .sentinel, .sentinel], laidTests := true, laidLooks := .later }
def ArchiveTurnUptoCardSaid : Prop := Claim7.holds Tryz.pinned (.plain (OpenSpec.upto archiveTurnSpec)) archiveTurnUptoCard
end Rows
end Go.Proofs.YtabidnlbgdecbaaGreatDoor
