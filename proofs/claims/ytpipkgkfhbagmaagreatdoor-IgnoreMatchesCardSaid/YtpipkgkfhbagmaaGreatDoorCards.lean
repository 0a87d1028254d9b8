/-
  DERIVED. GIVEN WITH THE SEED: THE CARDS: each row of YtpipkgkfhbagmaaGreatDoorRows.lean that lists a variable, with what it lists TIED to the program's text (the seventh form; the later family's looks); each row that meets fmt, with fmt's text TOLD by the authors' own Lean function (tested against real Go, not proved from fmt's source: count such statements apart). THE CARD IS WHAT COUNTS. Prove the row's statement (the work); the ties are given (YtpipkgkfhbagmaaGreatDoorTie.lean); close each card by the builder's one call (the guide's Derived/Test/ToyasCard.lean, 'card_holds'). Laid BY PROGRAM, IN A SANDBOX (cutbox-door.mjs). By AI agents, Wed Nov 11 2026. No macro, syntax, notation, axiom, sorry.
-/
import Derived.Test.YtpipkgkfhbagmaaGreatDoorRows
import GoSem.ClaimSeven
namespace Go.Proofs.YtpipkgkfhbagmaaGreatDoor
namespace Rows

/-- THE TIED CARD OF 'caravanlaw08.IgnoreMatches'. -/
def ignoreMatchesCard : Claim7 := { stood := { row := ignoreMatchesRow, standIns := [], harness := (true, "9b5dad625c156985d09f92f50552e863a5375f3060c7bc8b66dcbc18e223342d"), looks := false }, kinds := [], alts := [], laidByText := true, laidKinds := [.data, .pinned], laidTests := true, laidLooks := .later }
def IgnoreMatchesCardSaid : Prop := Claim7.holds Tryz.pinned (.plain (OpenSpec.ofChange ignoreMatchesSpec)) ignoreMatchesCard

/-- THE SECOND FORM's CARD OF 'caravanlaw08.IgnoreMatches'. -/
def ignoreMatchesUptoCard : Claim7 := { stood := { row := ignoreMatchesUptoRow, standIns := [], harness := (true, "9b5dad625c156985d09f92f50552e863a5375f3060c7bc8b66dcbc18e223342d"), looks := false }, kinds := [], alts := [], laidByText := true, laidKinds := [.data, .pinned], laidTests := true, laidLooks := .later }
def IgnoreMatchesUptoCardSaid : Prop := Claim7.holds Tryz.pinned (.plain (OpenSpec.upto ignoreMatchesSpec)) ignoreMatchesUptoCard
end Rows
end Go.Proofs.YtpipkgkfhbagmaaGreatDoor
