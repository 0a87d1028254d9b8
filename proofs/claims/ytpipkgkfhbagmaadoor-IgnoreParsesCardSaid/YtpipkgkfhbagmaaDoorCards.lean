/-
  DERIVED. GIVEN WITH THE SEED: THE CARDS: each row of YtpipkgkfhbagmaaDoorRows.lean that lists a variable, with what it lists TIED to the program's text (the seventh form; the later family's looks); each row that meets fmt, with fmt's text TOLD by the authors' own Lean function (tested against real Go, not proved from fmt's source: count such statements apart). THE CARD IS WHAT COUNTS. Prove the row's statement (the work); the ties are given (YtpipkgkfhbagmaaDoorTie.lean); close each card by the builder's one call (the guide's Derived/Test/ToyasCard.lean, 'card_holds'). Laid BY PROGRAM, IN A SANDBOX (cutbox-door.mjs). By AI agents, Wed Nov 11 2026. No macro, syntax, notation, axiom, sorry.
-/
import Derived.Test.YtpipkgkfhbagmaaDoorRows
import GoSem.ClaimSeven
namespace Go.Proofs.YtpipkgkfhbagmaaDoor
namespace Rows

/-- THE TIED CARD OF 'caravanlaw08.IgnoreParses'. -/
def ignoreParsesCard : Claim7 := { stood := { row := ignoreParsesRow, standIns := [], harness := (true, "c98eb18c6df67192f9fe5195acac3c0ca393a6d01727d41522649a5c95f3df03"), looks := false }, kinds := [], alts := [], laidByText := true, laidKinds := [.data, .pinned], laidTests := true, laidLooks := .later }
def IgnoreParsesCardSaid : Prop := Claim7.holds Tryd.pinned (.plain (OpenSpec.ofChange ignoreParsesSpec)) ignoreParsesCard

/-- THE TIED CARD OF 'caravanlaw08.IgnoreAgain'. -/
def ignoreAgainCard : Claim7 := { stood := { row := ignoreAgainRow, standIns := [], harness := (true, "c98eb18c6df67192f9fe5195acac3c0ca393a6d01727d41522649a5c95f3df03"), looks := false }, kinds := [], alts := [], laidByText := true, laidKinds := [.data, .pinned], laidTests := true, laidLooks := .later }
def IgnoreAgainCardSaid : Prop := Claim7.holds Tryd.pinned (.plain (OpenSpec.ofChange ignoreAgainSpec)) ignoreAgainCard

/-- THE TIED CARD OF 'caravanlaw08.IgnoreFirst'. -/
def ignoreFirstCard : Claim7 := { stood := { row := ignoreFirstRow, standIns := [], harness := (true, "c98eb18c6df67192f9fe5195acac3c0ca393a6d01727d41522649a5c95f3df03"), looks := false }, kinds := [], alts := [], laidByText := true, laidKinds := [.data, .pinned], laidTests := true, laidLooks := .later }
def IgnoreFirstCardSaid : Prop := Claim7.holds Tryd.pinned (.plain (OpenSpec.ofChange ignoreFirstSpec)) ignoreFirstCard

/-- THE TIED CARD OF 'caravanlaw08.IgnoreWithin'. -/
def ignoreWithinCard : Claim7 := { stood := { row := ignoreWithinRow, standIns := [], harness := (true, "c98eb18c6df67192f9fe5195acac3c0ca393a6d01727d41522649a5c95f3df03"), looks := false }, kinds := [], alts := [], laidByText := true, laidKinds := [.data, .pinned], laidTests := true, laidLooks := .later }
def IgnoreWithinCardSaid : Prop := Claim7.holds Tryd.pinned (.plain (OpenSpec.ofChange ignoreWithinSpec)) ignoreWithinCard

/-- THE TIED CARD OF 'caravanlaw08.IgnoreDeep'. -/
def ignoreDeepCard : Claim7 := { stood := { row := ignoreDeepRow, standIns := [], harness := (true, "c98eb18c6df67192f9fe5195acac3c0ca393a6d01727d41522649a5c95f3df03"), looks := false }, kinds := [], alts := [], laidByText := true, laidKinds := [.data, .data, .data, .data, .pinned], laidTests := true, laidLooks := .later }
def IgnoreDeepCardSaid : Prop := Claim7.holds Tryd.pinned (.plain (OpenSpec.ofChange ignoreDeepSpec)) ignoreDeepCard

/-- THE TIED CARD OF 'caravanlaw08.IgnoreKnown'. -/
def ignoreKnownCard : Claim7 := { stood := { row := ignoreKnownRow, standIns := [], harness := (true, "c98eb18c6df67192f9fe5195acac3c0ca393a6d01727d41522649a5c95f3df03"), looks := false }, kinds := [], alts := [], laidByText := true, laidKinds := [.data, .pinned], laidTests := true, laidLooks := .later }
def IgnoreKnownCardSaid : Prop := Claim7.holds Tryd.pinned (.plain (OpenSpec.ofChange ignoreKnownSpec)) ignoreKnownCard

/-- THE SECOND FORM's CARD OF 'caravanlaw08.IgnoreParses'. -/
def ignoreParsesUptoCard : Claim7 := { stood := { row := ignoreParsesUptoRow, standIns := [], harness := (true, "c98eb18c6df67192f9fe5195acac3c0ca393a6d01727d41522649a5c95f3df03"), looks := false }, kinds := [], alts := [], laidByText := true, laidKinds := [.data, .pinned], laidTests := true, laidLooks := .later }
def IgnoreParsesUptoCardSaid : Prop := Claim7.holds Tryd.pinned (.plain (OpenSpec.upto ignoreParsesSpec)) ignoreParsesUptoCard

/-- THE SECOND FORM's CARD OF 'caravanlaw08.IgnoreAgain'. -/
def ignoreAgainUptoCard : Claim7 := { stood := { row := ignoreAgainUptoRow, standIns := [], harness := (true, "c98eb18c6df67192f9fe5195acac3c0ca393a6d01727d41522649a5c95f3df03"), looks := false }, kinds := [], alts := [], laidByText := true, laidKinds := [.data, .pinned], laidTests := true, laidLooks := .later }
def IgnoreAgainUptoCardSaid : Prop := Claim7.holds Tryd.pinned (.plain (OpenSpec.upto ignoreAgainSpec)) ignoreAgainUptoCard

/-- THE SECOND FORM's CARD OF 'caravanlaw08.IgnoreFirst'. -/
def ignoreFirstUptoCard : Claim7 := { stood := { row := ignoreFirstUptoRow, standIns := [], harness := (true, "c98eb18c6df67192f9fe5195acac3c0ca393a6d01727d41522649a5c95f3df03"), looks := false }, kinds := [], alts := [], laidByText := true, laidKinds := [.data, .pinned], laidTests := true, laidLooks := .later }
def IgnoreFirstUptoCardSaid : Prop := Claim7.holds Tryd.pinned (.plain (OpenSpec.upto ignoreFirstSpec)) ignoreFirstUptoCard

/-- THE SECOND FORM's CARD OF 'caravanlaw08.IgnoreWithin'. -/
def ignoreWithinUptoCard : Claim7 := { stood := { row := ignoreWithinUptoRow, standIns := [], harness := (true, "c98eb18c6df67192f9fe5195acac3c0ca393a6d01727d41522649a5c95f3df03"), looks := false }, kinds := [], alts := [], laidByText := true, laidKinds := [.data, .pinned], laidTests := true, laidLooks := .later }
def IgnoreWithinUptoCardSaid : Prop := Claim7.holds Tryd.pinned (.plain (OpenSpec.upto ignoreWithinSpec)) ignoreWithinUptoCard

/-- THE SECOND FORM's CARD OF 'caravanlaw08.IgnoreDeep'. -/
def ignoreDeepUptoCard : Claim7 := { stood := { row := ignoreDeepUptoRow, standIns := [], harness := (true, "c98eb18c6df67192f9fe5195acac3c0ca393a6d01727d41522649a5c95f3df03"), looks := false }, kinds := [], alts := [], laidByText := true, laidKinds := [.data, .data, .data, .data, .pinned], laidTests := true, laidLooks := .later }
def IgnoreDeepUptoCardSaid : Prop := Claim7.holds Tryd.pinned (.plain (OpenSpec.upto ignoreDeepSpec)) ignoreDeepUptoCard

/-- THE SECOND FORM's CARD OF 'caravanlaw08.IgnoreKnown'. -/
def ignoreKnownUptoCard : Claim7 := { stood := { row := ignoreKnownUptoRow, standIns := [], harness := (true, "c98eb18c6df67192f9fe5195acac3c0ca393a6d01727d41522649a5c95f3df03"), looks := false }, kinds := [], alts := [], laidByText := true, laidKinds := [.data, .pinned], laidTests := true, laidLooks := .later }
def IgnoreKnownUptoCardSaid : Prop := Claim7.holds Tryd.pinned (.plain (OpenSpec.upto ignoreKnownSpec)) ignoreKnownUptoCard
end Rows
end Go.Proofs.YtpipkgkfhbagmaaDoor
