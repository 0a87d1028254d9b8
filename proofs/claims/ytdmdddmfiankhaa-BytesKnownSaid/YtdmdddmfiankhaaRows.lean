/-
  No cell of these rows narrows 'for every input' (looked for: loops, veiled, ifaces, maps, wideKeys, modest, calm, conditions, laid).
  DERIVED. THE GIVEN ROWS OF THIS SEAT. 9 by the template 'for every input the law returns true; each argument reads behind the call as it read before'; 0 by the template 'total and deterministic' (their statements: YtdmdddmfiankhaaTotals.lean).
  GIVEN WITH THE SEED: the statements are not yours to turn. If you find one false, say at which input.
  Laid BY PROGRAM, IN A SANDBOX (cutbox-rows.mjs): the forced cells as the released guide's own fill.sh prints them over the translation 6cb82b3e06c0834c… (all of the seat's roots in one cut). By AI agents, Wed Nov 11 2026. No macro, syntax, notation, axiom, sorry.
-/
import Derived.Test.YtdmdddmfiankhaaChecked
import GoSem.Claim
import GoSem.ClaimJoined
import GoSem.ClaimMapViews
import Derived.JoinedTies
import Derived.KernelRfl
namespace Go.Proofs.Ytdmdddmfiankhaa
/- THE CELL 'sum', in the pinned program and in every row, IS THE sha256 OF THE DUMP (.gsa) THAT YtdmdddmfiankhaaProg.lean LOADS. Nothing in Lean hashes anything: it is a label: what it is worth is what the hold of that sum in a sandbox is worth. -/
noncomputable def Try.pinned : Pinned := { name := "ytdmdddmfiankhaa", sum := "6cb82b3e06c0834c47c8b39c9574f7fdd290871e42f3a6180c662e5ed25bd46e", checked := Try.checked }
namespace Rows
def none {H : Type} : Left H := { results := [], args := [] }

/-- 'caravanlaw04.BytesLay': WHATEVER THE INPUT: true; the input reads as it did. -/
def bytesLaySpec : ChangeSpec := { name := "bytesLay", fn := fun _ => fun
  | [d1, d2, d3] => { results := [.lit (.bool true)], args := [d1, d2, d3] }
  | _ => none }
def bytesLayRow : OpenClaim := { program := "ytdmdddmfiankhaa", sum := "6cb82b3e06c0834c47c8b39c9574f7fdd290871e42f3a6180c662e5ed25bd46e", func := "caravan/caravanlaw04.BytesLay", spec := "bytesLay", apart := false }
def BytesLaySaid : Prop := bytesLayRow.holds Try.pinned (OpenSpec.ofChange bytesLaySpec)

/-- ITS FALSE NEIGHBOUR: 'it returns false'. Refute it at one input. -/
def bytesLayWrong : ChangeSpec := { name := "bytesLay", fn := fun _ => fun
  | [d1, d2, d3] => { results := [.lit (.bool false)], args := [d1, d2, d3] }
  | _ => none }
def BytesLayWrongFalsely : Prop := bytesLayRow.holds Try.pinned (OpenSpec.ofChange bytesLayWrong)

/-- 'caravanlaw04.BytesLong': WHATEVER THE INPUT: true; the input reads as it did. -/
def bytesLongSpec : ChangeSpec := { name := "bytesLong", fn := fun _ => fun
  | [d1, d2] => { results := [.lit (.bool true)], args := [d1, d2] }
  | _ => none }
def bytesLongRow : OpenClaim := { program := "ytdmdddmfiankhaa", sum := "6cb82b3e06c0834c47c8b39c9574f7fdd290871e42f3a6180c662e5ed25bd46e", func := "caravan/caravanlaw04.BytesLong", spec := "bytesLong", apart := false }
def BytesLongSaid : Prop := bytesLongRow.holds Try.pinned (OpenSpec.ofChange bytesLongSpec)

/-- ITS FALSE NEIGHBOUR: 'it returns false'. Refute it at one input. -/
def bytesLongWrong : ChangeSpec := { name := "bytesLong", fn := fun _ => fun
  | [d1, d2] => { results := [.lit (.bool false)], args := [d1, d2] }
  | _ => none }
def BytesLongWrongFalsely : Prop := bytesLongRow.holds Try.pinned (OpenSpec.ofChange bytesLongWrong)

/-- 'caravanlaw04.BytesRows': WHATEVER THE INPUT: true; the input reads as it did. -/
def bytesRowsSpec : ChangeSpec := { name := "bytesRows", fn := fun _ => fun
  | [d1, d2, d3] => { results := [.lit (.bool true)], args := [d1, d2, d3] }
  | _ => none }
def bytesRowsRow : OpenClaim := { program := "ytdmdddmfiankhaa", sum := "6cb82b3e06c0834c47c8b39c9574f7fdd290871e42f3a6180c662e5ed25bd46e", func := "caravan/caravanlaw04.BytesRows", spec := "bytesRows", unfollowed := true, recurses := true, apart := false }
def BytesRowsSaid : Prop := bytesRowsRow.holds Try.pinned (OpenSpec.ofChange bytesRowsSpec)

/-- ITS FALSE NEIGHBOUR: 'it returns false'. Refute it at one input. -/
def bytesRowsWrong : ChangeSpec := { name := "bytesRows", fn := fun _ => fun
  | [d1, d2, d3] => { results := [.lit (.bool false)], args := [d1, d2, d3] }
  | _ => none }
def BytesRowsWrongFalsely : Prop := bytesRowsRow.holds Try.pinned (OpenSpec.ofChange bytesRowsWrong)

/-- 'caravanlaw04.BytesTakes': WHATEVER THE INPUT: true; the input reads as it did. -/
def bytesTakesSpec : ChangeSpec := { name := "bytesTakes", fn := fun _ => fun
  | [d1, d2] => { results := [.lit (.bool true)], args := [d1, d2] }
  | _ => none }
def bytesTakesRow : OpenClaim := { program := "ytdmdddmfiankhaa", sum := "6cb82b3e06c0834c47c8b39c9574f7fdd290871e42f3a6180c662e5ed25bd46e", func := "caravan/caravanlaw04.BytesTakes", spec := "bytesTakes", apart := false }
def BytesTakesSaid : Prop := bytesTakesRow.holds Try.pinned (OpenSpec.ofChange bytesTakesSpec)

/-- ITS FALSE NEIGHBOUR: 'it returns false'. Refute it at one input. -/
def bytesTakesWrong : ChangeSpec := { name := "bytesTakes", fn := fun _ => fun
  | [d1, d2] => { results := [.lit (.bool false)], args := [d1, d2] }
  | _ => none }
def BytesTakesWrongFalsely : Prop := bytesTakesRow.holds Try.pinned (OpenSpec.ofChange bytesTakesWrong)

/-- 'caravanlaw04.BytesBack': WHATEVER THE INPUT: true; the input reads as it did. -/
def bytesBackSpec : ChangeSpec := { name := "bytesBack", fn := fun _ => fun
  | [d1, d2] => { results := [.lit (.bool true)], args := [d1, d2] }
  | _ => none }
def bytesBackRow : OpenClaim := { program := "ytdmdddmfiankhaa", sum := "6cb82b3e06c0834c47c8b39c9574f7fdd290871e42f3a6180c662e5ed25bd46e", func := "caravan/caravanlaw04.BytesBack", spec := "bytesBack", apart := false }
def BytesBackSaid : Prop := bytesBackRow.holds Try.pinned (OpenSpec.ofChange bytesBackSpec)

/-- ITS FALSE NEIGHBOUR: 'it returns false'. Refute it at one input. -/
def bytesBackWrong : ChangeSpec := { name := "bytesBack", fn := fun _ => fun
  | [d1, d2] => { results := [.lit (.bool false)], args := [d1, d2] }
  | _ => none }
def BytesBackWrongFalsely : Prop := bytesBackRow.holds Try.pinned (OpenSpec.ofChange bytesBackWrong)

/-- 'caravanlaw04.BytesCut': WHATEVER THE INPUT: true; the input reads as it did. -/
def bytesCutSpec : ChangeSpec := { name := "bytesCut", fn := fun _ => fun
  | [d1, d2] => { results := [.lit (.bool true)], args := [d1, d2] }
  | _ => none }
def bytesCutRow : OpenClaim := { program := "ytdmdddmfiankhaa", sum := "6cb82b3e06c0834c47c8b39c9574f7fdd290871e42f3a6180c662e5ed25bd46e", func := "caravan/caravanlaw04.BytesCut", spec := "bytesCut", apart := false }
def BytesCutSaid : Prop := bytesCutRow.holds Try.pinned (OpenSpec.ofChange bytesCutSpec)

/-- ITS FALSE NEIGHBOUR: 'it returns false'. Refute it at one input. -/
def bytesCutWrong : ChangeSpec := { name := "bytesCut", fn := fun _ => fun
  | [d1, d2] => { results := [.lit (.bool false)], args := [d1, d2] }
  | _ => none }
def BytesCutWrongFalsely : Prop := bytesCutRow.holds Try.pinned (OpenSpec.ofChange bytesCutWrong)

/-- 'caravanlaw04.BytesOnce': WHATEVER THE INPUT: true; the input reads as it did. -/
def bytesOnceSpec : ChangeSpec := { name := "bytesOnce", fn := fun _ => fun
  | [d] => { results := [.lit (.bool true)], args := [d] }
  | _ => none }
def bytesOnceRow : OpenClaim := { program := "ytdmdddmfiankhaa", sum := "6cb82b3e06c0834c47c8b39c9574f7fdd290871e42f3a6180c662e5ed25bd46e", func := "caravan/caravanlaw04.BytesOnce", spec := "bytesOnce", apart := false }
def BytesOnceSaid : Prop := bytesOnceRow.holds Try.pinned (OpenSpec.ofChange bytesOnceSpec)

/-- ITS FALSE NEIGHBOUR: 'it returns false'. Refute it at one input. -/
def bytesOnceWrong : ChangeSpec := { name := "bytesOnce", fn := fun _ => fun
  | [d] => { results := [.lit (.bool false)], args := [d] }
  | _ => none }
def BytesOnceWrongFalsely : Prop := bytesOnceRow.holds Try.pinned (OpenSpec.ofChange bytesOnceWrong)

/-- 'caravanlaw04.BytesTorn': WHATEVER THE INPUT: true; the input reads as it did. -/
def bytesTornSpec : ChangeSpec := { name := "bytesTorn", fn := fun _ => fun
  | [d1, d2] => { results := [.lit (.bool true)], args := [d1, d2] }
  | _ => none }
def bytesTornRow : OpenClaim := { program := "ytdmdddmfiankhaa", sum := "6cb82b3e06c0834c47c8b39c9574f7fdd290871e42f3a6180c662e5ed25bd46e", func := "caravan/caravanlaw04.BytesTorn", spec := "bytesTorn", unfollowed := true, recurses := true, apart := false }
def BytesTornSaid : Prop := bytesTornRow.holds Try.pinned (OpenSpec.ofChange bytesTornSpec)

/-- ITS FALSE NEIGHBOUR: 'it returns false'. Refute it at one input. -/
def bytesTornWrong : ChangeSpec := { name := "bytesTorn", fn := fun _ => fun
  | [d1, d2] => { results := [.lit (.bool false)], args := [d1, d2] }
  | _ => none }
def BytesTornWrongFalsely : Prop := bytesTornRow.holds Try.pinned (OpenSpec.ofChange bytesTornWrong)

/-- 'caravanlaw04.BytesKnown': WHATEVER THE INPUT: true; the input reads as it did. -/
def bytesKnownSpec : ChangeSpec := { name := "bytesKnown", fn := fun _ => fun
  | [] => { results := [.lit (.bool true)], args := [] }
  | _ => none }
def bytesKnownRow : OpenClaim := { program := "ytdmdddmfiankhaa", sum := "6cb82b3e06c0834c47c8b39c9574f7fdd290871e42f3a6180c662e5ed25bd46e", func := "caravan/caravanlaw04.BytesKnown", spec := "bytesKnown", unfollowed := true, recurses := true, apart := false }
def BytesKnownSaid : Prop := bytesKnownRow.holds Try.pinned (OpenSpec.ofChange bytesKnownSpec)

/-- ITS FALSE NEIGHBOUR: 'it returns false'. Refute it at one input. -/
def bytesKnownWrong : ChangeSpec := { name := "bytesKnown", fn := fun _ => fun
  | [] => { results := [.lit (.bool false)], args := [] }
  | _ => none }
def BytesKnownWrongFalsely : Prop := bytesKnownRow.holds Try.pinned (OpenSpec.ofChange bytesKnownWrong)

/- THE SECOND FORM. 'bulk': how many values and letters a reading holds, each counted each time it is reached (what is shared counts as often as it is met; a slice's spare places count too). A statement '..UptoSaid' is the law's where the arguments, and the package variables that the reading takes, are together of bulk at most 1048576: NARROWER than '..Said'. Prove '..Said' where nothing that the law and all that it calls make is longer than what came in: it says more and counts as full. Else prove '..UptoSaid'. A law counts once. -/
mutual
def uptoBulk {H : Type} : DataW H → Nat
  | .lit (.string bytes) => bytes.length + 1
  | .lit _ => 1
  | .nil => 1
  | .ptr d => uptoBulk d + 1
  | .slice elems spare => uptoBulkAll elems + uptoBulkAll spare + 1
  | .agg parts => uptoBulkAll parts + 1
  | .iface _ d => uptoBulk d + 1
  | .map entries => uptoBulkEntries entries + 1
  | .held _ => 1
def uptoBulkAll {H : Type} : List (DataW H) → Nat
  | [] => 0
  | d :: r => uptoBulk d + uptoBulkAll r
def uptoBulkEntries {H : Type} : List (Lit × DataW H) → Nat
  | [] => 0
  | x :: r => uptoBulkEntry x + uptoBulkEntries r
def uptoBulkEntry {H : Type} : Lit × DataW H → Nat
  | (.string bytes, d) => bytes.length + uptoBulk d + 1
  | (_, d) => uptoBulk d + 1
 end
def uptoSmall : (H : Type) → List (DataW H) → Bool := fun _ ds => decide (uptoBulkAll ds ≤ 1048576)
def OpenSpec.upto (s : _root_.Go.ChangeSpec) : _root_.Go.OpenSpec := { _root_.Go.OpenSpec.ofChange s with cond := some uptoSmall }

/-- 'caravanlaw04.BytesLay', WHERE WHAT IT READS IS OF BULK AT MOST 1048576: true; the input reads as it did. -/
def bytesLayUptoRow : OpenClaim := { program := "ytdmdddmfiankhaa", sum := "6cb82b3e06c0834c47c8b39c9574f7fdd290871e42f3a6180c662e5ed25bd46e", func := "caravan/caravanlaw04.BytesLay", spec := "bytesLay", apart := false, narrowed := true }
def BytesLayUptoSaid : Prop := bytesLayUptoRow.holds Try.pinned (OpenSpec.upto bytesLaySpec)

/-- 'caravanlaw04.BytesLong', WHERE WHAT IT READS IS OF BULK AT MOST 1048576: true; the input reads as it did. -/
def bytesLongUptoRow : OpenClaim := { program := "ytdmdddmfiankhaa", sum := "6cb82b3e06c0834c47c8b39c9574f7fdd290871e42f3a6180c662e5ed25bd46e", func := "caravan/caravanlaw04.BytesLong", spec := "bytesLong", apart := false, narrowed := true }
def BytesLongUptoSaid : Prop := bytesLongUptoRow.holds Try.pinned (OpenSpec.upto bytesLongSpec)

/-- 'caravanlaw04.BytesRows', WHERE WHAT IT READS IS OF BULK AT MOST 1048576: true; the input reads as it did. -/
def bytesRowsUptoRow : OpenClaim := { program := "ytdmdddmfiankhaa", sum := "6cb82b3e06c0834c47c8b39c9574f7fdd290871e42f3a6180c662e5ed25bd46e", func := "caravan/caravanlaw04.BytesRows", spec := "bytesRows", unfollowed := true, recurses := true, apart := false, narrowed := true }
def BytesRowsUptoSaid : Prop := bytesRowsUptoRow.holds Try.pinned (OpenSpec.upto bytesRowsSpec)

/-- 'caravanlaw04.BytesTakes', WHERE WHAT IT READS IS OF BULK AT MOST 1048576: true; the input reads as it did. -/
def bytesTakesUptoRow : OpenClaim := { program := "ytdmdddmfiankhaa", sum := "6cb82b3e06c0834c47c8b39c9574f7fdd290871e42f3a6180c662e5ed25bd46e", func := "caravan/caravanlaw04.BytesTakes", spec := "bytesTakes", apart := false, narrowed := true }
def BytesTakesUptoSaid : Prop := bytesTakesUptoRow.holds Try.pinned (OpenSpec.upto bytesTakesSpec)

/-- 'caravanlaw04.BytesBack', WHERE WHAT IT READS IS OF BULK AT MOST 1048576: true; the input reads as it did. -/
def bytesBackUptoRow : OpenClaim := { program := "ytdmdddmfiankhaa", sum := "6cb82b3e06c0834c47c8b39c9574f7fdd290871e42f3a6180c662e5ed25bd46e", func := "caravan/caravanlaw04.BytesBack", spec := "bytesBack", apart := false, narrowed := true }
def BytesBackUptoSaid : Prop := bytesBackUptoRow.holds Try.pinned (OpenSpec.upto bytesBackSpec)

/-- 'caravanlaw04.BytesCut', WHERE WHAT IT READS IS OF BULK AT MOST 1048576: true; the input reads as it did. -/
def bytesCutUptoRow : OpenClaim := { program := "ytdmdddmfiankhaa", sum := "6cb82b3e06c0834c47c8b39c9574f7fdd290871e42f3a6180c662e5ed25bd46e", func := "caravan/caravanlaw04.BytesCut", spec := "bytesCut", apart := false, narrowed := true }
def BytesCutUptoSaid : Prop := bytesCutUptoRow.holds Try.pinned (OpenSpec.upto bytesCutSpec)

/-- 'caravanlaw04.BytesOnce', WHERE WHAT IT READS IS OF BULK AT MOST 1048576: true; the input reads as it did. -/
def bytesOnceUptoRow : OpenClaim := { program := "ytdmdddmfiankhaa", sum := "6cb82b3e06c0834c47c8b39c9574f7fdd290871e42f3a6180c662e5ed25bd46e", func := "caravan/caravanlaw04.BytesOnce", spec := "bytesOnce", apart := false, narrowed := true }
def BytesOnceUptoSaid : Prop := bytesOnceUptoRow.holds Try.pinned (OpenSpec.upto bytesOnceSpec)

/-- 'caravanlaw04.BytesTorn', WHERE WHAT IT READS IS OF BULK AT MOST 1048576: true; the input reads as it did. -/
def bytesTornUptoRow : OpenClaim := { program := "ytdmdddmfiankhaa", sum := "6cb82b3e06c0834c47c8b39c9574f7fdd290871e42f3a6180c662e5ed25bd46e", func := "caravan/caravanlaw04.BytesTorn", spec := "bytesTorn", unfollowed := true, recurses := true, apart := false, narrowed := true }
def BytesTornUptoSaid : Prop := bytesTornUptoRow.holds Try.pinned (OpenSpec.upto bytesTornSpec)

/-- 'caravanlaw04.BytesKnown', WHERE WHAT IT READS IS OF BULK AT MOST 1048576: true; the input reads as it did. -/
def bytesKnownUptoRow : OpenClaim := { program := "ytdmdddmfiankhaa", sum := "6cb82b3e06c0834c47c8b39c9574f7fdd290871e42f3a6180c662e5ed25bd46e", func := "caravan/caravanlaw04.BytesKnown", spec := "bytesKnown", unfollowed := true, recurses := true, apart := false, narrowed := true }
def BytesKnownUptoSaid : Prop := bytesKnownUptoRow.holds Try.pinned (OpenSpec.upto bytesKnownSpec)

end Rows
end Go.Proofs.Ytdmdddmfiankhaa
