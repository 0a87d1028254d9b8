/-
  No cell of these rows narrows 'for every input' (looked for: loops, veiled, ifaces, maps, wideKeys, modest, calm, conditions, laid).
  DERIVED. THE GIVEN ROWS OF THIS SEAT. 6 by the template 'for every input the law returns true; each argument reads behind the call as it read before'; 0 by the template 'total and deterministic' (their statements: YtmmbnobbpnndkaaTotals.lean).
  GIVEN WITH THE SEED: the statements are not yours to turn. If you find one false, say at which input.
  Laid BY PROGRAM, IN A SANDBOX (cutbox-rows.mjs): the forced cells as the released guide's own fill.sh prints them over the translation d72dc8af7c5f844b… (all of the seat's roots in one cut). By AI agents, Wed Nov 11 2026. No macro, syntax, notation, axiom, sorry.
-/
import Derived.Test.YtmmbnobbpnndkaaChecked
import GoSem.Claim
import GoSem.ClaimJoined
import GoSem.ClaimMapViews
import Derived.JoinedTies
import Derived.KernelRfl
namespace Go.Proofs.Ytmmbnobbpnndkaa
/- THE CELL 'sum', in the pinned program and in every row, IS THE sha256 OF THE DUMP (.gsa) THAT YtmmbnobbpnndkaaProg.lean LOADS. Nothing in Lean hashes anything: it is a label: what it is worth is what the hold of that sum in a sandbox is worth. -/
noncomputable def Try.pinned : Pinned := { name := "ytmmbnobbpnndkaa", sum := "d72dc8af7c5f844b6f992e423d3f7cc0bfe8918145206a08afab00146201a53d", checked := Try.checked }
namespace Rows
def none {H : Type} : Left H := { results := [], args := [] }

/-- 'caravanlaw03.VectorBumps': WHATEVER THE INPUT: true; the input reads as it did. -/
def vectorBumpsSpec : ChangeSpec := { name := "vectorBumps", fn := fun _ => fun
  | [d1, d2, d3] => { results := [.lit (.bool true)], args := [d1, d2, d3] }
  | _ => none }
def vectorBumpsRow : OpenClaim := { program := "ytmmbnobbpnndkaa", sum := "d72dc8af7c5f844b6f992e423d3f7cc0bfe8918145206a08afab00146201a53d", func := "caravan/caravanlaw03.VectorBumps", spec := "vectorBumps", apart := false }
def VectorBumpsSaid : Prop := vectorBumpsRow.holds Try.pinned (OpenSpec.ofChange vectorBumpsSpec)

/-- ITS FALSE NEIGHBOUR: 'it returns false'. Refute it at one input. -/
def vectorBumpsWrong : ChangeSpec := { name := "vectorBumps", fn := fun _ => fun
  | [d1, d2, d3] => { results := [.lit (.bool false)], args := [d1, d2, d3] }
  | _ => none }
def VectorBumpsWrongFalsely : Prop := vectorBumpsRow.holds Try.pinned (OpenSpec.ofChange vectorBumpsWrong)

/-- 'caravanlaw03.VectorPairs': WHATEVER THE INPUT: true; the input reads as it did. -/
def vectorPairsSpec : ChangeSpec := { name := "vectorPairs", fn := fun _ => fun
  | [d1, d2] => { results := [.lit (.bool true)], args := [d1, d2] }
  | _ => none }
def vectorPairsRow : OpenClaim := { program := "ytmmbnobbpnndkaa", sum := "d72dc8af7c5f844b6f992e423d3f7cc0bfe8918145206a08afab00146201a53d", func := "caravan/caravanlaw03.VectorPairs", spec := "vectorPairs", apart := false }
def VectorPairsSaid : Prop := vectorPairsRow.holds Try.pinned (OpenSpec.ofChange vectorPairsSpec)

/-- ITS FALSE NEIGHBOUR: 'it returns false'. Refute it at one input. -/
def vectorPairsWrong : ChangeSpec := { name := "vectorPairs", fn := fun _ => fun
  | [d1, d2] => { results := [.lit (.bool false)], args := [d1, d2] }
  | _ => none }
def VectorPairsWrongFalsely : Prop := vectorPairsRow.holds Try.pinned (OpenSpec.ofChange vectorPairsWrong)

/-- 'caravanlaw03.VectorMerges': WHATEVER THE INPUT: true; the input reads as it did. -/
def vectorMergesSpec : ChangeSpec := { name := "vectorMerges", fn := fun _ => fun
  | [d] => { results := [.lit (.bool true)], args := [d] }
  | _ => none }
def vectorMergesRow : OpenClaim := { program := "ytmmbnobbpnndkaa", sum := "d72dc8af7c5f844b6f992e423d3f7cc0bfe8918145206a08afab00146201a53d", func := "caravan/caravanlaw03.VectorMerges", spec := "vectorMerges", apart := false }
def VectorMergesSaid : Prop := vectorMergesRow.holds Try.pinned (OpenSpec.ofChange vectorMergesSpec)

/-- ITS FALSE NEIGHBOUR: 'it returns false'. Refute it at one input. -/
def vectorMergesWrong : ChangeSpec := { name := "vectorMerges", fn := fun _ => fun
  | [d] => { results := [.lit (.bool false)], args := [d] }
  | _ => none }
def VectorMergesWrongFalsely : Prop := vectorMergesRow.holds Try.pinned (OpenSpec.ofChange vectorMergesWrong)

/-- 'caravanlaw03.VectorKnown': WHATEVER THE INPUT: true; the input reads as it did. -/
def vectorKnownSpec : ChangeSpec := { name := "vectorKnown", fn := fun _ => fun
  | [] => { results := [.lit (.bool true)], args := [] }
  | _ => none }
def vectorKnownRow : OpenClaim := { program := "ytmmbnobbpnndkaa", sum := "d72dc8af7c5f844b6f992e423d3f7cc0bfe8918145206a08afab00146201a53d", func := "caravan/caravanlaw03.VectorKnown", spec := "vectorKnown", apart := false }
def VectorKnownSaid : Prop := vectorKnownRow.holds Try.pinned (OpenSpec.ofChange vectorKnownSpec)

/-- ITS FALSE NEIGHBOUR: 'it returns false'. Refute it at one input. -/
def vectorKnownWrong : ChangeSpec := { name := "vectorKnown", fn := fun _ => fun
  | [] => { results := [.lit (.bool false)], args := [] }
  | _ => none }
def VectorKnownWrongFalsely : Prop := vectorKnownRow.holds Try.pinned (OpenSpec.ofChange vectorKnownWrong)

/-- 'caravanlaw03.VectorOrder': WHATEVER THE INPUT: true; the input reads as it did. -/
def vectorOrderSpec : ChangeSpec := { name := "vectorOrder", fn := fun _ => fun
  | [d1, d2, d3] => { results := [.lit (.bool true)], args := [d1, d2, d3] }
  | _ => none }
def vectorOrderRow : OpenClaim := { program := "ytmmbnobbpnndkaa", sum := "d72dc8af7c5f844b6f992e423d3f7cc0bfe8918145206a08afab00146201a53d", func := "caravan/caravanlaw03.VectorOrder", spec := "vectorOrder", apart := false }
def VectorOrderSaid : Prop := vectorOrderRow.holds Try.pinned (OpenSpec.ofChange vectorOrderSpec)

/-- ITS FALSE NEIGHBOUR: 'it returns false'. Refute it at one input. -/
def vectorOrderWrong : ChangeSpec := { name := "vectorOrder", fn := fun _ => fun
  | [d1, d2, d3] => { results := [.lit (.bool false)], args := [d1, d2, d3] }
  | _ => none }
def VectorOrderWrongFalsely : Prop := vectorOrderRow.holds Try.pinned (OpenSpec.ofChange vectorOrderWrong)

/-- 'caravanlaw03.VectorNew': WHATEVER THE INPUT: true; the input reads as it did. -/
def vectorNewSpec : ChangeSpec := { name := "vectorNew", fn := fun _ => fun
  | [d1, d2, d3, d4] => { results := [.lit (.bool true)], args := [d1, d2, d3, d4] }
  | _ => none }
def vectorNewRow : OpenClaim := { program := "ytmmbnobbpnndkaa", sum := "d72dc8af7c5f844b6f992e423d3f7cc0bfe8918145206a08afab00146201a53d", func := "caravan/caravanlaw03.VectorNew", spec := "vectorNew", apart := false }
def VectorNewSaid : Prop := vectorNewRow.holds Try.pinned (OpenSpec.ofChange vectorNewSpec)

/-- ITS FALSE NEIGHBOUR: 'it returns false'. Refute it at one input. -/
def vectorNewWrong : ChangeSpec := { name := "vectorNew", fn := fun _ => fun
  | [d1, d2, d3, d4] => { results := [.lit (.bool false)], args := [d1, d2, d3, d4] }
  | _ => none }
def VectorNewWrongFalsely : Prop := vectorNewRow.holds Try.pinned (OpenSpec.ofChange vectorNewWrong)

/- THE SECOND FORM. 'bulk': how many values and letters a reading holds, each counted each time it is reached (what is shared counts as often as it is met; a slice's spare places count too). A statement '..UptoSaid' is the law's where the arguments, and the package variables that the reading takes, are together of bulk at most 1048576: NARROWER than '..Said'. Prove '..Said' where nothing that the law and all that it calls make is longer than what came in: it says more and counts as full. Else prove '..UptoSaid'. A law counts once. -/
mutual
def uptoBulk {H : Type} : DataW H → Nat
  | .lit (.string bytes) => bytes.length + 1
  | .lit _ => 1
  | .nil => 1
  | .ptr d => uptoBulk d + 1
  | .slice elems spare => uptoBulkAll elems + uptoBulkAll spare + 1
  | .agg parts => uptoBulkAll parts + 1
  | .iface _ d => uptoBulk d + 1
  | .map entries => uptoBulkEntries entries + 1
  | .held _ => 1
def uptoBulkAll {H : Type} : List (DataW H) → Nat
  | [] => 0
  | d :: r => uptoBulk d + uptoBulkAll r
def uptoBulkEntries {H : Type} : List (Lit × DataW H) → Nat
  | [] => 0
  | x :: r => uptoBulkEntry x + uptoBulkEntries r
def uptoBulkEntry {H : Type} : Lit × DataW H → Nat
  | (.string bytes, d) => bytes.length + uptoBulk d + 1
  | (_, d) => uptoBulk d + 1
 end
def uptoSmall : (H : Type) → List (DataW H) → Bool := fun _ ds => decide (uptoBulkAll ds ≤ 1048576)
def OpenSpec.upto (s : _root_.Go.ChangeSpec) : _root_.Go.OpenSpec := { _root_.Go.OpenSpec.ofChange s with cond := some uptoSmall }

/-- 'caravanlaw03.VectorBumps', WHERE WHAT IT READS IS OF BULK AT MOST 1048576: true; the input reads as it did. -/
def vectorBumpsUptoRow : OpenClaim := { program := "ytmmbnobbpnndkaa", sum := "d72dc8af7c5f844b6f992e423d3f7cc0bfe8918145206a08afab00146201a53d", func := "caravan/caravanlaw03.VectorBumps", spec := "vectorBumps", apart := false, narrowed := true }
def VectorBumpsUptoSaid : Prop := vectorBumpsUptoRow.holds Try.pinned (OpenSpec.upto vectorBumpsSpec)

/-- 'caravanlaw03.VectorPairs', WHERE WHAT IT READS IS OF BULK AT MOST 1048576: true; the input reads as it did. -/
def vectorPairsUptoRow : OpenClaim := { program := "ytmmbnobbpnndkaa", sum := "d72dc8af7c5f844b6f992e423d3f7cc0bfe8918145206a08afab00146201a53d", func := "caravan/caravanlaw03.VectorPairs", spec := "vectorPairs", apart := false, narrowed := true }
def VectorPairsUptoSaid : Prop := vectorPairsUptoRow.holds Try.pinned (OpenSpec.upto vectorPairsSpec)

/-- 'caravanlaw03.VectorMerges', WHERE WHAT IT READS IS OF BULK AT MOST 1048576: true; the input reads as it did. -/
def vectorMergesUptoRow : OpenClaim := { program := "ytmmbnobbpnndkaa", sum := "d72dc8af7c5f844b6f992e423d3f7cc0bfe8918145206a08afab00146201a53d", func := "caravan/caravanlaw03.VectorMerges", spec := "vectorMerges", apart := false, narrowed := true }
def VectorMergesUptoSaid : Prop := vectorMergesUptoRow.holds Try.pinned (OpenSpec.upto vectorMergesSpec)

/-- 'caravanlaw03.VectorKnown', WHERE WHAT IT READS IS OF BULK AT MOST 1048576: true; the input reads as it did. -/
def vectorKnownUptoRow : OpenClaim := { program := "ytmmbnobbpnndkaa", sum := "d72dc8af7c5f844b6f992e423d3f7cc0bfe8918145206a08afab00146201a53d", func := "caravan/caravanlaw03.VectorKnown", spec := "vectorKnown", apart := false, narrowed := true }
def VectorKnownUptoSaid : Prop := vectorKnownUptoRow.holds Try.pinned (OpenSpec.upto vectorKnownSpec)

/-- 'caravanlaw03.VectorOrder', WHERE WHAT IT READS IS OF BULK AT MOST 1048576: true; the input reads as it did. -/
def vectorOrderUptoRow : OpenClaim := { program := "ytmmbnobbpnndkaa", sum := "d72dc8af7c5f844b6f992e423d3f7cc0bfe8918145206a08afab00146201a53d", func := "caravan/caravanlaw03.VectorOrder", spec := "vectorOrder", apart := false, narrowed := true }
def VectorOrderUptoSaid : Prop := vectorOrderUptoRow.holds Try.pinned (OpenSpec.upto vectorOrderSpec)

/-- 'caravanlaw03.VectorNew', WHERE WHAT IT READS IS OF BULK AT MOST 1048576: true; the input reads as it did. -/
def vectorNewUptoRow : OpenClaim := { program := "ytmmbnobbpnndkaa", sum := "d72dc8af7c5f844b6f992e423d3f7cc0bfe8918145206a08afab00146201a53d", func := "caravan/caravanlaw03.VectorNew", spec := "vectorNew", apart := false, narrowed := true }
def VectorNewUptoSaid : Prop := vectorNewUptoRow.holds Try.pinned (OpenSpec.upto vectorNewSpec)

end Rows
end Go.Proofs.Ytmmbnobbpnndkaa
