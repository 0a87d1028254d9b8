/- The listed table as the calls read it; the frame of a law. No conditions. -/
import Derived.Test.YtmdlahmcdgkhkaaDoorRows
import Derived.Test.YtmdlahmcdgkhkaaDoorCards
import Derived.Test.YtmdlahmcdgkhkaaDoorTie
import Derived.Test.YtmdlahmcdgkhkaaDoorS
import Derived.ProofKit
import Derived.LaidMore
import Derived.OpenShut
import Derived.Stop.Joined
import Derived.Lib.LaidTab
import Derived.SevenTiedAt
namespace Go.Proofs.YtmdlahmcdgkhkaaDoor
open Go.ChangeShapes Go.WideShapes Go.ChangeAt Go.RowKit
theorem own : ownKnob Tryd.prog.godebug = none := by kernel_rfl
theorem laidOut : laidOutB Tryd.prog = true := by kernel_rfl
theorem gRoots : Tryd.prog.globalNamed "caravan/sha.roots" = some 0 := by kernel_rfl
theorem tRoots : (Tryd.prog.globals[0]?).map (·.type) = some 69 := by kernel_rfl
theorem c33 : Tryd.prog.cellsOf 33 = 1 := by kernel_rfl
theorem c69 : Tryd.prog.cellsOf 69 = 64 := by kernel_rfl
def laid1 : List (String × DataW Unit) := [("caravan/sha.roots", Rows.laid_caravan_sha_roots)]
theorem tab_data : (Rows.laid_caravan_sha_roots : DataW Unit) = Lib.tabData .u32 (kList.map u) := by kernel_rfl
theorem door_met (os : Os) (args : Array Value) : laidMetH Tryd.prog laid1 ((World.doorLaid Tryd.prog 40 os).forCall (fun _ _ => 0) ⟨#[], args, []⟩).memory :=
  laidMetH_of_parts3 (fuel := 8) (laidMet_of_run' 8 (by kernel_rfl) (by kernel_rfl)) (by kernel_rfl) (by kernel_rfl)
theorem of_laid {W : World} (h : laidMetH Tryd.prog laid1 W) : Tab W := by
  rw [MakeChecks.laidMetH_plain _ _ _ (by kernel_rfl)] at h
  rw [laid1, tab_data] at h
  have hT := Lib.tabIs_of_head gRoots tRoots Tryd.underlying69 Tryd.underlying33 c33 c69 h
  intro i hi
  have := hT.cell gRoots i (by simp; exact hi)
  rw [this]
  have hk : i < kList.length := hi
  simp [at32, List.getD, List.getElem?_eq_getElem hk]
theorem cells_list (cs : Array Value) (n : Nat) (hs : cs.size = n) (key : ∀ i, i < n → ∃ x : UInt8, cs[i]? = some (.int .u8 (b8 x))) : ∃ l : List UInt8, Value.agg cs = .agg (bvec l) ∧ l.length = n := by
  refine ⟨(List.range n).map fun i => if h : i < n then Classical.choose (key i h) else 0, ?_, by simp⟩
  congr 1
  apply Array.ext
  · rw [bvec_size]; simp [hs]
  · intro i h1 h2
    have hi : i < n := by omega
    have e := Classical.choose_spec (key i hi)
    have e2 := Option.some.inj ((Array.getElem?_eq_getElem h1).symm.trans e)
    simp only [bvec, List.getElem_toArray, List.getElem_map, List.getElem_range, hi, dif_pos]
    exact e2
section
variable {H : Type} {enc : TypeId × Value → H} {w : World} {base : Nat} {spare : Nat → Bool} {held : Bool}
/-- A digest that comes in. -/
theorem open_hash {r : Reach} {b0 : Nat} {v : Value} {d : DataW H} {p : List MemPlace} (hv : Value.okWide Tryd.prog w r b0 25 v) (h : DataW.Trod enc Tryd.prog w base spare held 25 v d p) :
    ∃ l : List UInt8, v = .agg (bvec l) ∧ l.length = 32 := by
  have hu := Tryd.underlying25
  simp only [Value.okWide, hu] at hv
  obtain ⟨cs, rfl, hsz, _⟩ := hv
  obtain ⟨fuel, hf⟩ := h
  obtain ⟨xs, m, _, _, hlen, hxl, hg⟩ := DataW.trod_array hu hf
  have hc5 : Tryd.prog.cellsOf 5 = 1 := by kernel_rfl
  have hc25 : Tryd.prog.cellsOf 25 = 32 := by kernel_rfl
  rw [hc25] at hsz
  have key : ∀ i, i < 32 → ∃ x : UInt8, cs[i]? = some (.int .u8 (b8 x)) := by
    intro i hi
    have h1 := hg i hi
    rw [hc5] at h1
    have hi2 : i < cs.toList.length := by rw [Array.length_toList]; omega
    have e : ((Value.agg cs).cells.toList.drop (i * 1)).take 1 = [cs.toList[i]] := by
      show (cs.toList.drop (i * 1)).take 1 = _
      rw [Nat.mul_one, List.drop_eq_getElem_cons hi2]; rfl
    rw [e, List.getElem?_eq_getElem (by omega)] at h1
    obtain ⟨z, hz, _, hb⟩ := DataW.trod_int Tryd.underlying5 h1
    simp only [List.cons.injEq, and_true] at hz
    simp only [Lit.wf, IntKind.min, IntKind.max, IntKind.signed, IntKind.bits, Bool.and_eq_true, decide_eq_true_eq] at hb
    simp at hb
    refine ⟨UInt8.ofNat z.toNat, ?_⟩
    rw [Array.getElem?_eq_getElem (by omega), ← Array.getElem_toList, hz, b8_ofNat]
    have : ((z.toNat % 256 : Nat) : Int) = z := by omega
    rw [this]
  exact cells_list cs 32 hsz key
end
/-- A law that has answered true, its arguments and all old memory as they were. -/
theorem post_law {H : Type} {enc : TypeId × Value → H} {f : Func} {s : ChangeSpec} {W W' : World} {args : Array Value} {ds : List (DataW H)} {before pa : List MemPlace} (hv : s.vars = []) (hft : f.resultTypes = #[4])
    (hW : DataW.Whole enc Tryd.prog f.params.toList s.vars false W args.toList ds [] before) (hs : s.fn H (ds ++ []) = { results := [.lit (.bool true)], args := ds }) (hb : Below W.heap.size W W')
    (hargs : DataW.TrodAll enc Tryd.prog W' 0 (fun b => decide (b < W.heap.size)) true f.params.toList args.toList ds pa) :
    s.post enc Tryd.prog f false true false false W args (.bool true) W' := by
  refine ⟨ds, [], before, [], pa, [], hW, ?_, ?_, ?_, hb.frame _, fun h => by cases h⟩
  · rw [hs, hft]; exact trodAll_mk1 (shut_bool Tryd.underlying4 true)
  · rw [hs]; exact hargs
  · rw [hs, hv]; exact rfl
end Go.Proofs.YtmdlahmcdgkhkaaDoor
