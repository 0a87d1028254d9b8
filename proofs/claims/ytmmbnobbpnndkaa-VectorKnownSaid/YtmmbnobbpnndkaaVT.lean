/- The frame of a law of the versions: rows and numbers that come in; a law that has answered true. No conditions. -/
import Derived.Test.YtmmbnobbpnndkaaRows
import Derived.Test.YtmmbnobbpnndkaaVJ
import Derived.ProofKit
import Derived.OpenShut
import Derived.ChangeSame
import Derived.JoinedOf
import Derived.JoinedAt
import Derived.Carry
namespace Go.Proofs.Ytmmbnobbpnndkaa
open Go.ChangeShapes Go.WideShapes Go.ChangeAt Go.RowKit
theorem own : ownKnob Try.prog.godebug = none := by kernel_rfl
theorem laidOut : laidOutB Try.prog = true := by kernel_rfl
theorem cells_list (cs : Array Value) (n : Nat) (hs : cs.size = n) (key : ∀ i, i < n → ∃ x : BitVec 32, cs[i]? = some (.int .u32 (u x))) : ∃ l : List (BitVec 32), Value.agg cs = .agg (vec l) ∧ l.length = n := by
  refine ⟨(List.range n).map fun i => if h : i < n then Classical.choose (key i h) else 0, ?_, by simp⟩
  congr 1
  apply Array.ext
  · rw [vec_size]; simp [hs]
  · intro i h1 h2
    have hi : i < n := by omega
    have e := Classical.choose_spec (key i hi)
    have e2 := Option.some.inj ((Array.getElem?_eq_getElem h1).symm.trans e)
    simp only [vec, List.getElem_toArray, List.getElem_map, List.getElem_range, hi, dif_pos]
    exact e2
theorem u_of (z : Int) (h0 : 0 ≤ z) (h1 : z ≤ 4294967295) : z = u (BitVec.ofNat 32 z.toNat) := by
  unfold u
  rw [BitVec.toNat_ofNat, Nat.mod_eq_of_lt (by omega)]; omega
section
variable {H : Type} {enc : TypeId × Value → H} {w : World} {base : Nat} {spare : Nat → Bool} {held : Bool}
/-- The counters of a row that is read. -/
theorem cells_vec {cs : Array Value} {d : DataW H} {p : List MemPlace} {fuel : Nat} (hsz : cs.size = 16) (hf : DataW.trod enc Try.prog w base spare held fuel 24 cs.toList = some (d, p)) :
    ∃ l : List (BitVec 32), Value.agg cs = .agg (vec l) ∧ l.length = 16 := by
  obtain ⟨xs, m, _, _, hlen, hxl, hg⟩ := DataW.trod_array Try.underlying24 hf
  have key : ∀ i, i < 16 → ∃ x : BitVec 32, cs[i]? = some (.int .u32 (u x)) := by
    intro i hi
    have h1 := hg i hi
    rw [cU32] at h1
    have hi2 : i < cs.toList.length := by rw [Array.length_toList]; omega
    have e : (cs.toList.drop (i * 1)).take 1 = [cs.toList[i]] := by
      rw [Nat.mul_one, List.drop_eq_getElem_cons hi2]; rfl
    rw [e, List.getElem?_eq_getElem (by omega)] at h1
    obtain ⟨z, hz, _, hb⟩ := DataW.trod_int Try.underlying22 h1
    simp only [List.cons.injEq, and_true] at hz
    simp only [Lit.wf, IntKind.min, IntKind.max, IntKind.signed, IntKind.bits, Bool.and_eq_true] at hb
    simp at hb
    refine ⟨BitVec.ofNat 32 z.toNat, ?_⟩
    rw [Array.getElem?_eq_getElem (by omega), ← Array.getElem_toList, hz, ← u_of z hb.1 (by omega)]
  exact cells_list cs 16 hsz key
/-- A row that comes in by value. -/
theorem open_vec {r : Reach} {b0 : Nat} {v : Value} {d : DataW H} {p : List MemPlace} (hv : Value.okWide Try.prog w r b0 24 v) (h : DataW.Trod enc Try.prog w base spare held 24 v d p) :
    ∃ l : List (BitVec 32), v = .agg (vec l) ∧ l.length = 16 := by
  have hu := Try.underlying24
  simp only [Value.okWide, hu] at hv
  obtain ⟨cs, rfl, hsz, _⟩ := hv
  obtain ⟨fuel, hf⟩ := h
  have hc : Try.prog.cellsOf 24 = 16 := by kernel_rfl
  rw [hc] at hsz
  exact cells_vec hsz hf
end
/-- A law that has answered true, its arguments and all old memory as they were. -/
theorem post_law {H : Type} {enc : TypeId × Value → H} {f : Func} {s : ChangeSpec} {W W' : World} {args : Array Value} {ds : List (DataW H)} {before pa : List MemPlace} (hv : s.vars = []) (hft : f.resultTypes = #[4])
    (hW : DataW.Whole enc Try.prog f.params.toList s.vars false W args.toList ds [] before) (hs : s.fn H (ds ++ []) = { results := [.lit (.bool true)], args := ds }) (hb : Below W.heap.size W W')
    (hargs : DataW.TrodAll enc Try.prog W' 0 (fun b => decide (b < W.heap.size)) true f.params.toList args.toList ds pa) :
    s.post enc Try.prog f false true false false W args (.bool true) W' := by
  refine ⟨ds, [], before, [], pa, [], hW, ?_, ?_, ?_, hb.frame _, fun h => by cases h⟩
  · rw [hs, hft]; exact trodAll_mk1 (shut_bool Try.underlying4 true)
  · rw [hs]; exact hargs
  · rw [hs, hv]; exact rfl
end Go.Proofs.Ytmmbnobbpnndkaa
