/- The frame of a law of the blocks: the listed table, what comes in, a law that has answered true. No conditions. -/
import Derived.Test.YtlcdkponegmcdaaDoorRows
import Derived.Test.YtlcdkponegmcdaaDoorCards
import Derived.Test.YtlcdkponegmcdaaDoorTie
import Derived.Test.YtlcdkponegmcdaaDoorEB
import Derived.Deep.Matrix
import Derived.ProofKit
import Derived.LaidMore
import Derived.OpenShut
import Derived.Stop.Joined
import Derived.Lib.LaidTab
import Derived.SevenTiedAt
namespace Go.Proofs.YtlcdkponegmcdaaDoor
open Go.ChangeShapes Go.WideShapes Go.ChangeAt Go.ChangeMaps Go.WideElems Go.RowKit Go.Deep
theorem ownK : ownKnob Tryd.prog.godebug = none := by kernel_rfl
theorem laidOut : laidOutB Tryd.prog = true := by kernel_rfl
theorem gRoots : Tryd.prog.globalNamed "caravan/sha.roots" = some 0 := by kernel_rfl
theorem tRoots : (Tryd.prog.globals[0]?).map (·.type) = some 134 := by kernel_rfl
theorem c33 : Tryd.prog.cellsOf 77 = 1 := by kernel_rfl
theorem c69 : Tryd.prog.cellsOf 134 = 64 := by kernel_rfl
def laid1 : List (String × DataW Unit) := [("caravan/sha.roots", Rows.laid_caravan_sha_roots)]
theorem tab_data : (Rows.laid_caravan_sha_roots : DataW Unit) = Lib.tabData .u32 (Sha.kList.map Sha.u) := by kernel_rfl
theorem door_met (os : Os) (args : Array Value) : laidMetH Tryd.prog laid1 ((World.doorLaid Tryd.prog 40 os).forCall (fun _ _ => 0) ⟨#[], args, []⟩).memory :=
  laidMetH_of_parts3 (fuel := 8) (laidMet_of_run' 8 (by kernel_rfl) (by kernel_rfl)) (by kernel_rfl) (by kernel_rfl)
theorem of_laid {W : World} (h : laidMetH Tryd.prog laid1 W) : Sha.Tab W := by
  rw [MakeChecks.laidMetH_plain _ _ _ (by kernel_rfl)] at h
  rw [laid1, tab_data] at h
  have hT := Lib.tabIs_of_head gRoots tRoots Tryd.underlying134 Tryd.underlying77 c33 c69 h
  intro i hi
  have := hT.cell gRoots i (by simp; exact hi)
  rw [this]
  have hk : i < Sha.kList.length := hi
  simp [Sha.at32, List.getD, List.getElem?_eq_getElem hk]
theorem cells_list (cs : Array Value) (n : Nat) (hs : cs.size = n) (key : ∀ i, i < n → ∃ x : UInt8, cs[i]? = some (.int .u8 (b8 x))) : ∃ l : List UInt8, Value.agg cs = .agg (hvec l) ∧ l.length = n := by
  refine ⟨(List.range n).map fun i => if h : i < n then Classical.choose (key i h) else 0, ?_, by simp⟩
  congr 1
  apply Array.ext
  · rw [hvec_size]; simp [hs]
  · intro i h1 h2
    have hi : i < n := by omega
    have e := Classical.choose_spec (key i hi)
    have e2 := Option.some.inj ((Array.getElem?_eq_getElem h1).symm.trans e)
    simp only [hvec, List.getElem_toArray, List.getElem_map, List.getElem_range, hi, dif_pos]
    exact e2
section
variable {H : Type} {enc : TypeId × Value → H} {w : World} {base : Nat} {spare : Nat → Bool} {held : Bool}
set_option maxRecDepth 100000 in
/-- A digest that comes in. -/
theorem open_hash {r : Reach} {b0 : Nat} {v : Value} {d : DataW H} {p : List MemPlace} (hv : Value.okWide Tryd.prog w r b0 27 v) (h : DataW.Trod enc Tryd.prog w base spare held 27 v d p) :
    ∃ l : List UInt8, v = .agg (hvec l) ∧ l.length = 32 := by
  have hu := Tryd.underlying27
  simp only [Value.okWide, hu] at hv
  obtain ⟨cs, rfl, hsz, _⟩ := hv
  obtain ⟨fuel, hf⟩ := h
  obtain ⟨xs, m, _, _, hlen, hxl, hg⟩ := DataW.trod_array hu hf
  have hc5 : Tryd.prog.cellsOf 5 = 1 := by kernel_rfl
  have hc25 : Tryd.prog.cellsOf 27 = 32 := by kernel_rfl
  rw [hc25] at hsz
  have key : ∀ i, i < 32 → ∃ x : UInt8, cs[i]? = some (.int .u8 (b8 x)) := by
    intro i hi
    have h1 := hg i hi
    rw [hc5] at h1
    have hi2 : i < cs.toList.length := by rw [Array.length_toList]; omega
    have e : ((Value.agg cs).cells.toList.drop (i * 1)).take 1 = [cs.toList[i]] := by
      show (cs.toList.drop (i * 1)).take 1 = _
      rw [Nat.mul_one, List.drop_eq_getElem_cons hi2]; rfl
    rw [e, List.getElem?_eq_getElem (by omega)] at h1
    obtain ⟨z, hz, _, hb⟩ := DataW.trod_int Tryd.underlying5 h1
    simp only [List.cons.injEq, and_true] at hz
    simp only [Lit.wf, IntKind.min, IntKind.max, IntKind.signed, IntKind.bits, Bool.and_eq_true] at hb
    simp at hb
    refine ⟨UInt8.ofNat z.toNat, ?_⟩
    rw [Array.getElem?_eq_getElem (by omega), ← Array.getElem_toList, hz, b8_ofNat]
    have : ((z.toNat % 256 : Nat) : Int) = z := by omega
    rw [this]
  exact cells_list cs 32 hsz key
set_option maxRecDepth 100000 in
theorem open_u8 {r : Reach} {b0 : Nat} {v : Value} {d : DataW H} {p : List MemPlace} (hv : Value.okWide Tryd.prog w r b0 5 v) (h : DataW.Trod enc Tryd.prog w base spare held 5 v d p) : ∃ c : UInt8, v = .int .u8 (b8 c) := by
  obtain ⟨i, rfl, _, _, hm⟩ := open_int Tryd.underlying5 hv h
  simp only [Lit.wf, IntKind.min, IntKind.max, IntKind.signed, IntKind.bits, Bool.and_eq_true] at hm
  simp at hm
  refine ⟨UInt8.ofNat i.toNat, ?_⟩
  rw [b8_ofNat]
  have : ((i.toNat % 256 : Nat) : Int) = i := by omega
  rw [this]
set_option maxRecDepth 100000 in
theorem open_u16 {r : Reach} {b0 : Nat} {v : Value} {d : DataW H} {p : List MemPlace} (hv : Value.okWide Tryd.prog w r b0 69 v) (h : DataW.Trod enc Tryd.prog w base spare held 69 v d p) : ∃ n : Nat, v = .int .u16 (n : Int) ∧ n < 65536 := by
  obtain ⟨i, rfl, _, _, hm⟩ := open_int Tryd.underlying69 hv h
  simp only [Lit.wf, IntKind.min, IntKind.max, IntKind.signed, IntKind.bits, Bool.and_eq_true] at hm
  simp at hm
  exact ⟨i.toNat, by rw [show ((i.toNat : Nat) : Int) = i by omega], by omega⟩
end
/-- A law that has answered true, its arguments and all old memory as they were. -/
theorem post_law {H : Type} {enc : TypeId × Value → H} {f : Func} {s : ChangeSpec} {W W' : World} {args : Array Value} {ds : List (DataW H)} {before pa : List MemPlace} (hv : s.vars = []) (hft : f.resultTypes = #[4])
    (hW : DataW.Whole enc Tryd.prog f.params.toList s.vars false W args.toList ds [] before) (hs : s.fn H (ds ++ []) = { results := [.lit (.bool true)], args := ds }) (hb : Below W.heap.size W W')
    (hargs : DataW.TrodAll enc Tryd.prog W' 0 (fun b => decide (b < W.heap.size)) true f.params.toList args.toList ds pa) :
    s.post enc Tryd.prog f false true false false W args (.bool true) W' := by
  refine ⟨ds, [], before, [], pa, [], hW, ?_, ?_, ?_, hb.frame _, fun h => by cases h⟩
  · rw [hs, hft]; exact trodAll_mk1 (shut_bool Tryd.underlying4 true)
  · rw [hs]; exact hargs
  · rw [hs, hv]; exact rfl
def bytesOf (zs : List Int) (L : Nat) : List UInt8 := (zs.take L).map fun z => UInt8.ofNat z.toNat
theorem spot_none {w : World} {a : Addr} {v : Value} (h : w.cell? (a.add 0) = some v) : a = ⟨a.block, a.off, none⟩ := by
  have e : a.add 0 = a := rfl
  rw [e] at h
  obtain ⟨b, o, s⟩ := a
  cases s with
  | none => rfl
  | some x =>
    simp only [World.cell?] at h
    split at h
    · simp at h
    · cases h
theorem int_num {z : Int} (h : (Lit.int .u8 z).wf = true) : z = b8 (UInt8.ofNat z.toNat) := by
  simp only [Lit.wf, IntKind.min, IntKind.max, IntKind.signed, IntKind.bits, Bool.and_eq_true] at h
  simp at h
  rw [b8_ofNat]
  have : ((z.toNat % 256 : Nat) : Int) = z := by omega
  rw [this]
theorem row_bytes {w : World} {A : Option Addr} {L C : Nat} {zs : List Int} (hp : 0 < w.heap.size) (hLC : L ≤ C) (hl : zs.length = C) (hwf : ∀ n ∈ zs, (Lit.int .u8 n).wf = true) (hA : A = none → C = 0)
    (hc : ∀ a', A = some a' → ∀ c, c < C → w.cell? (a'.add c) = some (.int .u8 (zs.getD c 0))) : ∃ bb off, Bytes w (.slice A L C) (bytesOf zs L) A C bb off := by
  have hlen : (bytesOf zs L).length = L := by simp [bytesOf]; omega
  have hat : ∀ j, j < L → zs.getD j 0 = b8 (at8 (bytesOf zs L) j) := by
    intro j hj
    have hj2 : j < zs.length := by omega
    simp only [at8, bytesOf, List.getD, List.getElem?_map, List.getElem?_take, if_pos hj, List.getElem?_eq_getElem hj2, Option.map_some, Option.getD_some]
    exact int_num (hwf _ (List.getElem_mem hj2))
  have hcell : ∀ a, A = some a → ∀ j, j < (bytesOf zs L).length → w.cell? (a.add j) = some (V8 (at8 (bytesOf zs L) j)) := fun a ha j hj => by
    rw [hlen] at hj
    rw [hc a ha j (by omega), hat j hj]; rfl
  rcases Nat.eq_zero_or_pos L with h0 | h0
  · exact ⟨0, 0, by rw [hlen], by omega, hA, hcell, hp, fun h => by omega⟩
  · cases A with
    | none => have := hA rfl; omega
    | some a =>
      have h1 := hc a rfl 0 (by omega)
      have h2 := spot_none h1
      refine ⟨a.block, a.off, by rw [hlen], by omega, hA, hcell, ?_, fun _ => by rw [← h2]⟩
      exact block_lt_of_cell (a := a) h1
theorem bytes_in {H : Type} {enc : TypeId × Value → H} {W : World} {A0 : Option Addr} {len cap : Nat} {d : DataW H} {p : List MemPlace} (hp : 0 < W.heap.size) (h : DataW.Trod enc Tryd.prog W 0 (fun _ => true) true 25 (.slice A0 len cap) d p) :
    ∃ ys bb off, ys.length = len ∧ Bytes W (.slice A0 len cap) ys A0 cap bb off := by
  obtain ⟨fuel, hf⟩ := h
  have c5 : Tryd.prog.cellsOf 5 = 1 := by kernel_rfl
  rcases open_ints Tryd.underlying25 Tryd.underlying5 c5 hf with ⟨h1, _⟩ | ⟨a, len', cap', zs, h1, _, hl, _, hz, _, hc, hw⟩
  · have e : [Value.slice A0 len cap] = [Value.slice none 0 0] := h1
    simp only [List.cons.injEq, Value.slice.injEq, and_true] at e
    obtain ⟨rfl, rfl, rfl⟩ := e
    obtain ⟨bb, off, hb⟩ := row_bytes (A := none) (L := 0) (C := 0) (zs := []) hp (Nat.le_refl _) rfl (fun n hn => by cases hn) (fun _ => rfl) (fun a' h => by cases h)
    exact ⟨_, bb, off, by simp [bytesOf], hb⟩
  · have e : [Value.slice A0 len cap] = [Value.slice (some a) len' cap'] := h1
    simp only [List.cons.injEq, Value.slice.injEq, and_true] at e
    obtain ⟨rfl, rfl, rfl⟩ := e
    simp only [if_true] at hz
    obtain ⟨bb, off, hb⟩ := row_bytes (A := some a) (L := len) (C := cap) (zs := zs) hp hl hz hw (fun h => by cases h) (fun a' h c hcc => by cases h; exact hc c (by omega))
    exact ⟨_, bb, off, by simp [bytesOf]; omega, hb⟩
end Go.Proofs.YtlcdkponegmcdaaDoor
