/- The frame of a law that leans on the table of the digests too. No conditions. -/
import Derived.Test.YtoeomghebgbniaaDoorPT
import Derived.Test.YtoeomghebgbniaaDoorPZ
namespace Go.Proofs.YtoeomghebgbniaaDoor
open Go.ChangeShapes Go.WideShapes Go.ChangeAt Go.RowKit
theorem gRoots : Tryd.prog.globalNamed "caravan/sha.roots" = some 0 := by kernel_rfl
theorem tRoots : (Tryd.prog.globals[0]?).map (·.type) = some 90 := by kernel_rfl
theorem cU32 : Tryd.prog.cellsOf 54 = 1 := by kernel_rfl
theorem cA64 : Tryd.prog.cellsOf 90 = 64 := by kernel_rfl
theorem roots_data : (Rows.laid_caravan_sha_roots : DataW Unit) = Lib.tabData .u32 (Sha.kList.map Sha.u) := by kernel_rfl
/-- The variables that these laws list. -/
def laid4 : List (String × DataW Unit) := [("math/bits.deBruijn32tab", Rows.laid_math_bits_deBruijn32tab), ("math/bits.deBruijn64tab", Rows.laid_math_bits_deBruijn64tab), ("caravan/sha.roots", Rows.laid_caravan_sha_roots), ("internal/strconv.uint64pow10", Rows.laid_internal_strconv_uint64pow10)]
theorem door_met4 (os : Os) (args : Array Value) : laidMetH Tryd.prog laid4 ((World.doorLaid Tryd.prog 40 os).forCall (fun _ _ => 0) ⟨#[], args, []⟩).memory :=
  laidMetH_of_parts3 (fuel := 8) (laidMet_of_run' 8 (by kernel_rfl) (by kernel_rfl)) (by kernel_rfl) (by kernel_rfl)
theorem roots_of_laid {W : World} {pre rest : List (String × DataW Unit)} {zs : DataW Unit} (hz : zs = Lib.tabData .u32 (Sha.kList.map Sha.u)) : ∀ {ps : List MemPlace}, DataW.LaidVars Tryd.prog W (pre ++ ("caravan/sha.roots", zs) :: rest) ps → Lib.TabIs Tryd.prog W "caravan/sha.roots" .u32 (Sha.kList.map Sha.u) := by
  induction pre with
  | nil =>
    rintro ps ⟨g', t', cs, fuel, p, q, hg', ht', hvar, hd, _, _⟩
    rw [hz] at hd
    obtain rfl := Option.some.inj (gRoots.symm.trans hg')
    obtain rfl := Option.some.inj (tRoots.symm.trans ht')
    unfold Lib.TabIs
    rw [hvar, ← Lib.cells_of_tab Tryd.underlying90 Tryd.underlying54 cU32 cA64 hd]
  | cons a pre ih => rintro ps ⟨_, _, _, _, _, q, _, _, _, _, hr, _⟩; exact ih hr
theorem tab_of_is {W : World} (h : Lib.TabIs Tryd.prog W "caravan/sha.roots" .u32 (Sha.kList.map Sha.u)) : Sha.Tab W := by
  intro i hi
  have := h.cell gRoots i (by simp; exact hi)
  rw [this]
  have hk : i < Sha.kList.length := hi
  simp [Sha.at32, List.getD, List.getElem?_eq_getElem hk]
theorem of_laid4 {W : World} (hsh : W.ShapedOpen Tryd.prog) (h : laidMetH Tryd.prog laid4 W) : Gr W := by
  rw [MakeChecks.laidMetH_plain _ _ _ (by kernel_rfl)] at h
  obtain ⟨ps, h, _⟩ := h
  exact ⟨⟨hsh, tab_of_laid (pre := [("math/bits.deBruijn32tab", Rows.laid_math_bits_deBruijn32tab), ("math/bits.deBruijn64tab", Rows.laid_math_bits_deBruijn64tab), ("caravan/sha.roots", Rows.laid_caravan_sha_roots)]) pow_data h, low_size hsh⟩,
    tab_of_is (roots_of_laid (pre := [("math/bits.deBruijn32tab", Rows.laid_math_bits_deBruijn32tab), ("math/bits.deBruijn64tab", Rows.laid_math_bits_deBruijn64tab)]) (rest := [("internal/strconv.uint64pow10", Rows.laid_internal_strconv_uint64pow10)]) roots_data h)⟩
end Go.Proofs.YtoeomghebgbniaaDoor
