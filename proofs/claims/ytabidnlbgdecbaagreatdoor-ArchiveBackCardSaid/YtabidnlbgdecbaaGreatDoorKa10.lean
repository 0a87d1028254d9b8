/- Several texts in one. Conditions: those said at each. -/
import Derived.Test.YtabidnlbgdecbaaGreatDoorKa00
import Derived.Test.YtabidnlbgdecbaaGreatDoorKa09
import Derived.Test.YtabidnlbgdecbaaGreatDoorRows
import Derived.Test.YtabidnlbgdecbaaGreatDoorCards
import Derived.Test.YtabidnlbgdecbaaGreatDoorTie
import Derived.ProofKit
import Derived.LaidMore
import Derived.OpenShut
import Derived.Lay
import Derived.Stop.Joined
import Derived.SevenTiedAt
import Derived.HandedShaped
set_option linter.unusedSimpArgs false
set_option linter.unusedVariables false
set_option maxRecDepth 100000
namespace Go.Proofs.YtabidnlbgdecbaaGreatDoor
open Go.RowKit Go.Maps
structure SW (w : World) (g2 c2 g8 : Nat) (W : World) : Prop where
 c : W.cell? ⟨g2, 0, none⟩ = some (.string ⟨#[48, 48, 48, 48, 48, 48, 48, 48, 48, 55, 45, 48, 48, 48, 48]⟩)
 l : (loadVar 28 ⟨g2, 0, none⟩).run Tryz.prog W = .ok (.agg #[.string ⟨#[48, 48, 48, 48, 48, 48, 48, 48, 48, 55, 45, 48, 48, 48, 48]⟩, .string ⟨#[97, 47, 98]⟩, .int .i64 7, .int .i64 2]) W
 s2 : EnSrc W (.slice (some ⟨g2, 0, none⟩) 2 c2) (some ⟨g2, 0, none⟩) c2 twoE
 s5 : EnSrc W (.slice (some ⟨g8, 0, none⟩) 5 5) (some ⟨g8, 0, none⟩) 5 fiveE
 bl : Below w.heap.size w W
theorem SW.of {w W : World} {g2 c2 g8 : Nat} (h2 : EnSrc W (.slice (some ⟨g2, 0, none⟩) 2 c2) (some ⟨g2, 0, none⟩) c2 twoE) (h5 : EnSrc W (.slice (some ⟨g8, 0, none⟩) 5 5) (some ⟨g8, 0, none⟩) 5 fiveE) (hb : Below w.heap.size w W) : SW w g2 c2 g8 W := by
 have h : EnAt W g2 (0 * 4) (twoE.getD 0 en0) := EnAt.of 0 (by decide) fun j u hu => by
  have := h2.cell g2 0 rfl j u hu
  rwa [Nat.zero_add] at this
 exact ⟨h.c0, h.load, h2, h5, hb⟩
theorem SW.on {w W W' : World} {g2 c2 g8 : Nat} (h : SW w g2 c2 g8 W) (hb : Below W.heap.size W W') : SW w g2 c2 g8 W' := SW.of (h.s2.on hb) (h.s5.on hb) (h.bl.trans (hb.mono h.bl.size))
theorem eqTwo (w : World) : (binOp .eql 28 (.agg #[.string ⟨#[48, 48, 48, 48, 48, 48, 48, 48, 48, 55, 45, 48, 48, 48, 48]⟩, .string ⟨#[97, 47, 98]⟩, .int .i64 7, .int .i64 2]) (.agg #[.string ⟨#[48, 48, 48, 48, 48, 48, 48, 48, 48, 55, 45, 48, 48, 48, 48]⟩, .string ⟨#[97, 47, 98]⟩, .int .i64 7, .int .i64 2])).run Tryz.prog w = .ok (.bool true) w := by kernel_rfl
theorem two_rise : Rise twoE := by unfold Rise Ahd; decide +kernel
theorem five_rise : Rise fiveE := by unfold Rise Ahd; decide +kernel
theorem SW.g1 {w W : World} {g2 c2 g8 : Nat} (h : SW w g2 c2 g8 W) : Calls Tryz.prog 15 #[.agg #[.int .i64 2, .int .i64 1, .int .i64 0], .slice (some ⟨g2, 0, none⟩) 2 c2, .int .i64 9] W fun e w' => e = .returned (.string ⟨#[48, 48, 48, 48, 48, 48, 48, 48, 48, 55, 45, 48, 48, 48, 48]⟩) ∧ Below W.heap.size W w' :=
 hgoes_any ⟨2, 1, 0⟩ h.s2 two_rise (by decide) (by decide) 9 _ goes1 (by decide)
theorem SW.g2 {w W : World} {g2 c2 g8 : Nat} (h : SW w g2 c2 g8 W) : Calls Tryz.prog 15 #[.agg #[.int .i64 3, .int .i64 0, .int .i64 0], .slice (some ⟨g8, 0, none⟩) 5 5, .int .i64 200] W fun e w' => e = .returned (.string ⟨#[51]⟩) ∧ Below W.heap.size W w' :=
 hgoes_any ⟨3, 0, 0⟩ h.s5 five_rise (by decide) (by decide) 200 _ goes2 (by decide)
set_option maxHeartbeats 8000000 in
theorem awake19_any (w : World) (hG : Gd w) : Calls Tryz.prog 8 #[] w fun e w' => e = .returned (.bool true) ∧ Below w.heap.size w w' := by
 have C1 := hid (two_any w hG)
 have HG := hid hG
 clear hG
 go_enter Tryz.func8, Tryz.ntmps8
 go_wp2_with fail
 refine C1.out.mono ?_; rintro e1 w1 ⟨p, rfl, hd1⟩
 have hq := neqPtr p
 have H1 := hid hd1
 have CL := list_any hd1 HG.out (by rw [two_room]; decide) [118, 49] (by decide) two_18
 rw [two_list] at CL
 have CL := hid CL
 clear hd1
 go_wp2_with fail
 refine CL.out.mono ?_; rintro e2 w2 ⟨v2, rfl, hr2, hb2⟩
 have H2 := hid (H1.out.on hb2)
 obtain ⟨A2, c2, hs2⟩ := hr2.src
 obtain rfl : v2 = .slice A2 2 c2 := hs2.form
 obtain ⟨g2, rfl⟩ : ∃ g, A2 = some ⟨g, 0, none⟩ := by
  rcases hr2.2 with ⟨k1, k2⟩ | ⟨g, c, cur, k1, _⟩
  · cases k2
  · injection k1 with k1 _ _; exact ⟨g, k1⟩
 have S2 := hid hs2
 clear hr2 hb2 hs2
 have CT := hid (fun t s W => at_any t s W)
 go_wp2_with fail
 refine (CT.out 0 [49] w2).mono ?_; rintro e3 w3 ⟨rfl, hb3⟩
 have B3 := hid hb3
 clear hb3
 go_wp2_with fail
 refine (CT.out 5 [50] w3).mono ?_; rintro e4 w4 ⟨rfl, hb4⟩
 have B4 := hid (B3.out.trans (hb4.mono B3.out.size))
 clear hb4
 go_wp2_with fail
 refine (CT.out 95 [51] w4).mono ?_; rintro e5 w5 ⟨rfl, hb5⟩
 have B5 := hid (B4.out.trans (hb5.mono B4.out.size))
 clear hb5
 go_wp2_with fail
 refine (CT.out 150 [52] w5).mono ?_; rintro e6 w6 ⟨rfl, hb6⟩
 have B6 := hid (B5.out.trans (hb6.mono B5.out.size))
 clear hb6
 go_wp2_with fail
 refine (CT.out 199 [53] w6).mono ?_; rintro e7 w7 ⟨rfl, hb7⟩
 have B7 := hid (B6.out.trans (hb7.mono B6.out.size))
 clear hb7
 unfold enA
 have S7 := hid ((S2.out.on B7.out))
 have B27 : Hid (Below w.heap.size w w7) := H2.out.bl.trans (B7.out.mono H2.out.bl.size)
 clear B3 B4 B5 B6 B7
 have HSW : Hid (∀ W, Below (w7.alloc (.cells #[kS [49], kS [97], .int .i64 0, .int .i64 0, kS [50], kS [97], .int .i64 5, .int .i64 0, kS [51], kS [97], .int .i64 95, .int .i64 0, kS [52], kS [97], .int .i64 150, .int .i64 0, kS [53], kS [97], .int .i64 199, .int .i64 0] 28)).heap.size (w7.alloc (.cells #[kS [49], kS [97], .int .i64 0, .int .i64 0, kS [50], kS [97], .int .i64 5, .int .i64 0, kS [51], kS [97], .int .i64 95, .int .i64 0, kS [52], kS [97], .int .i64 150, .int .i64 0, kS [53], kS [97], .int .i64 199, .int .i64 0] 28)) W → SW w g2 c2 w7.heap.size W) := fun W hb => by
  have ba : Below w7.heap.size w7 (w7.alloc (.cells #[kS [49], kS [97], .int .i64 0, .int .i64 0, kS [50], kS [97], .int .i64 5, .int .i64 0, kS [51], kS [97], .int .i64 95, .int .i64 0, kS [52], kS [97], .int .i64 150, .int .i64 0, kS [53], kS [97], .int .i64 199, .int .i64 0] 28)) := (Below.refl _ _).alloc (Nat.le_refl _) _
  have b7 := ba.trans (hb.mono ba.size)
  refine SW.of (S7.out.on b7) ?_ (B27.out.trans (b7.mono B27.out.size))
  refine EnSrc.on ⟨rfl, fun a e => ?_, fun e => (by cases e), fun g o e j u hu => ?_⟩ hb
  · injection e with e; exact ⟨_, 0, e.symm⟩
  · injection e with e
    injection e with e1 e2
    subst e1; subst e2
    rw [Nat.zero_add]
    refine ((Has.fresh w7 28 _).at_ j).trans ?_
    show (List.toArray (ecells fiveE))[j]? = _
    rw [List.getElem?_toArray]; exact hu
 go_wp2_with fail
 refine wp_region_noPanic ?_
 refine wp_region_held_drew (S := SW w g2 c2 w7.heap.size) (by kernel_rfl) (HSW.out _ ((Below.refl _ _).drew)) (fun hS => ?_)
 refine tkH 0 (v := ?_) (by simp only [lkA, lkB]; rfl) (by kernel_rfl) (fun _ _ _ h => h) (by rfl) (by assumption) ?_ ?_
 rotate_left 1
 · intro w hSw
   go_simp
   with_reducible rfl
 simp only [Act.put, siA, siB, siC]
 refine tkH 1 (v := ?_) (by simp only [lkA, lkB, lkC]; rfl) (by kernel_rfl) (fun _ _ _ h => h) (by rfl) (by assumption) ?_ ?_
 rotate_left 1
 · intro w hSw
   go_simp
   with_reducible rfl
 simp only [Act.put, siA, siB, siC]
 refine tkH 2 (v := ?_) (by simp only [lkA, lkB, lkC]; rfl) (by kernel_rfl) (fun _ _ _ h => h) (by rfl) (by assumption) ?_ ?_
 rotate_left 1
 · intro w hSw
   go_simp
   with_reducible rfl
 simp only [Act.put, siA, siB, siC]
 refine tkH 3 (v := ?_) (by simp only [lkA, lkB, lkC]; rfl) (by kernel_rfl) (fun _ _ _ h => h) (by rfl) (by assumption) ?_ ?_
 rotate_left 1
 · intro w hSw
   go_simp
   with_reducible rfl
 simp only [Act.put, siA, siB, siC]
 refine tkH 4 (v := ?_) (by simp only [lkA, lkB, lkC]; rfl) (by kernel_rfl) (fun _ _ _ h => h) (by rfl) (by assumption) ?_ ?_
 rotate_left 1
 · intro w hSw
   go_simp
   with_reducible rfl
 simp only [Act.put, siA, siB, siC]
 refine tkH 5 (v := ?_) (by simp only [lkA, lkB, lkC]; rfl) (by kernel_rfl) (fun _ _ _ h => h) (by rfl) (by assumption) ?_ ?_
 rotate_left 1
 · intro w hSw
   go_simp
   with_reducible rfl
 simp only [Act.put, siA, siB, siC]
 refine tkH 6 (v := ?_) (by simp only [lkA, lkB, lkC]; rfl) (by kernel_rfl) (fun _ _ _ h => h) (by rfl) (by assumption) ?_ ?_
 rotate_left 1
 · intro w hSw
   go_simp
   with_reducible rfl
 simp only [Act.put, siA, siB, siC]
 refine tkH 7 (v := ?_) (by simp only [lkA, lkB, lkC]; rfl) (by kernel_rfl) (fun _ _ _ h => h) (by rfl) (by assumption) ?_ ?_
 rotate_left 1
 · intro w hSw
   go_simp
   with_reducible rfl
 simp only [Act.put, siA, siB, siC]
 refine tkH 8 (v := ?_) (by simp only [lkA, lkB, lkC]; rfl) (by kernel_rfl) (fun _ _ _ h => h) (by rfl) (by assumption) ?_ ?_
 rotate_left 1
 · intro w hSw
   go_simp
   with_reducible rfl
 simp only [Act.put, siA, siB, siC]
 refine tkH 9 (v := ?_) (by simp only [lkA, lkB, lkC]; rfl) (by kernel_rfl) (fun _ _ _ h => h) (by rfl) (by assumption) ?_ ?_
 rotate_left 1
 · intro w hSw
   go_simp
   with_reducible rfl
 simp only [Act.put, siA, siB, siC]
 refine' wpAnyH_take (i := 10) (v := _) (by simp only [lkA, lkB, lkC]; rfl) (by kernel_rfl) (by kernel_rfl) (by kernel_rfl) (fun _ _ _ h => h) (yields_load (by rfl) 28 (.tmp 28) rfl g2 0 rfl _ (fun W h => h.l)) (by assumption) ?_
 simp only [Act.put, siA, siB, siC]
 refine tkH 11 (v := ?_) (by simp only [lkA, lkB, lkC]; rfl) (by kernel_rfl) (fun _ _ _ h => h) (by rfl) (by assumption) ?_ ?_
 rotate_left 1
 · intro w hSw
   go_simp
   with_reducible rfl
 simp only [Act.put, siA, siB, siC]
 refine tkH 12 (v := ?_) (by simp only [lkA, lkB, lkC]; rfl) (by kernel_rfl) (fun _ _ _ h => h) (by rfl) (by assumption) ?_ ?_
 rotate_left 1
 · intro w hSw
   have e1 := eqTwo w
   go_simp
   with_reducible rfl
 simp only [Act.put, siA, siB, siC]
 refine tkH 13 (v := ?_) (by simp only [lkA, lkB, lkC]; rfl) (by kernel_rfl) (fun _ _ _ h => h) (by rfl) (by assumption) ?_ ?_
 rotate_left 1
 · intro w hSw
   go_simp
   with_reducible rfl
 simp only [Act.put, siA, siB, siC]
 refine tkH 14 (v := ?_) (by simp only [lkA, lkB, lkC]; rfl) (by kernel_rfl) (fun _ _ _ h => h) (by rfl) (by assumption) ?_ ?_
 rotate_left 1
 · intro w hSw
   go_simp
   with_reducible rfl
 simp only [Act.put, siA, siB, siC]
 refine tkH 15 (v := ?_) (by simp only [lkA, lkB, lkC]; rfl) (by kernel_rfl) (fun _ _ _ h => h) (by rfl) (by assumption) ?_ ?_
 rotate_left 1
 · intro w hSw
   go_simp
   with_reducible rfl
 simp only [Act.put, siA, siB, siC]
 refine tkH 16 (v := ?_) (by simp only [lkA, lkB, lkC]; rfl) (by kernel_rfl) (fun _ _ _ h => h) (by rfl) (by assumption) ?_ ?_
 rotate_left 1
 · intro w hSw
   go_simp
   with_reducible rfl
 simp only [Act.put, siA, siB, siC]
 refine tkH 18 (v := ?_) (by simp only [lkA, lkB, lkC]; rfl) (by kernel_rfl) (fun _ _ _ h => h) (by rfl) (by assumption) ?_ ?_
 rotate_left 1
 · intro w hSw
   go_simp
   with_reducible rfl
 simp only [Act.put, siA, siB, siC]
 refine tkH 19 (v := ?_) (by simp only [lkA, lkB, lkC]; rfl) (by kernel_rfl) (fun _ _ _ h => h) (by rfl) (by assumption) ?_ ?_
 rotate_left 1
 · intro w hSw
   go_simp
   with_reducible rfl
 simp only [Act.put, siA, siB, siC]
 refine tkH 20 (v := ?_) (by simp only [lkA, lkB, lkC]; rfl) (by kernel_rfl) (fun _ _ _ h => h) (by rfl) (by assumption) ?_ ?_
 rotate_left 1
 · intro w hSw
   go_simp
   with_reducible rfl
 simp only [Act.put, siA, siB, siC]
 refine tkH 21 (v := ?_) (by simp only [lkA, lkB, lkC]; rfl) (by kernel_rfl) (fun _ _ _ h => h) (by rfl) (by assumption) ?_ ?_
 rotate_left 1
 · intro w hSw
   have e1 := hSw.c
   go_simp
   with_reducible rfl
 simp only [Act.put, siA, siB, siC]
 refine wpAnyH_ready (rs := [17]) (by kernel_rfl) (by simp) ?_
 refine AllReadyH.cons (by simp only [lkA, lkB, lkC]; rfl) (fun K hK => ?_) (AllReadyH.nil)
 go_simp
 refine (hS.g1).mono ?_
 rintro e9 w9 ⟨rfl, hb9⟩
 have hz1 := hS.on hb9
 refine hK.out _ _ hz1 (fun hS => ?_)
 clear hK K hS
 refine tkH 22 (v := ?_) (by simp only [lkA, lkB, lkC]; rfl) (by kernel_rfl) (fun _ _ _ h => h) (by rfl) (by assumption) ?_ ?_
 rotate_left 1
 · intro w hSw
   go_simp
   with_reducible rfl
 simp only [Act.put, siA, siB, siC]
 refine tkH 23 (v := ?_) (by simp only [lkA, lkB, lkC]; rfl) (by kernel_rfl) (fun _ _ _ h => h) (by rfl) (by assumption) ?_ ?_
 rotate_left 1
 · intro w hSw
   go_simp
   with_reducible rfl
 simp only [Act.put, siA, siB, siC]
 refine tkH 24 (v := ?_) (by simp only [lkA, lkB, lkC]; rfl) (by kernel_rfl) (fun _ _ _ h => h) (by rfl) (by assumption) ?_ ?_
 rotate_left 1
 · intro w hSw
   go_simp
   with_reducible rfl
 simp only [Act.put, siA, siB, siC]
 refine tkH 25 (v := ?_) (by simp only [lkA, lkB, lkC]; rfl) (by kernel_rfl) (fun _ _ _ h => h) (by rfl) (by assumption) ?_ ?_
 rotate_left 1
 · intro w hSw
   go_simp
   with_reducible rfl
 simp only [Act.put, siA, siB, siC]
 refine tkH 26 (v := ?_) (by simp only [lkA, lkB, lkC]; rfl) (by kernel_rfl) (fun _ _ _ h => h) (by rfl) (by assumption) ?_ ?_
 rotate_left 1
 · intro w hSw
   go_simp
   with_reducible rfl
 simp only [Act.put, siA, siB, siC]
 refine wpAnyH_ready (rs := [27]) (by kernel_rfl) (by simp) ?_
 refine AllReadyH.cons (by simp only [lkA, lkB, lkC]; rfl) (fun K hK => ?_) (AllReadyH.nil)
 go_simp
 refine (hz1.g2).mono ?_
 rintro e10 w10 ⟨rfl, hb10⟩
 have hz2 := hz1.on hb10
 refine hK.out _ _ hz2 (fun hS => ?_)
 clear hK K hS
 refine tkH 28 (v := ?_) (by simp only [lkA, lkB, lkC]; rfl) (by kernel_rfl) (fun _ _ _ h => h) (by rfl) (by assumption) ?_ ?_
 rotate_left 1
 · intro w hSw
   go_simp
   with_reducible rfl
 simp only [Act.put, siA, siB, siC]
 refine tkH 29 (v := ?_) (by simp only [lkA, lkB, lkC]; rfl) (by kernel_rfl) (fun _ _ _ h => h) (by rfl) (by assumption) ?_ ?_
 rotate_left 1
 · intro w hSw
   go_simp
   with_reducible rfl
 simp only [Act.put, siA, siB, siC]
 refine tkH 30 (v := ?_) (by simp only [lkA, lkB, lkC]; rfl) (by kernel_rfl) (fun _ _ _ h => h) (by rfl) (by assumption) ?_ ?_
 rotate_left 1
 · intro w hSw
   go_simp
   with_reducible rfl
 simp only [Act.put, siA, siB, siC]
 refine wpAnyH_done (by kernel_rfl) ?_ _
 refine NoPanic.normal ?_
 have BE := hid hz2.bl
 clear hz1 hz2 hb9 hb10
 go_wp2
 go_ret
 exact ⟨rfl, BE.out⟩
end Go.Proofs.YtabidnlbgdecbaaGreatDoor
namespace Go.Proofs.YtabidnlbgdecbaaGreatDoor
open Go.ChangeShapes Go.WideShapes Go.ChangeAt Go.ChangeMaps Go.WideElems Go.RowKit Go.Deep
theorem own : ownKnob Tryz.prog.godebug = none := by kernel_rfl
theorem laidOut : laidOutB Tryz.prog = true := by kernel_rfl
theorem gPow : Tryz.prog.globalNamed "internal/strconv.uint64pow10" = some 1 := by kernel_rfl
theorem tPow : (Tryz.prog.globals[1]?).map (·.type) = some 218 := by kernel_rfl
theorem cU64 : Tryz.prog.cellsOf 143 = 1 := by kernel_rfl
theorem cPow : Tryz.prog.cellsOf 218 = 20 := by kernel_rfl
theorem gSyn : Tryz.prog.globalNamed "strconv.ErrSyntax" = some 2 := by kernel_rfl
theorem tSyn : (Tryz.prog.globals[2]?).map (·.type) = some 133 := by kernel_rfl
theorem pow_data : (Rows.laid_internal_strconv_uint64pow10 : DataW Unit) = Lib.tabData .u64 Lib.pow10Tab := by kernel_rfl
def laidA : List (String × DataW Unit) := [("math/bits.deBruijn32tab", Rows.laid_math_bits_deBruijn32tab), ("math/bits.deBruijn64tab", Rows.laid_math_bits_deBruijn64tab), ("internal/strconv.uint64pow10", Rows.laid_internal_strconv_uint64pow10), ("strconv.ErrRange", Rows.laid_strconv_ErrRange), ("strconv.ErrSyntax", Rows.laid_strconv_ErrSyntax)]
theorem laid_met (os : Os) (args : Array Value) : laidMetH Tryz.prog laidA (((World.laidAll Tryz.prog os laidA).forCall (fun _ _ => 0) ⟨#[], args, []⟩).memory) := by
 rw [MakeChecks.laidMetH_plain _ _ _ (by kernel_rfl)]
 exact laidMet_laidAll _ (by kernel_rfl) (by kernel_rfl)
theorem low_size {w : World} (h : w.ShapedOpen Tryz.prog) : Tryz.prog.low ≤ w.heap.size := by
 have hk : decide (Tryz.prog.globals.size < Tryz.prog.low) = true := by kernel_rfl
 have hk := of_decide_eq_true hk
 obtain ⟨o, _, ho, _⟩ := h.2 (Tryz.prog.low - 1) (by omega) (by unfold Program.low at hk ⊢; omega)
 have := (Array.getElem?_eq_some_iff.1 ho).1
 omega
theorem tab_of_laid {W : World} {pre suf : List (String × DataW Unit)} {zs : DataW Unit} (hz : zs = Lib.tabData .u64 Lib.pow10Tab) : ∀ {ps : List MemPlace}, DataW.LaidVars Tryz.prog W (pre ++ ("internal/strconv.uint64pow10", zs) :: suf) ps → Lib.TabIs Tryz.prog W "internal/strconv.uint64pow10" .u64 Lib.pow10Tab := by
 induction pre with
 | nil =>
  rintro ps ⟨g', t', cs, fuel, p, q, hg', ht', hvar, hd, _, _⟩
  rw [hz] at hd
  obtain rfl := Option.some.inj (gPow.symm.trans hg')
  obtain rfl := Option.some.inj (tPow.symm.trans ht')
  unfold Lib.TabIs
  rw [hvar, ← Lib.cells_of_tab Tryz.underlying218 Tryz.underlying143 cU64 cPow hd]
 | cons a pre ih => rintro ps ⟨_, _, _, _, _, q, _, _, _, _, hr, _⟩; exact ih hr
theorem cell_of_var {P : Program} {W : World} {n : String} {g : Nat} {cs : Array Value} {v : Value} (hg : P.globalNamed n = some g) (h : W.var? P n = some cs) (hcs : cs.toList = [v]) : W.cell? ⟨g, 0, none⟩ = some v := by
 unfold World.var? at h
 rw [hg] at h
 have h2 : (match W.heap[g]? with | some (.cells cs _ _) => some cs | _ => none) = some cs := h
 split at h2
 · rename_i cs' t fr ho
   injection h2 with h2
   subst h2
   rw [cell_of_row W g 0 cs' t fr ho, ← Array.getElem?_toList, hcs]
   rfl
 · cases h2
theorem es_of_laid {W : World} {pre : List (String × DataW Unit)} {nm : String} {z : DataW Unit} : ∀ {ps : List MemPlace}, DataW.LaidVars Tryz.prog W (pre ++ [("strconv.ErrSyntax", .iface nm z)]) ps →
 ∃ ev, W.cell? ⟨2, 0, none⟩ = some ev ∧ (ev = .nilIface ∨ ∃ te pe, ev = .iface te pe) := by
 induction pre with
 | nil =>
  rintro ps ⟨g', t', cs, fuel, p, q, hg', ht', hvar, hd, _, _⟩
  obtain rfl := Option.some.inj (gSyn.symm.trans hg')
  obtain rfl := Option.some.inj (tSyn.symm.trans ht')
  obtain ⟨_, u, v, hcs, _, _⟩ := iface_of_trod Tryz.underlying133 hd
  refine ⟨.iface u v, ?_, .inr ⟨u, v, rfl⟩⟩
  exact cell_of_var hg' hvar hcs
 | cons a pre ih => rintro ps ⟨_, _, _, _, _, q, _, _, _, _, hr, _⟩; exact ih hr
theorem gd_of {W : World} (hsh : W.ShapedOpen Tryz.prog) (h : laidMetH Tryz.prog laidA W) : Gd W := by
 rw [MakeChecks.laidMetH_plain _ _ _ (by kernel_rfl)] at h
 obtain ⟨ps, h, _⟩ := h
 exact ⟨hsh, low_size hsh,
  tab_of_laid (pre := [("math/bits.deBruijn32tab", Rows.laid_math_bits_deBruijn32tab), ("math/bits.deBruijn64tab", Rows.laid_math_bits_deBruijn64tab)]) (suf := [("strconv.ErrRange", Rows.laid_strconv_ErrRange), ("strconv.ErrSyntax", Rows.laid_strconv_ErrSyntax)]) pow_data h,
  es_of_laid (pre := [("math/bits.deBruijn32tab", Rows.laid_math_bits_deBruijn32tab), ("math/bits.deBruijn64tab", Rows.laid_math_bits_deBruijn64tab), ("internal/strconv.uint64pow10", Rows.laid_internal_strconv_uint64pow10), ("strconv.ErrRange", Rows.laid_strconv_ErrRange)]) h⟩
section
variable {H : Type} {enc : TypeId × Value → H}
theorem handed_shaped {a : Assume} {C : Checked} {os : Os} {f : FuncId} {fn : Func} {s : ChangeSpec} {conds : List PathCond} {apart fresh handsOn again : Bool} {X : World → Array Value → Prop}
 (hX : ∀ (w w' : World) (args : Array Value), w.heap = w'.heap → X w args → X w' args)
 (own : ownKnob C.prog.godebug = none) (started : os.Started) (noInit : C.prog.inits.idxOf? f = none) (hfn : C.prog.funcs[f]? = some fn)
 (witness : ∃ (w : World) (tape : Tape) (i : Input), w.os = os ∧ (w.forCall tape i).Shaped C.prog ∧ i.vars = [] ∧ Input.okWide C.prog (w.forCall tape i) .any w.heap.size f i ∧
   ((s.pre enc C.prog fn conds apart (w.forCall tape i).memory i.args ∧ X (w.forCall tape i).memory i.args) ∧ sizedMet enc C.prog fn (OpenSpec.ofChange s) apart (w.forCall tape i).memory i.args) ∧ a.holds C.prog (lone (Frame.enter C.prog f i.args .normal) [] (w.forCall tape i)))
 (contract : ∀ (W : World) (base : Nat) (args : Array Value) (ds gs : List (DataW H)) (before : List MemPlace),
   (∀ (j : Nat) t v, fn.params[j]? = some t → args[j]? = some v → Value.okWide C.prog W .any base t v) →
   DataW.Whole enc C.prog fn.params.toList s.vars apart W args.toList ds gs before →
   (DataW.weightsEach C.prog (fn.params.toList ++ s.plain.varTypes C.prog) (ds ++ gs)).all (· ≤ reachBytes) = true → W.ShapedOpen C.prog → X W args →
   Calls C.prog f args W fun e W' => ∃ v, e = .returned v ∧ s.post enc C.prog fn apart fresh handsOn again W args v W') :
 ReturnsInHanded a C os f .any (fun w args => (s.pre enc C.prog fn conds apart w args ∧ X w args) ∧ sizedMet enc C.prog fn (OpenSpec.ofChange s) apart w args) (s.post enc C.prog fn apart fresh handsOn again) := by
 refine returnsInHanded_of_calls own started noInit witness ?_
 intro w tape i _ hsh _ hok hpre _
 obtain ⟨_, _, _, fn2, hf2, _, _, _, _, hval⟩ := hok
 obtain rfl : fn2 = fn := Option.some.inj (hf2.symm.trans hfn)
 obtain ⟨⟨⟨ds, gs, before, hw, _⟩, hx⟩, hz⟩ := hpre
 refine (contract (w.forCall tape i) w.heap.size i.args ds gs before hval (DataW.Whole.of_heap (w' := w.forCall tape i) (by rfl) hw) (hz.weights hw) hsh (hX _ _ _ (by rfl) hx)).mono fun e W2 ⟨v, he, hp⟩ => ?_
 subst he
 exact ChangeSpec.post_blind hp
end
theorem post_law {H : Type} {enc : TypeId × Value → H} {f : Func} {s : ChangeSpec} {W W' : World} {args : Array Value} {ds : List (DataW H)} {before pa : List MemPlace} (hv : s.vars = []) (hft : f.resultTypes = #[4])
 (hW : DataW.Whole enc Tryz.prog f.params.toList s.vars false W args.toList ds [] before) (hs : s.fn H (ds ++ []) = { results := [.lit (.bool true)], args := ds }) (hb : Below W.heap.size W W')
 (hargs : DataW.TrodAll enc Tryz.prog W' 0 (fun b => decide (b < W.heap.size)) true f.params.toList args.toList ds pa) :
 s.post enc Tryz.prog f false true false false W args (.bool true) W' := by
 refine ⟨ds, [], before, [], pa, [], hW, ?_, ?_, ?_, hb.frame _, fun h => by cases h⟩
 · rw [hs, hft]; exact trodAll_mk1 (shut_bool Tryz.underlying4 true)
 · rw [hs]; exact hargs
 · rw [hs, hv]; exact rfl
end Go.Proofs.YtabidnlbgdecbaaGreatDoor
namespace Go.Proofs.YtabidnlbgdecbaaGreatDoor
open Go.RowKit Go.Maps
theorem num2 : ∀ n, n < 161 → valL (numL 2 n) = n ∧ (numL 2 n).length = 2 := by decide +kernel
theorem text_back (p s : By) (hp : p.length ≤ 160) : textS (false, textL p ++ s) 160 = (p, (false, s)) := by
 obtain ⟨h1, h2⟩ := num2 p.length (by omega)
 have e : textL p ++ s = numL 2 p.length ++ (p ++ s) := by unfold textL; rw [List.append_assoc]
 have ht : (numL 2 p.length ++ (p ++ s)).take 2 = numL 2 p.length := by rw [← h2]; exact List.take_left
 have hd : (numL 2 p.length ++ (p ++ s)).drop 2 = p ++ s := by rw [← h2]; exact List.drop_left
 have hl : (numL 2 p.length ++ (p ++ s)).length = 2 + (p.length + s.length) := by rw [List.length_append, List.length_append, h2]
 have hw : wid 2 = true := by decide
 have hn : nxt (false, numL 2 p.length ++ (p ++ s)) 2 = some p.length := by
  unfold nxt
  rw [if_pos ⟨rfl, hw, by simp only; rw [hl]; omega⟩]
  show some (valL ((numL 2 p.length ++ (p ++ s)).take 2)) = _
  rw [ht, h1]
 rw [e]
 unfold textS
 rw [hn]
 simp only
 rw [if_pos ⟨by omega, by rw [hl]; omega⟩, hd, List.take_left, List.drop_left]
theorem open_back (t i : Nat) (p s : By) (time : Int) (ht : t ≤ 4294967295) (hi : i < 10000) (hm : mayB p = true) : openA (nameA t i) ⟨1, textL p ++ s, [], time⟩ = some (⟨nameA t i, p, (t : Int), (s.length : Nat)⟩, s) := by
 have hp := (may_parts hm).1
 unfold openA openT
 simp only [text_back p s hp, timeTryzname t i (by omega) hi, hm]
 rfl
theorem freeF_some (L : Tr) (root : By) (t : Nat) : ∀ f i j, freeF L root t f i = some j → hasM L (root ++ 47 :: nameA t j) = false ∧ j < i + f := by
 intro f
 induction f with
 | zero => intro i j h; cases h
 | succ f ih =>
  intro i j h
  unfold freeF at h
  split at h
  · have := ih _ _ h; exact ⟨this.1, by omega⟩
  · rename_i hc
    injection h with h
    subst h
    exact ⟨by simpa using hc, by omega⟩
theorem write_ok {room : Nat} {L : Tr} {p d : By} {t : Int} (h : (stepE room L (.write p d t)).1 = 0) : (stepE room L (.write p d t)).2 = ins p ⟨1, d, [], t⟩ L ∧ mayB p = true := by
 unfold stepE at h ⊢
 simp only at h ⊢
 split at h
 · rename_i h1
   rw [if_pos h1]
   split at h
   · rename_i h2
     rw [if_pos h2]
     split at h
     · rename_i h3
       rw [if_pos h3]
       split at h
       · rename_i h4
         rw [if_pos h4]
         unfold putE at h ⊢
         split at h
         · rename_i h5; rw [if_pos h5]; exact ⟨rfl, h1⟩
         · cases h
       · rename_i h4; exact absurd h h4
     · rename_i h3; exact absurd h h3
   · cases h
 · cases h
theorem two_has : hasM twoM.now [118, 49] = true := by decide +kernel
theorem two_fuse : twoM.fuse = -1 := by decide +kernel
theorem add_two (p s : By) (time now : Int) :
 ((addM twoM [118, 49] p ⟨1, s, [], time⟩ now).1.2 ≠ 0 ∧ (addM twoM [118, 49] p ⟨1, s, [], time⟩ now).1.1 = [] ∧ (addM twoM [118, 49] p ⟨1, s, [], time⟩ now).2 = twoM) ∨
 ∃ t i : Nat, (addM twoM [118, 49] p ⟨1, s, [], time⟩ now).1 = (nameA t i, 0) ∧ mayB p = true ∧ now = (t : Int) ∧ t ≤ 4294967295 ∧ i < 10000 ∧ mayB ([118, 49] ++ 47 :: nameA t i) = true ∧ look twoM.now ([118, 49] ++ 47 :: nameA t i) = none ∧
  (addM twoM [118, 49] p ⟨1, s, [], time⟩ now).2.now = ins ([118, 49] ++ 47 :: nameA t i) ⟨1, textL p ++ s, [], time⟩ twoM.now ∧ (addM twoM [118, 49] p ⟨1, s, [], time⟩ now).2.room = 16384 := by
 have hR : rootM twoM [118, 49] = (0, twoM) := by unfold rootM; rw [two_has]; rfl
 unfold addM
 by_cases h1 : mayB [118, 49] = true ∧ mayB p = true
 case neg => rw [if_neg h1]; exact .inl ⟨by decide, rfl, rfl⟩
 rw [if_pos h1, if_pos rfl]
 by_cases h2 : now = nearM now
 case neg => rw [if_neg h2]; exact .inl ⟨by decide, rfl, rfl⟩
 rw [if_pos h2]
 have hn := near_in now
 rw [← h2] at hn
 unfold addK
 rw [if_neg (by rw [two_has]; rintro ⟨h, _⟩; cases h)]
 simp only
 obtain ⟨P, hP⟩ : ∃ P, putM twoM [118, 49] now.toNat (textL p ++ s) time = P := ⟨_, rfl⟩
 rw [hP]
 unfold putM at hP
 rw [hR, if_pos rfl] at hP
 simp only at hP
 cases hf : freeM twoM.now [118, 49] now.toNat with
 | none =>
  rw [hf] at hP
  have hP2 : ((([] : By), (7 : Int)), twoM) = P := hP
  subst hP2
  exact .inl ⟨by decide, rfl, rfl⟩
 | some i =>
  rw [hf] at hP
  simp only at hP
  obtain ⟨hh, hi⟩ := freeF_some _ _ _ _ _ _ hf
  unfold doM at hP
  rw [if_neg (by rw [two_fuse]; decide)] at hP
  by_cases hc : (stepE twoM.room twoM.now (.write ([118, 49] ++ 47 :: nameA now.toNat i) (textL p ++ s) time)).1 = 0
  · rw [if_pos hc] at hP
    obtain ⟨hw, hm⟩ := write_ok hc
    generalize hT : (stepE twoM.room twoM.now (.write ([118, 49] ++ 47 :: nameA now.toNat i) (textL p ++ s) time)).2 = T at hP hw
    have hP2 : ((nameA now.toNat i, (0 : Int)), (⟨T, twoM.last, twoM.since ++ [.write ([118, 49] ++ 47 :: nameA now.toNat i) (textL p ++ s) time], burnF twoM.fuse, twoM.room⟩ : Mo)) = P := hP
    subst hP2
    rw [if_pos rfl]
    refine .inr ⟨now.toNat, i, rfl, h1.2, by omega, by omega, by omega, hm, ?_, hw, two_room⟩
    unfold hasM readM at hh
    rw [if_pos hm] at hh
    cases hl : look twoM.now ([118, 49] ++ 47 :: nameA now.toNat i) with
    | none => rfl
    | some n => rw [hl] at hh; simp at hh
  · rw [if_neg hc] at hP
    generalize (stepE twoM.room twoM.now (.write ([118, 49] ++ 47 :: nameA now.toNat i) (textL p ++ s) time)).1 = cc at hc hP
    have hP2 : ((nameA now.toNat i, cc), twoM) = P := hP
    subst hP2
    rw [if_neg hc]
    exact .inl ⟨hc, rfl, rfl⟩
end Go.Proofs.YtabidnlbgdecbaaGreatDoor
namespace Go.Proofs.YtabidnlbgdecbaaGreatDoor
open Go.RowKit Go.Maps
theorem del_none {L : Tr} {p : By} (h : look L p = none) : del L p = L := by
 induction L with
 | nil => rfl
 | cons x l ih =>
  obtain ⟨q, m⟩ := x
  unfold look at h
  split at h
  · cases h
  · rename_i hq
    have := ih h
    unfold del at this ⊢
    rw [List.filter_cons_of_pos (by simpa using hq), this]
theorem ins_perm {L : Tr} {p : By} (n : Nd) (h : look L p = none) : (ins p n L).Perm ((p, n) :: L) := by
 induction L with
 | nil => exact List.Perm.refl _
 | cons x l ih =>
  obtain ⟨q, m⟩ := x
  unfold ins
  split
  · rw [del_none h]
  · unfold look at h
    split at h
    · cases h
    · exact ((ih h).cons _).trans (List.Perm.swap _ _ _)
theorem name_flat (t i : Nat) : flatB (nameA t i) = true := by
 rw [flat_iff]
 intro h
 unfold nameA at h
 rw [List.mem_append, List.mem_cons] at h
 rcases h with h | h | h
 · have := digs_dig 10 t _ h; revert this; decide
 · cases h
 · have := digs_dig 4 i _ h; revert this; decide
def rootT : By := [118, 49]
section
variable {t i : Nat} {p s : By} {time : Int}
def moreT (t i : Nat) (p s : By) (time : Int) : Tr := ins (rootT ++ 47 :: nameA t i) ⟨1, textL p ++ s, [], time⟩ twoM.now
theorem more_read (hm : mayB (rootT ++ 47 :: nameA t i) = true) : readM (moreT t i p s time) (rootT ++ 47 :: nameA t i) = (⟨1, textL p ++ s, [], time⟩, 0) := by
 unfold readM moreT
 rw [if_pos hm, look_ins, if_pos rfl]
theorem more_other (hl : look twoM.now (rootT ++ 47 :: nameA t i) = none) (x : By) (hx : (look twoM.now x).isSome = true) : readM (moreT t i p s time) x = readM twoM.now x := by
 have e : look (moreT t i p s time) x = look twoM.now x := by
  unfold moreT
  rw [look_ins, if_neg (fun e => by rw [e, hl] at hx; cases hx)]
 unfold readM
 rw [e]
theorem more_new (hm : mayB (rootT ++ 47 :: nameA t i) = true) (ht : t ≤ 4294967295) (hi : i < 10000) (hp : mayB p = true) : readA (moreT t i p s time) rootT (nameA t i) = ((p, ⟨1, s, [], time⟩), 0) := by
 unfold readA
 rw [if_pos hm, more_read hm, if_pos rfl]
 simp only [open_back t i p s time ht hi hp]
theorem more_old (hl : look twoM.now (rootT ++ 47 :: nameA t i) = none) : readA (moreT t i p s time) rootT [48, 48, 48, 48, 48, 48, 48, 48, 48, 55, 45, 48, 48, 48, 49] = (([97, 47, 98], ⟨1, [120, 121], [], 3⟩), 0) := by
 have e : readA (moreT t i p s time) rootT [48, 48, 48, 48, 48, 48, 48, 48, 48, 55, 45, 48, 48, 48, 49] = readA twoM.now rootT [48, 48, 48, 48, 48, 48, 48, 48, 48, 55, 45, 48, 48, 48, 49] := by
  unfold readA
  rw [more_other hl _ (by decide +kernel)]
 rw [e]
 decide +kernel
theorem more_child (hl : look twoM.now (rootT ++ 47 :: nameA t i) = none) : (childL (moreT t i p s time) rootT).Perm (nameA t i :: twoL) := by
 have hk : kindP (moreT t i p s time) rootT = 2 := by
  unfold moreT
  rw [kindP_ins (fun e => by have := congrArg List.length e; simp [nameTryzlen, rootT] at this)]
  decide +kernel
 have hb : innerL twoM.now rootT = twoL := by decide +kernel
 have hk2 : kindP twoM.now rootT = 2 := by decide +kernel
 have hin : (innerL (moreT t i p s time) rootT).Perm (nameA t i :: twoL) := by
  unfold innerL at hb ⊢
  rw [if_pos hk2] at hb
  rw [if_pos hk, ← hb]
  unfold restsL
  refine ((ins_perm _ hl).filterMap _).trans ?_
  rw [List.filterMap_cons]
  have h1 : (beginL rootT).isPrefixOf (rootT ++ 47 :: nameA t i) = true := rfl
  have h2 : (rootT ++ 47 :: nameA t i).drop (beginL rootT).length = nameA t i := rfl
  simp only [h1, h2, if_true]
  exact List.Perm.refl _
 unfold childL
 refine (hin.filter _).trans ?_
 rw [List.filter_cons_of_pos (name_flat t i)]
 have : twoL.filter flatB = twoL := by decide +kernel
 rw [this]
theorem more_list (hl : look twoM.now (rootT ++ 47 :: nameA t i) = none) : (listM (moreT t i p s time) rootT).1.Perm (nameA t i :: twoL) ∧ (listM (moreT t i p s time) rootT).2 = 0 := by
 have hk : kindP (moreT t i p s time) rootT = 2 := by
  unfold moreT
  rw [kindP_ins (fun e => by have := congrArg List.length e; simp [nameTryzlen, rootT] at this)]
  decide +kernel
 have h3 : (!decide (rootT = []) && !mayB rootT) = false := by decide +kernel
 unfold listM noDirE
 rw [h3, hk]
 simp only [Bool.false_eq_true, if_false, if_true]
 exact ⟨(List.mergeSort_perm _ _).trans (more_child hl), trivial⟩
theorem more_18 (hl : look twoM.now (rootT ++ 47 :: nameA t i) = none) : ∀ x ∈ (listM (moreT t i p s time) rootT).1, x.length ≤ 18 := by
 intro x hx
 rw [(more_list hl).1.mem_iff, List.mem_cons] at hx
 rcases hx with rfl | hx
 · rw [nameTryzlen]; omega
 · revert x; decide +kernel
theorem more_arcs (hl : look twoM.now (rootT ++ 47 :: nameA t i) = none) (hm : mayB (rootT ++ 47 :: nameA t i) = true) (ht : t ≤ 4294967295) (hi : i < 10000) (hp : mayB p = true) :
 (listA (moreT t i p s time) rootT).1.length = 3 ∧ (listA (moreT t i p s time) rootT).2 = 0 := by
 have h1 : mayB rootT = true := by decide +kernel
 obtain ⟨h2, h3⟩ := more_list (p := p) (s := s) (time := time) hl
 unfold listA
 rw [if_pos h1, if_pos h3]
 refine ⟨?_, rfl⟩
 show (arcs _ _ _).length = 3
 have hA : (arcs (moreT t i p s time) rootT (listM (moreT t i p s time) rootT).1).length = (arcs (moreT t i p s time) rootT (nameA t i :: twoL)).length := (h2.filterMap _).length_eq
 rw [hA]
 have k0 : (openA (nameA t i) (readM (moreT t i p s time) (rootT ++ 47 :: nameA t i)).1).isSome = true := by rw [more_read hm, open_back t i p s time ht hi hp]; rfl
 have kx : ∀ x ∈ twoL, (openA x (readM (moreT t i p s time) (rootT ++ 47 :: x)).1).isSome = true := by
  intro x hx
  rw [more_other hl _ (by revert x; decide +kernel)]
  revert x; decide +kernel
 unfold arcs
 have hall : ∀ xs : List By, (∀ x ∈ xs, (openA x (readM (moreT t i p s time) (rootT ++ 47 :: x)).1).isSome = true) → (xs.filterMap fun x => (openA x (readM (moreT t i p s time) (rootT ++ 47 :: x)).1).map (·.1)).length = xs.length := by
  intro xs
  induction xs with
  | nil => intro _; rfl
  | cons x l ih =>
   intro h
   have h0 := h x (List.mem_cons_self ..)
   obtain ⟨y, hy⟩ := Option.isSome_iff_exists.1 h0
   rw [List.filterMap_cons, hy]
   simp only [Option.map_some, List.length_cons]
   rw [ih fun z hz => h z (List.mem_cons_of_mem _ hz)]
 rw [hall _ (fun x hx => by
  rw [List.mem_cons] at hx
  rcases hx with rfl | hx
  · exact k0
  · exact kx x hx)]
 rfl
end
end Go.Proofs.YtabidnlbgdecbaaGreatDoor
namespace Go.Proofs.YtabidnlbgdecbaaGreatDoor
open Go.RowKit Go.Maps
section
variable {p s : By} {time now : Int}
set_option maxHeartbeats 4000000 in
theorem back_long (w : World) (hG : Gd w) (h : 3000 < s.length ∨ (s.length ≤ 3000 ∧ 400 < p.length)) : Calls Tryz.prog 6 #[kS p, kS s, .int .i64 time, .int .i64 now] w fun e w' => e = .returned (.bool true) ∧ Below w.heap.size w w' := by
 have CW := hid (awake19_any w hG)
 clear hG
 have zs : (ba s).size = s.length := ba_size s
 have zp : (ba p).size = p.length := ba_size p
 rcases h with h | ⟨h1, h2⟩
 · have q1 : (3000 : Int) < ((ba s).size : Int) := by omega
   clear zs zp h
   go_enter Tryz.func6, Tryz.ntmps6
   go_wp2_with fail
   refine CW.out.mono ?_; rintro e1 w1 ⟨rfl, hb1⟩
   go_wp2
   go_ret
   exact ⟨rfl, hb1⟩
 · have q1 : ¬ (3000 : Int) < ((ba s).size : Int) := by omega
   have q2 : (400 : Int) < ((ba p).size : Int) := by omega
   clear zs zp h1 h2
   go_enter Tryz.func6, Tryz.ntmps6
   go_wp2_with fail
   refine CW.out.mono ?_; rintro e1 w1 ⟨rfl, hb1⟩
   go_wp2
   go_ret
   exact ⟨rfl, hb1⟩
set_option maxHeartbeats 8000000 in
theorem back_no (w : World) (hG : Gd w) (hs : s.length ≤ 3000) (hp : p.length ≤ 400) (c : Int) (hc : c ≠ 0) (ha : addM twoM [118, 49] p ⟨1, s, [], time⟩ now = (([], c), twoM)) :
 Calls Tryz.prog 6 #[kS p, kS s, .int .i64 time, .int .i64 now] w fun e w' => e = .returned (.bool true) ∧ Below w.heap.size w w' := by
 have C1 := hid (two_any w hG)
 have CW := hid (fun W (hb : Below w.heap.size w W) => awake19_any W (hG.kept hb))
 have HG := hid hG
 have zs : (ba s).size = s.length := ba_size s
 have zp : (ba p).size = p.length := ba_size p
 have q1 : ¬ (3000 : Int) < ((ba s).size : Int) := by omega
 have q2 : ¬ (400 : Int) < ((ba p).size : Int) := by omega
 have CF := hid (fun W => file_any s time W)
 have HS := hid hs
 have HP := hid hp
 have HA := hid ha
 have c0 : (c == 0) = false := by simp [hc]
 clear zs zp hG hs hp ha hc
 go_enter Tryz.func6, Tryz.ntmps6
 go_wp2_with fail
 refine C1.out.mono ?_; rintro e1 w1 ⟨d, rfl, hd1⟩
 have hq := neqPtr d
 have H1 := hid hd1
 have CA : Hid (∀ W, Below w1.heap.size w1 W → Calls Tryz.prog 19 #[.pointer (some ⟨d, 0, none⟩), kS [118, 49], kS p, .agg #[.int .i64 1, kS s, kS [], .int .i64 time], .int .i64 now] W fun e w' =>
  e = .returned (.tuple #[.string ⟨#[]⟩, .int .i64 c]) ∧ DW w (fun _ => False) w' d twoM) := fun W hb => (add_any (hd1.on hb) HG.out [118, 49] (by decide) p (by have := HP.out; omega) 1 s [] time now (by have := HS.out; omega) (by rw [two_len]; decide)).mono fun e w' h => by
  obtain ⟨k1, k2, _⟩ := h
  rw [HA.out] at k1 k2
  exact ⟨k1, k2⟩
 clear hd1
 go_wp2_with fail
 refine (CF.out w1).mono ?_; rintro e2 w2 ⟨rfl, hb2⟩
 have C2 := hid (CA.out w2 hb2)
 clear hb2
 unfold nodeV
 go_wp2_with fail
 refine C2.out.mono ?_; rintro e3 w3 ⟨rfl, hd3⟩
 have H3 := hid hd3
 have CL := list_any hd3 HG.out (by rw [two_room]; decide) [118, 49] (by decide) two_18
 rw [two_list] at CL
 have CL := hid CL
 clear hd3
 go_wp2_with fail
 refine CL.out.mono ?_; rintro e4 w4 ⟨v4, rfl, hr4, hb4⟩
 have H4 := hid (H3.out.on hb4)
 obtain ⟨A4, c4, rfl⟩ := hr4.form
 have C5 := hid (CW.out w4 H4.out.bl)
 have n2 : (twoE.length : Int) = 2 := rfl
 clear hr4 hb4
 simp only
 go_wp2_with fail
 refine C5.out.mono ?_; rintro e5 w5 ⟨rfl, hb5⟩
 have B5 : Hid (Below w.heap.size w w5) := H4.out.bl.trans (hb5.mono H4.out.bl.size)
 clear hb5
 go_wp2
 go_ret
 exact ⟨rfl, B5.out⟩
end
end Go.Proofs.YtabidnlbgdecbaaGreatDoor
namespace Go.Proofs.YtabidnlbgdecbaaGreatDoor
open Go.RowKit Go.Maps
structure SB (w : World) (g d : Nat) (M : Mo) (k : Int) (dt tg : By) (tm : Int) (W : World) : Prop where
 h : Has W g 44 (ndA k dt tg tm)
 l : (loadVar 44 ⟨g, 0, none⟩).run Tryz.prog W = .ok (.agg #[.int .i64 k, kS dt, kS tg, .int .i64 tm]) W
 dw : DW w (fun _ => False) W d M
theorem SB.of {w W : World} {g d : Nat} {M : Mo} {k : Int} {dt tg : By} {tm : Int} (h : Has W g 44 (ndA k dt tg tm)) (dw : DW w (fun _ => False) W d M) : SB w g d M k dt tg tm W :=
 ⟨h, load_nodeC h, dw⟩
theorem SB.on {w W W' : World} {g d : Nat} {M : Mo} {k : Int} {dt tg : By} {tm : Int} (h : SB w g d M k dt tg tm W) (hb : Below W.heap.size W W') : SB w g d M k dt tg tm W' := SB.of (h.h.kept hb h.h.inside) (h.dw.on hb)
structure SD (w : World) (g : Nat) (k : Int) (dt tg : By) (tm : Int) (W : World) : Prop where
 h : Has W g 44 (ndA k dt tg tm)
 l : (loadVar 44 ⟨g, 0, none⟩).run Tryz.prog W = .ok (.agg #[.int .i64 k, kS dt, kS tg, .int .i64 tm]) W
 bl : Below w.heap.size w W
theorem SD.of {w W : World} {g : Nat} {k : Int} {dt tg : By} {tm : Int} (h : Has W g 44 (ndA k dt tg tm)) (bl : Below w.heap.size w W) : SD w g k dt tg tm W := ⟨h, load_nodeC h, bl⟩
theorem SD.on {w W W' : World} {g : Nat} {k : Int} {dt tg : By} {tm : Int} (h : SD w g k dt tg tm W) (hb : Below W.heap.size W W') : SD w g k dt tg tm W' := SD.of (h.h.kept hb h.h.inside) (h.bl.trans (hb.mono h.bl.size))
theorem ne_nd (k : Int) (dt tg : By) (tm : Int) (w : World) : (binOp .neq 44 (.agg #[.int .i64 k, kS dt, kS tg, .int .i64 tm]) (.agg #[.int .i64 k, kS dt, kS tg, .int .i64 tm])).run Tryz.prog w = .ok (.bool false) w := by
 have := neqNode_any ⟨k, dt, tg, tm⟩ ⟨k, dt, tg, tm⟩ w
 rw [decide_eq_true rfl] at this
 exact this
theorem eq_nd (k : Int) (dt tg : By) (tm : Int) (w : World) : (binOp .eql 44 (.agg #[.int .i64 k, kS dt, kS tg, .int .i64 tm]) (.agg #[.int .i64 k, kS dt, kS tg, .int .i64 tm])).run Tryz.prog w = .ok (.bool true) w := by
 have := eqNode_any ⟨k, dt, tg, tm⟩ ⟨k, dt, tg, tm⟩ w
 rw [decide_eq_true rfl] at this
 exact this
section
variable {p s : By} {time now : Int}
set_option maxHeartbeats 8000000 in
theorem back_yes (w : World) (hG : Gd w) (hs : s.length ≤ 3000) (hp : p.length ≤ 400) (t i : Nat) (ha : (addM twoM [118, 49] p ⟨1, s, [], time⟩ now).1 = (nameA t i, 0)) (hm : mayB p = true) (ht : t ≤ 4294967295) (hi : i < 10000)
 (hq : mayB (rootT ++ 47 :: nameA t i) = true) (hl : look twoM.now (rootT ++ 47 :: nameA t i) = none) (hn : (addM twoM [118, 49] p ⟨1, s, [], time⟩ now).2.now = moreT t i p s time) (hr : (addM twoM [118, 49] p ⟨1, s, [], time⟩ now).2.room = 16384) :
 Calls Tryz.prog 6 #[kS p, kS s, .int .i64 time, .int .i64 now] w fun e w' => e = .returned (.bool true) ∧ Below w.heap.size w w' := by
 have C1 := hid (two_any w hG)
 have CW := hid (fun W (hb : Below w.heap.size w W) => awake19_any W (hG.kept hb))
 have HG := hid hG
 have zs : (ba s).size = s.length := ba_size s
 have zp : (ba p).size = p.length := ba_size p
 have q1 : ¬ (3000 : Int) < ((ba s).size : Int) := by omega
 have q2 : ¬ (400 : Int) < ((ba p).size : Int) := by omega
 have CF : Hid (∀ (s : By) (time : Int) (W : World), Calls Tryz.prog 18 #[kS s, .int .i64 time] W fun e w' => e = .returned (.agg #[.int .i64 1, kS s, kS [], .int .i64 time]) ∧ Below W.heap.size W w') := fun s time W => file_any s time W
 have HS := hid hs
 have HP := hid hp
 have HA := hid ha
 have HN := hid hn
 have HR := hid hr
 have HRN := hid (more_new (s := s) (time := time) hq ht hi hm)
 have HRO := hid (more_old (p := p) (s := s) (time := time) hl)
 have HLS := hid (more_arcs (s := s) (time := time) hl hq ht hi hm)
 have H18 := hid (more_18 (p := p) (s := s) (time := time) hl)
 have n15 : (nameA t i).length ≤ 18 := by rw [nameTryzlen]; omega
 have N15 := hid n15
 clear zs zp hG hs hp ha hm ht hi hq hl hn hr n15
 go_enter Tryz.func6, Tryz.ntmps6
 go_wp2_with fail
 refine C1.out.mono ?_; rintro e1 w1 ⟨d, rfl, hd1⟩
 have hq := neqPtr d
 have H1 := hid hd1
 obtain ⟨M3, HM3⟩ : ∃ M, Hid ((addM twoM [118, 49] p ⟨1, s, [], time⟩ now).2 = M) := ⟨_, rfl⟩
 have CA : Hid (∀ W, Below w1.heap.size w1 W → Calls Tryz.prog 19 #[.pointer (some ⟨d, 0, none⟩), kS [118, 49], kS p, .agg #[.int .i64 1, kS s, kS [], .int .i64 time], .int .i64 now] W fun e w' =>
  e = .returned (.tuple #[kS (nameA t i), .int .i64 0]) ∧ DW w (fun _ => False) w' d M3) := fun W hb => (add_any (hd1.on hb) HG.out [118, 49] (by decide) p (by have := HP.out; omega) 1 s [] time now (by have := HS.out; omega) (by rw [two_len]; decide)).mono fun e w' h => by
  obtain ⟨k1, k2, _⟩ := h
  rw [HA.out] at k1
  rw [HM3.out] at k2
  exact ⟨k1, k2⟩
 have HN3 : Hid (M3.now = moreT t i p s time) := by show _ = _; rw [← HM3.out]; exact HN.out
 have HR3 : Hid (M3.room ≤ 100000) := by show _ ≤ _; rw [← HM3.out, HR.out]; decide
 clear hd1
 go_wp2_with fail
 refine (CF.out s time w1).mono ?_; rintro e2 w2 ⟨rfl, hb2⟩
 have C2 := hid (CA.out w2 hb2)
 clear hb2
 go_wp2_with fail
 refine C2.out.mono ?_; rintro e3 w3 ⟨rfl, hd3⟩
 have H3 := hid hd3
 have CR : Hid (Calls Tryz.prog 16 #[.pointer (some ⟨d, 0, none⟩), kS [118, 49], kS (nameA t i)] w3 fun e w' => e = .returned (.tuple #[kS p, .agg #[.int .i64 1, kS s, kS [], .int .i64 time], .int .i64 0]) ∧ Below w3.heap.size w3 w') :=
  (aread_any hd3 HG.out HR3.out [118, 49] (by decide) (nameA t i) N15.out).mono fun e w' h => by
    rw [HN3.out] at h
    have k := HRN.out
    unfold rootT at k
    rw [k] at h
    exact h
 clear hd3
 go_wp2_with fail
 refine CR.out.mono ?_; rintro e4 w4 ⟨rfl, hb4⟩
 have H4 := hid (H3.out.on hb4)
 clear hb4
 obtain ⟨wz, hwz⟩ : ∃ V, w4.alloc (.cells #[.int .i64 0, .string ⟨#[]⟩, .string ⟨#[]⟩, .int .i64 0] 44) = V := ⟨_, rfl⟩
 have bz : Below w4.heap.size w4 wz := hwz ▸ (Below.refl _ _).alloc (Nat.le_refl _) _
 have XZ : Hid (Has wz w4.heap.size 44 (ndA 0 [] [] 0)) := by rw [← hwz]; exact Has.fresh _ _ _
 obtain ⟨w5, hw5⟩ : ∃ V, wz.setRow w4.heap.size (ndA 1 s [] time) = V := ⟨_, rfl⟩
 have b5 : Below w4.heap.size w4 w5 := hw5 ▸ bz.rowK (Nat.le_refl _) _
 have X5 : Hid (Has w5 w4.heap.size 44 (ndA 1 s [] time)) := by rw [← hw5]; exact XZ.out.row
 have H5 := hid (H4.out.on b5)
 clear bz b5
 go_wp2_with (first
  | (refine wpList_store_row rfl 44 (.tmp 15) (.tmp 67) rfl w4.heap.size (ndA 1 s [] time) rfl rfl 44 _ XZ.out (by kernel_rfl) rfl (by simp [ndA, Value.oneCell']) ?_; rw [hw5]))
 have CL := list_any H5.out HG.out HR3.out [118, 49] (by decide) (by rw [HN3.out]; exact H18.out)
 rw [HN3.out] at CL
 obtain ⟨⟨LE, ce⟩, HLE⟩ : ∃ r, Hid (listA (moreT t i p s time) [118, 49] = r) := ⟨_, rfl⟩
 have hls := HLS.out
 unfold rootT at hls
 rw [HLE.out] at hls CL
 obtain ⟨hl3, hce⟩ := hls
 simp only at hl3 hce CL
 subst hce
 have HL3 := hid hl3
 have CL := hid CL
 clear hl3
 refine CL.out.mono ?_; rintro e6 w6 ⟨v6, rfl, hr6, hb6⟩
 have H6 := hid (H5.out.on hb6)
 have X6 : Hid (Has w6 w4.heap.size 44 (ndA 1 s [] time)) := X5.out.kept hb6 X5.out.inside
 obtain ⟨A6, c6, rfl⟩ := hr6.form
 rw [HL3.out]
 clear hr6 hb6
 go_wp2_with fail
 have S6 : Hid (∀ W, Below w6.heap.size w6 W → SB w w4.heap.size d M3 1 s [] time W) := fun W hb => (SB.of X6.out H6.out).on hb
 refine wp_region_noPanic ?_
 refine wp_region_held_drew (S := SB w w4.heap.size d M3 1 s [] time) (by kernel_rfl) (S6.out _ ((Below.refl _ _).drew)) (fun hS => ?_)
 refine tkH 0 (v := ?_) (by simp only [lkA, lkB]; rfl) (by kernel_rfl) (fun _ _ _ h => h) (by rfl) (by assumption) ?_ ?_
 rotate_left 1
 · intro w hSw
   go_simp
   with_reducible rfl
 simp only [Act.put, siA, siB, siC]
 refine tkH 1 (v := ?_) (by simp only [lkA, lkB, lkC]; rfl) (by kernel_rfl) (fun _ _ _ h => h) (by rfl) (by assumption) ?_ ?_
 rotate_left 1
 · intro w hSw
   go_simp
   with_reducible rfl
 simp only [Act.put, siA, siB, siC]
 refine tkH 2 (v := ?_) (by simp only [lkA, lkB, lkC]; rfl) (by kernel_rfl) (fun _ _ _ h => h) (by rfl) (by assumption) ?_ ?_
 rotate_left 1
 · intro w hSw
   go_simp
   with_reducible rfl
 simp only [Act.put, siA, siB, siC]
 refine tkH 3 (v := ?_) (by simp only [lkA, lkB, lkC]; rfl) (by kernel_rfl) (fun _ _ _ h => h) (by rfl) (by assumption) ?_ ?_
 rotate_left 1
 · intro w hSw
   go_simp
   with_reducible rfl
 simp only [Act.put, siA, siB, siC]
 refine' wpAnyH_take (i := 4) (v := _) (by simp only [lkA, lkB, lkC]; rfl) (by kernel_rfl) (by kernel_rfl) (by kernel_rfl) (fun _ _ _ h => h) (yields_load (by rfl) 44 (.tmp 15) rfl w4.heap.size 0 rfl _ (fun W h => h.l)) (by assumption) ?_
 simp only [Act.put, siA, siB, siC]
 refine tkH 5 (v := ?_) (by simp only [lkA, lkB, lkC]; rfl) (by kernel_rfl) (fun _ _ _ h => h) (by rfl) (by assumption) ?_ ?_
 rotate_left 1
 · intro w hSw
   go_simp
   with_reducible rfl
 simp only [Act.put, siA, siB, siC]
 refine tkH 6 (v := ?_) (by simp only [lkA, lkB, lkC]; rfl) (by kernel_rfl) (fun _ _ _ h => h) (by rfl) (by assumption) ?_ ?_
 rotate_left 1
 · intro w hSw
   go_simp
   with_reducible rfl
 simp only [Act.put, siA, siB, siC]
 refine wpAnyH_ready (rs := [7]) (by kernel_rfl) (by simp) ?_
 refine AllReadyH.cons (by simp only [lkA, lkB, lkC]; rfl) (fun K hK => ?_) (AllReadyH.nil)
 go_simp
 refine (CF.out s time _).mono ?_
 rintro e7 w7 ⟨rfl, hb7⟩
 have hz1 := hS.on hb7
 refine hK.out _ _ hz1 (fun hS => ?_)
 clear hK K hS
 refine tkH 8 (v := ?_) (by simp only [lkA, lkB, lkC]; rfl) (by kernel_rfl) (fun _ _ _ h => h) (by rfl) (by assumption) ?_ ?_
 rotate_left 1
 · intro w hSw
   have e1 := ne_nd 1 s [] time w
   go_simp
   with_reducible rfl
 simp only [Act.put, siA, siB, siC]
 refine tkH 9 (v := ?_) (by simp only [lkA, lkB, lkC]; rfl) (by kernel_rfl) (fun _ _ _ h => h) (by rfl) (by assumption) ?_ ?_
 rotate_left 1
 · intro w hSw
   go_simp
   with_reducible rfl
 simp only [Act.put, siA, siB, siC]
 refine tkH 10 (v := ?_) (by simp only [lkA, lkB, lkC]; rfl) (by kernel_rfl) (fun _ _ _ h => h) (by rfl) (by assumption) ?_ ?_
 rotate_left 1
 · intro w hSw
   go_simp
   with_reducible rfl
 simp only [Act.put, siA, siB, siC]
 refine tkH 11 (v := ?_) (by simp only [lkA, lkB, lkC]; rfl) (by kernel_rfl) (fun _ _ _ h => h) (by rfl) (by assumption) ?_ ?_
 rotate_left 1
 · intro w hSw
   go_simp
   with_reducible rfl
 simp only [Act.put, siA, siB, siC]
 refine tkH 12 (v := ?_) (by simp only [lkA, lkB, lkC]; rfl) (by kernel_rfl) (fun _ _ _ h => h) (by rfl) (by assumption) ?_ ?_
 rotate_left 1
 · intro w hSw
   go_simp
   with_reducible rfl
 simp only [Act.put, siA, siB, siC]
 refine tkH 13 (v := ?_) (by simp only [lkA, lkB, lkC]; rfl) (by kernel_rfl) (fun _ _ _ h => h) (by rfl) (by assumption) ?_ ?_
 rotate_left 1
 · intro w hSw
   go_simp
   with_reducible rfl
 simp only [Act.put, siA, siB, siC]
 refine tkH 14 (v := ?_) (by simp only [lkA, lkB, lkC]; rfl) (by kernel_rfl) (fun _ _ _ h => h) (by rfl) (by assumption) ?_ ?_
 rotate_left 1
 · intro w hSw
   go_simp
   with_reducible rfl
 simp only [Act.put, siA, siB, siC]
 refine tkH 15 (v := ?_) (by simp only [lkA, lkB, lkC]; rfl) (by kernel_rfl) (fun _ _ _ h => h) (by rfl) (by assumption) ?_ ?_
 rotate_left 1
 · intro w hSw
   go_simp
   with_reducible rfl
 simp only [Act.put, siA, siB, siC]
 refine tkH 16 (v := ?_) (by simp only [lkA, lkB, lkC]; rfl) (by kernel_rfl) (fun _ _ _ h => h) (by rfl) (by assumption) ?_ ?_
 rotate_left 1
 · intro w hSw
   go_simp
   with_reducible rfl
 simp only [Act.put, siA, siB, siC]
 refine tkH 17 (v := ?_) (by simp only [lkA, lkB, lkC]; rfl) (by kernel_rfl) (fun _ _ _ h => h) (by rfl) (by assumption) ?_ ?_
 rotate_left 1
 · intro w hSw
   go_simp
   with_reducible rfl
 simp only [Act.put, siA, siB, siC]
 refine tkH 18 (v := ?_) (by simp only [lkA, lkB, lkC]; rfl) (by kernel_rfl) (fun _ _ _ h => h) (by rfl) (by assumption) ?_ ?_
 rotate_left 1
 · intro w hSw
   go_simp
   with_reducible rfl
 simp only [Act.put, siA, siB, siC]
 refine tkH 19 (v := ?_) (by simp only [lkA, lkB, lkC]; rfl) (by kernel_rfl) (fun _ _ _ h => h) (by rfl) (by assumption) ?_ ?_
 rotate_left 1
 · intro w hSw
   go_simp
   with_reducible rfl
 simp only [Act.put, siA, siB, siC]
 refine tkH 20 (v := ?_) (by simp only [lkA, lkB, lkC]; rfl) (by kernel_rfl) (fun _ _ _ h => h) (by rfl) (by assumption) ?_ ?_
 rotate_left 1
 · intro w hSw
   go_simp
   with_reducible rfl
 simp only [Act.put, siA, siB, siC]
 refine tkH 21 (v := ?_) (by simp only [lkA, lkB, lkC]; rfl) (by kernel_rfl) (fun _ _ _ h => h) (by rfl) (by assumption) ?_ ?_
 rotate_left 1
 · intro w hSw
   go_simp
   with_reducible rfl
 simp only [Act.put, siA, siB, siC]
 refine tkH 22 (v := ?_) (by simp only [lkA, lkB, lkC]; rfl) (by kernel_rfl) (fun _ _ _ h => h) (by rfl) (by assumption) ?_ ?_
 rotate_left 1
 · intro w hSw
   go_simp
   with_reducible rfl
 simp only [Act.put, siA, siB, siC]
 refine wpAnyH_done (by kernel_rfl) ?_ _
 refine NoPanic.normal ?_
 have H7 := hid hz1.dw
 have X7 := hid hz1.h
 clear hz1 hb7
 have CR2 : Hid (Calls Tryz.prog 16 #[.pointer (some ⟨d, 0, none⟩), kS [118, 49], kS [48, 48, 48, 48, 48, 48, 48, 48, 48, 55, 45, 48, 48, 48, 49]] w7 fun e w' => e = .returned (.tuple #[.string ⟨#[97, 47, 98]⟩, .agg #[.int .i64 1, kS [120, 121], kS [], .int .i64 3], .int .i64 0]) ∧ Below w7.heap.size w7 w') :=
  (aread_any H7.out HG.out HR3.out [118, 49] (by decide) [48, 48, 48, 48, 48, 48, 48, 48, 48, 55, 45, 48, 48, 48, 49] (by decide)).mono fun e w' h => by
    rw [HN3.out] at h
    have k := HRO.out
    unfold rootT at k
    rw [k] at h
    exact h
 go_wp2_with fail
 refine CR2.out.mono ?_; rintro e8 w8 ⟨rfl, hb8⟩
 have H8 := hid (H7.out.on hb8)
 have X8 := hid (X7.out.kept hb8 X7.out.inside)
 clear hb8
 obtain ⟨w9, hw9⟩ : ∃ V, w8.setRow w4.heap.size (ndA 1 [120, 121] [] 3) = V := ⟨_, rfl⟩
 have X9 : Hid (Has w9 w4.heap.size 44 (ndA 1 [120, 121] [] 3)) := by rw [← hw9]; exact X8.out.row
 have B9 : Hid (Below w.heap.size w w9) := hw9 ▸ H8.out.bl.rowK H4.out.bl.size _
 have S9 : Hid (∀ W, Below w9.heap.size w9 W → SD w w4.heap.size 1 [120, 121] [] 3 W) := fun W hb => (SD.of X9.out B9.out).on hb
 have CF2 : Hid (∀ W : World, Calls Tryz.prog 18 #[.string ⟨#[120, 121]⟩, .int .i64 3] W fun e w' => e = .returned (.agg #[.int .i64 1, kS [120, 121], kS [], .int .i64 3]) ∧ Below W.heap.size W w') := fun W => CF.out [120, 121] 3 W
 clear S6
 go_wp2_with (first
  | (refine wpList_store_row rfl 44 (.tmp 15) (.tmp 101) rfl w4.heap.size (ndA 1 [120, 121] [] 3) rfl rfl 44 _ X8.out (by kernel_rfl) rfl (by simp [ndA, Value.oneCell']) ?_; rw [hw9]))
 refine wp_region_noPanic ?_
 refine wp_region_held_drew (S := SD w w4.heap.size 1 [120, 121] [] 3) (by kernel_rfl) (S9.out _ ((Below.refl _ _).drew)) (fun hS => ?_)
 refine tkH 0 (v := ?_) (by simp only [lkA, lkB]; rfl) (by kernel_rfl) (fun _ _ _ h => h) (by rfl) (by assumption) ?_ ?_
 rotate_left 1
 · intro w hSw
   go_simp
   with_reducible rfl
 simp only [Act.put, siA, siB, siC]
 refine tkH 1 (v := ?_) (by simp only [lkA, lkB, lkC]; rfl) (by kernel_rfl) (fun _ _ _ h => h) (by rfl) (by assumption) ?_ ?_
 rotate_left 1
 · intro w hSw
   go_simp
   with_reducible rfl
 simp only [Act.put, siA, siB, siC]
 refine tkH 2 (v := ?_) (by simp only [lkA, lkB, lkC]; rfl) (by kernel_rfl) (fun _ _ _ h => h) (by rfl) (by assumption) ?_ ?_
 rotate_left 1
 · intro w hSw
   go_simp
   with_reducible rfl
 simp only [Act.put, siA, siB, siC]
 refine' wpAnyH_take (i := 3) (v := _) (by simp only [lkA, lkB, lkC]; rfl) (by kernel_rfl) (by kernel_rfl) (by kernel_rfl) (fun _ _ _ h => h) (yields_load (by rfl) 44 (.tmp 15) rfl w4.heap.size 0 rfl _ (fun W h => h.l)) (by assumption) ?_
 simp only [Act.put, siA, siB, siC]
 refine wpAnyH_ready (rs := [4]) (by kernel_rfl) (by simp) ?_
 refine AllReadyH.cons (by simp only [lkA, lkB, lkC]; rfl) (fun K hK => ?_) (AllReadyH.nil)
 go_simp
 refine (CF2.out _).mono ?_
 rintro e10 w10 ⟨rfl, hb10⟩
 have hz1 := hS.on hb10
 refine hK.out _ _ hz1 (fun hS => ?_)
 clear hK K hS
 refine tkH 5 (v := ?_) (by simp only [lkA, lkB, lkC]; rfl) (by kernel_rfl) (fun _ _ _ h => h) (by rfl) (by assumption) ?_ ?_
 rotate_left 1
 · intro w hSw
   have e1 := eq_nd 1 [120, 121] [] 3 w
   go_simp
   with_reducible rfl
 simp only [Act.put, siA, siB, siC]
 refine tkH 6 (v := ?_) (by simp only [lkA, lkB, lkC]; rfl) (by kernel_rfl) (fun _ _ _ h => h) (by rfl) (by assumption) ?_ ?_
 rotate_left 1
 · intro w hSw
   go_simp
   with_reducible rfl
 simp only [Act.put, siA, siB, siC]
 refine tkH 7 (v := ?_) (by simp only [lkA, lkB, lkC]; rfl) (by kernel_rfl) (fun _ _ _ h => h) (by rfl) (by assumption) ?_ ?_
 rotate_left 1
 · intro w hSw
   go_simp
   with_reducible rfl
 simp only [Act.put, siA, siB, siC]
 refine tkH 8 (v := ?_) (by simp only [lkA, lkB, lkC]; rfl) (by kernel_rfl) (fun _ _ _ h => h) (by rfl) (by assumption) ?_ ?_
 rotate_left 1
 · intro w hSw
   go_simp
   with_reducible rfl
 simp only [Act.put, siA, siB, siC]
 refine tkH 9 (v := ?_) (by simp only [lkA, lkB, lkC]; rfl) (by kernel_rfl) (fun _ _ _ h => h) (by rfl) (by assumption) ?_ ?_
 rotate_left 1
 · intro w hSw
   go_simp
   with_reducible rfl
 simp only [Act.put, siA, siB, siC]
 refine tkH 10 (v := ?_) (by simp only [lkA, lkB, lkC]; rfl) (by kernel_rfl) (fun _ _ _ h => h) (by rfl) (by assumption) ?_ ?_
 rotate_left 1
 · intro w hSw
   go_simp
   with_reducible rfl
 simp only [Act.put, siA, siB, siC]
 refine tkH 11 (v := ?_) (by simp only [lkA, lkB, lkC]; rfl) (by kernel_rfl) (fun _ _ _ h => h) (by rfl) (by assumption) ?_ ?_
 rotate_left 1
 · intro w hSw
   go_simp
   with_reducible rfl
 simp only [Act.put, siA, siB, siC]
 refine wpAnyH_ready (rs := [12]) (by kernel_rfl) (by simp) ?_
 refine AllReadyH.cons (by simp only [lkA, lkB, lkC]; rfl) (fun K hK => ?_) (AllReadyH.nil)
 go_simp
 refine (CW.out _ hz1.bl).mono ?_
 rintro e11 w11 ⟨rfl, hb11⟩
 have hz2 := hz1.on hb11
 refine hK.out _ _ hz2 (fun hS => ?_)
 clear hK K hS
 refine tkH 13 (v := ?_) (by simp only [lkA, lkB, lkC]; rfl) (by kernel_rfl) (fun _ _ _ h => h) (by rfl) (by assumption) ?_ ?_
 rotate_left 1
 · intro w hSw
   go_simp
   with_reducible rfl
 simp only [Act.put, siA, siB, siC]
 refine tkH 14 (v := ?_) (by simp only [lkA, lkB, lkC]; rfl) (by kernel_rfl) (fun _ _ _ h => h) (by rfl) (by assumption) ?_ ?_
 rotate_left 1
 · intro w hSw
   go_simp
   with_reducible rfl
 simp only [Act.put, siA, siB, siC]
 refine wpAnyH_done (by kernel_rfl) ?_ _
 refine NoPanic.normal ?_
 have BE := hid hz2.bl
 clear hz1 hz2 hb10 hb11
 go_wp2
 go_ret
 exact ⟨rfl, BE.out⟩
end
end Go.Proofs.YtabidnlbgdecbaaGreatDoor
namespace Go.Proofs.YtabidnlbgdecbaaGreatDoor
open Go.RowKit Go.Maps
theorem back_law (p s : By) (time now : Int) (w : World) (hG : Gd w) : Calls Tryz.prog 6 #[kS p, kS s, .int .i64 time, .int .i64 now] w fun e w' => e = .returned (.bool true) ∧ Below w.heap.size w w' := by
 by_cases h1 : 3000 < s.length
 · exact back_long w hG (.inl h1)
 by_cases h2 : 400 < p.length
 · exact back_long w hG (.inr ⟨by omega, h2⟩)
 rcases add_two p s time now with ⟨k1, k2, k3⟩ | ⟨t, i, k1, k2, _, k4, k5, k6, k7, k8, k9⟩
 · refine back_no w hG (by omega) (by omega) _ k1 ?_
   obtain ⟨⟨⟨a, b⟩, c⟩, hr⟩ : ∃ r, addM twoM [118, 49] p ⟨1, s, [], time⟩ now = r := ⟨_, rfl⟩
   rw [hr] at k2 k3 ⊢
   simp only at k2 k3 ⊢
   rw [k2, k3]
 · exact back_yes w hG (by omega) (by omega) t i k1 k2 k4 k5 k6 k7 k8 k9
end Go.Proofs.YtabidnlbgdecbaaGreatDoor
