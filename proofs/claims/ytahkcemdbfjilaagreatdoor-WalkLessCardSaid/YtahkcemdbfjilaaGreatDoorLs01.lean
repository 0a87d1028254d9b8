/- Several texts in one. Conditions: those said at each. -/
import Derived.Test.YtahkcemdbfjilaaGreatDoorWb00
import Derived.Test.YtahkcemdbfjilaaGreatDoorWb45
set_option linter.unusedSimpArgs false
set_option linter.unusedVariables false
set_option maxRecDepth 100000
namespace Go.Proofs.YtahkcemdbfjilaaGreatDoor
open Go.RowKit Go.Maps
theorem RecP.kq {B : Nat} {w w' : World} {v : Value} {ps : List (At × Value)} (h : RecP B w v ps) (k : Kq w w') : RecP B w' v ps := ⟨own_kq h.own k, fun y hy => (h.dg y hy).kq k⟩
set_option maxHeartbeats 16000000 in
theorem less_law {A A2 : Option Addr} {n n2 cap cap2 bb bb2 off off2 : Nat} {xs : List PutT} {fs : Glob.Fl} (w : World) (hI : PutsIn w A n bb off xs) (hF : Glob.FilesAt w A2 n2 bb2 off2 fs) (hfb : ∀ f ∈ fs, f.1.length ≤ 140737488351232 ∧ f.2.length ≤ 140737488351232) (hn : n ≤ maxLen) (hn2 : n2 ≤ maxLen) (hG : Gd w) (hT : Sha.Tab w) (root : By) (hrl : root.length ≤ 140737488355328)
 (HP : largeB xs fs = false → ∀ W, Below w.heap.size w W → Calls Tryz.prog 11 #[.slice A2 n2 cap2, .string ⟨#[105]⟩] W fun e w' => ∃ o c lo, e = .returned (.tuple #[.pointer o, .int .i64 c]) ∧ Lst w' (.pointer o) lo ∧ Below W.heap.size W w') :
 Calls Tryz.prog 7 #[.slice A n cap, kS root, .slice A2 n2 cap2] w fun e w' => e = .returned (.bool true) ∧ Below w.heap.size w w' := by
 have CL := hid (large_any (cap := cap) (cap2 := cap2) w hI hF hfb hn hn2)
 have HI := hid hI
 have HG := hid hG
 have HT := hid hT
 have HPZ := hid HP
 have CA : Hid (∀ W, Below w.heap.size w W → Calls Tryz.prog 9 #[] W fun e w' => e = .returned (.bool true) ∧ Below W.heap.size W w') := fun W hb => awake_any W (HG.out.kept hb) (HT.out.kept hb HG.out.pos)
 have zr : (ba root).size = root.length := ba_size root
 obtain ⟨lg, HL⟩ : ∃ b, Hid (largeB xs fs = b) := ⟨_, rfl⟩
 rw [HL.out] at CL
 clear hI hF hfb HP hG hT
 go_enter Tryz.func7, Tryz.ntmps7
 go_wp2_with fail
 refine CL.out.mono ?_; rintro e1 w1 ⟨rfl, hb1⟩
 have B1 := hid hb1
 clear hb1
 cases lg with
 | true =>
  go_wp2_with fail
  refine (CA.out _ B1.out).mono ?_; rintro e2 w2 ⟨rfl, hb2⟩
  go_wp2
  go_ret
  exact ⟨rfl, B1.out.trans (hb2.mono B1.out.size)⟩
 | false =>
  by_cases h400 : 400 < root.length
  · have g4 : (400 : Int) < (root.length : Int) := by omega
    go_wp2_with fail
    refine (CA.out _ B1.out).mono ?_; rintro e2 w2 ⟨rfl, hb2⟩
    go_wp2
    go_ret
    exact ⟨rfl, B1.out.trans (hb2.mono B1.out.size)⟩
  · have g4 : ¬ (400 : Int) < (root.length : Int) := by omega
    have gd : decide ((400 : Int) < (root.length : Int)) = false := decide_eq_false g4
    obtain ⟨hx1, hx2, hx3, _⟩ := large_false HL.out
    have CM := hid (made_any (cap := cap) w1 (HI.out.on B1.out) (HG.out.kept B1.out) (by have := HI.out.len; omega) hx3)
    have HDG := hid (DG.made xs)
    obtain ⟨M, HM⟩ : ∃ M, Hid (madeM xs = M) := ⟨_, rfl⟩
    rw [HM.out] at CM HDG
    clear hx1 hx2 hx3 h400
    go_wp2_with fail
    refine CM.out.mono ?_; rintro e2 w2 ⟨p, q0, rfl, hl2⟩
    have L2 := hid ((hl2.swap.drop).ahead B1.out)
    clear hl2
    go_wp2_with fail
    refine (HPZ.out HL.out w2 L2.out.bl).mono ?_; rintro e3 w3 ⟨o, c', lo, rfl, hlst, hb3⟩
    have L3 := hid (L2.out.on hb3)
    obtain ⟨own, hD3⟩ := L3.out.headD
    have C3 := hid (walk_any hD3 (HG.out.kept L3.out.bl) (HT.out.kept L3.out.bl HG.out.pos) HDG.out root (.pointer o) lo hlst)
    have HLO := less_ok hD3 HDG.out lo root
    obtain ⟨c, HC⟩ : ∃ c, Hid (rootE M.now root = c) := ⟨_, rfl⟩
    obtain ⟨X, HX⟩ : ∃ X, Hid (foundM lo M.now root = X) := ⟨_, rfl⟩
    obtain ⟨Y, HY⟩ : ∃ Y, Hid (foundM none M.now root = Y) := ⟨_, rfl⟩
    rw [HC.out, HX.out] at C3
    rw [HX.out, HY.out] at HLO
    have HO := hid HLO
    clear hb3 hD3 hlst HLO
    go_wp2_with fail
    refine C3.out.mono ?_; rintro e4 w4 ⟨vi, vs, rfl, hR, hS, hb4⟩
    have L4 := hid (L3.out.on hb4)
    obtain ⟨A0, c0, rfl⟩ := hR.form
    obtain ⟨A1, c1, f1⟩ := (hS 1 (by omega) (by omega)).form
    obtain ⟨A2x, c2, f2⟩ := (hS 2 (by omega) (by omega)).form
    obtain ⟨A3, c3, f3⟩ := (hS 3 (by omega) (by omega)).form
    have s2 := hS 2 (by omega) (by omega)
    rw [f2] at s2
    rw [f1, f2, f3]
    have SI : Hid (StrR w3.heap.size w4 (.slice A2x X.ign.length c2) X.ign) := s2
    have e2 : (lsOf X 2).length = X.ign.length := rfl
    rw [e2]
    generalize (lsOf X 1).length = n1
    generalize (lsOf X 3).length = n3
    obtain ⟨psx, hpsx, hPx⟩ := hR
    obtain ⟨nx, HNX⟩ : ∃ nx, Hid (X.items.length = nx) := ⟨_, rfl⟩
    obtain ⟨n2x, HN2⟩ : ∃ nx, Hid (X.ign.length = nx) := ⟨_, rfl⟩
    rw [HNX.out] at hPx ⊢
    rw [HN2.out] at SI ⊢
    have hlx : psx.length = nx := by rw [← HNX.out, ← hpsx, List.length_map]
    have PX := hid hPx
    have PSX := hid hpsx
    have LX := hid hlx
    clear f1 f2 f3 hS s2 e2 hPx hpsx hlx
    have b5 : Below w4.heap.size w4 (w4.alloc (.cells #[.slice A0 nx c0, .slice A1 n1 c1, .slice A2x n2x c2, .slice A3 n3 c3] 39)) := (Below.refl _ _).alloc (Nat.le_refl _) _
    have FX : Hid (Has (w4.alloc (.cells #[.slice A0 nx c0, .slice A1 n1 c1, .slice A2x n2x c2, .slice A3 n3 c3] 39)) w4.heap.size 39 #[.slice A0 nx c0, .slice A1 n1 c1, .slice A2x n2x c2, .slice A3 n3 c3]) := Has.fresh _ _ _
    have L5 := hid (L4.out.on b5)
    obtain ⟨own5, hD5⟩ := L5.out.headD
    have C5 := hid (walk_any hD5 (HG.out.kept L5.out.bl) (HT.out.kept L5.out.bl HG.out.pos) HDG.out root (.pointer none) none .none)
    rw [HC.out, HY.out] at C5
    have HB5 := hid b5
    clear hb4 b5 hD5
    go_wp2_with fail
    refine C5.out.mono ?_; rintro e6 w6 ⟨vj, vt, rfl, hR, hS, hb6⟩
    have L6 := hid (L5.out.on hb6)
    have FX6 := hid (FX.out.kept hb6 FX.out.inside)
    obtain ⟨B0, d0, rfl⟩ := hR.form
    obtain ⟨B1', d1, f1⟩ := (hS 1 (by omega) (by omega)).form
    obtain ⟨B2, d2, f2⟩ := (hS 2 (by omega) (by omega)).form
    obtain ⟨B3, d3, f3⟩ := (hS 3 (by omega) (by omega)).form
    have e2 : (lsOf Y 2).length = 0 := by show Y.ign.length = 0; rw [HO.out.ign]; rfl
    rw [e2] at f2
    rw [f1, f2, f3]
    generalize (lsOf Y 1).length = m1
    generalize (lsOf Y 3).length = m3
    obtain ⟨psy, hpsy, hPy⟩ := hR
    obtain ⟨m, HMY⟩ : ∃ m, Hid (Y.items.length = m) := ⟨_, rfl⟩
    rw [HMY.out] at hPy ⊢
    have hly : psy.length = m := by rw [← HMY.out, ← hpsy, List.length_map]
    have PY := hid hPy
    have PSY := hid hpsy
    have LY := hid hly
    clear f1 f2 f3 hS e2 hPy hpsy hly
    obtain ⟨W7, HW7⟩ : ∃ W7, Hid (w6.alloc (.cells #[.slice B0 m d0, .slice B1' m1 d1, .slice B2 0 d2, .slice B3 m3 d3] 39) = W7) := ⟨_, rfl⟩
    have b7 : Below w6.heap.size w6 W7 := by rw [← HW7.out]; exact (Below.refl _ _).alloc (Nat.le_refl _) _
    have FY7 : Hid (Has W7 w6.heap.size 39 #[.slice B0 m d0, .slice B1' m1 d1, .slice B2 0 d2, .slice B3 m3 d3]) := by rw [← HW7.out]; exact Has.fresh _ _ _
    have FX7 : Hid (Has W7 w4.heap.size 39 #[.slice A0 nx c0, .slice A1 n1 c1, .slice A2x n2x c2, .slice A3 n3 c3]) := FX6.out.kept b7 FX6.out.inside
    have BX7 : Below w4.heap.size w4 W7 := HB5.out.trans ((hb6.mono HB5.out.size).trans (b7.mono (Nat.le_trans HB5.out.size hb6.size)))
    have PX7 := hid (PX.out.kq (Kq.of_below BX7))
    have PY7 := hid (PY.out.kq (Kq.of_below b7))
    have SI7 := hid (SI.out.on BX7)
    have B7 : Hid (Below w.heap.size w W7) := L6.out.bl.trans (b7.mono L6.out.bl.size)
    obtain ⟨K, hK1, hK2⟩ := HO.out.kept
    have HK1 := hid hK1
    have HK2 := hid hK2
    have hmb : (m : Int) ≤ 100000 := by have h1 := HO.out.len; have h2 := HMY.out; omega
    have hnb : nx ≤ m := by rw [← HNX.out, ← HMY.out, hK1]; exact List.length_filter_le _ _
    clear hb6 b7 BX7 hK1 hK2
    go_wp2
    try rw [gd]
    go_loopw [15, 16] (fun v15 v16 wr => ∃ i k : Nat, v16 = .int .i64 (i : Int) ∧ v15 = .int .i64 (k : Int) ∧ i ≤ m ∧ k ≤ i ∧ Hid (((Y.items.take i).filter K).length = k) ∧ Hid (Below W7.heap.size W7 wr)) (fun _ v16 _ => m - (intOf v16).toNat)
    case atStart => exact ⟨0, 0, rfl, rfl, by omega, by omega, rfl, by rw [HW7.out]; exact Below.refl _ _⟩
    case round =>
     obtain ⟨i, k, rfl, rfl, hi, hki, J1, J2⟩ := hrel
     have y0 : wr.cell? ⟨w6.heap.size, 0, none⟩ = some (.slice B0 m d0) := (FY7.out.kept J2.out FY7.out.inside).at_ 0
     have i0 : (0 : Int) ≤ (i : Int) := by omega
     by_cases hlt : i < m
     · have hyl : i < psy.length := by rw [LY.out]; exact hlt
       have hYl : i < Y.items.length := by rw [HMY.out]; exact hlt
       have PYr := PY7.out.kq (Kq.of_below J2.out)
       obtain ⟨gy, dy, ey, _, hgy, _⟩ := PYr.at_ (by omega)
       rw [LY.out] at ey
       injection ey with ey1 ey2 ey3
       clear ey2
       subst ey3
       subst ey1
       have hld := RecP.load (g := gy) (c := d0) (ps := psy) (by rw [LY.out]; exact PYr) i hyl
       have hbv := dgs_one (PYr.dg _ (List.getElem_mem hyl))
       have hYi : Y.items[i] = (psy[i]).1 := (List.getElem_of_eq PSY.out.symm hYl).trans (by simp)
       have hqm : Y.items[i] ∈ Y.items := List.getElem_mem hYl
       obtain ⟨⟨⟨q, nd⟩, bv⟩, hyy⟩ : ∃ yy, psy[i] = yy := ⟨_, rfl⟩
       rw [hyy] at hld hbv hYi
       dsimp only at hld hbv hYi
       have HYI := hid hYi
       have hq4 := HO.out.ln _ hqm
       rw [hYi] at hqm hq4
       have HQM := hid hqm
       have HQ4 := hid hq4
       have HST := filter_step K Y.items i hYl
       rw [J1.out, hYi] at HST
       have HFS := hid HST
       obtain ⟨cs, HCS⟩ : ∃ cs, Hid (recN q nd bv = cs) := ⟨_, rfl⟩
       have HSC : Hid (cs.size = 27) := by rw [← HCS.out]; rfl
       have HAL : Hid (cs.all (·.oneCell') = true) := by rw [← HCS.out]; exact recNall _ _ _ hbv
       rw [HCS.out] at hld
       have HLD := hid hld
       obtain ⟨W8, hW8⟩ : ∃ W8, (wr.alloc (.cells #[.string ⟨#[]⟩, .int .i64 0, .bool false, .int .i64 0, .int .i64 0, .int .i64 0, .int .u32 0, .int .u32 0, .int .u32 0, .int .u32 0, .int .u32 0, .int .u32 0, .int .u32 0, .int .u32 0, .int .u32 0, .int .u32 0, .int .u32 0, .int .u32 0, .int .u32 0, .int .u32 0, .int .u32 0, .int .u32 0, .int .i64 0, .slice none 0 0, .string ⟨#[]⟩, .int .i64 0, .int .i64 0] 58)).setRow wr.heap.size cs = W8 := ⟨_, rfl⟩
       have FZ : Hid (Has (wr.alloc (.cells #[.string ⟨#[]⟩, .int .i64 0, .bool false, .int .i64 0, .int .i64 0, .int .i64 0, .int .u32 0, .int .u32 0, .int .u32 0, .int .u32 0, .int .u32 0, .int .u32 0, .int .u32 0, .int .u32 0, .int .u32 0, .int .u32 0, .int .u32 0, .int .u32 0, .int .u32 0, .int .u32 0, .int .u32 0, .int .u32 0, .int .i64 0, .slice none 0 0, .string ⟨#[]⟩, .int .i64 0, .int .i64 0] 58)) wr.heap.size 58 #[.string ⟨#[]⟩, .int .i64 0, .bool false, .int .i64 0, .int .i64 0, .int .i64 0, .int .u32 0, .int .u32 0, .int .u32 0, .int .u32 0, .int .u32 0, .int .u32 0, .int .u32 0, .int .u32 0, .int .u32 0, .int .u32 0, .int .u32 0, .int .u32 0, .int .u32 0, .int .u32 0, .int .u32 0, .int .u32 0, .int .i64 0, .slice none 0 0, .string ⟨#[]⟩, .int .i64 0, .int .i64 0]) := Has.fresh _ _ _
       have b8 : Below wr.heap.size wr W8 := hW8 ▸ ((Below.refl _ _).alloc (Nat.le_refl _) _).rowK (Nat.le_refl _) _
       have FR8 : Hid (Has W8 wr.heap.size 58 cs) := by rw [← hW8]; exact FZ.out.row
       have BV : Hid (Below W7.heap.size W7 W8.drew) := J2.out.trans ((b8.drew).mono J2.out.size)
       have FRV : Hid (Has W8.drew wr.heap.size 58 (recN q nd bv)) := by rw [HCS.out]; exact FR8.out
       have PXV := hid (PX7.out.kq (Kq.of_below BV.out))
       have FXV := hid (FX7.out.kept BV.out FX7.out.inside)
       have x0 : wr.cell? ⟨w4.heap.size, 0, none⟩ = some (.slice A0 nx c0) := (FX7.out.kept J2.out FX7.out.inside).at_ 0
       have X0 : Hid (W8.drew.cell? ⟨w4.heap.size, 0, none⟩ = some (.slice A0 nx c0)) := FXV.out.at_ 0
       have RP : Hid (W8.drew.cell? ⟨wr.heap.size, 0, none⟩ = some (kS q)) := FRV.out.at_ 0
       have ilt : (i : Int) < (m : Int) := by omega
       have k0 : (0 : Int) ≤ (k : Int) := by omega
       have w1i : IntKind.i64.wrap ((i : Int) + 1) = (i : Int) + 1 := i64in _ (by omega) (by omega)
       have w1k : IntKind.i64.wrap ((k : Int) + 1) = (k : Int) + 1 := i64in _ (by omega) (by omega)
       clear hld hbv hyy hqm hq4 HST b8 PYr hYi x0
       go_wp2_with (first
        | (refine wpList_load_g (by rfl) 58 (.tmp 65) rfl gy (i * 27) rfl cs HLD.out ?_)
        | (refine wpList_store_row rfl 58 (.tmp 17) (.tmp 66) rfl wr.heap.size cs rfl rfl 58 _ FZ.out (by rw [HSC.out]; exact iRec27) (by rw [HSC.out]; rfl) HAL.out ?_; rw [hW8]))
       cases hKr : K (q, nd) with
       | true =>
        obtain ⟨hkx, hXk⟩ := filter_at K Y.items i hYl (by rw [HYI.out]; exact hKr)
        have hkn : k < nx := by have := HFS.out; rw [← HNX.out, HK1.out]; rw [J1.out] at hkx; exact hkx
        have hkp : k < psx.length := by rw [LX.out]; exact hkn
        have hxk : (psx[k]).1 = (q, nd) := by
         have e1 : X.items[k]'(by rw [HNX.out]; exact hkn) = (psx[k]).1 := (List.getElem_of_eq PSX.out.symm (by rw [HNX.out]; exact hkn)).trans (by simp)
         rw [← e1, ← HYI.out, ← hXk]
         simp only [HK1.out, J1.out]
        obtain ⟨gx, dx, ex, _, _, hax⟩ := PXV.out.at_ (by omega)
        rw [LX.out] at ex
        injection ex with ex1 ex2 ex3
        clear ex2
        subst ex3
        subst ex1
        have hat := hax k hkp
        rw [hxk] at hat
        dsimp only at hat
        have XP : Hid (W8.drew.cell? ⟨gx, k * 27, none⟩ = some (kS q)) := hat 0 _ (by omega) rfl
        have HX1 := hid (hat 1 _ (by omega) rfl)
        have HX3 := hid (hat 3 _ (by omega) rfl)
        have HX4 := hid (hat 4 _ (by omega) rfl)
        have HX24 := hid (hat 24 _ (by omega) rfl)
        obtain ⟨kd, HKD⟩ : ∃ kd, Hid (nd.kind = kd) := ⟨_, rfl⟩
        obtain ⟨sz, HSZ⟩ : ∃ kd, Hid (sizN nd = kd) := ⟨_, rfl⟩
        obtain ⟨tm, HTM⟩ : ∃ kd, Hid (nd.time = kd) := ⟨_, rfl⟩
        obtain ⟨tg, HTG⟩ : ∃ kd, Hid (nd.target = kd) := ⟨_, rfl⟩
        have X1 : Hid (W8.drew.drew.cell? ⟨gx, k * 27 + 1, none⟩ = some (.int .i64 kd)) := by rw [← HKD.out]; exact HX1.out
        have X3 : Hid (W8.drew.drew.cell? ⟨gx, k * 27 + 3, none⟩ = some (.int .i64 sz)) := by rw [← HSZ.out]; exact HX3.out
        have X4 : Hid (W8.drew.drew.cell? ⟨gx, k * 27 + 4, none⟩ = some (.int .i64 tm)) := by rw [← HTM.out]; exact HX4.out
        have X24 : Hid (W8.drew.drew.cell? ⟨gx, k * 27 + 24, none⟩ = some (kS tg)) := by rw [← HTG.out]; exact HX24.out
        have R1 : Hid (W8.drew.drew.cell? ⟨wr.heap.size, 1, none⟩ = some (.int .i64 kd)) := by rw [← HKD.out]; exact FRV.out.at_ 1
        have R3 : Hid (W8.drew.drew.cell? ⟨wr.heap.size, 3, none⟩ = some (.int .i64 sz)) := by rw [← HSZ.out]; exact FRV.out.at_ 3
        have R4 : Hid (W8.drew.drew.cell? ⟨wr.heap.size, 4, none⟩ = some (.int .i64 tm)) := by rw [← HTM.out]; exact FRV.out.at_ 4
        have R24 : Hid (W8.drew.drew.cell? ⟨wr.heap.size, 24, none⟩ = some (kS tg)) := by rw [← HTG.out]; exact FRV.out.at_ 24
        have klt : (k : Int) < (nx : Int) := by omega
        have HF1 : Hid (((Y.items.take (i + 1)).filter K).length = k + 1) := by show _ = _; rw [HFS.out, hKr]; rfl
        clear hat hax hxk hXk hkx HX1 HX3 HX4 HX24
        refine wp_region_noPanic ?_
        refine wp_region_held_drew (S := fun W => W.cell? ⟨w4.heap.size, 0, none⟩ = some (.slice (some ⟨gx, 0, none⟩) nx c0) ∧ W.cell? ⟨gx, k * 27, none⟩ = some (kS q) ∧ W.cell? ⟨wr.heap.size, 0, none⟩ = some (kS q)) (by kernel_rfl) (⟨X0.out, XP.out, RP.out⟩) (fun hS => ?_)
        refine tkH 0 (v := ?_) (by simp only [lkA, lkB]; rfl) (by kernel_rfl) (fun _ _ _ h => h) (by rfl) (by assumption) ?_ ?_
        rotate_left 1
        · intro w hSw
          have c1 := hSw.1
          have c2 := hSw.2.1
          have c3 := hSw.2.2
          go_simp
          with_reducible rfl
        simp only [Act.put, siA, siB, siC]
        refine tkH 1 (v := ?_) (by simp only [lkA, lkB, lkC]; rfl) (by kernel_rfl) (fun _ _ _ h => h) (by rfl) (by assumption) ?_ ?_
        rotate_left 1
        · intro w hSw
          have c1 := hSw.1
          have c2 := hSw.2.1
          have c3 := hSw.2.2
          go_simp
          with_reducible rfl
        simp only [Act.put, siA, siB, siC]
        refine tkH 2 (v := ?_) (by simp only [lkA, lkB, lkC]; rfl) (by kernel_rfl) (fun _ _ _ h => h) (by rfl) (by assumption) ?_ ?_
        rotate_left 1
        · intro w hSw
          have c1 := hSw.1
          have c2 := hSw.2.1
          have c3 := hSw.2.2
          go_simp
          with_reducible rfl
        simp only [Act.put, siA, siB, siC]
        refine tkH 3 (v := ?_) (by simp only [lkA, lkB, lkC]; rfl) (by kernel_rfl) (fun _ _ _ h => h) (by rfl) (by assumption) ?_ ?_
        rotate_left 1
        · intro w hSw
          have c1 := hSw.1
          have c2 := hSw.2.1
          have c3 := hSw.2.2
          go_simp
          with_reducible rfl
        simp only [Act.put, siA, siB, siC]
        refine tkH 4 (v := ?_) (by simp only [lkA, lkB, lkC]; rfl) (by kernel_rfl) (fun _ _ _ h => h) (by rfl) (by assumption) ?_ ?_
        rotate_left 1
        · intro w hSw
          have c1 := hSw.1
          have c2 := hSw.2.1
          have c3 := hSw.2.2
          go_simp
          with_reducible rfl
        simp only [Act.put, siA, siB, siC]
        refine tkH 5 (v := ?_) (by simp only [lkA, lkB, lkC]; rfl) (by kernel_rfl) (fun _ _ _ h => h) (by rfl) (by assumption) ?_ ?_
        rotate_left 1
        · intro w hSw
          have c1 := hSw.1
          have c2 := hSw.2.1
          have c3 := hSw.2.2
          go_simp
          with_reducible rfl
        simp only [Act.put, siA, siB, siC]
        refine tkH 6 (v := ?_) (by simp only [lkA, lkB, lkC]; rfl) (by kernel_rfl) (fun _ _ _ h => h) (by rfl) (by assumption) ?_ ?_
        rotate_left 1
        · intro w hSw
          have c1 := hSw.1
          have c2 := hSw.2.1
          have c3 := hSw.2.2
          go_simp
          with_reducible rfl
        simp only [Act.put, siA, siB, siC]
        refine tkH 7 (v := ?_) (by simp only [lkA, lkB, lkC]; rfl) (by kernel_rfl) (fun _ _ _ h => h) (by rfl) (by assumption) ?_ ?_
        rotate_left 1
        · intro w hSw
          have c1 := hSw.1
          have c2 := hSw.2.1
          have c3 := hSw.2.2
          go_simp
          with_reducible rfl
        simp only [Act.put, siA, siB, siC]
        refine tkH 8 (v := ?_) (by simp only [lkA, lkB, lkC]; rfl) (by kernel_rfl) (fun _ _ _ h => h) (by rfl) (by assumption) ?_ ?_
        rotate_left 1
        · intro w hSw
          have c1 := hSw.1
          have c2 := hSw.2.1
          have c3 := hSw.2.2
          go_simp
          with_reducible rfl
        simp only [Act.put, siA, siB, siC]
        refine tkH 9 (v := ?_) (by simp only [lkA, lkB, lkC]; rfl) (by kernel_rfl) (fun _ _ _ h => h) (by rfl) (by assumption) ?_ ?_
        rotate_left 1
        · intro w hSw
          have c1 := hSw.1
          have c2 := hSw.2.1
          have c3 := hSw.2.2
          go_simp
          with_reducible rfl
        simp only [Act.put, siA, siB, siC]
        refine tkH 10 (v := ?_) (by simp only [lkA, lkB, lkC]; rfl) (by kernel_rfl) (fun _ _ _ h => h) (by rfl) (by assumption) ?_ ?_
        rotate_left 1
        · intro w hSw
          have c1 := hSw.1
          have c2 := hSw.2.1
          have c3 := hSw.2.2
          go_simp
          with_reducible rfl
        simp only [Act.put, siA, siB, siC]
        refine tkH 11 (v := ?_) (by simp only [lkA, lkB, lkC]; rfl) (by kernel_rfl) (fun _ _ _ h => h) (by rfl) (by assumption) ?_ ?_
        rotate_left 1
        · intro w hSw
          have c1 := hSw.1
          have c2 := hSw.2.1
          have c3 := hSw.2.2
          go_simp
          with_reducible rfl
        simp only [Act.put, siA, siB, siC]
        refine tkH 12 (v := ?_) (by simp only [lkA, lkB, lkC]; rfl) (by kernel_rfl) (fun _ _ _ h => h) (by rfl) (by assumption) ?_ ?_
        rotate_left 1
        · intro w hSw
          have c1 := hSw.1
          have c2 := hSw.2.1
          have c3 := hSw.2.2
          go_simp
          with_reducible rfl
        simp only [Act.put, siA, siB, siC]
        refine tkH 13 (v := ?_) (by simp only [lkA, lkB, lkC]; rfl) (by kernel_rfl) (fun _ _ _ h => h) (by rfl) (by assumption) ?_ ?_
        rotate_left 1
        · intro w hSw
          have c1 := hSw.1
          have c2 := hSw.2.1
          have c3 := hSw.2.2
          go_simp
          with_reducible rfl
        simp only [Act.put, siA, siB, siC]
        refine tkH 14 (v := ?_) (by simp only [lkA, lkB, lkC]; rfl) (by kernel_rfl) (fun _ _ _ h => h) (by rfl) (by assumption) ?_ ?_
        rotate_left 1
        · intro w hSw
          have c1 := hSw.1
          have c2 := hSw.2.1
          have c3 := hSw.2.2
          go_simp
          with_reducible rfl
        simp only [Act.put, siA, siB, siC]
        refine tkH 15 (v := ?_) (by simp only [lkA, lkB, lkC]; rfl) (by kernel_rfl) (fun _ _ _ h => h) (by rfl) (by assumption) ?_ ?_
        rotate_left 1
        · intro w hSw
          have c1 := hSw.1
          have c2 := hSw.2.1
          have c3 := hSw.2.2
          go_simp
          with_reducible rfl
        simp only [Act.put, siA, siB, siC]
        refine wpAnyH_done (by kernel_rfl) ?_ _
        refine NoPanic.normal ?_
        go_wp2
        refine wp_region_noPanic ?_
        refine wp_region_held_drew (S := fun W => W.cell? ⟨w4.heap.size, 0, none⟩ = some (.slice (some ⟨gx, 0, none⟩) nx c0) ∧ W.cell? ⟨gx, k * 27 + 1, none⟩ = some (.int .i64 kd) ∧ W.cell? ⟨gx, k * 27 + 3, none⟩ = some (.int .i64 sz) ∧ W.cell? ⟨gx, k * 27 + 4, none⟩ = some (.int .i64 tm) ∧ W.cell? ⟨gx, k * 27 + 24, none⟩ = some (kS tg) ∧ W.cell? ⟨wr.heap.size, 1, none⟩ = some (.int .i64 kd) ∧ W.cell? ⟨wr.heap.size, 3, none⟩ = some (.int .i64 sz) ∧ W.cell? ⟨wr.heap.size, 4, none⟩ = some (.int .i64 tm) ∧ W.cell? ⟨wr.heap.size, 24, none⟩ = some (kS tg)) (by kernel_rfl) (⟨X0.out, X1.out, X3.out, X4.out, X24.out, R1.out, R3.out, R4.out, R24.out⟩) (fun hS => ?_)
        refine tkH 0 (v := ?_) (by simp only [lkA, lkB]; rfl) (by kernel_rfl) (fun _ _ _ h => h) (by rfl) (by assumption) ?_ ?_
        rotate_left 1
        · intro w hSw
          obtain ⟨c0, c1, c2, c3, c4, c5, c6, c7, c8⟩ := hSw
          go_simp
          with_reducible rfl
        simp only [Act.put, siA, siB, siC]
        refine tkH 1 (v := ?_) (by simp only [lkA, lkB, lkC]; rfl) (by kernel_rfl) (fun _ _ _ h => h) (by rfl) (by assumption) ?_ ?_
        rotate_left 1
        · intro w hSw
          obtain ⟨c0, c1, c2, c3, c4, c5, c6, c7, c8⟩ := hSw
          go_simp
          with_reducible rfl
        simp only [Act.put, siA, siB, siC]
        refine tkH 2 (v := ?_) (by simp only [lkA, lkB, lkC]; rfl) (by kernel_rfl) (fun _ _ _ h => h) (by rfl) (by assumption) ?_ ?_
        rotate_left 1
        · intro w hSw
          obtain ⟨c0, c1, c2, c3, c4, c5, c6, c7, c8⟩ := hSw
          go_simp
          with_reducible rfl
        simp only [Act.put, siA, siB, siC]
        refine tkH 3 (v := ?_) (by simp only [lkA, lkB, lkC]; rfl) (by kernel_rfl) (fun _ _ _ h => h) (by rfl) (by assumption) ?_ ?_
        rotate_left 1
        · intro w hSw
          obtain ⟨c0, c1, c2, c3, c4, c5, c6, c7, c8⟩ := hSw
          go_simp
          with_reducible rfl
        simp only [Act.put, siA, siB, siC]
        refine tkH 4 (v := ?_) (by simp only [lkA, lkB, lkC]; rfl) (by kernel_rfl) (fun _ _ _ h => h) (by rfl) (by assumption) ?_ ?_
        rotate_left 1
        · intro w hSw
          obtain ⟨c0, c1, c2, c3, c4, c5, c6, c7, c8⟩ := hSw
          go_simp
          with_reducible rfl
        simp only [Act.put, siA, siB, siC]
        refine tkH 5 (v := ?_) (by simp only [lkA, lkB, lkC]; rfl) (by kernel_rfl) (fun _ _ _ h => h) (by rfl) (by assumption) ?_ ?_
        rotate_left 1
        · intro w hSw
          obtain ⟨c0, c1, c2, c3, c4, c5, c6, c7, c8⟩ := hSw
          go_simp
          with_reducible rfl
        simp only [Act.put, siA, siB, siC]
        refine tkH 6 (v := ?_) (by simp only [lkA, lkB, lkC]; rfl) (by kernel_rfl) (fun _ _ _ h => h) (by rfl) (by assumption) ?_ ?_
        rotate_left 1
        · intro w hSw
          obtain ⟨c0, c1, c2, c3, c4, c5, c6, c7, c8⟩ := hSw
          go_simp
          with_reducible rfl
        simp only [Act.put, siA, siB, siC]
        refine tkH 7 (v := ?_) (by simp only [lkA, lkB, lkC]; rfl) (by kernel_rfl) (fun _ _ _ h => h) (by rfl) (by assumption) ?_ ?_
        rotate_left 1
        · intro w hSw
          obtain ⟨c0, c1, c2, c3, c4, c5, c6, c7, c8⟩ := hSw
          go_simp
          with_reducible rfl
        simp only [Act.put, siA, siB, siC]
        refine tkH 8 (v := ?_) (by simp only [lkA, lkB, lkC]; rfl) (by kernel_rfl) (fun _ _ _ h => h) (by rfl) (by assumption) ?_ ?_
        rotate_left 1
        · intro w hSw
          obtain ⟨c0, c1, c2, c3, c4, c5, c6, c7, c8⟩ := hSw
          go_simp
          with_reducible rfl
        simp only [Act.put, siA, siB, siC]
        refine tkH 9 (v := ?_) (by simp only [lkA, lkB, lkC]; rfl) (by kernel_rfl) (fun _ _ _ h => h) (by rfl) (by assumption) ?_ ?_
        rotate_left 1
        · intro w hSw
          obtain ⟨c0, c1, c2, c3, c4, c5, c6, c7, c8⟩ := hSw
          go_simp
          with_reducible rfl
        simp only [Act.put, siA, siB, siC]
        refine tkH 10 (v := ?_) (by simp only [lkA, lkB, lkC]; rfl) (by kernel_rfl) (fun _ _ _ h => h) (by rfl) (by assumption) ?_ ?_
        rotate_left 1
        · intro w hSw
          obtain ⟨c0, c1, c2, c3, c4, c5, c6, c7, c8⟩ := hSw
          go_simp
          with_reducible rfl
        simp only [Act.put, siA, siB, siC]
        refine tkH 11 (v := ?_) (by simp only [lkA, lkB, lkC]; rfl) (by kernel_rfl) (fun _ _ _ h => h) (by rfl) (by assumption) ?_ ?_
        rotate_left 1
        · intro w hSw
          obtain ⟨c0, c1, c2, c3, c4, c5, c6, c7, c8⟩ := hSw
          go_simp
          with_reducible rfl
        simp only [Act.put, siA, siB, siC]
        refine tkH 12 (v := ?_) (by simp only [lkA, lkB, lkC]; rfl) (by kernel_rfl) (fun _ _ _ h => h) (by rfl) (by assumption) ?_ ?_
        rotate_left 1
        · intro w hSw
          obtain ⟨c0, c1, c2, c3, c4, c5, c6, c7, c8⟩ := hSw
          go_simp
          with_reducible rfl
        simp only [Act.put, siA, siB, siC]
        refine tkH 13 (v := ?_) (by simp only [lkA, lkB, lkC]; rfl) (by kernel_rfl) (fun _ _ _ h => h) (by rfl) (by assumption) ?_ ?_
        rotate_left 1
        · intro w hSw
          obtain ⟨c0, c1, c2, c3, c4, c5, c6, c7, c8⟩ := hSw
          go_simp
          with_reducible rfl
        simp only [Act.put, siA, siB, siC]
        refine tkH 14 (v := ?_) (by simp only [lkA, lkB, lkC]; rfl) (by kernel_rfl) (fun _ _ _ h => h) (by rfl) (by assumption) ?_ ?_
        rotate_left 1
        · intro w hSw
          obtain ⟨c0, c1, c2, c3, c4, c5, c6, c7, c8⟩ := hSw
          go_simp
          with_reducible rfl
        simp only [Act.put, siA, siB, siC]
        refine tkH 15 (v := ?_) (by simp only [lkA, lkB, lkC]; rfl) (by kernel_rfl) (fun _ _ _ h => h) (by rfl) (by assumption) ?_ ?_
        rotate_left 1
        · intro w hSw
          obtain ⟨c0, c1, c2, c3, c4, c5, c6, c7, c8⟩ := hSw
          go_simp
          with_reducible rfl
        simp only [Act.put, siA, siB, siC]
        refine tkH 16 (v := ?_) (by simp only [lkA, lkB, lkC]; rfl) (by kernel_rfl) (fun _ _ _ h => h) (by rfl) (by assumption) ?_ ?_
        rotate_left 1
        · intro w hSw
          obtain ⟨c0, c1, c2, c3, c4, c5, c6, c7, c8⟩ := hSw
          go_simp
          with_reducible rfl
        simp only [Act.put, siA, siB, siC]
        refine tkH 17 (v := ?_) (by simp only [lkA, lkB, lkC]; rfl) (by kernel_rfl) (fun _ _ _ h => h) (by rfl) (by assumption) ?_ ?_
        rotate_left 1
        · intro w hSw
          obtain ⟨c0, c1, c2, c3, c4, c5, c6, c7, c8⟩ := hSw
          go_simp
          with_reducible rfl
        simp only [Act.put, siA, siB, siC]
        refine tkH 18 (v := ?_) (by simp only [lkA, lkB, lkC]; rfl) (by kernel_rfl) (fun _ _ _ h => h) (by rfl) (by assumption) ?_ ?_
        rotate_left 1
        · intro w hSw
          obtain ⟨c0, c1, c2, c3, c4, c5, c6, c7, c8⟩ := hSw
          go_simp
          with_reducible rfl
        simp only [Act.put, siA, siB, siC]
        refine tkH 19 (v := ?_) (by simp only [lkA, lkB, lkC]; rfl) (by kernel_rfl) (fun _ _ _ h => h) (by rfl) (by assumption) ?_ ?_
        rotate_left 1
        · intro w hSw
          obtain ⟨c0, c1, c2, c3, c4, c5, c6, c7, c8⟩ := hSw
          go_simp
          with_reducible rfl
        simp only [Act.put, siA, siB, siC]
        refine tkH 20 (v := ?_) (by simp only [lkA, lkB, lkC]; rfl) (by kernel_rfl) (fun _ _ _ h => h) (by rfl) (by assumption) ?_ ?_
        rotate_left 1
        · intro w hSw
          obtain ⟨c0, c1, c2, c3, c4, c5, c6, c7, c8⟩ := hSw
          go_simp
          with_reducible rfl
        simp only [Act.put, siA, siB, siC]
        refine tkH 21 (v := ?_) (by simp only [lkA, lkB, lkC]; rfl) (by kernel_rfl) (fun _ _ _ h => h) (by rfl) (by assumption) ?_ ?_
        rotate_left 1
        · intro w hSw
          obtain ⟨c0, c1, c2, c3, c4, c5, c6, c7, c8⟩ := hSw
          go_simp
          with_reducible rfl
        simp only [Act.put, siA, siB, siC]
        refine tkH 22 (v := ?_) (by simp only [lkA, lkB, lkC]; rfl) (by kernel_rfl) (fun _ _ _ h => h) (by rfl) (by assumption) ?_ ?_
        rotate_left 1
        · intro w hSw
          obtain ⟨c0, c1, c2, c3, c4, c5, c6, c7, c8⟩ := hSw
          go_simp
          with_reducible rfl
        simp only [Act.put, siA, siB, siC]
        refine tkH 23 (v := ?_) (by simp only [lkA, lkB, lkC]; rfl) (by kernel_rfl) (fun _ _ _ h => h) (by rfl) (by assumption) ?_ ?_
        rotate_left 1
        · intro w hSw
          obtain ⟨c0, c1, c2, c3, c4, c5, c6, c7, c8⟩ := hSw
          go_simp
          with_reducible rfl
        simp only [Act.put, siA, siB, siC]
        refine tkH 24 (v := ?_) (by simp only [lkA, lkB, lkC]; rfl) (by kernel_rfl) (fun _ _ _ h => h) (by rfl) (by assumption) ?_ ?_
        rotate_left 1
        · intro w hSw
          obtain ⟨c0, c1, c2, c3, c4, c5, c6, c7, c8⟩ := hSw
          go_simp
          with_reducible rfl
        simp only [Act.put, siA, siB, siC]
        refine tkH 25 (v := ?_) (by simp only [lkA, lkB, lkC]; rfl) (by kernel_rfl) (fun _ _ _ h => h) (by rfl) (by assumption) ?_ ?_
        rotate_left 1
        · intro w hSw
          obtain ⟨c0, c1, c2, c3, c4, c5, c6, c7, c8⟩ := hSw
          go_simp
          with_reducible rfl
        simp only [Act.put, siA, siB, siC]
        refine tkH 26 (v := ?_) (by simp only [lkA, lkB, lkC]; rfl) (by kernel_rfl) (fun _ _ _ h => h) (by rfl) (by assumption) ?_ ?_
        rotate_left 1
        · intro w hSw
          obtain ⟨c0, c1, c2, c3, c4, c5, c6, c7, c8⟩ := hSw
          go_simp
          with_reducible rfl
        simp only [Act.put, siA, siB, siC]
        refine tkH 27 (v := ?_) (by simp only [lkA, lkB, lkC]; rfl) (by kernel_rfl) (fun _ _ _ h => h) (by rfl) (by assumption) ?_ ?_
        rotate_left 1
        · intro w hSw
          obtain ⟨c0, c1, c2, c3, c4, c5, c6, c7, c8⟩ := hSw
          go_simp
          with_reducible rfl
        simp only [Act.put, siA, siB, siC]
        refine tkH 28 (v := ?_) (by simp only [lkA, lkB, lkC]; rfl) (by kernel_rfl) (fun _ _ _ h => h) (by rfl) (by assumption) ?_ ?_
        rotate_left 1
        · intro w hSw
          obtain ⟨c0, c1, c2, c3, c4, c5, c6, c7, c8⟩ := hSw
          go_simp
          with_reducible rfl
        simp only [Act.put, siA, siB, siC]
        refine tkH 29 (v := ?_) (by simp only [lkA, lkB, lkC]; rfl) (by kernel_rfl) (fun _ _ _ h => h) (by rfl) (by assumption) ?_ ?_
        rotate_left 1
        · intro w hSw
          obtain ⟨c0, c1, c2, c3, c4, c5, c6, c7, c8⟩ := hSw
          go_simp
          with_reducible rfl
        simp only [Act.put, siA, siB, siC]
        refine tkH 30 (v := ?_) (by simp only [lkA, lkB, lkC]; rfl) (by kernel_rfl) (fun _ _ _ h => h) (by rfl) (by assumption) ?_ ?_
        rotate_left 1
        · intro w hSw
          obtain ⟨c0, c1, c2, c3, c4, c5, c6, c7, c8⟩ := hSw
          go_simp
          with_reducible rfl
        simp only [Act.put, siA, siB, siC]
        refine tkH 31 (v := ?_) (by simp only [lkA, lkB, lkC]; rfl) (by kernel_rfl) (fun _ _ _ h => h) (by rfl) (by assumption) ?_ ?_
        rotate_left 1
        · intro w hSw
          obtain ⟨c0, c1, c2, c3, c4, c5, c6, c7, c8⟩ := hSw
          go_simp
          with_reducible rfl
        simp only [Act.put, siA, siB, siC]
        refine tkH 32 (v := ?_) (by simp only [lkA, lkB, lkC]; rfl) (by kernel_rfl) (fun _ _ _ h => h) (by rfl) (by assumption) ?_ ?_
        rotate_left 1
        · intro w hSw
          obtain ⟨c0, c1, c2, c3, c4, c5, c6, c7, c8⟩ := hSw
          go_simp
          with_reducible rfl
        simp only [Act.put, siA, siB, siC]
        refine tkH 33 (v := ?_) (by simp only [lkA, lkB, lkC]; rfl) (by kernel_rfl) (fun _ _ _ h => h) (by rfl) (by assumption) ?_ ?_
        rotate_left 1
        · intro w hSw
          obtain ⟨c0, c1, c2, c3, c4, c5, c6, c7, c8⟩ := hSw
          go_simp
          with_reducible rfl
        simp only [Act.put, siA, siB, siC]
        refine tkH 34 (v := ?_) (by simp only [lkA, lkB, lkC]; rfl) (by kernel_rfl) (fun _ _ _ h => h) (by rfl) (by assumption) ?_ ?_
        rotate_left 1
        · intro w hSw
          obtain ⟨c0, c1, c2, c3, c4, c5, c6, c7, c8⟩ := hSw
          go_simp
          with_reducible rfl
        simp only [Act.put, siA, siB, siC]
        refine tkH 35 (v := ?_) (by simp only [lkA, lkB, lkC]; rfl) (by kernel_rfl) (fun _ _ _ h => h) (by rfl) (by assumption) ?_ ?_
        rotate_left 1
        · intro w hSw
          obtain ⟨c0, c1, c2, c3, c4, c5, c6, c7, c8⟩ := hSw
          go_simp
          with_reducible rfl
        simp only [Act.put, siA, siB, siC]
        refine tkH 36 (v := ?_) (by simp only [lkA, lkB, lkC]; rfl) (by kernel_rfl) (fun _ _ _ h => h) (by rfl) (by assumption) ?_ ?_
        rotate_left 1
        · intro w hSw
          obtain ⟨c0, c1, c2, c3, c4, c5, c6, c7, c8⟩ := hSw
          go_simp
          with_reducible rfl
        simp only [Act.put, siA, siB, siC]
        refine tkH 37 (v := ?_) (by simp only [lkA, lkB, lkC]; rfl) (by kernel_rfl) (fun _ _ _ h => h) (by rfl) (by assumption) ?_ ?_
        rotate_left 1
        · intro w hSw
          obtain ⟨c0, c1, c2, c3, c4, c5, c6, c7, c8⟩ := hSw
          go_simp
          with_reducible rfl
        simp only [Act.put, siA, siB, siC]
        refine tkH 38 (v := ?_) (by simp only [lkA, lkB, lkC]; rfl) (by kernel_rfl) (fun _ _ _ h => h) (by rfl) (by assumption) ?_ ?_
        rotate_left 1
        · intro w hSw
          obtain ⟨c0, c1, c2, c3, c4, c5, c6, c7, c8⟩ := hSw
          go_simp
          with_reducible rfl
        simp only [Act.put, siA, siB, siC]
        refine tkH 39 (v := ?_) (by simp only [lkA, lkB, lkC]; rfl) (by kernel_rfl) (fun _ _ _ h => h) (by rfl) (by assumption) ?_ ?_
        rotate_left 1
        · intro w hSw
          obtain ⟨c0, c1, c2, c3, c4, c5, c6, c7, c8⟩ := hSw
          go_simp
          with_reducible rfl
        simp only [Act.put, siA, siB, siC]
        refine tkH 40 (v := ?_) (by simp only [lkA, lkB, lkC]; rfl) (by kernel_rfl) (fun _ _ _ h => h) (by rfl) (by assumption) ?_ ?_
        rotate_left 1
        · intro w hSw
          obtain ⟨c0, c1, c2, c3, c4, c5, c6, c7, c8⟩ := hSw
          go_simp
          with_reducible rfl
        simp only [Act.put, siA, siB, siC]
        refine tkH 41 (v := ?_) (by simp only [lkA, lkB, lkC]; rfl) (by kernel_rfl) (fun _ _ _ h => h) (by rfl) (by assumption) ?_ ?_
        rotate_left 1
        · intro w hSw
          obtain ⟨c0, c1, c2, c3, c4, c5, c6, c7, c8⟩ := hSw
          go_simp
          with_reducible rfl
        simp only [Act.put, siA, siB, siC]
        refine wpAnyH_done (by kernel_rfl) ?_ _
        refine NoPanic.normal ?_
        go_wp2
        go_roundw
        case rel => exact ⟨i + 1, k + 1, by go_num, by go_num, by omega, by omega, HF1.out, BV.out.drew⟩
        case measure => simp [intOf]; omega
       | false =>
        have HF0 : Hid (((Y.items.take (i + 1)).filter K).length = k) := by show _ = _; rw [HFS.out, hKr]; rfl
        have CH : Hid (Calls Tryz.prog 32 #[.slice A2x n2x c2, kS q] W8.drew fun e w' => e = .returned (.int .i64 1) ∧ Below W8.drew.heap.size W8.drew w') := by
         have h1 := how_any (SI7.out.on BV.out) (HG.out.kept (B7.out.trans (BV.out.mono B7.out.size))) q HQ4.out HO.out.il HO.out.ip
         rw [HK2.out _ HQM.out hKr] at h1
         exact h1
        have x2 : W8.drew.cell? ⟨w4.heap.size, 2, none⟩ = some (.slice A2x n2x c2) := FXV.out.at_ 2
        have rp := RP.out
        by_cases hkn : k < nx
        · have hkp : k < psx.length := by rw [LX.out]; exact hkn
          have hXl : k < X.items.length := by rw [HNX.out]; exact hkn
          have e1 : X.items[k] = (psx[k]).1 := (List.getElem_of_eq PSX.out.symm hXl).trans (by simp)
          have hmX : X.items[k] ∈ Y.items.filter K := by rw [← HK1.out]; exact List.getElem_mem hXl
          rw [List.mem_filter] at hmX
          obtain ⟨gx, dx, ex, _, _, hax⟩ := PXV.out.at_ (by omega)
          rw [LX.out] at ex
          injection ex with ex1 ex2 ex3
          clear ex2
          subst ex3
          subst ex1
          have XP0 := hax k hkp 0 _ (by omega) rfl
          rw [← e1] at XP0
          have hne : ¬ (X.items[k]).1 = q := fun e => by
           have h2 := HO.out.un _ hmX.1 _ HQM.out e
           rw [h2, hKr] at hmX
           exact absurd hmX.2 (by decide)
          obtain ⟨qx, hqx⟩ : ∃ qx, (X.items[k]).1 = qx := ⟨_, rfl⟩
          rw [hqx] at hne XP0
          have XP : Hid (W8.drew.cell? ⟨gx, k * 27, none⟩ = some (kS qx)) := XP0
          have q1 : ¬ (ba qx).toList = (ba q).toList := fun e => hne (by rw [toList_tl, toList_tl, tl_ba, tl_ba] at e; exact e)
          have q2 : ((ba qx).toList == (ba q).toList) = false := by simpa using q1
          have klt : (k : Int) < (nx : Int) := by omega
          clear hax XP0 hmX e1 hqx hne
          refine wp_region_noPanic ?_
          refine wp_region_held_drew (S := fun W => W.cell? ⟨w4.heap.size, 0, none⟩ = some (.slice (some ⟨gx, 0, none⟩) nx c0) ∧ W.cell? ⟨gx, k * 27, none⟩ = some (kS qx) ∧ W.cell? ⟨wr.heap.size, 0, none⟩ = some (kS q)) (by kernel_rfl) (⟨X0.out, XP.out, RP.out⟩) (fun hS => ?_)
          refine tkH 0 (v := ?_) (by simp only [lkA, lkB]; rfl) (by kernel_rfl) (fun _ _ _ h => h) (by rfl) (by assumption) ?_ ?_
          rotate_left 1
          · intro w hSw
            have c1 := hSw.1
            have c2 := hSw.2.1
            have c3 := hSw.2.2
            go_simp
            with_reducible rfl
          simp only [Act.put, siA, siB, siC]
          refine tkH 1 (v := ?_) (by simp only [lkA, lkB, lkC]; rfl) (by kernel_rfl) (fun _ _ _ h => h) (by rfl) (by assumption) ?_ ?_
          rotate_left 1
          · intro w hSw
            have c1 := hSw.1
            have c2 := hSw.2.1
            have c3 := hSw.2.2
            go_simp
            with_reducible rfl
          simp only [Act.put, siA, siB, siC]
          refine tkH 2 (v := ?_) (by simp only [lkA, lkB, lkC]; rfl) (by kernel_rfl) (fun _ _ _ h => h) (by rfl) (by assumption) ?_ ?_
          rotate_left 1
          · intro w hSw
            have c1 := hSw.1
            have c2 := hSw.2.1
            have c3 := hSw.2.2
            go_simp
            with_reducible rfl
          simp only [Act.put, siA, siB, siC]
          refine tkH 3 (v := ?_) (by simp only [lkA, lkB, lkC]; rfl) (by kernel_rfl) (fun _ _ _ h => h) (by rfl) (by assumption) ?_ ?_
          rotate_left 1
          · intro w hSw
            have c1 := hSw.1
            have c2 := hSw.2.1
            have c3 := hSw.2.2
            go_simp
            with_reducible rfl
          simp only [Act.put, siA, siB, siC]
          refine tkH 4 (v := ?_) (by simp only [lkA, lkB, lkC]; rfl) (by kernel_rfl) (fun _ _ _ h => h) (by rfl) (by assumption) ?_ ?_
          rotate_left 1
          · intro w hSw
            have c1 := hSw.1
            have c2 := hSw.2.1
            have c3 := hSw.2.2
            go_simp
            with_reducible rfl
          simp only [Act.put, siA, siB, siC]
          refine tkH 5 (v := ?_) (by simp only [lkA, lkB, lkC]; rfl) (by kernel_rfl) (fun _ _ _ h => h) (by rfl) (by assumption) ?_ ?_
          rotate_left 1
          · intro w hSw
            have c1 := hSw.1
            have c2 := hSw.2.1
            have c3 := hSw.2.2
            go_simp
            with_reducible rfl
          simp only [Act.put, siA, siB, siC]
          refine tkH 6 (v := ?_) (by simp only [lkA, lkB, lkC]; rfl) (by kernel_rfl) (fun _ _ _ h => h) (by rfl) (by assumption) ?_ ?_
          rotate_left 1
          · intro w hSw
            have c1 := hSw.1
            have c2 := hSw.2.1
            have c3 := hSw.2.2
            go_simp
            with_reducible rfl
          simp only [Act.put, siA, siB, siC]
          refine tkH 7 (v := ?_) (by simp only [lkA, lkB, lkC]; rfl) (by kernel_rfl) (fun _ _ _ h => h) (by rfl) (by assumption) ?_ ?_
          rotate_left 1
          · intro w hSw
            have c1 := hSw.1
            have c2 := hSw.2.1
            have c3 := hSw.2.2
            go_simp
            with_reducible rfl
          simp only [Act.put, siA, siB, siC]
          refine tkH 8 (v := ?_) (by simp only [lkA, lkB, lkC]; rfl) (by kernel_rfl) (fun _ _ _ h => h) (by rfl) (by assumption) ?_ ?_
          rotate_left 1
          · intro w hSw
            have c1 := hSw.1
            have c2 := hSw.2.1
            have c3 := hSw.2.2
            go_simp
            with_reducible rfl
          simp only [Act.put, siA, siB, siC]
          refine tkH 9 (v := ?_) (by simp only [lkA, lkB, lkC]; rfl) (by kernel_rfl) (fun _ _ _ h => h) (by rfl) (by assumption) ?_ ?_
          rotate_left 1
          · intro w hSw
            have c1 := hSw.1
            have c2 := hSw.2.1
            have c3 := hSw.2.2
            go_simp
            with_reducible rfl
          simp only [Act.put, siA, siB, siC]
          refine tkH 10 (v := ?_) (by simp only [lkA, lkB, lkC]; rfl) (by kernel_rfl) (fun _ _ _ h => h) (by rfl) (by assumption) ?_ ?_
          rotate_left 1
          · intro w hSw
            have c1 := hSw.1
            have c2 := hSw.2.1
            have c3 := hSw.2.2
            go_simp
            with_reducible rfl
          simp only [Act.put, siA, siB, siC]
          refine tkH 11 (v := ?_) (by simp only [lkA, lkB, lkC]; rfl) (by kernel_rfl) (fun _ _ _ h => h) (by rfl) (by assumption) ?_ ?_
          rotate_left 1
          · intro w hSw
            have c1 := hSw.1
            have c2 := hSw.2.1
            have c3 := hSw.2.2
            go_simp
            with_reducible rfl
          simp only [Act.put, siA, siB, siC]
          refine tkH 12 (v := ?_) (by simp only [lkA, lkB, lkC]; rfl) (by kernel_rfl) (fun _ _ _ h => h) (by rfl) (by assumption) ?_ ?_
          rotate_left 1
          · intro w hSw
            have c1 := hSw.1
            have c2 := hSw.2.1
            have c3 := hSw.2.2
            go_simp
            with_reducible rfl
          simp only [Act.put, siA, siB, siC]
          refine tkH 13 (v := ?_) (by simp only [lkA, lkB, lkC]; rfl) (by kernel_rfl) (fun _ _ _ h => h) (by rfl) (by assumption) ?_ ?_
          rotate_left 1
          · intro w hSw
            have c1 := hSw.1
            have c2 := hSw.2.1
            have c3 := hSw.2.2
            go_simp
            with_reducible rfl
          simp only [Act.put, siA, siB, siC]
          refine tkH 14 (v := ?_) (by simp only [lkA, lkB, lkC]; rfl) (by kernel_rfl) (fun _ _ _ h => h) (by rfl) (by assumption) ?_ ?_
          rotate_left 1
          · intro w hSw
            have c1 := hSw.1
            have c2 := hSw.2.1
            have c3 := hSw.2.2
            go_simp
            with_reducible rfl
          simp only [Act.put, siA, siB, siC]
          refine tkH 15 (v := ?_) (by simp only [lkA, lkB, lkC]; rfl) (by kernel_rfl) (fun _ _ _ h => h) (by rfl) (by assumption) ?_ ?_
          rotate_left 1
          · intro w hSw
            have c1 := hSw.1
            have c2 := hSw.2.1
            have c3 := hSw.2.2
            go_simp
            with_reducible rfl
          simp only [Act.put, siA, siB, siC]
          refine wpAnyH_done (by kernel_rfl) ?_ _
          refine NoPanic.normal ?_
          go_wp2_with fail
          refine CH.out.mono ?_; rintro e9 w9 ⟨rfl, hb9⟩
          have B9 := hid (BV.out.trans (hb9.mono BV.out.size))
          clear hb9
          go_wp2
          go_roundw
          case rel => exact ⟨i + 1, k, by go_num, rfl, by omega, by omega, HF0.out, B9.out⟩
          case measure => simp [intOf]; omega
        · have kge : ¬ (k : Int) < (nx : Int) := by omega
          refine wp_region_noPanic ?_
          refine wp_region_held_drew (S := fun W => W.cell? ⟨w4.heap.size, 0, none⟩ = some (.slice A0 nx c0)) (by kernel_rfl) (X0.out) (fun hS => ?_)
          refine tkH 0 (v := ?_) (by simp only [lkA, lkB]; rfl) (by kernel_rfl) (fun _ _ _ h => h) (by rfl) (by assumption) ?_ ?_
          rotate_left 1
          · intro w hSw
            have c1 := hSw
            go_simp
            with_reducible rfl
          simp only [Act.put, siA, siB, siC]
          refine tkH 1 (v := ?_) (by simp only [lkA, lkB, lkC]; rfl) (by kernel_rfl) (fun _ _ _ h => h) (by rfl) (by assumption) ?_ ?_
          rotate_left 1
          · intro w hSw
            have c1 := hSw
            go_simp
            with_reducible rfl
          simp only [Act.put, siA, siB, siC]
          refine tkH 2 (v := ?_) (by simp only [lkA, lkB, lkC]; rfl) (by kernel_rfl) (fun _ _ _ h => h) (by rfl) (by assumption) ?_ ?_
          rotate_left 1
          · intro w hSw
            have c1 := hSw
            go_simp
            with_reducible rfl
          simp only [Act.put, siA, siB, siC]
          refine tkH 3 (v := ?_) (by simp only [lkA, lkB, lkC]; rfl) (by kernel_rfl) (fun _ _ _ h => h) (by rfl) (by assumption) ?_ ?_
          rotate_left 1
          · intro w hSw
            have c1 := hSw
            go_simp
            with_reducible rfl
          simp only [Act.put, siA, siB, siC]
          refine tkH 4 (v := ?_) (by simp only [lkA, lkB, lkC]; rfl) (by kernel_rfl) (fun _ _ _ h => h) (by rfl) (by assumption) ?_ ?_
          rotate_left 1
          · intro w hSw
            have c1 := hSw
            go_simp
            with_reducible rfl
          simp only [Act.put, siA, siB, siC]
          refine tkH 5 (v := ?_) (by simp only [lkA, lkB, lkC]; rfl) (by kernel_rfl) (fun _ _ _ h => h) (by rfl) (by assumption) ?_ ?_
          rotate_left 1
          · intro w hSw
            have c1 := hSw
            go_simp
            with_reducible rfl
          simp only [Act.put, siA, siB, siC]
          refine skH 6 (by simp only [lkA, lkB, lkC]; rfl) (by kernel_rfl) (fun _ _ _ h => h) (by rfl) (by assumption) ?_
          simp only [Act.put, siA, siB, siC]
          refine skH 7 (by simp only [lkA, lkB, lkC]; rfl) (by kernel_rfl) (fun _ _ _ h => h) (by rfl) (by assumption) ?_
          simp only [Act.put, siA, siB, siC]
          refine skH 8 (by simp only [lkA, lkB, lkC]; rfl) (by kernel_rfl) (fun _ _ _ h => h) (by rfl) (by assumption) ?_
          simp only [Act.put, siA, siB, siC]
          refine skH 9 (by simp only [lkA, lkB, lkC]; rfl) (by kernel_rfl) (fun _ _ _ h => h) (by rfl) (by assumption) ?_
          simp only [Act.put, siA, siB, siC]
          refine skH 10 (by simp only [lkA, lkB, lkC]; rfl) (by kernel_rfl) (fun _ _ _ h => h) (by rfl) (by assumption) ?_
          simp only [Act.put, siA, siB, siC]
          refine skH 11 (by simp only [lkA, lkB, lkC]; rfl) (by kernel_rfl) (fun _ _ _ h => h) (by rfl) (by assumption) ?_
          simp only [Act.put, siA, siB, siC]
          refine skH 12 (by simp only [lkA, lkB, lkC]; rfl) (by kernel_rfl) (fun _ _ _ h => h) (by rfl) (by assumption) ?_
          simp only [Act.put, siA, siB, siC]
          refine skH 13 (by simp only [lkA, lkB, lkC]; rfl) (by kernel_rfl) (fun _ _ _ h => h) (by rfl) (by assumption) ?_
          simp only [Act.put, siA, siB, siC]
          refine skH 14 (by simp only [lkA, lkB, lkC]; rfl) (by kernel_rfl) (fun _ _ _ h => h) (by rfl) (by assumption) ?_
          simp only [Act.put, siA, siB, siC]
          refine tkH 15 (v := ?_) (by simp only [lkA, lkB, lkC]; rfl) (by kernel_rfl) (fun _ _ _ h => h) (by rfl) (by assumption) ?_ ?_
          rotate_left 1
          · intro w hSw
            have c1 := hSw
            go_simp
            with_reducible rfl
          simp only [Act.put, siA, siB, siC]
          refine wpAnyH_done (by kernel_rfl) ?_ _
          refine NoPanic.normal ?_
          go_wp2_with fail
          refine CH.out.mono ?_; rintro e9 w9 ⟨rfl, hb9⟩
          have B9 := hid (BV.out.trans (hb9.mono BV.out.size))
          clear hb9
          go_wp2
          go_roundw
          case rel => exact ⟨i + 1, k, by go_num, rfl, by omega, by omega, HF0.out, B9.out⟩
          case measure => simp [intOf]; omega
     · obtain rfl : i = m := by omega
       have HKX : Hid (k = nx) := by show _ = _; rw [← J1.out, List.take_of_length_le (by rw [HMY.out]; omega), ← HK1.out, HNX.out]
       have x0 : wr.cell? ⟨w4.heap.size, 0, none⟩ = some (.slice A0 nx c0) := (FX7.out.kept J2.out FX7.out.inside).at_ 0
       have y2 : wr.cell? ⟨w6.heap.size, 2, none⟩ = some (.slice B2 0 d2) := (FY7.out.kept J2.out FY7.out.inside).at_ 2
       have hkx := HKX.out
       subst hkx
       have BF := hid (B7.out.trans (J2.out.mono B7.out.size))
       go_wp2_with fail
       refine (CA.out _ BF.out).mono ?_; rintro e9 w9 ⟨rfl, hb9⟩
       go_wp2
       go_ret
       exact ⟨rfl, BF.out.trans (hb9.mono BF.out.size)⟩
end Go.Proofs.YtahkcemdbfjilaaGreatDoor
