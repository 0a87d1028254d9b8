/- Several texts in one. Conditions: those said at each. -/
import Derived.Test.YtahkcemdbfjilaaGreatDoorWb00
import Derived.Test.YtahkcemdbfjilaaGreatDoorAl01
set_option linter.unusedSimpArgs false
set_option linter.unusedVariables false
set_option maxRecDepth 100000
namespace Go.Proofs.YtahkcemdbfjilaaGreatDoor
open Go.RowKit Go.Maps
attribute [local go_sem] Oper.semAt_some
theorem RecP.kq2 {B : Nat} {w w' : World} {v : Value} {ps : List (At × Value)} (h : RecP B w v ps) (k : Kq w w') : RecP B w' v ps := ⟨own_kq h.own k, fun y hy => (h.dg y hy).kq k⟩
theorem results_b {fn : Func} {c : Nat} (h : fn.results = #[.cell c 4]) (tmps : Array Value) (w : World) (g : Nat) (b : Bool) (hc : tmps.getD c undef = .pointer (some ⟨g, 0, none⟩)) (hg : w.cell? ⟨g, 0, none⟩ = some (.bool b)) :
 (results fn tmps).run Tryz.prog w = .ok (.bool b) w := by
 have hp' : tmps[c]?.getD undef = .pointer (some ⟨g, 0, none⟩) := by simpa using hc
 have hl : (loadVar 4 ⟨g, 0, none⟩).run Tryz.prog w = .ok (.bool b) w := by go_simp
 simp [results, h, hp', asAddr, hl]
set_option maxHeartbeats 32000000 in
theorem all_law {A A2 : Option Addr} {n n2 cap cap2 bb bb2 off off2 : Nat} {xs : List PutT} {fs : Glob.Fl} (w : World) (hI : PutsIn w A n bb off xs) (hF : Glob.FilesAt w A2 n2 bb2 off2 fs) (hfb : ∀ f ∈ fs, f.1.length ≤ 140737488351232 ∧ f.2.length ≤ 140737488351232) (hn : n ≤ maxLen) (hn2 : n2 ≤ maxLen) (hG : Gd w) (hT : Sha.Tab w) (root : By)
 (HP : largeB xs fs = false → ∀ W, Below w.heap.size w W → Calls Tryz.prog 11 #[.slice A2 n2 cap2, .string ⟨#[105]⟩] W fun e w' => ∃ o c lo, e = .returned (.tuple #[.pointer o, .int .i64 c]) ∧ Lst w' (.pointer o) lo ∧ Below W.heap.size W w') :
 Calls Tryz.prog 6 #[.slice A n cap, kS root, .slice A2 n2 cap2] w fun e w' => e = .returned (.bool true) ∧ Below w.heap.size w w' := by
 obtain ⟨w0, hw0⟩ : ∃ w0, w.alloc (.cells #[.bool false] 4) = w0 := ⟨_, rfl⟩
 have b0 : Below w.heap.size w w0 := hw0 ▸ (Below.refl _ _).alloc (Nat.le_refl _) _
 have s0 : Hid (w.heap.size + 1 = w0.heap.size) := by rw [← hw0]; simp [Hid]
 have R0 : Hid (Has w0 w.heap.size 4 #[.bool false]) := by rw [← hw0]; exact Has.fresh _ _ _
 have B0 := hid b0
 have CL := hid (large_any (cap := cap) (cap2 := cap2) w0 (hI.on b0) (hF.stays b0) hfb hn hn2)
 have HI := hid hI
 have HG := hid hG
 have HT := hid hT
 have HPZ := hid HP
 have CA : Hid (∀ W, Below w.heap.size w W → Calls Tryz.prog 9 #[] W fun e w' => e = .returned (.bool true) ∧ Below W.heap.size W w') := fun W hb => awake_any W (HG.out.kept hb) (HT.out.kept hb HG.out.pos)
 -- the end of each way: the answer is stored, and loaded
 have HE : Hid (∀ W : World, Below w.heap.size w W → Has W w.heap.size 4 #[.bool false] → Below w.heap.size w (W.setCell ⟨w.heap.size, 0, none⟩ (.bool true)) ∧ (W.setCell ⟨w.heap.size, 0, none⟩ (.bool true)).cell? ⟨w.heap.size, 0, none⟩ = some (.bool true)) := fun W hb hr =>
  ⟨hb.setCell (p := ⟨w.heap.size, 0, none⟩) (Nat.le_refl _) _, (hr.put 0 (.bool true)).at_ 0⟩
 have zr : (ba root).size = root.length := ba_size root
 obtain ⟨lg, HL⟩ : ∃ b, Hid (largeB xs fs = b) := ⟨_, rfl⟩
 rw [HL.out] at CL
 clear hI hF hfb HP hG hT b0
 refine (callsIn_wide (n := 9)).1 ?_
 refine callsIn_of_wp_marks Tryz.func6 rfl trivial ?_ rfl
 simp only [Tryz.ntmps6, List.size_toArray, List.length_cons, List.length_nil, Nat.reduceAdd, Nat.reduceSub, Array.replicate_succ, Array.replicate_zero, List.push_toArray, List.append_toArray, List.nil_append, List.cons_append]
 refine wpIn_wide.2 ?_
 go_wp2_with fail
 try rw [hw0]
 refine CL.out.mono ?_; rintro e1 w1 ⟨rfl, hb1⟩
 have B1 : Hid (Below w.heap.size w w1) := B0.out.trans (hb1.mono B0.out.size)
 have R1 : Hid (Has w1 w.heap.size 4 #[.bool false]) := R0.out.kept hb1 R0.out.inside
 clear hb1 hw0
 cases lg with
 | true =>
  go_wp2_with fail
  refine (CA.out _ B1.out).mono ?_; rintro e2 w2 ⟨rfl, hb2⟩
  have R2 := R1.out.kept hb2 R1.out.inside
  have c0 := R2.at_ 0
  have c1 := R2.free 0
  go_wp2
  exact ⟨_, results_b rfl _ _ w.heap.size true rfl (HE.out w2 (B1.out.trans (hb2.mono B1.out.size)) R2).2, rfl, (HE.out w2 (B1.out.trans (hb2.mono B1.out.size)) R2).1⟩
 | false =>
  obtain ⟨hx1, hx2, hx3, _⟩ := large_false HL.out
  have CM := hid (made_any (cap := cap) w1 (HI.out.on B1.out) (HG.out.kept B1.out) (by have := HI.out.len; omega) hx3)
  have HDG := hid (DG.made xs)
  obtain ⟨M, HM⟩ : ∃ M, Hid (madeM xs = M) := ⟨_, rfl⟩
  rw [HM.out] at CM HDG
  clear hx1 hx2 hx3
  go_wp2_with fail
  refine CM.out.mono ?_; rintro e2 w2 ⟨p, q0, rfl, hl2⟩
  have R2 : Hid (Has w2 w.heap.size 4 #[.bool false]) := R1.out.kept hl2.bl R1.out.inside
  have L2 := hid ((hl2.swap.drop).ahead B1.out)
  clear hl2
  go_wp2_with fail
  refine (HPZ.out HL.out w2 L2.out.bl).mono ?_; rintro e3 w3 ⟨o, c', lo, rfl, hlst, hb3⟩
  have R3 : Hid (Has w3 w.heap.size 4 #[.bool false]) := R2.out.kept hb3 R2.out.inside
  have L3 := hid (L2.out.on hb3)
  obtain ⟨own, hD3⟩ := L3.out.headD
  have C3 := hid (walk_any hD3 (HG.out.kept L3.out.bl) (HT.out.kept L3.out.bl HG.out.pos) HDG.out root (.pointer o) lo hlst)
  have HAO : Hid (rootE M.now root = 0 → AllOk M root (foundM lo M.now root)) := fun h0 => all_ok hD3 HDG.out lo root h0
  have HNO : Hid (rootE M.now root ≠ 0 → foundM lo M.now root = noF) := fun h0 => by unfold foundM; rw [if_neg h0]
  have HMR : Hid (rootE M.now root = 0 → mayB root = true) := fun h0 => by
   cases e : mayB root with
   | true => rfl
   | false => unfold rootE at h0; rw [e] at h0; simp at h0
  obtain ⟨c, HC⟩ : ∃ c, Hid (rootE M.now root = c) := ⟨_, rfl⟩
  obtain ⟨X, HX⟩ : ∃ X, Hid (foundM lo M.now root = X) := ⟨_, rfl⟩
  rw [HC.out, HX.out] at C3 HAO HNO
  rw [HC.out] at HMR
  clear hb3 hD3 hlst
  go_wp2_with fail
  refine C3.out.mono ?_; rintro e4 w4 ⟨vi, vs, rfl, hR, hS, hb4⟩
  have L4 := hid (L3.out.on hb4)
  have R4 : Hid (Has w4 w.heap.size 4 #[.bool false]) := R3.out.kept hb4 R3.out.inside
  have h0 := (hS 1 (by omega) (by omega))
  obtain ⟨A0, c0, rfl⟩ := hR.form
  obtain ⟨A1, c1, f1⟩ := (hS 1 (by omega) (by omega)).form
  obtain ⟨A2x, c2, f2⟩ := (hS 2 (by omega) (by omega)).form
  obtain ⟨A3, c3, f3⟩ := (hS 3 (by omega) (by omega)).form
  have s1 := hS 1 (by omega) (by omega)
  have s2 := hS 2 (by omega) (by omega)
  have s3 := hS 3 (by omega) (by omega)
  rw [f1] at s1
  rw [f2] at s2
  rw [f3] at s3
  rw [f1, f2, f3]
  have S1 := hid s1
  have S2 := hid s2
  have S3 := hid s3
  have HR := hid hR
  obtain ⟨nx, HNX⟩ : ∃ nx, Hid (X.items.length = nx) := ⟨_, rfl⟩
  obtain ⟨n1, HN1⟩ : ∃ nx, Hid ((lsOf X 1).length = nx) := ⟨_, rfl⟩
  obtain ⟨n2x, HN2⟩ : ∃ nx, Hid ((lsOf X 2).length = nx) := ⟨_, rfl⟩
  obtain ⟨n3, HN3⟩ : ∃ nx, Hid ((lsOf X 3).length = nx) := ⟨_, rfl⟩
  rw [HNX.out] at HR ⊢
  rw [HN1.out] at S1 ⊢
  rw [HN2.out] at S2 ⊢
  rw [HN3.out] at S3 ⊢
  clear hR hS f1 f2 f3 s1 s2 s3 h0
  obtain ⟨w5, hw5⟩ : ∃ w5, w4.alloc (.cells #[.slice A0 nx c0, .slice A1 n1 c1, .slice A2x n2x c2, .slice A3 n3 c3] 39) = w5 := ⟨_, rfl⟩
  have b5 : Below w4.heap.size w4 w5 := hw5 ▸ (Below.refl _ _).alloc (Nat.le_refl _) _
  have F5 : Hid (Has w5 w4.heap.size 39 #[.slice A0 nx c0, .slice A1 n1 c1, .slice A2x n2x c2, .slice A3 n3 c3]) := by rw [← hw5]; exact Has.fresh _ _ _
  have L5 := hid (L4.out.on b5)
  have R5 : Hid (Has w5 w.heap.size 4 #[.bool false]) := R4.out.kept b5 R4.out.inside
  have HB5 := hid b5
  have x0 := F5.out.at_ 0
  have x1 := F5.out.at_ 1
  have x2 := F5.out.at_ 2
  have x3 := F5.out.at_ 3
  clear b5
  by_cases hc : c = 0
  · subst hc
    have HO := hid (HAO.out rfl)
    have hmr := HMR.out rfl
    have hrl : root.length ≤ 4000 := by have := (may_parts hmr).1; omega
    obtain ⟨psx, hpsx, hPx⟩ := HR.out
    have hlx : psx.length = nx := by rw [← HNX.out, ← hpsx, List.length_map]
    have PX := hid hPx
    have PSX := hid hpsx
    have LX := hid hlx
    have hnb : nx ≤ 100000 := by have := HO.out.len; rw [HNX.out] at this; exact this
    have hnbi : (nx : Int) ≤ 100000 := by omega
    have GW : Hid (∀ W, Below w5.heap.size w5 W → Gd W ∧ Sha.Tab W) := fun W hb => ⟨HG.out.kept (L5.out.bl.trans (hb.mono L5.out.bl.size)), HT.out.kept (L5.out.bl.trans (hb.mono L5.out.bl.size)) HG.out.pos⟩
    obtain ⟨w6, hw6⟩ : ∃ w6, w5.alloc (.cells #[.slice none 0 0] 34) = w6 := ⟨_, rfl⟩
    have A6 : Hid (ASt w5 w6 w5.heap.size [] [] (.slice none 0 0) (.slice none 0 0)) := by
     rw [← hw6]
     exact ⟨Has.fresh _ _ _, StrR.nil _ _, StrR.nil _ _, fun k h => (by cases h), (Below.refl _ _).alloc (Nat.le_refl _) _, Nat.le_refl _⟩
    clear hmr hpsx hPx hlx HR HAO HNO HMR
    go_wp2
    try rw [hw6]
    go_loopw [13, 15] (fun v13 v15 wr => ∃ (i nd cd cf : Nat) (Ad Af : Option Addr), v15 = .int .i64 (i : Int) ∧ v13 = .slice Ad nd cd ∧ i ≤ nx ∧ Hid ((dirsL (X.items.take i)).length = nd) ∧ Hid (ASt w5 wr w5.heap.size (dirsL (X.items.take i)) ((X.items.take i).map (·.1)) (.slice Ad nd cd) (.slice Af i cf))) (fun _ v15 _ => nx - (intOf v15).toNat)
    case atStart => exact ⟨0, 0, 0, 0, none, none, rfl, rfl, by omega, rfl, A6.out⟩
    case round =>
     obtain ⟨i, nd, cd, cf, Ad, Af, rfl, rfl, hi, HND, J⟩ := hrel
     have f0 : wr.cell? ⟨w4.heap.size, 0, none⟩ = some (.slice A0 nx c0) := (F5.out.kept J.out.bl F5.out.inside).at_ 0
     have i0 : (0 : Int) ≤ (i : Int) := by omega
     by_cases hlt : i < nx
     · have hyl : i < psx.length := by rw [LX.out]; exact hlt
       have hXl : i < X.items.length := by rw [HNX.out]; exact hlt
       have BW4 : Below w4.heap.size w4 wr := HB5.out.trans (J.out.bl.mono HB5.out.size)
       have PXr := PX.out.kq2 (Kq.of_below BW4)
       obtain ⟨gy, dy, ey, _, hgy, _⟩ := PXr.at_ (by omega)
       rw [LX.out] at ey
       injection ey with ey1 ey2 ey3
       clear ey2
       subst ey3
       subst ey1
       have hld := RecP.load (g := gy) (c := c0) (ps := psx) (by rw [LX.out]; exact PXr) i hyl
       obtain ⟨Ab, cb, hbf⟩ := (PXr.dg _ (List.getElem_mem hyl)).form
       have hXi : X.items[i] = (psx[i]).1 := (List.getElem_of_eq PSX.out.symm hXl).trans (by simp)
       have hqm : X.items[i] ∈ X.items := List.getElem_mem hXl
       have hup := HO.out.up i hXl
       have hmay := HO.out.may _ hqm
       have htmp := HO.out.temp _ hqm
       have hitm := HO.out.item _ hqm
       have hsiz := HO.out.siz _ hqm
       have htk : X.items.take (i + 1) = X.items.take i ++ [X.items[i]] := List.take_succ_eq_append_getElem hXl
       rw [hXi] at hup hmay htmp hitm hsiz htk
       obtain ⟨⟨⟨q, nn⟩, bv⟩, hyy⟩ : ∃ yy, psx[i] = yy := ⟨_, rfl⟩
       rw [hyy] at hld hbf hup hmay htmp hitm hsiz htk
       dsimp only at hld hbf hup hmay htmp hitm hsiz htk
       subst hbf
       obtain ⟨nh, HNH⟩ : ∃ nh, Hid ((hasN nn).length = nh) := ⟨_, rfl⟩
       rw [HNH.out] at hld
       have hq1 := (may_parts hmay).1
       have hal : (aheadL q).length ≤ 4000 := by have := (may_parts hmay).2.2.2; omega
       have HUP := hid hup
       have HITM := hid hitm
       have HTK := hid htk
       have hq4 : q.length ≤ 4000 := by omega
       have hndn : nd ≤ i := by have := dirsL_len (X.items.take i); rw [HND.out, List.length_take] at this; omega
       have HDQ : Hid (∀ y ∈ dirsL (X.items.take i), y.length ≤ 4000) := fun y hy => by
        obtain ⟨z, hz, rfl⟩ := List.mem_map.1 (show y ∈ dirsL _ from hy)
        have := (may_parts (HO.out.may z (List.mem_of_mem_take (List.mem_filter.1 hz).1))).1
        omega
       have ilt : (i : Int) < (nx : Int) := by omega
       have w1i : IntKind.i64.wrap ((i : Int) + 1) = (i : Int) + 1 := i64in _ (by omega) (by omega)
       obtain ⟨u, HU⟩ : ∃ u, Hid (aheadL q = u) := ⟨_, rfl⟩
       rw [HU.out] at HUP hal
       have CP : Hid (∀ W, Gd W → Calls Tryz.prog 31 #[kS q] W fun e w' => e = .returned (.tuple #[kS u, .bool true]) ∧ Below W.heap.size W w') := fun W hg => by
        have := parent_any (ba q) W hg (by rw [ba_size]; omega)
        rw [tl_ba, hmay, findV_yes hmay, HU.out] at this; exact this
       have CT : Hid (∀ W, Calls Tryz.prog 33 #[kS q] W fun e w' => e = .returned (.bool false) ∧ W = w') := fun W => by
        have := isTemp_any (ba q) W (by rw [ba_size]; omega)
        rw [tl_ba, htmp] at this; exact this
       obtain ⟨kd, HKD⟩ : ∃ kd, Hid (nn.kind = kd) := ⟨_, rfl⟩
       obtain ⟨sz, HSZ⟩ : ∃ kd, Hid (sizN nn = kd) := ⟨_, rfl⟩
       have hsz : ¬ (4096 : Int) < sz := by
        rw [← HSZ.out]; unfold sizN; split <;> omega
       obtain ⟨cs, HCS⟩ : ∃ cs, Hid (recN q nn (.slice Ab nh cb) = cs) := ⟨_, rfl⟩
       have HSC : Hid (cs.size = 27) := by rw [← HCS.out]; rfl
       have HAL : Hid (cs.all (·.oneCell') = true) := by rw [← HCS.out]; exact recNall _ _ _ rfl
       rw [HCS.out] at hld
       have HLD := hid hld
       obtain ⟨W8, hW8⟩ : ∃ W8, (wr.alloc (.cells #[.string ⟨#[]⟩, .int .i64 0, .bool false, .int .i64 0, .int .i64 0, .int .i64 0, .int .u32 0, .int .u32 0, .int .u32 0, .int .u32 0, .int .u32 0, .int .u32 0, .int .u32 0, .int .u32 0, .int .u32 0, .int .u32 0, .int .u32 0, .int .u32 0, .int .u32 0, .int .u32 0, .int .u32 0, .int .u32 0, .int .i64 0, .slice none 0 0, .string ⟨#[]⟩, .int .i64 0, .int .i64 0] 58)).setRow wr.heap.size cs = W8 := ⟨_, rfl⟩
       have FZ : Hid (Has (wr.alloc (.cells #[.string ⟨#[]⟩, .int .i64 0, .bool false, .int .i64 0, .int .i64 0, .int .i64 0, .int .u32 0, .int .u32 0, .int .u32 0, .int .u32 0, .int .u32 0, .int .u32 0, .int .u32 0, .int .u32 0, .int .u32 0, .int .u32 0, .int .u32 0, .int .u32 0, .int .u32 0, .int .u32 0, .int .u32 0, .int .u32 0, .int .i64 0, .slice none 0 0, .string ⟨#[]⟩, .int .i64 0, .int .i64 0] 58)) wr.heap.size 58 #[.string ⟨#[]⟩, .int .i64 0, .bool false, .int .i64 0, .int .i64 0, .int .i64 0, .int .u32 0, .int .u32 0, .int .u32 0, .int .u32 0, .int .u32 0, .int .u32 0, .int .u32 0, .int .u32 0, .int .u32 0, .int .u32 0, .int .u32 0, .int .u32 0, .int .u32 0, .int .u32 0, .int .u32 0, .int .u32 0, .int .i64 0, .slice none 0 0, .string ⟨#[]⟩, .int .i64 0, .int .i64 0]) := Has.fresh _ _ _
       have b8 : Below wr.heap.size wr W8 := hW8 ▸ ((Below.refl _ _).alloc (Nat.le_refl _) _).rowK (Nat.le_refl _) _
       have FR8 : Hid (Has W8 wr.heap.size 58 (recN q nn (.slice Ab nh cb))) := by rw [← hW8, HCS.out]; exact FZ.out.row
       have J8 := hid (J.out.on b8)
       have r0 : W8.cell? ⟨wr.heap.size, 0, none⟩ = some (kS q) := FR8.out.at_ 0
       clear hld hyy hqm hup hmay htmp hitm hsiz htk PXr b8 hXi hyl hgy BW4
       go_wp2_with (first
        | (refine wpList_load_g (by rfl) 58 (.tmp 79) rfl gy (i * 27) rfl cs HLD.out ?_)
        | (refine wpList_store_row rfl 58 (.tmp 16) (.tmp 80) rfl wr.heap.size cs rfl rfl 58 _ FZ.out (by rw [HSC.out]; exact iRec27) (by rw [HSC.out]; rfl) HAL.out ?_; rw [hW8]))
       refine (CP.out _ (GW.out _ J8.out.bl).1).mono ?_; rintro e9 w9 ⟨rfl, hb9⟩
       have J9 := hid (J8.out.on hb9)
       have FR9 : Hid (Has w9 wr.heap.size 58 (recN q nn (.slice Ab nh cb))) := FR8.out.kept hb9 FR8.out.inside
       have HLF : Hid (((X.items.take i).map (·.1)).length = i) := by show _ = _; rw [List.length_map, List.length_take, HNX.out]; omega
       clear hb9
       by_cases hu : u = []
       · have e1 : (ba u).toList = [] := by rw [toList_tl, tl_ba]; exact hu
         have e2 : (ba u).toList.isEmpty = true := by simpa using e1
         clear hu
         have r0 : w9.cell? ⟨wr.heap.size, 0, none⟩ = some (kS q) := FR9.out.at_ 0
         have r1 : w9.cell? ⟨wr.heap.size, 1, none⟩ = some (.int .i64 kd) := by rw [← HKD.out]; exact FR9.out.at_ 1
         by_cases hk : kd = 2
         · subst hk
           have hk2 := HKD.out
           obtain ⟨A5, c5, W5, hr5, J5, k5, _, _⟩ := J9.out.appD q (by rw [HND.out]; omega)
           rw [HND.out] at hr5 J5
           have FR5 : Hid (Has W5 wr.heap.size 58 (recN q nn (.slice Ab nh cb))) := k5 _ _ _ FR9.out (by decide)
           have RD := hid hr5
           have JY := hid J5
           clear hr5 J5 k5
           have L9 := hid (L5.out.on JY.out.bl)
           obtain ⟨own9, hD9⟩ := L9.out.headD
           have C9 := hid (item_any hD9 (GW.out _ JY.out.bl).1 (GW.out _ JY.out.bl).2 root q hrl hq4)
           rw [HITM.out] at C9
           have r0 : W5.cell? ⟨wr.heap.size, 0, none⟩ = some (kS q) := FR5.out.at_ 0
           clear hD9
           go_wp2_with (first
            | (at_builtin; refine wpList_append_at rfl (.tmp 102) (.tmp 105) 34 34 rfl (.slice Ad nd cd) (.slice (some ⟨w9.heap.size, 0, none⟩) 1 1) _ _ rfl rfl RD.out ?_)
            | fail)
           refine C9.out.mono ?_; rintro e11 w11 ⟨cs2, rfl, hz1, hz2, hz3, _, hb11⟩
           obtain ⟨bv2, rfl, hdg2⟩ := hz3 rfl
           obtain ⟨A7, c7, rfl⟩ := hdg2.form
           rw [HNH.out] at hz1 hz2 ⊢
           have J11 := hid (JY.out.on hb11)
           have FR11 : Hid (Has w11 wr.heap.size 58 (recN q nn (.slice Ab nh cb))) := FR5.out.kept hb11 FR5.out.inside
           obtain ⟨cs2, HCS2⟩ : ∃ cs2, Hid (recN q nn (.slice A7 nh c7) = cs2) := ⟨_, rfl⟩
           have HSC2 : Hid (cs2.size = 27) := by rw [← HCS2.out]; rfl
           have HAL2 : Hid (cs2.all (·.oneCell') = true) := by rw [← HCS2.out]; exact recNall _ _ _ rfl
           obtain ⟨W12, hW12⟩ : ∃ W12, (w11.alloc (.cells #[.string ⟨#[]⟩, .int .i64 0, .bool false, .int .i64 0, .int .i64 0, .int .i64 0, .int .u32 0, .int .u32 0, .int .u32 0, .int .u32 0, .int .u32 0, .int .u32 0, .int .u32 0, .int .u32 0, .int .u32 0, .int .u32 0, .int .u32 0, .int .u32 0, .int .u32 0, .int .u32 0, .int .u32 0, .int .u32 0, .int .i64 0, .slice none 0 0, .string ⟨#[]⟩, .int .i64 0, .int .i64 0] 58)).setRow w11.heap.size cs2 = W12 := ⟨_, rfl⟩
           have FZ2 : Hid (Has (w11.alloc (.cells #[.string ⟨#[]⟩, .int .i64 0, .bool false, .int .i64 0, .int .i64 0, .int .i64 0, .int .u32 0, .int .u32 0, .int .u32 0, .int .u32 0, .int .u32 0, .int .u32 0, .int .u32 0, .int .u32 0, .int .u32 0, .int .u32 0, .int .u32 0, .int .u32 0, .int .u32 0, .int .u32 0, .int .u32 0, .int .u32 0, .int .i64 0, .slice none 0 0, .string ⟨#[]⟩, .int .i64 0, .int .i64 0] 58)) w11.heap.size 58 #[.string ⟨#[]⟩, .int .i64 0, .bool false, .int .i64 0, .int .i64 0, .int .i64 0, .int .u32 0, .int .u32 0, .int .u32 0, .int .u32 0, .int .u32 0, .int .u32 0, .int .u32 0, .int .u32 0, .int .u32 0, .int .u32 0, .int .u32 0, .int .u32 0, .int .u32 0, .int .u32 0, .int .u32 0, .int .u32 0, .int .i64 0, .slice none 0 0, .string ⟨#[]⟩, .int .i64 0, .int .i64 0]) := Has.fresh _ _ _
           have b12 : Below w11.heap.size w11 W12 := hW12 ▸ ((Below.refl _ _).alloc (Nat.le_refl _) _).rowK (Nat.le_refl _) _
           have FY : Hid (Has W12 w11.heap.size 58 (recN q nn (.slice A7 nh c7))) := by rw [← hW12, HCS2.out]; exact FZ2.out.row
           have J12 := hid (J11.out.on b12)
           have FR12 : Hid (Has W12 wr.heap.size 58 (recN q nn (.slice Ab nh cb))) := FR11.out.kept b12 FR11.out.inside
           rw [HCS2.out]
           obtain ⟨A8, c8, W8x, hr8, f8, J8x⟩ := J12.out.appF q (by rw [List.length_map, List.length_take]; omega)
           rw [HLF.out] at hr8 J8x
           have RA := hid hr8
           obtain ⟨W13, hW13⟩ : ∃ W13, W8x.setCell ⟨w5.heap.size, 0, none⟩ (.slice A8 (i + 1) c8) = W13 := ⟨_, rfl⟩
           rw [hW13] at J8x
           have J13 := hid J8x
           have y0 : W12.cell? ⟨w11.heap.size, 0, none⟩ = some (kS q) := FY.out.at_ 0
           have y1 : W12.cell? ⟨w11.heap.size, 1, none⟩ = some (.int .i64 2) := by rw [← HKD.out]; exact FY.out.at_ 1
           have y3 : W12.cell? ⟨w11.heap.size, 3, none⟩ = some (.int .i64 sz) := by rw [← HSZ.out]; exact FY.out.at_ 3
           have y23 : W12.cell? ⟨w11.heap.size, 23, none⟩ = some (.slice A7 nh c7) := FY.out.at_ 23
           have z0 : W12.cell? ⟨wr.heap.size, 0, none⟩ = some (kS q) := FR12.out.at_ 0
           have z1 : W12.cell? ⟨wr.heap.size, 1, none⟩ = some (.int .i64 2) := by rw [← HKD.out]; exact FR12.out.at_ 1
           have z3 : W12.cell? ⟨wr.heap.size, 3, none⟩ = some (.int .i64 sz) := by rw [← HSZ.out]; exact FR12.out.at_ 3
           have z23 : W12.cell? ⟨wr.heap.size, 23, none⟩ = some (.slice Ab nh cb) := FR12.out.at_ 23
           have f12 : W12.cell? ⟨w5.heap.size, 0, none⟩ = some (.slice Af i cf) := J12.out.f.at_ 0
           have f13 : W8x.cell? ⟨w5.heap.size, 0, none⟩ = some (.slice Af i cf) := f8.at_ 0
           have f14 := f8.free 0
           clear hr8 f8 J8x hz1 hz2 hz3 hdg2 hb11 b12
           go_wp2_with (first
            | (refine wpList_store_row rfl 58 (.tmp 19) (.tmp 113) rfl w11.heap.size cs2 rfl rfl 58 _ FZ2.out (by rw [HSC2.out]; exact iRec27) (by rw [HSC2.out]; rfl) HAL2.out ?_; rw [hW12])
            | (go_at_call 33; refine (CT.out _).mono ?_; rintro e13 w13 ⟨rfl, rfl⟩)
            | (at_builtin; refine wpList_append_at rfl (.tmp 157) (.tmp 160) 34 34 rfl (.slice Af i cf) (.slice (some ⟨W12.heap.size, 0, none⟩) 1 1) _ _ rfl rfl RA.out ?_))
           try rw [hW13]
           go_roundw
           case rel => exact ⟨i + 1, nd + 1, c5, c8, A5, A8, by go_num, rfl, by omega, (by show _ = _; rw [HTK.out, dirsL_snoc]; rw [if_pos hk2, List.length_append, HND.out]; rfl), (by
            rw [HTK.out, dirsL_snoc, List.map_append]
            rw [if_pos hk2]; exact J13.out)⟩
           case measure => simp [intOf]; omega
         · have hk2 : ¬ nn.kind = 2 := by rw [HKD.out]; exact hk
           have hk3 : (kd == 2) = false := by simpa using hk
           clear hk
           have L9 := hid (L5.out.on J9.out.bl)
           obtain ⟨own9, hD9⟩ := L9.out.headD
           have C9 := hid (item_any hD9 (GW.out _ J9.out.bl).1 (GW.out _ J9.out.bl).2 root q hrl hq4)
           rw [HITM.out] at C9
           clear hD9
           go_wp2_with fail
           refine C9.out.mono ?_; rintro e11 w11 ⟨cs2, rfl, hz1, hz2, hz3, _, hb11⟩
           obtain ⟨bv2, rfl, hdg2⟩ := hz3 rfl
           obtain ⟨A7, c7, rfl⟩ := hdg2.form
           rw [HNH.out] at hz1 hz2 ⊢
           have J11 := hid (J9.out.on hb11)
           have FR11 : Hid (Has w11 wr.heap.size 58 (recN q nn (.slice Ab nh cb))) := FR9.out.kept hb11 FR9.out.inside
           obtain ⟨cs2, HCS2⟩ : ∃ cs2, Hid (recN q nn (.slice A7 nh c7) = cs2) := ⟨_, rfl⟩
           have HSC2 : Hid (cs2.size = 27) := by rw [← HCS2.out]; rfl
           have HAL2 : Hid (cs2.all (·.oneCell') = true) := by rw [← HCS2.out]; exact recNall _ _ _ rfl
           obtain ⟨W12, hW12⟩ : ∃ W12, (w11.alloc (.cells #[.string ⟨#[]⟩, .int .i64 0, .bool false, .int .i64 0, .int .i64 0, .int .i64 0, .int .u32 0, .int .u32 0, .int .u32 0, .int .u32 0, .int .u32 0, .int .u32 0, .int .u32 0, .int .u32 0, .int .u32 0, .int .u32 0, .int .u32 0, .int .u32 0, .int .u32 0, .int .u32 0, .int .u32 0, .int .u32 0, .int .i64 0, .slice none 0 0, .string ⟨#[]⟩, .int .i64 0, .int .i64 0] 58)).setRow w11.heap.size cs2 = W12 := ⟨_, rfl⟩
           have FZ2 : Hid (Has (w11.alloc (.cells #[.string ⟨#[]⟩, .int .i64 0, .bool false, .int .i64 0, .int .i64 0, .int .i64 0, .int .u32 0, .int .u32 0, .int .u32 0, .int .u32 0, .int .u32 0, .int .u32 0, .int .u32 0, .int .u32 0, .int .u32 0, .int .u32 0, .int .u32 0, .int .u32 0, .int .u32 0, .int .u32 0, .int .u32 0, .int .u32 0, .int .i64 0, .slice none 0 0, .string ⟨#[]⟩, .int .i64 0, .int .i64 0] 58)) w11.heap.size 58 #[.string ⟨#[]⟩, .int .i64 0, .bool false, .int .i64 0, .int .i64 0, .int .i64 0, .int .u32 0, .int .u32 0, .int .u32 0, .int .u32 0, .int .u32 0, .int .u32 0, .int .u32 0, .int .u32 0, .int .u32 0, .int .u32 0, .int .u32 0, .int .u32 0, .int .u32 0, .int .u32 0, .int .u32 0, .int .u32 0, .int .i64 0, .slice none 0 0, .string ⟨#[]⟩, .int .i64 0, .int .i64 0]) := Has.fresh _ _ _
           have b12 : Below w11.heap.size w11 W12 := hW12 ▸ ((Below.refl _ _).alloc (Nat.le_refl _) _).rowK (Nat.le_refl _) _
           have FY : Hid (Has W12 w11.heap.size 58 (recN q nn (.slice A7 nh c7))) := by rw [← hW12, HCS2.out]; exact FZ2.out.row
           have J12 := hid (J11.out.on b12)
           have FR12 : Hid (Has W12 wr.heap.size 58 (recN q nn (.slice Ab nh cb))) := FR11.out.kept b12 FR11.out.inside
           rw [HCS2.out]
           obtain ⟨A8, c8, W8x, hr8, f8, J8x⟩ := J12.out.appF q (by rw [List.length_map, List.length_take]; omega)
           rw [HLF.out] at hr8 J8x
           have RA := hid hr8
           obtain ⟨W13, hW13⟩ : ∃ W13, W8x.setCell ⟨w5.heap.size, 0, none⟩ (.slice A8 (i + 1) c8) = W13 := ⟨_, rfl⟩
           rw [hW13] at J8x
           have J13 := hid J8x
           have y0 : W12.cell? ⟨w11.heap.size, 0, none⟩ = some (kS q) := FY.out.at_ 0
           have y1 : W12.cell? ⟨w11.heap.size, 1, none⟩ = some (.int .i64 kd) := by rw [← HKD.out]; exact FY.out.at_ 1
           have y3 : W12.cell? ⟨w11.heap.size, 3, none⟩ = some (.int .i64 sz) := by rw [← HSZ.out]; exact FY.out.at_ 3
           have y23 : W12.cell? ⟨w11.heap.size, 23, none⟩ = some (.slice A7 nh c7) := FY.out.at_ 23
           have z0 : W12.cell? ⟨wr.heap.size, 0, none⟩ = some (kS q) := FR12.out.at_ 0
           have z1 : W12.cell? ⟨wr.heap.size, 1, none⟩ = some (.int .i64 kd) := by rw [← HKD.out]; exact FR12.out.at_ 1
           have z3 : W12.cell? ⟨wr.heap.size, 3, none⟩ = some (.int .i64 sz) := by rw [← HSZ.out]; exact FR12.out.at_ 3
           have z23 : W12.cell? ⟨wr.heap.size, 23, none⟩ = some (.slice Ab nh cb) := FR12.out.at_ 23
           have f12 : W12.cell? ⟨w5.heap.size, 0, none⟩ = some (.slice Af i cf) := J12.out.f.at_ 0
           have f13 : W8x.cell? ⟨w5.heap.size, 0, none⟩ = some (.slice Af i cf) := f8.at_ 0
           have f14 := f8.free 0
           clear hr8 f8 J8x hz1 hz2 hz3 hdg2 hb11 b12
           go_wp2_with (first
            | (refine wpList_store_row rfl 58 (.tmp 19) (.tmp 113) rfl w11.heap.size cs2 rfl rfl 58 _ FZ2.out (by rw [HSC2.out]; exact iRec27) (by rw [HSC2.out]; rfl) HAL2.out ?_; rw [hW12])
            | (go_at_call 33; refine (CT.out _).mono ?_; rintro e13 w13 ⟨rfl, rfl⟩)
            | (at_builtin; refine wpList_append_at rfl (.tmp 157) (.tmp 160) 34 34 rfl (.slice Af i cf) (.slice (some ⟨W12.heap.size, 0, none⟩) 1 1) _ _ rfl rfl RA.out ?_))
           try rw [hW13]
           go_roundw
           case rel => exact ⟨i + 1, nd, cd, c8, Ad, A8, by go_num, rfl, by omega, (by show _ = _; rw [HTK.out, dirsL_snoc]; rw [if_neg hk2, HND.out]), (by
            rw [HTK.out, dirsL_snoc, List.map_append]
            rw [if_neg hk2]; exact J13.out)⟩
           case measure => simp [intOf]; omega
       · have e1 : ¬ (ba u).toList = [] := by rw [toList_tl, tl_ba]; exact hu
         have e2 : (ba u).toList.isEmpty = false := by simpa using e1
         obtain ⟨hw, HHW⟩ : ∃ hw, Hid (howL (dirsL (X.items.take i)) u = hw) := ⟨_, rfl⟩
         have hw0 : ¬ (hw : Int) = 0 := by
          rcases HUP.out with e | e
          · exact absurd e hu
          · rw [HHW.out] at e; omega
         have hw1 : ((hw : Int) == 0) = false := by simpa using hw0
         have CH := hid (how_any J9.out.d (GW.out _ J9.out.bl).1 u hal (by rw [HND.out]; omega) HDQ.out)
         rw [HHW.out] at CH
         clear hu hw0
         go_wp2_with fail
         refine CH.out.mono ?_; rintro e10 w10 ⟨rfl, hb10⟩
         have J10 := hid (J9.out.on hb10)
         have FR10 : Hid (Has w10 wr.heap.size 58 (recN q nn (.slice Ab nh cb))) := FR9.out.kept hb10 FR9.out.inside
         clear hb10
         have r0 : w10.cell? ⟨wr.heap.size, 0, none⟩ = some (kS q) := FR10.out.at_ 0
         have r1 : w10.cell? ⟨wr.heap.size, 1, none⟩ = some (.int .i64 kd) := by rw [← HKD.out]; exact FR10.out.at_ 1
         by_cases hk : kd = 2
         · subst hk
           have hk2 := HKD.out
           obtain ⟨A5, c5, W5, hr5, J5, k5, _, _⟩ := J10.out.appD q (by rw [HND.out]; omega)
           rw [HND.out] at hr5 J5
           have FR5 : Hid (Has W5 wr.heap.size 58 (recN q nn (.slice Ab nh cb))) := k5 _ _ _ FR10.out (by decide)
           have RD := hid hr5
           have JY := hid J5
           clear hr5 J5 k5
           have L9 := hid (L5.out.on JY.out.bl)
           obtain ⟨own9, hD9⟩ := L9.out.headD
           have C9 := hid (item_any hD9 (GW.out _ JY.out.bl).1 (GW.out _ JY.out.bl).2 root q hrl hq4)
           rw [HITM.out] at C9
           have r0 : W5.cell? ⟨wr.heap.size, 0, none⟩ = some (kS q) := FR5.out.at_ 0
           clear hD9
           go_wp2_with (first
            | (at_builtin; refine wpList_append_at rfl (.tmp 102) (.tmp 105) 34 34 rfl (.slice Ad nd cd) (.slice (some ⟨w10.heap.size, 0, none⟩) 1 1) _ _ rfl rfl RD.out ?_)
            | fail)
           refine C9.out.mono ?_; rintro e11 w11 ⟨cs2, rfl, hz1, hz2, hz3, _, hb11⟩
           obtain ⟨bv2, rfl, hdg2⟩ := hz3 rfl
           obtain ⟨A7, c7, rfl⟩ := hdg2.form
           rw [HNH.out] at hz1 hz2 ⊢
           have J11 := hid (JY.out.on hb11)
           have FR11 : Hid (Has w11 wr.heap.size 58 (recN q nn (.slice Ab nh cb))) := FR5.out.kept hb11 FR5.out.inside
           obtain ⟨cs2, HCS2⟩ : ∃ cs2, Hid (recN q nn (.slice A7 nh c7) = cs2) := ⟨_, rfl⟩
           have HSC2 : Hid (cs2.size = 27) := by rw [← HCS2.out]; rfl
           have HAL2 : Hid (cs2.all (·.oneCell') = true) := by rw [← HCS2.out]; exact recNall _ _ _ rfl
           obtain ⟨W12, hW12⟩ : ∃ W12, (w11.alloc (.cells #[.string ⟨#[]⟩, .int .i64 0, .bool false, .int .i64 0, .int .i64 0, .int .i64 0, .int .u32 0, .int .u32 0, .int .u32 0, .int .u32 0, .int .u32 0, .int .u32 0, .int .u32 0, .int .u32 0, .int .u32 0, .int .u32 0, .int .u32 0, .int .u32 0, .int .u32 0, .int .u32 0, .int .u32 0, .int .u32 0, .int .i64 0, .slice none 0 0, .string ⟨#[]⟩, .int .i64 0, .int .i64 0] 58)).setRow w11.heap.size cs2 = W12 := ⟨_, rfl⟩
           have FZ2 : Hid (Has (w11.alloc (.cells #[.string ⟨#[]⟩, .int .i64 0, .bool false, .int .i64 0, .int .i64 0, .int .i64 0, .int .u32 0, .int .u32 0, .int .u32 0, .int .u32 0, .int .u32 0, .int .u32 0, .int .u32 0, .int .u32 0, .int .u32 0, .int .u32 0, .int .u32 0, .int .u32 0, .int .u32 0, .int .u32 0, .int .u32 0, .int .u32 0, .int .i64 0, .slice none 0 0, .string ⟨#[]⟩, .int .i64 0, .int .i64 0] 58)) w11.heap.size 58 #[.string ⟨#[]⟩, .int .i64 0, .bool false, .int .i64 0, .int .i64 0, .int .i64 0, .int .u32 0, .int .u32 0, .int .u32 0, .int .u32 0, .int .u32 0, .int .u32 0, .int .u32 0, .int .u32 0, .int .u32 0, .int .u32 0, .int .u32 0, .int .u32 0, .int .u32 0, .int .u32 0, .int .u32 0, .int .u32 0, .int .i64 0, .slice none 0 0, .string ⟨#[]⟩, .int .i64 0, .int .i64 0]) := Has.fresh _ _ _
           have b12 : Below w11.heap.size w11 W12 := hW12 ▸ ((Below.refl _ _).alloc (Nat.le_refl _) _).rowK (Nat.le_refl _) _
           have FY : Hid (Has W12 w11.heap.size 58 (recN q nn (.slice A7 nh c7))) := by rw [← hW12, HCS2.out]; exact FZ2.out.row
           have J12 := hid (J11.out.on b12)
           have FR12 : Hid (Has W12 wr.heap.size 58 (recN q nn (.slice Ab nh cb))) := FR11.out.kept b12 FR11.out.inside
           rw [HCS2.out]
           obtain ⟨A8, c8, W8x, hr8, f8, J8x⟩ := J12.out.appF q (by rw [List.length_map, List.length_take]; omega)
           rw [HLF.out] at hr8 J8x
           have RA := hid hr8
           obtain ⟨W13, hW13⟩ : ∃ W13, W8x.setCell ⟨w5.heap.size, 0, none⟩ (.slice A8 (i + 1) c8) = W13 := ⟨_, rfl⟩
           rw [hW13] at J8x
           have J13 := hid J8x
           have y0 : W12.cell? ⟨w11.heap.size, 0, none⟩ = some (kS q) := FY.out.at_ 0
           have y1 : W12.cell? ⟨w11.heap.size, 1, none⟩ = some (.int .i64 2) := by rw [← HKD.out]; exact FY.out.at_ 1
           have y3 : W12.cell? ⟨w11.heap.size, 3, none⟩ = some (.int .i64 sz) := by rw [← HSZ.out]; exact FY.out.at_ 3
           have y23 : W12.cell? ⟨w11.heap.size, 23, none⟩ = some (.slice A7 nh c7) := FY.out.at_ 23
           have z0 : W12.cell? ⟨wr.heap.size, 0, none⟩ = some (kS q) := FR12.out.at_ 0
           have z1 : W12.cell? ⟨wr.heap.size, 1, none⟩ = some (.int .i64 2) := by rw [← HKD.out]; exact FR12.out.at_ 1
           have z3 : W12.cell? ⟨wr.heap.size, 3, none⟩ = some (.int .i64 sz) := by rw [← HSZ.out]; exact FR12.out.at_ 3
           have z23 : W12.cell? ⟨wr.heap.size, 23, none⟩ = some (.slice Ab nh cb) := FR12.out.at_ 23
           have f12 : W12.cell? ⟨w5.heap.size, 0, none⟩ = some (.slice Af i cf) := J12.out.f.at_ 0
           have f13 : W8x.cell? ⟨w5.heap.size, 0, none⟩ = some (.slice Af i cf) := f8.at_ 0
           have f14 := f8.free 0
           clear hr8 f8 J8x hz1 hz2 hz3 hdg2 hb11 b12
           go_wp2_with (first
            | (refine wpList_store_row rfl 58 (.tmp 19) (.tmp 113) rfl w11.heap.size cs2 rfl rfl 58 _ FZ2.out (by rw [HSC2.out]; exact iRec27) (by rw [HSC2.out]; rfl) HAL2.out ?_; rw [hW12])
            | (go_at_call 33; refine (CT.out _).mono ?_; rintro e13 w13 ⟨rfl, rfl⟩)
            | (at_builtin; refine wpList_append_at rfl (.tmp 157) (.tmp 160) 34 34 rfl (.slice Af i cf) (.slice (some ⟨W12.heap.size, 0, none⟩) 1 1) _ _ rfl rfl RA.out ?_))
           try rw [hW13]
           go_roundw
           case rel => exact ⟨i + 1, nd + 1, c5, c8, A5, A8, by go_num, rfl, by omega, (by show _ = _; rw [HTK.out, dirsL_snoc]; rw [if_pos hk2, List.length_append, HND.out]; rfl), (by
            rw [HTK.out, dirsL_snoc, List.map_append]
            rw [if_pos hk2]; exact J13.out)⟩
           case measure => simp [intOf]; omega
         · have hk2 : ¬ nn.kind = 2 := by rw [HKD.out]; exact hk
           have hk3 : (kd == 2) = false := by simpa using hk
           clear hk
           have L9 := hid (L5.out.on J10.out.bl)
           obtain ⟨own9, hD9⟩ := L9.out.headD
           have C9 := hid (item_any hD9 (GW.out _ J10.out.bl).1 (GW.out _ J10.out.bl).2 root q hrl hq4)
           rw [HITM.out] at C9
           clear hD9
           go_wp2_with fail
           refine C9.out.mono ?_; rintro e11 w11 ⟨cs2, rfl, hz1, hz2, hz3, _, hb11⟩
           obtain ⟨bv2, rfl, hdg2⟩ := hz3 rfl
           obtain ⟨A7, c7, rfl⟩ := hdg2.form
           rw [HNH.out] at hz1 hz2 ⊢
           have J11 := hid (J10.out.on hb11)
           have FR11 : Hid (Has w11 wr.heap.size 58 (recN q nn (.slice Ab nh cb))) := FR10.out.kept hb11 FR10.out.inside
           obtain ⟨cs2, HCS2⟩ : ∃ cs2, Hid (recN q nn (.slice A7 nh c7) = cs2) := ⟨_, rfl⟩
           have HSC2 : Hid (cs2.size = 27) := by rw [← HCS2.out]; rfl
           have HAL2 : Hid (cs2.all (·.oneCell') = true) := by rw [← HCS2.out]; exact recNall _ _ _ rfl
           obtain ⟨W12, hW12⟩ : ∃ W12, (w11.alloc (.cells #[.string ⟨#[]⟩, .int .i64 0, .bool false, .int .i64 0, .int .i64 0, .int .i64 0, .int .u32 0, .int .u32 0, .int .u32 0, .int .u32 0, .int .u32 0, .int .u32 0, .int .u32 0, .int .u32 0, .int .u32 0, .int .u32 0, .int .u32 0, .int .u32 0, .int .u32 0, .int .u32 0, .int .u32 0, .int .u32 0, .int .i64 0, .slice none 0 0, .string ⟨#[]⟩, .int .i64 0, .int .i64 0] 58)).setRow w11.heap.size cs2 = W12 := ⟨_, rfl⟩
           have FZ2 : Hid (Has (w11.alloc (.cells #[.string ⟨#[]⟩, .int .i64 0, .bool false, .int .i64 0, .int .i64 0, .int .i64 0, .int .u32 0, .int .u32 0, .int .u32 0, .int .u32 0, .int .u32 0, .int .u32 0, .int .u32 0, .int .u32 0, .int .u32 0, .int .u32 0, .int .u32 0, .int .u32 0, .int .u32 0, .int .u32 0, .int .u32 0, .int .u32 0, .int .i64 0, .slice none 0 0, .string ⟨#[]⟩, .int .i64 0, .int .i64 0] 58)) w11.heap.size 58 #[.string ⟨#[]⟩, .int .i64 0, .bool false, .int .i64 0, .int .i64 0, .int .i64 0, .int .u32 0, .int .u32 0, .int .u32 0, .int .u32 0, .int .u32 0, .int .u32 0, .int .u32 0, .int .u32 0, .int .u32 0, .int .u32 0, .int .u32 0, .int .u32 0, .int .u32 0, .int .u32 0, .int .u32 0, .int .u32 0, .int .i64 0, .slice none 0 0, .string ⟨#[]⟩, .int .i64 0, .int .i64 0]) := Has.fresh _ _ _
           have b12 : Below w11.heap.size w11 W12 := hW12 ▸ ((Below.refl _ _).alloc (Nat.le_refl _) _).rowK (Nat.le_refl _) _
           have FY : Hid (Has W12 w11.heap.size 58 (recN q nn (.slice A7 nh c7))) := by rw [← hW12, HCS2.out]; exact FZ2.out.row
           have J12 := hid (J11.out.on b12)
           have FR12 : Hid (Has W12 wr.heap.size 58 (recN q nn (.slice Ab nh cb))) := FR11.out.kept b12 FR11.out.inside
           rw [HCS2.out]
           obtain ⟨A8, c8, W8x, hr8, f8, J8x⟩ := J12.out.appF q (by rw [List.length_map, List.length_take]; omega)
           rw [HLF.out] at hr8 J8x
           have RA := hid hr8
           obtain ⟨W13, hW13⟩ : ∃ W13, W8x.setCell ⟨w5.heap.size, 0, none⟩ (.slice A8 (i + 1) c8) = W13 := ⟨_, rfl⟩
           rw [hW13] at J8x
           have J13 := hid J8x
           have y0 : W12.cell? ⟨w11.heap.size, 0, none⟩ = some (kS q) := FY.out.at_ 0
           have y1 : W12.cell? ⟨w11.heap.size, 1, none⟩ = some (.int .i64 kd) := by rw [← HKD.out]; exact FY.out.at_ 1
           have y3 : W12.cell? ⟨w11.heap.size, 3, none⟩ = some (.int .i64 sz) := by rw [← HSZ.out]; exact FY.out.at_ 3
           have y23 : W12.cell? ⟨w11.heap.size, 23, none⟩ = some (.slice A7 nh c7) := FY.out.at_ 23
           have z0 : W12.cell? ⟨wr.heap.size, 0, none⟩ = some (kS q) := FR12.out.at_ 0
           have z1 : W12.cell? ⟨wr.heap.size, 1, none⟩ = some (.int .i64 kd) := by rw [← HKD.out]; exact FR12.out.at_ 1
           have z3 : W12.cell? ⟨wr.heap.size, 3, none⟩ = some (.int .i64 sz) := by rw [← HSZ.out]; exact FR12.out.at_ 3
           have z23 : W12.cell? ⟨wr.heap.size, 23, none⟩ = some (.slice Ab nh cb) := FR12.out.at_ 23
           have f12 : W12.cell? ⟨w5.heap.size, 0, none⟩ = some (.slice Af i cf) := J12.out.f.at_ 0
           have f13 : W8x.cell? ⟨w5.heap.size, 0, none⟩ = some (.slice Af i cf) := f8.at_ 0
           have f14 := f8.free 0
           clear hr8 f8 J8x hz1 hz2 hz3 hdg2 hb11 b12
           go_wp2_with (first
            | (refine wpList_store_row rfl 58 (.tmp 19) (.tmp 113) rfl w11.heap.size cs2 rfl rfl 58 _ FZ2.out (by rw [HSC2.out]; exact iRec27) (by rw [HSC2.out]; rfl) HAL2.out ?_; rw [hW12])
            | (go_at_call 33; refine (CT.out _).mono ?_; rintro e13 w13 ⟨rfl, rfl⟩)
            | (at_builtin; refine wpList_append_at rfl (.tmp 157) (.tmp 160) 34 34 rfl (.slice Af i cf) (.slice (some ⟨W12.heap.size, 0, none⟩) 1 1) _ _ rfl rfl RA.out ?_))
           try rw [hW13]
           go_roundw
           case rel => exact ⟨i + 1, nd, cd, c8, Ad, A8, by go_num, rfl, by omega, (by show _ = _; rw [HTK.out, dirsL_snoc]; rw [if_neg hk2, HND.out]), (by
            rw [HTK.out, dirsL_snoc, List.map_append]
            rw [if_neg hk2]; exact J13.out)⟩
           case measure => simp [intOf]; omega
     · obtain rfl : i = nx := by omega
       have hFL : X.items.take i = X.items := List.take_of_length_le (by rw [HNX.out]; omega)
       rw [hFL] at J
       obtain ⟨FL, HFL⟩ : ∃ FL, Hid (X.items.map (·.1) = FL) := ⟨_, rfl⟩
       obtain ⟨DL, HDL⟩ : ∃ DL, Hid (dirsL X.items = DL) := ⟨_, rfl⟩
       rw [HFL.out, HDL.out] at J
       have HNF : Hid (FL.length = i) := by show _ = _; rw [← HFL.out, List.length_map, HNX.out]
       clear hFL HND
       have CE := hid (fun W => weach_any p root W)
       go_wp2_with fail
       refine (CE.out _).mono ?_; rintro e8 w8 ⟨rfl, hw8⟩
       go_wp2
       rw [← hw8]
       have b8 : Below wr.heap.size wr w8 := by rw [hw8]; exact (((Below.refl _ _).alloc (Nat.le_refl _) _).alloc (by simp) _).alloc (by simp; omega) _
       have s8 : w8.heap.size = wr.heap.size + 3 := by rw [hw8]; simp
       have N8 : Has w8 wr.heap.size 3 #[.int .i64 0] := by rw [hw8]; exact ((Has.fresh wr _ _).more _).more _
       have D8 : Has w8 (wr.heap.size + 1) 26 #[.pointer (some ⟨p, 0, none⟩)] := by rw [hw8]; exact (Has.fresh' _ _ _ (by simp)).more _
       have E8 : Has w8 (wr.heap.size + 1 + 1) 9 #[kS root] := by rw [hw8]; exact Has.fresh' _ _ _ (by simp)
       clear hw8
       have B8 : Hid (Below w5.heap.size w5 w8) := J.out.bl.trans (b8.mono J.out.bl.size)
       have HB8 := hid b8
       have HS8 := hid s8
       have L8 := hid (L5.out.on B8.out)
       obtain ⟨own8, hD8⟩ := L8.out.headD
       obtain ⟨l, HLL⟩ : ∃ l, Hid (inL M.now root = l) := ⟨_, rfl⟩
       have ST := each_stops 8 (by omega) hD8 (GW.out _ B8.out).1 root hrl _ _ D8 E8 l HLL.out
       have hone0 := HO.out.one
       have hle0 := HO.out.le
       have hln0 := HO.out.lens
       have hps0 := HO.out.ps
       have hil0 := HO.out.inlen
       have him0 := HO.out.inm
       rw [HLL.out] at hone0 hle0 hil0 him0
       rw [HNX.out] at hle0
       rw [HFL.out] at hone0
       have HONE := hid hone0
       have HPS := hid hps0
       have HLN := hid hln0
       have HIM := hid him0
       have HIL' := hid hil0
       have HLE' := hid hle0
       have B0X : Hid (Below w.heap.size w wr) := L5.out.bl.trans (J.out.bl.mono L5.out.bl.size)
       have RR : Hid (Has wr w.heap.size 4 #[.bool false]) := R5.out.kept J.out.bl R5.out.inside
       have hmx : Tryz.prog.follows .mixedOrders = true := by kernel_rfl
       have FR : Hid (Has wr w4.heap.size 39 #[.slice A0 i c0, .slice A1 n1 c1, .slice A2x n2x c2, .slice A3 n3 c3]) := F5.out.kept J.out.bl F5.out.inside
       have BW4 : Hid (Below w4.heap.size w4 wr) := HB5.out.trans (J.out.bl.mono HB5.out.size)
       clear hone0 hle0 hln0 hps0 hil0 him0 hD8 b8 s8 D8 E8 f0 i0 hrl
       refine (wpIn_wide (n := 9)).1 ?_
       refine wpIn_rangeFunc_ownH (F := Fence.wide) (n := 9) rfl (by omega) (gf := 66) (lb := #[.pointer (some ⟨wr.heap.size + 1, 0, none⟩), .pointer (some ⟨wr.heap.size + 1 + 1, 0, none⟩)]) rfl trivial (enters_of Tryz.func66 (by kernel_rfl) rfl)
        ST KpE.trans (fun W il o o' h1 h2 h3 h4 => KpE.putObj _ W il o o' h1 h2 h3 h4) (Below.refl _ _) (fun _ => rfl)
        (fun pre W => Has W wr.heap.size 3 #[.int .i64 (pre.length : Int)] ∧ Below wr.heap.size wr W)
        (fun _ _ _ => False) ?hI (fun _ _ _ _ _ hs _ _ => hs) ⟨N8, HB8.out⟩
        (fun x a' W => a' = { tmps := #[.slice A n cap, kS root, .slice A2 n2 cap2, undef, undef, undef, .pointer (some ⟨w.heap.size, 0, none⟩), .pointer (some ⟨p, 0, none⟩), .pointer (some ⟨q0, 0, none⟩), .pointer o, .int .i64 c', .pointer (some ⟨w4.heap.size, 0, none⟩), .int .i64 0, .slice Ad nd cd, .pointer (some ⟨w5.heap.size, 0, none⟩), .int .i64 (i : Int), u16, u17, u18, u19, u20, .pointer (some ⟨wr.heap.size, 0, none⟩), kS x.1.1, undef, undef, .slice A n cap, .slice A2 n2 cap2, .bool false, undef, .tuple #[.pointer (some ⟨p, 0, none⟩), .pointer (some ⟨q0, 0, none⟩)], .slice A n cap, .tuple #[.pointer (some ⟨p, 0, none⟩), .pointer (some ⟨q0, 0, none⟩)], .pointer (some ⟨p, 0, none⟩), .pointer (some ⟨q0, 0, none⟩), .pointer (some ⟨p, 0, none⟩), .bool false, .tuple #[.pointer o, .int .i64 c'], .slice A2 n2 cap2, .tuple #[.pointer o, .int .i64 c'], .pointer o, .int .i64 c', .tuple #[.agg #[.slice A0 i c0, .slice A1 n1 c1, .slice A2x n2x c2, .slice A3 n3 c3], .int .i64 0], .pointer (some ⟨p, 0, none⟩), kS root, .pointer o, .tuple #[.agg #[.slice A0 i c0, .slice A1 n1 c1, .slice A2x n2x c2, .slice A3 n3 c3], .int .i64 0], .agg #[.slice A0 i c0, .slice A1 n1 c1, .slice A2x n2x c2, .slice A3 n3 c3], .int .i64 0, .int .i64 0, .bool false, undef, undef, undef, undef, undef, undef, undef, undef, undef, undef, undef, undef, undef, undef, undef, undef, undef, undef, undef, .int .i64 (i : Int), .pointer (some ⟨w4.heap.size, 0, none⟩), .slice A0 i c0, .int .i64 (i : Int), .bool false, u74, u75, u76, u77, u78, u79, u80, u81, u82, u83, u84, u85, u86, u87, u88, u89, u90, u91, u92, u93, u94, u95, u96, u97, u98, u99, u100, u101, u102, u103, u104, u105, u106, u107, u108, u109, u110, u111, u112, u113, u114, u115, u116, u117, u118, u119, u120, u121, u122, u123, u124, u125, u126, u127, u128, u129, u130, u131, u132, u133, u134, u135, u136, u137, u138, u139, u140, u141, u142, u143, u144, u145, u146, u147, u148, u149, u150, u151, u152, u153, u154, u155, u156, u157, u158, u159, u160, u161, .pointer (some ⟨p, 0, none⟩), kS root, .func (.func 66) #[] #[.pointer (some ⟨wr.heap.size + 1, 0, none⟩), .pointer (some ⟨wr.heap.size + 1 + 1, 0, none⟩)], kS x.1.1, (nodeV x.1.2), undef, undef, undef, undef, undef, undef, undef, undef, undef, undef, undef, undef, undef, undef, undef, undef, undef, undef, undef, undef, undef, undef, undef, undef, undef, undef, undef, undef, undef, undef, undef, undef, undef, undef, undef, undef, undef, undef, undef, undef], defers := [] }) ?hAx ?assign ?body ?done ?stop
       case hI =>
        rintro pre W W' row ⟨hN, hB⟩ hg hr
        refine ⟨hN.kq (Kq.of_own hg (fun r e => (hr r e).2)), hB.grown hg hB.size (fun r e => ?_)⟩
        have := (hr r e).1
        have := HS8.out
        omega
       case hAx =>
        rintro x a' u W W' row ha hg hr
        exact ha
       case assign =>
        rintro il pre ⟨⟨q, nn⟩, hx⟩ W K ⟨hN, hB⟩ hK
        dsimp only [encX, nodeV]
        gi_wp2
        exact hK _ _ (KeepsFrom.of_grownBy (grown_none (Below.refl _ _)) (fun _ e => by cases e)) (KpE.of_below (Below.refl _ _)) ⟨hN, hB⟩ rfl
       case done =>
        rintro D ys W hD hys ⟨hN, hB⟩ hK
        have hyl : ys.length = l.length := by rw [← plainX_len, hys]
        rw [hyl] at hN
        have n0 := hN.at_ 0
        have f0 : W.cell? ⟨w5.heap.size, 0, none⟩ = some (.slice Af i cf) := (J.out.f.kept hB J.out.f.inside).at_ 0
        have hge : (i : Int) ≤ (l.length : Int) := by have := HLE'.out; omega
        have HBW : Hid (Below w.heap.size w W) := B0X.out.trans (hB.mono B0X.out.size)
        have HRW : Hid (Has W w.heap.size 4 #[.bool false]) := RR.out.kept hB RR.out.inside
        obtain ⟨ny, HNY⟩ : ∃ ny, Hid (l.length = ny) := ⟨_, rfl⟩
        rw [HNY.out] at n0 hge
        have HK := hid hK
        clear hN hB hyl hys hK
        go_wp2_with fail
        refine (CA.out _ HBW.out).mono ?_; rintro e9 W9 ⟨rfl, hb9⟩
        have R9 := HRW.out.kept hb9 HRW.out.inside
        have B9 : Hid (Below w.heap.size w W9) := HBW.out.trans (hb9.mono HBW.out.size)
        have c0 := R9.at_ 0
        have c1 := R9.free 0
        obtain ⟨W10, hW10⟩ : ∃ W10, W9.setCell ⟨w.heap.size, 0, none⟩ (.bool true) = W10 := ⟨_, rfl⟩
        have K10 : Hid (W10.heap[D]? = some (.deferred (some []))) := by
         rw [← hW10]
         have k9 := (hb9.block D (Array.getElem?_eq_some_iff.1 HK.out).1).trans HK.out
         refine (Below.heap_setCell W9 ⟨w.heap.size, 0, none⟩ _ D ?_).trans k9
         rintro rfl
         have := R9; unfold Has at this; rw [k9] at this; cases this
        have Y10 : Hid (Has W10 w.heap.size 4 #[.bool true]) := by rw [← hW10]; exact R9.put 0 _
        have BF : Hid (Below w.heap.size w W10) := by rw [← hW10]; exact B9.out.setCell (p := ⟨w.heap.size, 0, none⟩) (Nat.le_refl _) _
        clear hb9 R9
        go_wp2
        try rw [hW10]
        refine ⟨by simp, .inl ⟨_, _, rfl, run_takeDeferred K10.out, ?_⟩⟩
        have kq : Kq W10 (W10.putObj D (.deferred none)) := Kq.of_own (grownBy_putObj' W10 D _) (fun r e => by cases e; exact ⟨_, K10.out, rfl⟩)
        refine ⟨_, results_b rfl _ _ w.heap.size true rfl ((Y10.out.kq kq).at_ 0), rfl, ?_⟩
        exact BF.out.grown (grownBy_putObj' W10 D _) BF.out.size (fun r e => by cases e; have := B0X.out.size; have := HS8.out; omega)
       case stop => exact fun _ _ _ _ _ _ h _ => h.elim
       case body =>
        rintro il pre ⟨⟨q, nn⟩, hx⟩ a' W hil hrec ⟨hN, hB⟩ rfl hlt
        dsimp only
        have hone := HONE.out _ hx
        have hq := HIM.out _ hx
        dsimp only at hone hq
        have hpl : (pre.length : Int) + 1 ≤ 100000 := by have := HIL'.out; omega
        have f0 : W.cell? ⟨w5.heap.size, 0, none⟩ = some (.slice Af i cf) := (J.out.f.kept hB J.out.f.inside).at_ 0
        have SFW : Hid (StrR (w5.heap.size + 1) W (.slice Af i cf) FL) := J.out.g.kq (Kq.of_below hB)
        have FW : Hid (Has W w4.heap.size 39 #[.slice A0 i c0, .slice A1 n1 c1, .slice A2x n2x c2, .slice A3 n3 c3]) := FR.out.kept hB FR.out.inside
        have HBW : Hid (Below wr.heap.size wr W) := hB
        have HNW := hid hN
        obtain ⟨a1, HA1⟩ : ∃ a, Hid (howL (lsOf X 1) q = a) := ⟨_, rfl⟩
        obtain ⟨a2, HA2⟩ : ∃ a, Hid (howL (lsOf X 2) q = a) := ⟨_, rfl⟩
        obtain ⟨a3, HA3⟩ : ∃ a, Hid (howL (lsOf X 3) q = a) := ⟨_, rfl⟩
        have hone2 : isL FL q + a1 + a2 + a3 = 1 := by
         rw [← HA1.out, ← HA2.out, ← HA3.out]; exact hone
        have HONE2 := hid hone2
        have BWW : Hid (Below w5.heap.size w5 W) := J.out.bl.trans (hB.mono J.out.bl.size)
        have CHk : Hid (∀ (k : Nat) (A : Option Addr) (m c : Nat), StrR w3.heap.size w4 (.slice A m c) (lsOf X k) → ∀ V, Below W.heap.size W V → Calls Tryz.prog 32 #[.slice A m c, kS q] V fun e w' => e = .returned (.int .i64 (howL (lsOf X k) q)) ∧ Below V.heap.size V w') := fun k A m c h V hV =>
         how_any ((h.kq (Kq.of_below (BW4.out.trans (HBW.out.mono BW4.out.size)))).kq (Kq.of_below hV)) (GW.out _ (BWW.out.trans (hV.mono BWW.out.size))).1 q (by omega) (HLN.out k) (HPS.out k)
        have CH1 := hid (CHk.out 1 _ _ _ S1.out)
        have CH2 := hid (CHk.out 2 _ _ _ S2.out)
        have CH3 := hid (CHk.out 3 _ _ _ S3.out)
        rw [HA1.out] at CH1
        rw [HA2.out] at CH2
        rw [HA3.out] at CH3
        clear hone hone2 hB hN hrec
        gi_wp2
        gi_loopw [23, 24] (fun v23 v24 wv => ∃ (k m : Nat), v24 = .int .i64 (k : Int) ∧ v23 = .int .i64 (m : Int) ∧ k ≤ i ∧ m ≤ k ∧ Hid (isL (FL.take k) q = m) ∧ W = wv) (fun _ v24 _ => i - (intOf v24).toNat)
        case atStart => exact ⟨0, 0, rfl, rfl, by omega, by omega, rfl, rfl⟩
        case round =>
         obtain ⟨k, m, rfl, rfl, hk, hmk, HM, rfl⟩ := hrel
         by_cases hlk : k < i
         · have hkl : k < FL.length := by rw [HNF.out]; exact hlk
           obtain ⟨g, c9, e, _, hat⟩ := strR_at SFW.out (by omega)
           injection e with e e2 e3
           clear e2 e3
           subst e
           have z0 : W.cell? ⟨g, k, none⟩ = some (kS FL[k]) := hat k hkl
           have HX2 : Hid (isL (FL.take (k + 1)) q = m + (if FL[k] = q then 1 else 0)) := by show _ = _; rw [List.take_succ_eq_append_getElem hkl, isL_snoc, HM.out]
           generalize FL[k] = z at z0 HX2
           have g1 : (k : Int) < (i : Int) := by omega
           have g0 : (0 : Int) ≤ (k : Int) := by omega
           have w1 : IntKind.i64.wrap ((k : Int) + 1) = (k : Int) + 1 := i64in _ (by omega) (by omega)
           have w2 : IntKind.i64.wrap ((m : Int) + 1) = (m : Int) + 1 := i64in _ (by omega) (by omega)
           clear hat hkl
           by_cases hz : z = q
           · have HX3 : Hid (isL (FL.take (k + 1)) q = m + 1) := by show _ = _; rw [HX2.out, if_pos hz]
             subst hz
             gi_wp2
             go_roundw
             case rel => exact ⟨k + 1, m + 1, by go_num, by go_num, by omega, by omega, HX3.out, trivial⟩
             case measure => simp [intOf]; omega
           · have HX3 : Hid (isL (FL.take (k + 1)) q = m) := by show _ = _; rw [HX2.out, if_neg hz]; rfl
             have q1 : ¬ (ba z).toList = (ba q).toList := fun e => hz (by rw [toList_tl, toList_tl, tl_ba, tl_ba] at e; exact e)
             have q2 : ((ba z).toList == (ba q).toList) = false := by simpa using q1
             clear hz
             gi_wp2
             go_roundw
             case rel => exact ⟨k + 1, m, by go_num, rfl, by omega, by omega, HX3.out, trivial⟩
             case measure => simp [intOf]; omega
         · obtain rfl : k = i := by omega
           have hm1 : isL FL q = m := by rw [← HM.out, List.take_of_length_le (by rw [HNF.out]; omega)]
           have hsum := HONE2.out
           rw [hm1] at hsum
           have wa : IntKind.i64.wrap ((m : Int) + (a1 : Int)) = (m : Int) + (a1 : Int) := i64in _ (by omega) (by omega)
           have wb : IntKind.i64.wrap ((m : Int) + (a1 : Int) + (a2 : Int)) = (m : Int) + (a1 : Int) + (a2 : Int) := i64in _ (by omega) (by omega)
           have wc : IntKind.i64.wrap ((m : Int) + (a1 : Int) + (a2 : Int) + (a3 : Int)) = 1 := (i64in _ (by omega) (by omega)).trans (by omega)
           have wd : IntKind.i64.wrap ((pre.length : Int) + 1) = (pre.length : Int) + 1 := i64in _ (by omega) (by omega)
           obtain ⟨Wf, hWf⟩ : ∃ Wf, W.drew = Wf := ⟨_, rfl⟩
           have bf : Below W.heap.size W Wf := hWf ▸ (Below.refl _ _).drew
           have BF : Hid (Below W.heap.size W Wf) := bf
           have SW : Hid (∀ V, Below W.heap.size W V → V.cell? ⟨w4.heap.size, 1, none⟩ = some (.slice A1 n1 c1) ∧ V.cell? ⟨w4.heap.size, 2, none⟩ = some (.slice A2x n2x c2) ∧ V.cell? ⟨w4.heap.size, 3, none⟩ = some (.slice A3 n3 c3)) := fun V hV => ⟨(FW.out.kept hV FW.out.inside).at_ 1, (FW.out.kept hV FW.out.inside).at_ 2, (FW.out.kept hV FW.out.inside).at_ 3⟩
           clear hsum hm1 bf
           gi_wp2
           refine region_round (S := fun V => V.cell? ⟨w4.heap.size, 1, none⟩ = some (.slice A1 n1 c1) ∧ V.cell? ⟨w4.heap.size, 2, none⟩ = some (.slice A2x n2x c2) ∧ V.cell? ⟨w4.heap.size, 3, none⟩ = some (.slice A3 n3 c3)) hmx (by kernel_rfl) (by rw [hWf]; exact SW.out _ BF.out) (fun hS => ?_)
           clear hS
           rw [hWf]
           have hzz := SW.out _ BF.out
           refine tkH 0 (v := ?_) (by simp only [lkA, lkB]; rfl) (by kernel_rfl) (fun _ _ _ h => h) (by rfl) (by assumption) ?_ ?_
           rotate_left 1
           · intro w hSw
             obtain ⟨s1, s2, s3⟩ := hSw
             go_simp
             with_reducible rfl
           simp only [Act.put, siA, siB, siC]
           refine tkH 1 (v := ?_) (by simp only [lkA, lkB, lkC]; rfl) (by kernel_rfl) (fun _ _ _ h => h) (by rfl) (by assumption) ?_ ?_
           rotate_left 1
           · intro w hSw
             obtain ⟨s1, s2, s3⟩ := hSw
             go_simp
             with_reducible rfl
           simp only [Act.put, siA, siB, siC]
           refine tkH 2 (v := ?_) (by simp only [lkA, lkB, lkC]; rfl) (by kernel_rfl) (fun _ _ _ h => h) (by rfl) (by assumption) ?_ ?_
           rotate_left 1
           · intro w hSw
             obtain ⟨s1, s2, s3⟩ := hSw
             go_simp
             with_reducible rfl
           simp only [Act.put, siA, siB, siC]
           refine tkH 3 (v := ?_) (by simp only [lkA, lkB, lkC]; rfl) (by kernel_rfl) (fun _ _ _ h => h) (by rfl) (by assumption) ?_ ?_
           rotate_left 1
           · intro w hSw
             obtain ⟨s1, s2, s3⟩ := hSw
             go_simp
             with_reducible rfl
           simp only [Act.put, siA, siB, siC]
           refine tkH 6 (v := ?_) (by simp only [lkA, lkB, lkC]; rfl) (by kernel_rfl) (fun _ _ _ h => h) (by rfl) (by assumption) ?_ ?_
           rotate_left 1
           · intro w hSw
             obtain ⟨s1, s2, s3⟩ := hSw
             go_simp
             with_reducible rfl
           simp only [Act.put, siA, siB, siC]
           refine tkH 7 (v := ?_) (by simp only [lkA, lkB, lkC]; rfl) (by kernel_rfl) (fun _ _ _ h => h) (by rfl) (by assumption) ?_ ?_
           rotate_left 1
           · intro w hSw
             obtain ⟨s1, s2, s3⟩ := hSw
             go_simp
             with_reducible rfl
           simp only [Act.put, siA, siB, siC]
           refine tkH 8 (v := ?_) (by simp only [lkA, lkB, lkC]; rfl) (by kernel_rfl) (fun _ _ _ h => h) (by rfl) (by assumption) ?_ ?_
           rotate_left 1
           · intro w hSw
             obtain ⟨s1, s2, s3⟩ := hSw
             go_simp
             with_reducible rfl
           simp only [Act.put, siA, siB, siC]
           refine tkH 11 (v := ?_) (by simp only [lkA, lkB, lkC]; rfl) (by kernel_rfl) (fun _ _ _ h => h) (by rfl) (by assumption) ?_ ?_
           rotate_left 1
           · intro w hSw
             obtain ⟨s1, s2, s3⟩ := hSw
             go_simp
             with_reducible rfl
           simp only [Act.put, siA, siB, siC]
           refine tkH 12 (v := ?_) (by simp only [lkA, lkB, lkC]; rfl) (by kernel_rfl) (fun _ _ _ h => h) (by rfl) (by assumption) ?_ ?_
           rotate_left 1
           · intro w hSw
             obtain ⟨s1, s2, s3⟩ := hSw
             go_simp
             with_reducible rfl
           simp only [Act.put, siA, siB, siC]
           refine tkH 13 (v := ?_) (by simp only [lkA, lkB, lkC]; rfl) (by kernel_rfl) (fun _ _ _ h => h) (by rfl) (by assumption) ?_ ?_
           rotate_left 1
           · intro w hSw
             obtain ⟨s1, s2, s3⟩ := hSw
             go_simp
             with_reducible rfl
           simp only [Act.put, siA, siB, siC]
           refine wpAnyH_ready (rs := [4]) (by kernel_rfl) (by simp) ?_
           refine AllReadyH.cons (by simp only [lkA, lkB, lkC]; rfl) (fun K hK => ?_) (AllReadyH.nil)
           go_simp
           clear hzz
           refine (CH1.out _ BF.out).mono ?_
           rintro e9 Wg ⟨rfl, hb9⟩
           have BG : Hid (Below W.heap.size W Wg) := BF.out.trans (hb9.mono BF.out.size)
           have hzz := SW.out _ BG.out
           clear hb9
           refine hK.out _ _ hzz (fun hS => ?_)
           clear hK K hS
           refine tkH 5 (v := ?_) (by simp only [lkA, lkB, lkC]; rfl) (by kernel_rfl) (fun _ _ _ h => h) (by rfl) (by assumption) ?_ ?_
           rotate_left 1
           · intro w hSw
             obtain ⟨s1, s2, s3⟩ := hSw
             go_simp
             with_reducible rfl
           simp only [Act.put, siA, siB, siC]
           refine wpAnyH_ready (rs := [9]) (by kernel_rfl) (by simp) ?_
           refine AllReadyH.cons (by simp only [lkA, lkB, lkC]; rfl) (fun K hK => ?_) (AllReadyH.nil)
           go_simp
           clear hzz
           refine (CH2.out _ BG.out).mono ?_
           rintro e9 Wh ⟨rfl, hb9⟩
           have BH : Hid (Below W.heap.size W Wh) := BG.out.trans (hb9.mono BG.out.size)
           have hzz := SW.out _ BH.out
           clear hb9
           refine hK.out _ _ hzz (fun hS => ?_)
           clear hK K hS
           refine tkH 10 (v := ?_) (by simp only [lkA, lkB, lkC]; rfl) (by kernel_rfl) (fun _ _ _ h => h) (by rfl) (by assumption) ?_ ?_
           rotate_left 1
           · intro w hSw
             obtain ⟨s1, s2, s3⟩ := hSw
             go_simp
             with_reducible rfl
           simp only [Act.put, siA, siB, siC]
           refine wpAnyH_ready (rs := [14]) (by kernel_rfl) (by simp) ?_
           refine AllReadyH.cons (by simp only [lkA, lkB, lkC]; rfl) (fun K hK => ?_) (AllReadyH.nil)
           go_simp
           clear hzz
           refine (CH3.out _ BH.out).mono ?_
           rintro e9 Wk ⟨rfl, hb9⟩
           have BK : Hid (Below W.heap.size W Wk) := BH.out.trans (hb9.mono BH.out.size)
           have hzz := SW.out _ BK.out
           clear hb9
           refine hK.out _ _ hzz (fun hS => ?_)
           clear hK K hS
           refine tkH 15 (v := ?_) (by simp only [lkA, lkB, lkC]; rfl) (by kernel_rfl) (fun _ _ _ h => h) (by rfl) (by assumption) ?_ ?_
           rotate_left 1
           · intro w hSw
             obtain ⟨s1, s2, s3⟩ := hSw
             go_simp
             with_reducible rfl
           simp only [Act.put, siA, siB, siC]
           refine tkH 16 (v := ?_) (by simp only [lkA, lkB, lkC]; rfl) (by kernel_rfl) (fun _ _ _ h => h) (by rfl) (by assumption) ?_ ?_
           rotate_left 1
           · intro w hSw
             obtain ⟨s1, s2, s3⟩ := hSw
             go_simp
             with_reducible rfl
           simp only [Act.put, siA, siB, siC]
           refine wpAnyH_done (by kernel_rfl) ?_ _
           refine OnlyN.normal ?_
           have Nk : Has Wk wr.heap.size 3 #[.int .i64 (pre.length : Int)] := HNW.out.kept BK.out HNW.out.inside
           have k0 := Nk.at_ 0
           have k1 := Nk.free 0
           have HNk := hid Nk
           clear Nk
           gi_wp2
           refine ⟨(KeepsFrom.of_grownBy (grown_none BK.out) (fun _ e => by cases e)).trans ((KeepsOthers.setCell _ _ _).from _), (KpE.of_below BK.out).trans (KpE.of_but HNk.out (by decide) (fun j hj _ => Below.heap_setCell _ _ _ j hj)), ?_, ?_⟩
           · have := HNk.out.put 0 (.int .i64 ((pre.length : Int) + 1))
             have el : (((pre ++ [⟨(q, nn), hx⟩] : List (InX l)).length : Nat) : Int) = (pre.length : Int) + 1 := by simp
             rw [el]
             exact this
           · exact (HBW.out.trans (BK.out.mono HBW.out.size)).setCell (p := ⟨wr.heap.size, 0, none⟩) (Nat.le_refl _) _
  · have q : (c != 0) = true := by simpa using hc
    have hno := HNO.out hc
    have z0 : nx = 0 := by rw [← HNX.out, hno]; rfl
    have z1 : n1 = 0 := by rw [← HN1.out, hno]; rfl
    have z2 : n2x = 0 := by rw [← HN2.out, hno]; rfl
    have z3 : n3 = 0 := by rw [← HN3.out, hno]; rfl
    clear HNX HN1 HN2 HN3 hno HX
    subst z0
    subst z1
    subst z2
    subst z3
    clear hc
    go_wp2_with fail
    refine (CA.out _ L5.out.bl).mono ?_; rintro e6 w6 ⟨rfl, hb6⟩
    have R6 := R5.out.kept hb6 R5.out.inside
    have c0 := R6.at_ 0
    have c1 := R6.free 0
    go_wp2
    exact ⟨_, results_b rfl _ _ w.heap.size true rfl (HE.out w6 (L5.out.bl.trans (hb6.mono L5.out.bl.size)) R6).2, rfl, (HE.out w6 (L5.out.bl.trans (hb6.mono L5.out.bl.size)) R6).1⟩
end Go.Proofs.YtahkcemdbfjilaaGreatDoor
