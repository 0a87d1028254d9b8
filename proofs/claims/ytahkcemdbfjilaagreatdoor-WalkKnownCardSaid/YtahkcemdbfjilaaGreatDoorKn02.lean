/- Several texts in one. Conditions: those said at each. -/
import Derived.Test.YtahkcemdbfjilaaGreatDoorWb00
import Derived.Test.YtahkcemdbfjilaaGreatDoorKn01
import Derived.Lib.SlBytesConst
set_option linter.unusedSimpArgs false
set_option linter.unusedVariables false
set_option maxRecDepth 100000
namespace Go.Proofs.YtahkcemdbfjilaaGreatDoor
open Go.RowKit Go.Maps
attribute [local go_sem] Oper.semAt_some
theorem RecP.kq3 {B : Nat} {w w' : World} {v : Value} {ps : List (At × Value)} (h : RecP B w v ps) (k : Kq w w') : RecP B w' v ps := ⟨own_kq h.own k, fun y hy => (h.dg y hy).kq k⟩
theorem results_bk {fn : Func} {c : Nat} (h : fn.results = #[.cell c 4]) (tmps : Array Value) (w : World) (g : Nat) (b : Bool) (hc : tmps.getD c undef = .pointer (some ⟨g, 0, none⟩)) (hg : w.cell? ⟨g, 0, none⟩ = some (.bool b)) :
 (results fn tmps).run Tryz.prog w = .ok (.bool b) w := by
 have hp' : tmps[c]?.getD undef = .pointer (some ⟨g, 0, none⟩) := by simpa using hc
 have hl : (loadVar 4 ⟨g, 0, none⟩).run Tryz.prog w = .ok (.bool b) w := by go_simp
 simp [results, h, hp', asAddr, hl]
theorem lit_abc (w : World) (xs : List UInt8) (C : Array Value) (n : Nat) (hC : C = Sha.bvec xs) (hn : xs.length = n) : Bytes (w.alloc (.cells C 5 (C.size, C.size + 1))) (.slice (some ⟨w.heap.size, 0, none⟩) n n) xs (some ⟨w.heap.size, 0, none⟩) n w.heap.size 0 ∧
 Below w.heap.size w (w.alloc (.cells C 5 (C.size, C.size + 1))) ∧
 (convert 79 79 (.slice (some ⟨w.heap.size, 0, none⟩) n n)).run Tryz.prog (w.alloc (.cells C 5)) = .ok (.slice (some ⟨w.heap.size, 0, none⟩) n n) (w.alloc (.cells C 5 (C.size, C.size + 1))) := by
 subst hn hC
 refine ⟨⟨rfl, Nat.le_refl _, (fun h => by cases h), fun a ha j hj => ?_, by simp, fun _ => rfl⟩, (Below.refl _ _).alloc (Nat.le_refl _) _, Lib.run_convert_bytes_const w 79 5 _ _ _ Tryz.underlying79 Tryz.underlying5⟩
 cases ha
 rw [add_at, Nat.zero_add, World.cell?_alloc_mark]
 exact Sha.bvec_get xs j hj
theorem hashes_abc : (hashes [97, 98, 99]).length = 1 := by rfl
set_option maxHeartbeats 32000000 in
theorem known_law (w : World) (hG : Gd w) (hT : Sha.Tab w) :
 Calls Tryz.prog 5 #[] w fun e w' => e = .returned (.bool true) ∧ Below w.heap.size w w' := by
 obtain ⟨w0, hw0⟩ : ∃ w0, w.alloc (.cells #[.bool false] 4) = w0 := ⟨_, rfl⟩
 have b0 : Below w.heap.size w w0 := hw0 ▸ (Below.refl _ _).alloc (Nat.le_refl _) _
 have R0 : Hid (Has w0 w.heap.size 4 #[.bool false]) := by rw [← hw0]; exact Has.fresh _ _ _
 have B0 := hid b0
 have HG := hid hG
 have HT := hid hT
 have GW : Hid (∀ W, Below w.heap.size w W → Gd W ∧ Sha.Tab W) := fun W hb => ⟨HG.out.kept hb, HT.out.kept hb HG.out.pos⟩
 have CA : Hid (∀ W, Below w.heap.size w W → Calls Tryz.prog 9 #[] W fun e w' => e = .returned (.bool true) ∧ Below W.heap.size W w') := fun W hb => awake_any W (HG.out.kept hb) (HT.out.kept hb HG.out.pos)
 have HE : Hid (∀ W : World, Below w.heap.size w W → Has W w.heap.size 4 #[.bool false] → Below w.heap.size w (W.setCell ⟨w.heap.size, 0, none⟩ (.bool true)) ∧ (W.setCell ⟨w.heap.size, 0, none⟩ (.bool true)).cell? ⟨w.heap.size, 0, none⟩ = some (.bool true)) := fun W hb hr =>
  ⟨hb.setCell (p := ⟨w.heap.size, 0, none⟩) (Nat.le_refl _) _, (hr.put 0 (.bool true)).at_ 0⟩
 have C1 := hid (given_any w0 (GW.out _ B0.out).1)
 obtain ⟨M, HM⟩ : ∃ M, Hid (madeM gXs = M) := ⟨_, rfl⟩
 have HO := hid g_ok
 have HO2 := hid g_more
 rw [HM.out] at HO HO2 C1
 clear hG hT b0
 refine (callsIn_wide (n := 9)).1 ?_
 refine callsIn_of_wp_marks Tryz.func5 rfl trivial ?_ rfl
 simp only [Tryz.ntmps5, List.size_toArray, List.length_cons, List.length_nil, Nat.reduceAdd, Nat.reduceSub, Array.replicate_succ, Array.replicate_zero, List.push_toArray, List.append_toArray, List.nil_append, List.cons_append]
 refine wpIn_wide.2 ?_
 go_wp2_with fail
 try rw [hw0]
 refine C1.out.mono ?_; rintro e1 w1 ⟨p, rfl, hl1⟩
 have R1 : Hid (Has w1 w.heap.size 4 #[.bool false]) := R0.out.kept hl1.bl R0.out.inside
 have L1 := hid (hl1.ahead B0.out)
 have C2 := hid (list_e w1 (GW.out _ L1.out.bl).1)
 clear hl1 C1
 go_wp2_with fail
 refine C2.out.mono ?_; rintro e2 w2 ⟨v, rfl, hv, hb2⟩
 have L2 := hid (L1.out.on hb2)
 have R2 : Hid (Has w2 w.heap.size 4 #[.bool false]) := R1.out.kept hb2 R1.out.inside
 obtain ⟨own, hD⟩ := L2.out.headD
 have C3 := hid (walk_any hD (GW.out _ L2.out.bl).1 (GW.out _ L2.out.bl).2 HO.out.dg gRoot v (some [[101]]) hv)
 rw [HO.out.root, HO.out.f1] at C3
 clear hb2 hD hv C2
 go_wp2_with fail
 refine C3.out.mono ?_; rintro e3 w3 ⟨vi, vs, rfl, hR, hS, hb3⟩
 have R3 : Hid (Has w3 w.heap.size 4 #[.bool false]) := R2.out.kept hb3 R2.out.inside
 have L3 := hid (L2.out.on hb3)
 obtain ⟨A0, c0, rfl⟩ := hR.form
 obtain ⟨A1, c1, f1⟩ := (hS 1 (by omega) (by omega)).form
 obtain ⟨A2, c2, f2⟩ := (hS 2 (by omega) (by omega)).form
 obtain ⟨A3, c3, f3⟩ := (hS 3 (by omega) (by omega)).form
 rw [f1, f2, f3]
 have en : gF1.items.length = 3 := rfl
 rw [en] at hR ⊢
 obtain ⟨psx, hpsx, hPx⟩ := hR
 have hlx : psx.length = 3 := by have := congrArg List.length hpsx; rw [List.length_map] at this; exact this
 rw [← hlx] at hPx
 obtain ⟨gy, dy, ey, _, hgy, _⟩ := hPx.at_ (by omega)
 injection ey with ey1 ey2 ey3
 clear ey2
 subst ey3
 subst ey1
 have PX := hid hPx
 have HPS := hid hpsx
 have HLX := hid hlx
 generalize (lsOf gF1 1).length = n1
 generalize (lsOf gF1 2).length = n2
 generalize (lsOf gF1 3).length = n3
 obtain ⟨w4, hw4⟩ : ∃ V, w3.alloc (.cells #[.slice (some ⟨gy, 0, none⟩) 3 c0, .slice A1 n1 c1, .slice A2 n2 c2, .slice A3 n3 c3] 39) = V := ⟨_, rfl⟩
 have b4 : Below w3.heap.size w3 w4 := hw4 ▸ (Below.refl _ _).alloc (Nat.le_refl _) _
 have F4 : Hid (Has w4 w3.heap.size 39 #[.slice (some ⟨gy, 0, none⟩) 3 c0, .slice A1 n1 c1, .slice A2 n2 c2, .slice A3 n3 c3]) := by rw [← hw4]; exact Has.fresh _ _ _
 have L4 := hid (L3.out.on b4)
 have HB4 := hid b4
 have R4 : Hid (Has w4 w.heap.size 4 #[.bool false]) := R3.out.kept b4 R3.out.inside
 -- the bytes of abc
 obtain ⟨y0, hbc, kcs⟩ := lit_abc w4 [97, 98, 99] #[.int .u8 97, .int .u8 98, .int .u8 99] 3 rfl rfl
 generalize w4.alloc (.cells #[.int .u8 97, .int .u8 98, .int .u8 99] 5 (#[Value.int .u8 97, .int .u8 98, .int .u8 99].size, #[Value.int .u8 97, .int .u8 98, .int .u8 99].size + 1)) = w5 at y0 hbc kcs
 have L5 := hid (L4.out.on hbc)
 have F5 : Hid (Has w5 w3.heap.size 39 #[.slice (some ⟨gy, 0, none⟩) 3 c0, .slice A1 n1 c1, .slice A2 n2 c2, .slice A3 n3 c3]) := F4.out.kept hbc F4.out.inside
 have HB5 := hid (HB4.out.trans (hbc.mono HB4.out.size))
 have R5 : Hid (Has w5 w.heap.size 4 #[.bool false]) := R4.out.kept hbc R4.out.inside
 have CL := hid (list_any _ [97, 98, 99] _ _ _ _ w5 (GW.out _ L5.out.bl).2 y0 (by decide))
 clear hS f1 f2 f3 hPx hpsx hlx hgy hb3 b4 y0 hbc
 go_wp2_with fail
 refine CL.out.mono ?_; rintro e6 w6 ⟨vh, rfl, hd6, hb6⟩
 obtain ⟨A9, c9, rfl⟩ := hd6.form
 rw [hashes_abc]
 have HD6 := hid hd6
 have L6 := hid (L5.out.on hb6)
 have HB6 := hid (HB5.out.trans (hb6.mono HB5.out.size))
 have F6 : Hid (Has w6 w3.heap.size 39 #[.slice (some ⟨gy, 0, none⟩) 3 c0, .slice A1 n1 c1, .slice A2 n2 c2, .slice A3 n3 c3]) := F5.out.kept hb6 F5.out.inside
 have R6 : Hid (Has w6 w.heap.size 4 #[.bool false]) := R5.out.kept hb6 R5.out.inside
 clear hd6 hb6 kcs
 go_wp2_with fail
 refine (CA.out _ L6.out.bl).mono ?_; rintro e7 w7 ⟨rfl, hb7⟩
 have L7 := hid (L6.out.on hb7)
 have HB7 := hid (HB6.out.trans (hb7.mono HB6.out.size))
 have F7 : Hid (Has w7 w3.heap.size 39 #[.slice (some ⟨gy, 0, none⟩) 3 c0, .slice A1 n1 c1, .slice A2 n2 c2, .slice A3 n3 c3]) := F6.out.kept hb7 F6.out.inside
 have R7 : Hid (Has w7 w.heap.size 4 #[.bool false]) := R6.out.kept hb7 R6.out.inside
 have D7 : Hid (Dgs w5.heap.size w7 (.slice A9 1 c9) (hashes [97, 98, 99])) := by have := HD6.out.kq (Kq.of_below hb7); rwa [hashes_abc] at this
 clear hb7
 -- the items that are looked at
 have l0 : 0 < psx.length := by rw [HLX.out]; omega
 have l1 : 1 < psx.length := by rw [HLX.out]; omega
 have l2 : 2 < psx.length := by rw [HLX.out]; omega
 have e0 : (psx[0]'l0).1 = ([97], ⟨1, [97, 98, 99], [], 5⟩) := by
  have := List.getElem_of_eq HPS.out (i := 0) (by rw [List.length_map, HLX.out]; omega)
  rw [List.getElem_map] at this; exact this
 have e1 : (psx[1]'l1).1 = ([100], ⟨2, [], [], 0⟩) := by
  have := List.getElem_of_eq HPS.out (i := 1) (by rw [List.length_map, HLX.out]; omega)
  rw [List.getElem_map] at this; exact this
 have e2 : (psx[2]'l2).1 = ([122], ⟨3, [], [97], 6⟩) := by
  have := List.getElem_of_eq HPS.out (i := 2) (by rw [List.length_map, HLX.out]; omega)
  rw [List.getElem_map] at this; exact this
 obtain ⟨w8, hw8⟩ : ∃ V, w7.drew = V := ⟨_, rfl⟩
 have b8 : Below w7.heap.size w7 w8 := hw8 ▸ (Below.refl _ _).drew
 have L8 := hid (L7.out.on b8)
 have HB8 := hid (HB7.out.trans (b8.mono HB7.out.size))
 have F8 : Hid (Has w8 w3.heap.size 39 #[.slice (some ⟨gy, 0, none⟩) 3 c0, .slice A1 n1 c1, .slice A2 n2 c2, .slice A3 n3 c3]) := F7.out.kept b8 F7.out.inside
 have R8 : Hid (Has w8 w.heap.size 4 #[.bool false]) := R7.out.kept b8 R7.out.inside
 have D8 : Hid (Dgs w5.heap.size w8 (.slice A9 1 c9) (hashes [97, 98, 99])) := D7.out.kq (Kq.of_below b8)
 have CF0 : Hid (∀ V, Below w8.heap.size w8 V → V.cell? ⟨w3.heap.size, 0, none⟩ = some (.slice (some ⟨gy, 0, none⟩) 3 c0)) := fun V hV => (F8.out.kept hV F8.out.inside).at_ 0
 have CPX : Hid (∀ V, Below w8.heap.size w8 V → RecP w2.heap.size V (.slice (some ⟨gy, 0, none⟩) psx.length c0) psx) := fun V hV => PX.out.kq3 (Kq.of_below (HB8.out.trans (hV.mono HB8.out.size)))
 obtain ⟨vA, HVA⟩ : ∃ v, Hid ((psx[0]'l0).2 = v) := ⟨_, rfl⟩
 obtain ⟨vZ, HVZ⟩ : ∃ v, Hid ((psx[2]'l2).2 = v) := ⟨_, rfl⟩
 have dA := (CPX.out w8 (Below.refl _ _)).dg _ (List.getElem_mem l0)
 have dZ := (CPX.out w8 (Below.refl _ _)).dg _ (List.getElem_mem l2)
 rw [HVA.out, e0] at dA
 rw [HVZ.out, e2] at dZ
 have dA2 : Dgs w2.heap.size w8 vA (hashes [97, 98, 99]) := dA
 obtain ⟨AA, cA, hvA⟩ := dA2.form
 rw [hashes_abc] at hvA
 subst hvA
 have DA := hid dA2
 obtain ⟨csA, HCA⟩ : ∃ c, Hid (recN [97] ⟨1, [97, 98, 99], [], 5⟩ (.slice AA 1 cA) = c) := ⟨_, rfl⟩
 obtain ⟨csZ, HCZ⟩ : ∃ c, Hid (recN [122] ⟨3, [], [97], 6⟩ vZ = c) := ⟨_, rfl⟩
 have HSA : Hid (csA.size = 27) := by rw [← HCA.out]; rfl
 have HSZ : Hid (csZ.size = 27) := by rw [← HCZ.out]; rfl
 have HAA : Hid (csA.all (·.oneCell') = true) := by rw [← HCA.out]; exact recNall _ _ _ rfl
 have HAZ : Hid (csZ.all (·.oneCell') = true) := by rw [← HCZ.out]; exact recNall _ _ _ (dgs_one dZ)
 have HLA : Hid (∀ V, Below w8.heap.size w8 V → (loadVar 58 ⟨gy, 0, none⟩).run Tryz.prog V = .ok (.agg csA) V) := fun V hV => by
  have := RecP.load (CPX.out V hV) 0 l0
  rw [HVA.out, e0] at this
  rw [← HCA.out]
  simpa using this
 have HLZ : Hid (∀ V, Below w8.heap.size w8 V → (loadVar 58 ⟨gy, 54, none⟩).run Tryz.prog V = .ok (.agg csZ) V) := fun V hV => by
  have := RecP.load (CPX.out V hV) 2 l2
  rw [HVZ.out, e2] at this
  rw [← HCZ.out]
  simpa using this
 have HD1 : Hid (∀ V, Below w8.heap.size w8 V → V.cell? ⟨gy, 28, none⟩ = some (.int .i64 2)) := fun V hV => by
  obtain ⟨g', c', e, _, _, hat⟩ := (CPX.out V hV).at_ (by rw [HLX.out]; omega)
  injection e with e _ _
  injection e with e
  injection e with e _ _
  subst e
  have := hat 1 l1 1 (.int .i64 2) (by omega) (by rw [e1]; rfl)
  simpa using this
 clear b8 dA dA2 dZ e0 e1 e2
 go_wp2
 refine wp_region_noPanic ?_
 refine wp_region_held_drew (S := fun V => Below w8.heap.size w8 V) (by kernel_rfl) (by rw [hw8]; exact Below.refl _ _) (fun hS => ?_)
 clear hS
 rw [hw8]
 have hS0 : Below w8.heap.size w8 w8 := Below.refl _ _
 refine tkH 0 (v := ?_) (by simp only [lkA, lkB]; rfl) (by kernel_rfl) (fun _ _ _ h => h) (by rfl) (by assumption) ?_ ?_
 rotate_left 1
 · intro w hSw
   have c1 := CF0.out _ hSw
   go_simp
   with_reducible rfl
 simp only [Act.put, siA, siB, siC]
 refine tkH 1 (v := ?_) (by simp only [lkA, lkB, lkC]; rfl) (by kernel_rfl) (fun _ _ _ h => h) (by rfl) (by assumption) ?_ ?_
 rotate_left 1
 · intro w hSw
   have c1 := CF0.out _ hSw
   go_simp
   with_reducible rfl
 simp only [Act.put, siA, siB, siC]
 refine tkH 2 (v := ?_) (by simp only [lkA, lkB, lkC]; rfl) (by kernel_rfl) (fun _ _ _ h => h) (by rfl) (by assumption) ?_ ?_
 rotate_left 1
 · intro w hSw
   have c1 := CF0.out _ hSw
   go_simp
   with_reducible rfl
 simp only [Act.put, siA, siB, siC]
 refine' wpAnyH_take (i := 3) (v := _) (by simp only [lkA, lkB, lkC]; rfl) (by kernel_rfl) (by kernel_rfl) (by kernel_rfl) (fun _ _ _ h => h) (yields_loadA (by rfl) 58 (.tmp 47) rfl gy 0 rfl csA (fun X hSX => HLA.out X hSX)) (by assumption) ?_
 simp only [Act.put, siA, siB, siC]
 refine tkH 4 (v := ?_) (by simp only [lkA, lkB, lkC]; rfl) (by kernel_rfl) (fun _ _ _ h => h) (by rfl) (by assumption) ?_ ?_
 rotate_left 1
 · intro w hSw
   have c1 := CF0.out _ hSw
   go_simp
   with_reducible rfl
 simp only [Act.put, siA, siB, siC]
 refine tkH 5 (v := ?_) (by simp only [lkA, lkB, lkC]; rfl) (by kernel_rfl) (fun _ _ _ h => h) (by rfl) (by assumption) ?_ ?_
 rotate_left 1
 · intro w hSw
   have c1 := CF0.out _ hSw
   go_simp
   with_reducible rfl
 simp only [Act.put, siA, siB, siC]
 refine tkH 6 (v := ?_) (by simp only [lkA, lkB, lkC]; rfl) (by kernel_rfl) (fun _ _ _ h => h) (by rfl) (by assumption) ?_ ?_
 rotate_left 1
 · intro w hSw
   have c1 := CF0.out _ hSw
   go_simp
   with_reducible rfl
 simp only [Act.put, siA, siB, siC]
 refine' wpAnyH_take (i := 7) (v := _) (by simp only [lkA, lkB, lkC]; rfl) (by kernel_rfl) (by kernel_rfl) (by kernel_rfl) (fun _ _ _ h => h) (yields_loadA (by rfl) 58 (.tmp 51) rfl gy 54 rfl csZ (fun X hSX => HLZ.out X hSX)) (by assumption) ?_
 simp only [Act.put, siA, siB, siC]
 clear hS0
 refine wpAnyH_ready (rs := [8, 9]) (by kernel_rfl) (by simp) ?_
 refine AllReadyH.cons (by simp only [lkA, lkB, lkC]; rfl) (fun K hK => ?g1) (AllReadyH.cons (by simp only [lkA, lkB, lkC]; rfl) (fun K hK => ?g2) (AllReadyH.nil))
 case' g1 =>
  go_simp
  refine hK.out _ _ ((Below.refl _ _).alloc (Nat.le_refl _) _) (fun hS => ?_)
  clear hK K hS
  obtain ⟨wa, hwa⟩ : ∃ V, w8.alloc (.cells #[.string ⟨#[]⟩, .int .i64 0, .bool false, .int .i64 0, .int .i64 0, .int .i64 0, .int .u32 0, .int .u32 0, .int .u32 0, .int .u32 0, .int .u32 0, .int .u32 0, .int .u32 0, .int .u32 0, .int .u32 0, .int .u32 0, .int .u32 0, .int .u32 0, .int .u32 0, .int .u32 0, .int .u32 0, .int .u32 0, .int .i64 0, .slice none 0 0, .string ⟨#[]⟩, .int .i64 0, .int .i64 0] 58) = V := ⟨_, rfl⟩
  have bwa : Below w8.heap.size w8 wa := hwa ▸ (Below.refl _ _).alloc (Nat.le_refl _) _
  have Fwa : Hid (Has wa w8.heap.size 58 #[.string ⟨#[]⟩, .int .i64 0, .bool false, .int .i64 0, .int .i64 0, .int .i64 0, .int .u32 0, .int .u32 0, .int .u32 0, .int .u32 0, .int .u32 0, .int .u32 0, .int .u32 0, .int .u32 0, .int .u32 0, .int .u32 0, .int .u32 0, .int .u32 0, .int .u32 0, .int .u32 0, .int .u32 0, .int .u32 0, .int .i64 0, .slice none 0 0, .string ⟨#[]⟩, .int .i64 0, .int .i64 0]) := by rw [← hwa]; exact Has.fresh _ _ _
  have Bwa := hid bwa
  rw [hwa]
  clear hwa bwa
  refine wpAnyH_ready (rs := [9]) (by kernel_rfl) (by simp) ?_
  refine AllReadyH.cons (by simp only [lkA, lkB, lkC]; rfl) (fun K hK => ?_) (AllReadyH.nil)
  go_simp
  refine hK.out _ _ (Bwa.out.alloc (Bwa.out.size) _) (fun hS => ?_)
  clear hK K hS
  obtain ⟨wb, hwb⟩ : ∃ V, wa.alloc (.cells #[.string ⟨#[]⟩, .int .i64 0, .bool false, .int .i64 0, .int .i64 0, .int .i64 0, .int .u32 0, .int .u32 0, .int .u32 0, .int .u32 0, .int .u32 0, .int .u32 0, .int .u32 0, .int .u32 0, .int .u32 0, .int .u32 0, .int .u32 0, .int .u32 0, .int .u32 0, .int .u32 0, .int .u32 0, .int .u32 0, .int .i64 0, .slice none 0 0, .string ⟨#[]⟩, .int .i64 0, .int .i64 0] 58) = V := ⟨_, rfl⟩
  have bwb : Below wa.heap.size wa wb := hwb ▸ (Below.refl _ _).alloc (Nat.le_refl _) _
  have Fwb : Hid (Has wb wa.heap.size 58 #[.string ⟨#[]⟩, .int .i64 0, .bool false, .int .i64 0, .int .i64 0, .int .i64 0, .int .u32 0, .int .u32 0, .int .u32 0, .int .u32 0, .int .u32 0, .int .u32 0, .int .u32 0, .int .u32 0, .int .u32 0, .int .u32 0, .int .u32 0, .int .u32 0, .int .u32 0, .int .u32 0, .int .u32 0, .int .u32 0, .int .i64 0, .slice none 0 0, .string ⟨#[]⟩, .int .i64 0, .int .i64 0]) := by rw [← hwb]; exact Has.fresh _ _ _
  have Bwb := hid bwb
  rw [hwb]
  clear hwb bwb
  have BB : Hid (Below w8.heap.size w8 wb) := Bwa.out.trans (Bwb.out.mono Bwa.out.size)
  have Fx : Hid (Has wb w8.heap.size 58 #[.string ⟨#[]⟩, .int .i64 0, .bool false, .int .i64 0, .int .i64 0, .int .i64 0, .int .u32 0, .int .u32 0, .int .u32 0, .int .u32 0, .int .u32 0, .int .u32 0, .int .u32 0, .int .u32 0, .int .u32 0, .int .u32 0, .int .u32 0, .int .u32 0, .int .u32 0, .int .u32 0, .int .u32 0, .int .u32 0, .int .i64 0, .slice none 0 0, .string ⟨#[]⟩, .int .i64 0, .int .i64 0]) := Fwa.out.kept Bwb.out Fwa.out.inside
  have hne : w8.heap.size ≠ wa.heap.size := by have := Fwa.out.inside; omega
  have hle : w8.heap.size ≤ wa.heap.size := Bwa.out.size
  refine wpAnyH_ready (rs := [10]) (by kernel_rfl) (by simp) ?_
  refine AllReadyH.cons (by simp only [lkA, lkB, lkC]; rfl) (fun K hK => ?_) (AllReadyH.nil)
  obtain ⟨wc, hwc⟩ : ∃ V, wb.setRow w8.heap.size csA = V := ⟨_, rfl⟩
  refine step_store_row (by rfl) 58 (.tmp 6) (.tmp 48) rfl w8.heap.size csA _ rfl rfl Fx.out (by rw [HSA.out]; exact iRec27) (by rw [HSA.out]; rfl) HAA.out ?_
  rw [hwc]
  have Bwc : Hid (Below w8.heap.size w8 wc) := by rw [← hwc]; exact BB.out.rowK (by omega) _
  refine hK.out _ _ Bwc.out (fun hS => ?_)
  clear hK K hS
  have GA1 : Hid (Has wc w8.heap.size 58 csA) := by rw [← hwc]; exact (Fx.out).row
  have GZ1 : Hid (Has wc wa.heap.size 58 #[.string ⟨#[]⟩, .int .i64 0, .bool false, .int .i64 0, .int .i64 0, .int .i64 0, .int .u32 0, .int .u32 0, .int .u32 0, .int .u32 0, .int .u32 0, .int .u32 0, .int .u32 0, .int .u32 0, .int .u32 0, .int .u32 0, .int .u32 0, .int .u32 0, .int .u32 0, .int .u32 0, .int .u32 0, .int .u32 0, .int .i64 0, .slice none 0 0, .string ⟨#[]⟩, .int .i64 0, .int .i64 0]) := by rw [← hwc]; exact (setRow_other wb w8.heap.size wa.heap.size _ (by omega)).trans (Fwb.out)
  refine wpAnyH_ready (rs := [11]) (by kernel_rfl) (by simp) ?_
  refine AllReadyH.cons (by simp only [lkA, lkB, lkC]; rfl) (fun K hK => ?_) (AllReadyH.nil)
  obtain ⟨wd, hwd⟩ : ∃ V, wc.setRow wa.heap.size csZ = V := ⟨_, rfl⟩
  refine step_store_row (by rfl) 58 (.tmp 7) (.tmp 52) rfl wa.heap.size csZ _ rfl rfl GZ1.out (by rw [HSZ.out]; exact iRec27) (by rw [HSZ.out]; rfl) HAZ.out ?_
  rw [hwd]
  have Bwd : Hid (Below w8.heap.size w8 wd) := by rw [← hwd]; exact Bwc.out.rowK (by omega) _
  refine hK.out _ _ Bwd.out (fun hS => ?_)
  clear hK K hS
  have GA : Hid (Has wd w8.heap.size 58 csA) := by rw [← hwd]; exact (setRow_other wc wa.heap.size w8.heap.size _ (by omega)).trans GA1.out
  have GZ : Hid (Has wd wa.heap.size 58 csZ) := by rw [← hwd]; exact GZ1.out.row
  refine wpAnyH_done (by kernel_rfl) ?_ _
  refine NoPanic.normal ?_
  clear hwc hwd GA1 GZ1 hne hle Fx BB Bwc Fwa Fwb Bwa Bwb
  generalize wa.heap.size = b7 at GZ ⊢
  generalize w8.heap.size = b6 at GA ⊢
  clear wa wb wc
 case' g2 =>
  go_simp
  refine hK.out _ _ ((Below.refl _ _).alloc (Nat.le_refl _) _) (fun hS => ?_)
  clear hK K hS
  obtain ⟨wa, hwa⟩ : ∃ V, w8.alloc (.cells #[.string ⟨#[]⟩, .int .i64 0, .bool false, .int .i64 0, .int .i64 0, .int .i64 0, .int .u32 0, .int .u32 0, .int .u32 0, .int .u32 0, .int .u32 0, .int .u32 0, .int .u32 0, .int .u32 0, .int .u32 0, .int .u32 0, .int .u32 0, .int .u32 0, .int .u32 0, .int .u32 0, .int .u32 0, .int .u32 0, .int .i64 0, .slice none 0 0, .string ⟨#[]⟩, .int .i64 0, .int .i64 0] 58) = V := ⟨_, rfl⟩
  have bwa : Below w8.heap.size w8 wa := hwa ▸ (Below.refl _ _).alloc (Nat.le_refl _) _
  have Fwa : Hid (Has wa w8.heap.size 58 #[.string ⟨#[]⟩, .int .i64 0, .bool false, .int .i64 0, .int .i64 0, .int .i64 0, .int .u32 0, .int .u32 0, .int .u32 0, .int .u32 0, .int .u32 0, .int .u32 0, .int .u32 0, .int .u32 0, .int .u32 0, .int .u32 0, .int .u32 0, .int .u32 0, .int .u32 0, .int .u32 0, .int .u32 0, .int .u32 0, .int .i64 0, .slice none 0 0, .string ⟨#[]⟩, .int .i64 0, .int .i64 0]) := by rw [← hwa]; exact Has.fresh _ _ _
  have Bwa := hid bwa
  rw [hwa]
  clear hwa bwa
  refine wpAnyH_ready (rs := [8]) (by kernel_rfl) (by simp) ?_
  refine AllReadyH.cons (by simp only [lkA, lkB, lkC]; rfl) (fun K hK => ?_) (AllReadyH.nil)
  go_simp
  refine hK.out _ _ (Bwa.out.alloc (Bwa.out.size) _) (fun hS => ?_)
  clear hK K hS
  obtain ⟨wb, hwb⟩ : ∃ V, wa.alloc (.cells #[.string ⟨#[]⟩, .int .i64 0, .bool false, .int .i64 0, .int .i64 0, .int .i64 0, .int .u32 0, .int .u32 0, .int .u32 0, .int .u32 0, .int .u32 0, .int .u32 0, .int .u32 0, .int .u32 0, .int .u32 0, .int .u32 0, .int .u32 0, .int .u32 0, .int .u32 0, .int .u32 0, .int .u32 0, .int .u32 0, .int .i64 0, .slice none 0 0, .string ⟨#[]⟩, .int .i64 0, .int .i64 0] 58) = V := ⟨_, rfl⟩
  have bwb : Below wa.heap.size wa wb := hwb ▸ (Below.refl _ _).alloc (Nat.le_refl _) _
  have Fwb : Hid (Has wb wa.heap.size 58 #[.string ⟨#[]⟩, .int .i64 0, .bool false, .int .i64 0, .int .i64 0, .int .i64 0, .int .u32 0, .int .u32 0, .int .u32 0, .int .u32 0, .int .u32 0, .int .u32 0, .int .u32 0, .int .u32 0, .int .u32 0, .int .u32 0, .int .u32 0, .int .u32 0, .int .u32 0, .int .u32 0, .int .u32 0, .int .u32 0, .int .i64 0, .slice none 0 0, .string ⟨#[]⟩, .int .i64 0, .int .i64 0]) := by rw [← hwb]; exact Has.fresh _ _ _
  have Bwb := hid bwb
  rw [hwb]
  clear hwb bwb
  have BB : Hid (Below w8.heap.size w8 wb) := Bwa.out.trans (Bwb.out.mono Bwa.out.size)
  have Fx : Hid (Has wb w8.heap.size 58 #[.string ⟨#[]⟩, .int .i64 0, .bool false, .int .i64 0, .int .i64 0, .int .i64 0, .int .u32 0, .int .u32 0, .int .u32 0, .int .u32 0, .int .u32 0, .int .u32 0, .int .u32 0, .int .u32 0, .int .u32 0, .int .u32 0, .int .u32 0, .int .u32 0, .int .u32 0, .int .u32 0, .int .u32 0, .int .u32 0, .int .i64 0, .slice none 0 0, .string ⟨#[]⟩, .int .i64 0, .int .i64 0]) := Fwa.out.kept Bwb.out Fwa.out.inside
  have hne : w8.heap.size ≠ wa.heap.size := by have := Fwa.out.inside; omega
  have hle : w8.heap.size ≤ wa.heap.size := Bwa.out.size
  refine wpAnyH_ready (rs := [10]) (by kernel_rfl) (by simp) ?_
  refine AllReadyH.cons (by simp only [lkA, lkB, lkC]; rfl) (fun K hK => ?_) (AllReadyH.nil)
  obtain ⟨wc, hwc⟩ : ∃ V, wb.setRow wa.heap.size csA = V := ⟨_, rfl⟩
  refine step_store_row (by rfl) 58 (.tmp 6) (.tmp 48) rfl wa.heap.size csA _ rfl rfl Fwb.out (by rw [HSA.out]; exact iRec27) (by rw [HSA.out]; rfl) HAA.out ?_
  rw [hwc]
  have Bwc : Hid (Below w8.heap.size w8 wc) := by rw [← hwc]; exact BB.out.rowK (by omega) _
  refine hK.out _ _ Bwc.out (fun hS => ?_)
  clear hK K hS
  have GA1 : Hid (Has wc wa.heap.size 58 csA) := by rw [← hwc]; exact (Fwb.out).row
  have GZ1 : Hid (Has wc w8.heap.size 58 #[.string ⟨#[]⟩, .int .i64 0, .bool false, .int .i64 0, .int .i64 0, .int .i64 0, .int .u32 0, .int .u32 0, .int .u32 0, .int .u32 0, .int .u32 0, .int .u32 0, .int .u32 0, .int .u32 0, .int .u32 0, .int .u32 0, .int .u32 0, .int .u32 0, .int .u32 0, .int .u32 0, .int .u32 0, .int .u32 0, .int .i64 0, .slice none 0 0, .string ⟨#[]⟩, .int .i64 0, .int .i64 0]) := by rw [← hwc]; exact (setRow_other wb wa.heap.size w8.heap.size _ (by omega)).trans (Fx.out)
  refine wpAnyH_ready (rs := [11]) (by kernel_rfl) (by simp) ?_
  refine AllReadyH.cons (by simp only [lkA, lkB, lkC]; rfl) (fun K hK => ?_) (AllReadyH.nil)
  obtain ⟨wd, hwd⟩ : ∃ V, wc.setRow w8.heap.size csZ = V := ⟨_, rfl⟩
  refine step_store_row (by rfl) 58 (.tmp 7) (.tmp 52) rfl w8.heap.size csZ _ rfl rfl GZ1.out (by rw [HSZ.out]; exact iRec27) (by rw [HSZ.out]; rfl) HAZ.out ?_
  rw [hwd]
  have Bwd : Hid (Below w8.heap.size w8 wd) := by rw [← hwd]; exact Bwc.out.rowK (by omega) _
  refine hK.out _ _ Bwd.out (fun hS => ?_)
  clear hK K hS
  have GA : Hid (Has wd wa.heap.size 58 csA) := by rw [← hwd]; exact (setRow_other wc w8.heap.size wa.heap.size _ (by omega)).trans GA1.out
  have GZ : Hid (Has wd w8.heap.size 58 csZ) := by rw [← hwd]; exact GZ1.out.row
  refine wpAnyH_done (by kernel_rfl) ?_ _
  refine NoPanic.normal ?_
  clear hwc hwd GA1 GZ1 hne hle Fx BB Bwc Fwa Fwb Bwa Bwb
  generalize wa.heap.size = b6 at GA ⊢
  generalize w8.heap.size = b7 at GZ ⊢
  clear wa wb wc
 all_goals
  obtain ⟨wf, hwf⟩ : ∃ V, wd.drew = V := ⟨_, rfl⟩
  have bf : Below wd.heap.size wd wf := hwf ▸ (Below.refl _ _).drew
  have B8f : Hid (Below w8.heap.size w8 wf) := Bwd.out.trans (bf.mono Bwd.out.size)
  have Lf := hid (L8.out.on B8f.out)
  have Rf : Hid (Has wf w.heap.size 4 #[.bool false]) := R8.out.kept B8f.out R8.out.inside
  have Ff : Hid (Has wf w3.heap.size 39 #[.slice (some ⟨gy, 0, none⟩) 3 c0, .slice A1 n1 c1, .slice A2 n2 c2, .slice A3 n3 c3]) := F8.out.kept B8f.out F8.out.inside
  have GAf : Hid (Has wf b6 58 (recN [97] ⟨1, [97, 98, 99], [], 5⟩ (.slice AA 1 cA))) := by rw [HCA.out]; exact GA.out.kept bf GA.out.inside
  have GZf : Hid (Has wf b7 58 (recN [122] ⟨3, [], [97], 6⟩ vZ)) := by rw [HCZ.out]; exact GZ.out.kept bf GZ.out.inside
  have a1 : wf.cell? ⟨b6, 1, none⟩ = some (.int .i64 1) := GAf.out.at_ 1
  have a3 : wf.cell? ⟨b6, 3, none⟩ = some (.int .i64 3) := GAf.out.at_ 3
  have a4 : wf.cell? ⟨b6, 4, none⟩ = some (.int .i64 5) := GAf.out.at_ 4
  have a22 : wf.cell? ⟨b6, 22, none⟩ = some (.int .i64 16) := GAf.out.at_ 22
  have a23 : wf.cell? ⟨b6, 23, none⟩ = some (.slice AA 1 cA) := GAf.out.at_ 23
  have z1 : wf.cell? ⟨b7, 1, none⟩ = some (.int .i64 3) := GZf.out.at_ 1
  have z4 : wf.cell? ⟨b7, 4, none⟩ = some (.int .i64 6) := GZf.out.at_ 4
  have z24 : wf.cell? ⟨b7, 24, none⟩ = some (.string ⟨#[97]⟩) := GZf.out.at_ 24
  have k0 : wf.cell? ⟨w3.heap.size, 0, none⟩ = some (.slice (some ⟨gy, 0, none⟩) 3 c0) := CF0.out _ B8f.out
  have k28 : wf.cell? ⟨gy, 28, none⟩ = some (.int .i64 2) := HD1.out _ B8f.out
  have hl0 : 0 < (hashes [97, 98, 99]).length := by rw [hashes_abc]; omega
  obtain ⟨ga, ca, ea, _, _, lda⟩ := (DA.out.kq (Kq.of_below B8f.out)).at_ 0 hl0
  obtain ⟨g9, c9', e9, _, _, ld9⟩ := (D8.out.kq (Kq.of_below B8f.out)).at_ 0 hl0
  rw [hashes_abc] at ea e9
  have hlen := DA.out.len _ (List.getElem_mem hl0)
  generalize (hashes [97, 98, 99])[0] = hd at lda ld9 hlen
  rw [Nat.zero_mul] at lda ld9
  injection ea with ea1 ea2 ea3
  injection e9 with e91 e92 e93
  subst ea1
  subst e91
  clear ea2 ea3 e92 e93 bf
  have LDA : Hid (∀ V, V = wf → (loadVar 81 ⟨ga, 0, none⟩).run Tryz.prog V = .ok (.agg (hvec hd)) V) := fun V hV => by subst hV; exact lda
  have LD9 : Hid (∀ V, V = wf → (loadVar 81 ⟨g9, 0, none⟩).run Tryz.prog V = .ok (.agg (hvec hd)) V) := fun V hV => by subst hV; exact ld9
  have HLH := hid hlen
  clear lda ld9 hlen hl0
  go_wp2
  refine wp_region_noPanic ?_
  refine wp_region_held_drew (S := fun V => V = wf) (by kernel_rfl) (hwf) (fun hS => ?_)
  clear hS
  rw [hwf]
  have hS7 : wf = wf := rfl
  refine tkH 0 (v := ?_) (by simp only [lkA, lkB]; rfl) (by kernel_rfl) (fun _ _ _ h => h) (by rfl) (by assumption) ?_ ?_
  rotate_left 1
  · intro w hSw
    go_simp
    with_reducible rfl
  simp only [Act.put, siA, siB, siC]
  refine tkH 1 (v := ?_) (by simp only [lkA, lkB, lkC]; rfl) (by kernel_rfl) (fun _ _ _ h => h) (by rfl) (by assumption) ?_ ?_
  rotate_left 1
  · intro w hSw
    subst hSw
    have c1 := a1
    go_simp
    with_reducible rfl
  simp only [Act.put, siA, siB, siC]
  refine tkH 2 (v := ?_) (by simp only [lkA, lkB, lkC]; rfl) (by kernel_rfl) (fun _ _ _ h => h) (by rfl) (by assumption) ?_ ?_
  rotate_left 1
  · intro w hSw
    go_simp
    with_reducible rfl
  simp only [Act.put, siA, siB, siC]
  refine tkH 3 (v := ?_) (by simp only [lkA, lkB, lkC]; rfl) (by kernel_rfl) (fun _ _ _ h => h) (by rfl) (by assumption) ?_ ?_
  rotate_left 1
  · intro w hSw
    go_simp
    with_reducible rfl
  simp only [Act.put, siA, siB, siC]
  refine tkH 4 (v := ?_) (by simp only [lkA, lkB, lkC]; rfl) (by kernel_rfl) (fun _ _ _ h => h) (by rfl) (by assumption) ?_ ?_
  rotate_left 1
  · intro w hSw
    go_simp
    with_reducible rfl
  simp only [Act.put, siA, siB, siC]
  refine tkH 5 (v := ?_) (by simp only [lkA, lkB, lkC]; rfl) (by kernel_rfl) (fun _ _ _ h => h) (by rfl) (by assumption) ?_ ?_
  rotate_left 1
  · intro w hSw
    subst hSw
    have c1 := a3
    go_simp
    with_reducible rfl
  simp only [Act.put, siA, siB, siC]
  refine tkH 6 (v := ?_) (by simp only [lkA, lkB, lkC]; rfl) (by kernel_rfl) (fun _ _ _ h => h) (by rfl) (by assumption) ?_ ?_
  rotate_left 1
  · intro w hSw
    go_simp
    with_reducible rfl
  simp only [Act.put, siA, siB, siC]
  refine tkH 7 (v := ?_) (by simp only [lkA, lkB, lkC]; rfl) (by kernel_rfl) (fun _ _ _ h => h) (by rfl) (by assumption) ?_ ?_
  rotate_left 1
  · intro w hSw
    go_simp
    with_reducible rfl
  simp only [Act.put, siA, siB, siC]
  refine tkH 8 (v := ?_) (by simp only [lkA, lkB, lkC]; rfl) (by kernel_rfl) (fun _ _ _ h => h) (by rfl) (by assumption) ?_ ?_
  rotate_left 1
  · intro w hSw
    go_simp
    with_reducible rfl
  simp only [Act.put, siA, siB, siC]
  refine tkH 9 (v := ?_) (by simp only [lkA, lkB, lkC]; rfl) (by kernel_rfl) (fun _ _ _ h => h) (by rfl) (by assumption) ?_ ?_
  rotate_left 1
  · intro w hSw
    go_simp
    with_reducible rfl
  simp only [Act.put, siA, siB, siC]
  refine tkH 10 (v := ?_) (by simp only [lkA, lkB, lkC]; rfl) (by kernel_rfl) (fun _ _ _ h => h) (by rfl) (by assumption) ?_ ?_
  rotate_left 1
  · intro w hSw
    subst hSw
    have c1 := a4
    go_simp
    with_reducible rfl
  simp only [Act.put, siA, siB, siC]
  refine tkH 11 (v := ?_) (by simp only [lkA, lkB, lkC]; rfl) (by kernel_rfl) (fun _ _ _ h => h) (by rfl) (by assumption) ?_ ?_
  rotate_left 1
  · intro w hSw
    go_simp
    with_reducible rfl
  simp only [Act.put, siA, siB, siC]
  refine tkH 12 (v := ?_) (by simp only [lkA, lkB, lkC]; rfl) (by kernel_rfl) (fun _ _ _ h => h) (by rfl) (by assumption) ?_ ?_
  rotate_left 1
  · intro w hSw
    go_simp
    with_reducible rfl
  simp only [Act.put, siA, siB, siC]
  refine tkH 13 (v := ?_) (by simp only [lkA, lkB, lkC]; rfl) (by kernel_rfl) (fun _ _ _ h => h) (by rfl) (by assumption) ?_ ?_
  rotate_left 1
  · intro w hSw
    go_simp
    with_reducible rfl
  simp only [Act.put, siA, siB, siC]
  refine tkH 14 (v := ?_) (by simp only [lkA, lkB, lkC]; rfl) (by kernel_rfl) (fun _ _ _ h => h) (by rfl) (by assumption) ?_ ?_
  rotate_left 1
  · intro w hSw
    go_simp
    with_reducible rfl
  simp only [Act.put, siA, siB, siC]
  refine tkH 15 (v := ?_) (by simp only [lkA, lkB, lkC]; rfl) (by kernel_rfl) (fun _ _ _ h => h) (by rfl) (by assumption) ?_ ?_
  rotate_left 1
  · intro w hSw
    subst hSw
    have c1 := a22
    go_simp
    with_reducible rfl
  simp only [Act.put, siA, siB, siC]
  refine tkH 16 (v := ?_) (by simp only [lkA, lkB, lkC]; rfl) (by kernel_rfl) (fun _ _ _ h => h) (by rfl) (by assumption) ?_ ?_
  rotate_left 1
  · intro w hSw
    go_simp
    with_reducible rfl
  simp only [Act.put, siA, siB, siC]
  refine tkH 17 (v := ?_) (by simp only [lkA, lkB, lkC]; rfl) (by kernel_rfl) (fun _ _ _ h => h) (by rfl) (by assumption) ?_ ?_
  rotate_left 1
  · intro w hSw
    go_simp
    with_reducible rfl
  simp only [Act.put, siA, siB, siC]
  refine tkH 18 (v := ?_) (by simp only [lkA, lkB, lkC]; rfl) (by kernel_rfl) (fun _ _ _ h => h) (by rfl) (by assumption) ?_ ?_
  rotate_left 1
  · intro w hSw
    go_simp
    with_reducible rfl
  simp only [Act.put, siA, siB, siC]
  refine tkH 19 (v := ?_) (by simp only [lkA, lkB, lkC]; rfl) (by kernel_rfl) (fun _ _ _ h => h) (by rfl) (by assumption) ?_ ?_
  rotate_left 1
  · intro w hSw
    go_simp
    with_reducible rfl
  simp only [Act.put, siA, siB, siC]
  refine tkH 20 (v := ?_) (by simp only [lkA, lkB, lkC]; rfl) (by kernel_rfl) (fun _ _ _ h => h) (by rfl) (by assumption) ?_ ?_
  rotate_left 1
  · intro w hSw
    subst hSw
    have c1 := a23
    go_simp
    with_reducible rfl
  simp only [Act.put, siA, siB, siC]
  refine tkH 21 (v := ?_) (by simp only [lkA, lkB, lkC]; rfl) (by kernel_rfl) (fun _ _ _ h => h) (by rfl) (by assumption) ?_ ?_
  rotate_left 1
  · intro w hSw
    go_simp
    with_reducible rfl
  simp only [Act.put, siA, siB, siC]
  refine tkH 22 (v := ?_) (by simp only [lkA, lkB, lkC]; rfl) (by kernel_rfl) (fun _ _ _ h => h) (by rfl) (by assumption) ?_ ?_
  rotate_left 1
  · intro w hSw
    go_simp
    with_reducible rfl
  simp only [Act.put, siA, siB, siC]
  refine tkH 23 (v := ?_) (by simp only [lkA, lkB, lkC]; rfl) (by kernel_rfl) (fun _ _ _ h => h) (by rfl) (by assumption) ?_ ?_
  rotate_left 1
  · intro w hSw
    go_simp
    with_reducible rfl
  simp only [Act.put, siA, siB, siC]
  refine tkH 24 (v := ?_) (by simp only [lkA, lkB, lkC]; rfl) (by kernel_rfl) (fun _ _ _ h => h) (by rfl) (by assumption) ?_ ?_
  rotate_left 1
  · intro w hSw
    go_simp
    with_reducible rfl
  simp only [Act.put, siA, siB, siC]
  refine tkH 25 (v := ?_) (by simp only [lkA, lkB, lkC]; rfl) (by kernel_rfl) (fun _ _ _ h => h) (by rfl) (by assumption) ?_ ?_
  rotate_left 1
  · intro w hSw
    go_simp
    with_reducible rfl
  simp only [Act.put, siA, siB, siC]
  refine tkH 26 (v := ?_) (by simp only [lkA, lkB, lkC]; rfl) (by kernel_rfl) (fun _ _ _ h => h) (by rfl) (by assumption) ?_ ?_
  rotate_left 1
  · intro w hSw
    subst hSw
    have c1 := a23
    go_simp
    with_reducible rfl
  simp only [Act.put, siA, siB, siC]
  refine tkH 27 (v := ?_) (by simp only [lkA, lkB, lkC]; rfl) (by kernel_rfl) (fun _ _ _ h => h) (by rfl) (by assumption) ?_ ?_
  rotate_left 1
  · intro w hSw
    go_simp
    with_reducible rfl
  simp only [Act.put, siA, siB, siC]
  refine' wpAnyH_take (i := 28) (v := _) (by simp only [lkA, lkB, lkC]; rfl) (by kernel_rfl) (by kernel_rfl) (by kernel_rfl) (fun _ _ _ h => h) (Hq.yields_load_h (by rfl) (.tmp 80) rfl ga 0 rfl hd (fun X hSX => LDA.out X hSX)) (by assumption) ?_
  simp only [Act.put, siA, siB, siC]
  refine tkH 29 (v := ?_) (by simp only [lkA, lkB, lkC]; rfl) (by kernel_rfl) (fun _ _ _ h => h) (by rfl) (by assumption) ?_ ?_
  rotate_left 1
  · intro w hSw
    go_simp
    with_reducible rfl
  simp only [Act.put, siA, siB, siC]
  refine tkH 30 (v := ?_) (by simp only [lkA, lkB, lkC]; rfl) (by kernel_rfl) (fun _ _ _ h => h) (by rfl) (by assumption) ?_ ?_
  rotate_left 1
  · intro w hSw
    go_simp
    with_reducible rfl
  simp only [Act.put, siA, siB, siC]
  refine' wpAnyH_take (i := 31) (v := _) (by simp only [lkA, lkB, lkC]; rfl) (by kernel_rfl) (by kernel_rfl) (by kernel_rfl) (fun _ _ _ h => h) (Hq.yields_load_h (by rfl) (.tmp 83) rfl g9 0 rfl hd (fun X hSX => LD9.out X hSX)) (by assumption) ?_
  simp only [Act.put, siA, siB, siC]
  refine' wpAnyH_take (i := 32) (v := _) (by simp only [lkA, lkB, lkC]; rfl) (by kernel_rfl) (by kernel_rfl) (by kernel_rfl) (fun _ _ _ h => h) (Hq.yields_neq_h (by rfl) (.tmp 81) (.tmp 84) rfl hd hd rfl rfl HLH.out HLH.out false (by rw [same8_refl]; rfl)) (by assumption) ?_
  simp only [Act.put, siA, siB, siC]
  refine tkH 33 (v := ?_) (by simp only [lkA, lkB, lkC]; rfl) (by kernel_rfl) (fun _ _ _ h => h) (by rfl) (by assumption) ?_ ?_
  rotate_left 1
  · intro w hSw
    go_simp
    with_reducible rfl
  simp only [Act.put, siA, siB, siC]
  refine tkH 34 (v := ?_) (by simp only [lkA, lkB, lkC]; rfl) (by kernel_rfl) (fun _ _ _ h => h) (by rfl) (by assumption) ?_ ?_
  rotate_left 1
  · intro w hSw
    go_simp
    with_reducible rfl
  simp only [Act.put, siA, siB, siC]
  refine tkH 35 (v := ?_) (by simp only [lkA, lkB, lkC]; rfl) (by kernel_rfl) (fun _ _ _ h => h) (by rfl) (by assumption) ?_ ?_
  rotate_left 1
  · intro w hSw
    go_simp
    with_reducible rfl
  simp only [Act.put, siA, siB, siC]
  refine tkH 36 (v := ?_) (by simp only [lkA, lkB, lkC]; rfl) (by kernel_rfl) (fun _ _ _ h => h) (by rfl) (by assumption) ?_ ?_
  rotate_left 1
  · intro w hSw
    subst hSw
    have c1 := k0
    go_simp
    with_reducible rfl
  simp only [Act.put, siA, siB, siC]
  refine tkH 37 (v := ?_) (by simp only [lkA, lkB, lkC]; rfl) (by kernel_rfl) (fun _ _ _ h => h) (by rfl) (by assumption) ?_ ?_
  rotate_left 1
  · intro w hSw
    go_simp
    with_reducible rfl
  simp only [Act.put, siA, siB, siC]
  refine tkH 38 (v := ?_) (by simp only [lkA, lkB, lkC]; rfl) (by kernel_rfl) (fun _ _ _ h => h) (by rfl) (by assumption) ?_ ?_
  rotate_left 1
  · intro w hSw
    go_simp
    with_reducible rfl
  simp only [Act.put, siA, siB, siC]
  refine tkH 39 (v := ?_) (by simp only [lkA, lkB, lkC]; rfl) (by kernel_rfl) (fun _ _ _ h => h) (by rfl) (by assumption) ?_ ?_
  rotate_left 1
  · intro w hSw
    subst hSw
    have c1 := k28
    go_simp
    with_reducible rfl
  simp only [Act.put, siA, siB, siC]
  refine tkH 40 (v := ?_) (by simp only [lkA, lkB, lkC]; rfl) (by kernel_rfl) (fun _ _ _ h => h) (by rfl) (by assumption) ?_ ?_
  rotate_left 1
  · intro w hSw
    go_simp
    with_reducible rfl
  simp only [Act.put, siA, siB, siC]
  refine tkH 41 (v := ?_) (by simp only [lkA, lkB, lkC]; rfl) (by kernel_rfl) (fun _ _ _ h => h) (by rfl) (by assumption) ?_ ?_
  rotate_left 1
  · intro w hSw
    go_simp
    with_reducible rfl
  simp only [Act.put, siA, siB, siC]
  refine tkH 42 (v := ?_) (by simp only [lkA, lkB, lkC]; rfl) (by kernel_rfl) (fun _ _ _ h => h) (by rfl) (by assumption) ?_ ?_
  rotate_left 1
  · intro w hSw
    go_simp
    with_reducible rfl
  simp only [Act.put, siA, siB, siC]
  refine tkH 43 (v := ?_) (by simp only [lkA, lkB, lkC]; rfl) (by kernel_rfl) (fun _ _ _ h => h) (by rfl) (by assumption) ?_ ?_
  rotate_left 1
  · intro w hSw
    go_simp
    with_reducible rfl
  simp only [Act.put, siA, siB, siC]
  refine tkH 44 (v := ?_) (by simp only [lkA, lkB, lkC]; rfl) (by kernel_rfl) (fun _ _ _ h => h) (by rfl) (by assumption) ?_ ?_
  rotate_left 1
  · intro w hSw
    subst hSw
    have c1 := z1
    go_simp
    with_reducible rfl
  simp only [Act.put, siA, siB, siC]
  refine tkH 45 (v := ?_) (by simp only [lkA, lkB, lkC]; rfl) (by kernel_rfl) (fun _ _ _ h => h) (by rfl) (by assumption) ?_ ?_
  rotate_left 1
  · intro w hSw
    go_simp
    with_reducible rfl
  simp only [Act.put, siA, siB, siC]
  refine tkH 46 (v := ?_) (by simp only [lkA, lkB, lkC]; rfl) (by kernel_rfl) (fun _ _ _ h => h) (by rfl) (by assumption) ?_ ?_
  rotate_left 1
  · intro w hSw
    go_simp
    with_reducible rfl
  simp only [Act.put, siA, siB, siC]
  refine tkH 47 (v := ?_) (by simp only [lkA, lkB, lkC]; rfl) (by kernel_rfl) (fun _ _ _ h => h) (by rfl) (by assumption) ?_ ?_
  rotate_left 1
  · intro w hSw
    go_simp
    with_reducible rfl
  simp only [Act.put, siA, siB, siC]
  refine tkH 48 (v := ?_) (by simp only [lkA, lkB, lkC]; rfl) (by kernel_rfl) (fun _ _ _ h => h) (by rfl) (by assumption) ?_ ?_
  rotate_left 1
  · intro w hSw
    go_simp
    with_reducible rfl
  simp only [Act.put, siA, siB, siC]
  refine tkH 49 (v := ?_) (by simp only [lkA, lkB, lkC]; rfl) (by kernel_rfl) (fun _ _ _ h => h) (by rfl) (by assumption) ?_ ?_
  rotate_left 1
  · intro w hSw
    subst hSw
    have c1 := z24
    go_simp
    with_reducible rfl
  simp only [Act.put, siA, siB, siC]
  refine tkH 50 (v := ?_) (by simp only [lkA, lkB, lkC]; rfl) (by kernel_rfl) (fun _ _ _ h => h) (by rfl) (by assumption) ?_ ?_
  rotate_left 1
  · intro w hSw
    go_simp
    with_reducible rfl
  simp only [Act.put, siA, siB, siC]
  refine tkH 51 (v := ?_) (by simp only [lkA, lkB, lkC]; rfl) (by kernel_rfl) (fun _ _ _ h => h) (by rfl) (by assumption) ?_ ?_
  rotate_left 1
  · intro w hSw
    go_simp
    with_reducible rfl
  simp only [Act.put, siA, siB, siC]
  refine tkH 52 (v := ?_) (by simp only [lkA, lkB, lkC]; rfl) (by kernel_rfl) (fun _ _ _ h => h) (by rfl) (by assumption) ?_ ?_
  rotate_left 1
  · intro w hSw
    go_simp
    with_reducible rfl
  simp only [Act.put, siA, siB, siC]
  refine tkH 53 (v := ?_) (by simp only [lkA, lkB, lkC]; rfl) (by kernel_rfl) (fun _ _ _ h => h) (by rfl) (by assumption) ?_ ?_
  rotate_left 1
  · intro w hSw
    go_simp
    with_reducible rfl
  simp only [Act.put, siA, siB, siC]
  refine tkH 54 (v := ?_) (by simp only [lkA, lkB, lkC]; rfl) (by kernel_rfl) (fun _ _ _ h => h) (by rfl) (by assumption) ?_ ?_
  rotate_left 1
  · intro w hSw
    subst hSw
    have c1 := z4
    go_simp
    with_reducible rfl
  simp only [Act.put, siA, siB, siC]
  refine tkH 55 (v := ?_) (by simp only [lkA, lkB, lkC]; rfl) (by kernel_rfl) (fun _ _ _ h => h) (by rfl) (by assumption) ?_ ?_
  rotate_left 1
  · intro w hSw
    go_simp
    with_reducible rfl
  simp only [Act.put, siA, siB, siC]
  refine tkH 56 (v := ?_) (by simp only [lkA, lkB, lkC]; rfl) (by kernel_rfl) (fun _ _ _ h => h) (by rfl) (by assumption) ?_ ?_
  rotate_left 1
  · intro w hSw
    go_simp
    with_reducible rfl
  simp only [Act.put, siA, siB, siC]
  clear hS7
  refine wpAnyH_done (by kernel_rfl) ?_ _
  refine NoPanic.normal ?_
  clear a1 a3 a4 a22 a23 z1 z4 z24 k0 k28
  obtain ⟨own10, hD10⟩ := Lf.out.headD
  have C10 := hid (walk_any hD10 (GW.out _ Lf.out.bl).1 (GW.out _ Lf.out.bl).2 HO.out.dg gRoot (.pointer none) none .none)
  rw [HO.out.root, HO.out.f2] at C10
  clear hD10
  go_wp2_with fail
  refine C10.out.mono ?_; rintro e10 w10 ⟨vj, vt, rfl, hR, hS, hb10⟩
  have L10 := hid (Lf.out.on hb10)
  have R10 : Hid (Has w10 w.heap.size 4 #[.bool false]) := Rf.out.kept hb10 Rf.out.inside
  clear hb10
  obtain ⟨B0x, d0, rfl⟩ := hR.form
  obtain ⟨B1x, d1, g1⟩ := (hS 1 (by omega) (by omega)).form
  obtain ⟨B2x, d2, g2⟩ := (hS 2 (by omega) (by omega)).form
  obtain ⟨B3x, d3, g3⟩ := (hS 3 (by omega) (by omega)).form
  have s3 := hS 3 (by omega) (by omega)
  rw [g3] at s3
  rw [g1, g2, g3]
  have q4 : gF2.items.length = 4 := rfl
  have q1 : (lsOf gF2 1).length = 1 := rfl
  have q2 : (lsOf gF2 2).length = 0 := rfl
  have q3 : (lsOf gF2 3).length = 1 := rfl
  rw [q4] at hR ⊢
  rw [q3] at s3 ⊢
  rw [q1, q2]
  obtain ⟨gb, kb, eb, _, _⟩ := strR_at s3 (by decide)
  injection eb with eb eb2 eb3
  subst eb
  clear eb2 eb3
  have S3 : Hid (StrR wf.heap.size w10 (.slice (some ⟨gb, 0, none⟩) 1 d3) [[100, 47, 101, 47, 121]]) := s3
  have HR2 := hid hR
  clear hR hS g1 g2 g3 s3 q1 q2 q3 q4
  obtain ⟨w11, hw11⟩ : ∃ V, w10.alloc (.cells #[.slice B0x 4 d0, .slice B1x 1 d1, .slice B2x 0 d2, .slice (some ⟨gb, 0, none⟩) 1 d3] 39) = V := ⟨_, rfl⟩
  have hb11 : Below w10.heap.size w10 w11 := hw11 ▸ (Below.refl _ _).alloc (Nat.le_refl _) _
  have X11 : Hid (Has w11 w10.heap.size 39 #[.slice B0x 4 d0, .slice B1x 1 d1, .slice B2x 0 d2, .slice (some ⟨gb, 0, none⟩) 1 d3]) := by rw [← hw11]; exact Has.fresh _ _ _
  have CJ : Hid (Calls Tryz.prog 29 #[.slice (some ⟨gb, 0, none⟩) 1 d3, .string ⟨#[32]⟩] w11 fun e w' => e = .returned (.string ⟨#[100, 47, 101, 47, 121]⟩) ∧ Below w11.heap.size w11 w') := join_one (S3.out.on hb11) (by decide)
  have HR3 : Hid (RecR wf.heap.size w11 (.slice B0x 4 d0) gF2.items) := HR2.out.on hb11
  have y2 := X11.out.at_ 2
  have y3 := X11.out.at_ 3
  have L11 := hid (L10.out.on hb11)
  have R11 : Hid (Has w11 w.heap.size 4 #[.bool false]) := R10.out.kept hb11 R10.out.inside
  clear hb11
  go_wp2_with fail
  refine CJ.out.mono ?_; rintro e12 w12 ⟨rfl, hb12⟩
  have y0 := (X11.out.kept hb12 X11.out.inside).at_ 0
  have CP : Hid (Calls Tryz.prog 30 #[.slice B0x 4 d0] w12 fun e w' => e = .returned (.string ⟨#[97, 32, 100, 32, 100, 47, 101, 32, 122, 32]⟩) ∧ w12 = w') := by
   refine (paths_any (HR3.out.on hb12) (by decide) (by decide)).mono ?_
   rintro e w' ⟨rfl, rfl⟩
   exact ⟨rfl, rfl⟩
  have L12 := hid (L11.out.on hb12)
  have R12 : Hid (Has w12 w.heap.size 4 #[.bool false]) := R11.out.kept hb12 R11.out.inside
  clear hb12
  obtain ⟨own14, hD14⟩ := L12.out.headD
  have C14 := hid (item_any hD14 (GW.out _ L12.out.bl).1 (GW.out _ L12.out.bl).2 gRoot [100, 47, 101, 47, 121] (by decide) (by decide))
  rw [HO2.out.iy] at C14
  clear hD14
  go_wp2_with (first
   | (go_at_call 30; refine CP.out.mono ?_; rintro e13 w13 ⟨rfl, rfl⟩))
  refine C14.out.mono ?_; rintro e14 w14 ⟨cs14, rfl, _, _, _, hz14, hb14⟩
  obtain rfl := hz14 (by decide)
  clear hz14
  dsimp only
  have L14 := hid (L12.out.on hb14)
  have R14 : Hid (Has w14 w.heap.size 4 #[.bool false]) := R12.out.kept hb14 R12.out.inside
  clear hb14
  obtain ⟨w15, hw15⟩ : ∃ V, (w14.alloc (.cells #[.string ⟨#[]⟩, .int .i64 0, .bool false, .int .i64 0, .int .i64 0, .int .i64 0, .int .u32 0, .int .u32 0, .int .u32 0, .int .u32 0, .int .u32 0, .int .u32 0, .int .u32 0, .int .u32 0, .int .u32 0, .int .u32 0, .int .u32 0, .int .u32 0, .int .u32 0, .int .u32 0, .int .u32 0, .int .u32 0, .int .i64 0, .slice none 0 0, .string ⟨#[]⟩, .int .i64 0, .int .i64 0] 58)).setRow w14.heap.size recZ = V := ⟨_, rfl⟩
  have X15 : Hid (Has (w14.alloc (.cells #[.string ⟨#[]⟩, .int .i64 0, .bool false, .int .i64 0, .int .i64 0, .int .i64 0, .int .u32 0, .int .u32 0, .int .u32 0, .int .u32 0, .int .u32 0, .int .u32 0, .int .u32 0, .int .u32 0, .int .u32 0, .int .u32 0, .int .u32 0, .int .u32 0, .int .u32 0, .int .u32 0, .int .u32 0, .int .u32 0, .int .i64 0, .slice none 0 0, .string ⟨#[]⟩, .int .i64 0, .int .i64 0] 58)) w14.heap.size 58 #[.string ⟨#[]⟩, .int .i64 0, .bool false, .int .i64 0, .int .i64 0, .int .i64 0, .int .u32 0, .int .u32 0, .int .u32 0, .int .u32 0, .int .u32 0, .int .u32 0, .int .u32 0, .int .u32 0, .int .u32 0, .int .u32 0, .int .u32 0, .int .u32 0, .int .u32 0, .int .u32 0, .int .u32 0, .int .u32 0, .int .i64 0, .slice none 0 0, .string ⟨#[]⟩, .int .i64 0, .int .i64 0]) := Has.fresh _ _ _
  have hb15 : Below w14.heap.size w14 w15 := hw15 ▸ ((Below.refl _ _).alloc (Nat.le_refl _) _).rowK (Nat.le_refl _) _
  have L15 := hid (L14.out.on hb15)
  have R15 : Hid (Has w15 w.heap.size 4 #[.bool false]) := R14.out.kept hb15 R14.out.inside
  clear hb15
  obtain ⟨own16, hD16⟩ := L15.out.headD
  have C16 := hid (item_any hD16 (GW.out _ L15.out.bl).1 (GW.out _ L15.out.bl).2 gRoot [98] (by decide) (by decide))
  rw [HO2.out.ib] at C16
  clear hD16
  go_wp2_with (first
   | (refine wpList_store_row rfl 58 (.tmp 10) (.tmp 138) rfl w14.heap.size recZ rfl rfl 58 _ X15.out (by kernel_rfl) rfl recZ_all ?_; rw [hw15]))
  refine C16.out.mono ?_; rintro e16 w16 ⟨cs16, rfl, _, _, _, hz16, hb16⟩
  obtain rfl := hz16 (by decide)
  clear hz16
  dsimp only
  have L16 := hid (L15.out.on hb16)
  have R16 : Hid (Has w16 w.heap.size 4 #[.bool false]) := R15.out.kept hb16 R15.out.inside
  clear hb16
  obtain ⟨w17, hw17⟩ : ∃ V, (w16.alloc (.cells #[.string ⟨#[]⟩, .int .i64 0, .bool false, .int .i64 0, .int .i64 0, .int .i64 0, .int .u32 0, .int .u32 0, .int .u32 0, .int .u32 0, .int .u32 0, .int .u32 0, .int .u32 0, .int .u32 0, .int .u32 0, .int .u32 0, .int .u32 0, .int .u32 0, .int .u32 0, .int .u32 0, .int .u32 0, .int .u32 0, .int .i64 0, .slice none 0 0, .string ⟨#[]⟩, .int .i64 0, .int .i64 0] 58)).setRow w16.heap.size recZ = V := ⟨_, rfl⟩
  have X17 : Hid (Has (w16.alloc (.cells #[.string ⟨#[]⟩, .int .i64 0, .bool false, .int .i64 0, .int .i64 0, .int .i64 0, .int .u32 0, .int .u32 0, .int .u32 0, .int .u32 0, .int .u32 0, .int .u32 0, .int .u32 0, .int .u32 0, .int .u32 0, .int .u32 0, .int .u32 0, .int .u32 0, .int .u32 0, .int .u32 0, .int .u32 0, .int .u32 0, .int .i64 0, .slice none 0 0, .string ⟨#[]⟩, .int .i64 0, .int .i64 0] 58)) w16.heap.size 58 #[.string ⟨#[]⟩, .int .i64 0, .bool false, .int .i64 0, .int .i64 0, .int .i64 0, .int .u32 0, .int .u32 0, .int .u32 0, .int .u32 0, .int .u32 0, .int .u32 0, .int .u32 0, .int .u32 0, .int .u32 0, .int .u32 0, .int .u32 0, .int .u32 0, .int .u32 0, .int .u32 0, .int .u32 0, .int .u32 0, .int .i64 0, .slice none 0 0, .string ⟨#[]⟩, .int .i64 0, .int .i64 0]) := Has.fresh _ _ _
  have hb17 : Below w16.heap.size w16 w17 := hw17 ▸ ((Below.refl _ _).alloc (Nat.le_refl _) _).rowK (Nat.le_refl _) _
  have L17 := hid (L16.out.on hb17)
  have R17 : Hid (Has w17 w.heap.size 4 #[.bool false]) := R16.out.kept hb17 R16.out.inside
  clear hb17
  obtain ⟨own18, hD18⟩ := L17.out.headD
  have C18 := hid (item_any hD18 (GW.out _ L17.out.bl).1 (GW.out _ L17.out.bl).2 gRoot [47] (by decide) (by decide))
  rw [HO2.out.is] at C18
  clear hD18
  go_wp2_with (first
   | (refine wpList_store_row rfl 58 (.tmp 12) (.tmp 143) rfl w16.heap.size recZ rfl rfl 58 _ X17.out (by kernel_rfl) rfl recZ_all ?_; rw [hw17]))
  refine C18.out.mono ?_; rintro e18 w18 ⟨cs18, rfl, _, _, _, hz18, hb18⟩
  obtain rfl := hz18 (by decide)
  clear hz18
  dsimp only
  have L18 := hid (L17.out.on hb18)
  have R18 : Hid (Has w18 w.heap.size 4 #[.bool false]) := R17.out.kept hb18 R17.out.inside
  clear hb18
  obtain ⟨w19, hw19⟩ : ∃ V, (w18.alloc (.cells #[.string ⟨#[]⟩, .int .i64 0, .bool false, .int .i64 0, .int .i64 0, .int .i64 0, .int .u32 0, .int .u32 0, .int .u32 0, .int .u32 0, .int .u32 0, .int .u32 0, .int .u32 0, .int .u32 0, .int .u32 0, .int .u32 0, .int .u32 0, .int .u32 0, .int .u32 0, .int .u32 0, .int .u32 0, .int .u32 0, .int .i64 0, .slice none 0 0, .string ⟨#[]⟩, .int .i64 0, .int .i64 0] 58)).setRow w18.heap.size recZ = V := ⟨_, rfl⟩
  have X19 : Hid (Has (w18.alloc (.cells #[.string ⟨#[]⟩, .int .i64 0, .bool false, .int .i64 0, .int .i64 0, .int .i64 0, .int .u32 0, .int .u32 0, .int .u32 0, .int .u32 0, .int .u32 0, .int .u32 0, .int .u32 0, .int .u32 0, .int .u32 0, .int .u32 0, .int .u32 0, .int .u32 0, .int .u32 0, .int .u32 0, .int .u32 0, .int .u32 0, .int .i64 0, .slice none 0 0, .string ⟨#[]⟩, .int .i64 0, .int .i64 0] 58)) w18.heap.size 58 #[.string ⟨#[]⟩, .int .i64 0, .bool false, .int .i64 0, .int .i64 0, .int .i64 0, .int .u32 0, .int .u32 0, .int .u32 0, .int .u32 0, .int .u32 0, .int .u32 0, .int .u32 0, .int .u32 0, .int .u32 0, .int .u32 0, .int .u32 0, .int .u32 0, .int .u32 0, .int .u32 0, .int .u32 0, .int .u32 0, .int .i64 0, .slice none 0 0, .string ⟨#[]⟩, .int .i64 0, .int .i64 0]) := Has.fresh _ _ _
  have hb19 : Below w18.heap.size w18 w19 := hw19 ▸ ((Below.refl _ _).alloc (Nat.le_refl _) _).rowK (Nat.le_refl _) _
  have L19 := hid (L18.out.on hb19)
  have R19 : Hid (Has w19 w.heap.size 4 #[.bool false]) := R18.out.kept hb19 R18.out.inside
  clear hb19
  obtain ⟨own20, hD20⟩ := L19.out.headD
  have C20 := hid (walk_any hD20 (GW.out _ L19.out.bl).1 (GW.out _ L19.out.bl).2 HO.out.dg [102, 50] (.pointer none) none .none)
  rw [HO2.out.r2] at C20
  clear hD20
  go_wp2_with (first
   | (refine wpList_store_row rfl 58 (.tmp 14) (.tmp 148) rfl w18.heap.size recZ rfl rfl 58 _ X19.out (by kernel_rfl) rfl recZ_all ?_; rw [hw19]))
  refine C20.out.mono ?_; rintro e20 w20 ⟨vi20, vs20, rfl, hR20, hS20, hb20⟩
  have L20 := hid (L19.out.on hb20)
  have R20 : Hid (Has w20 w.heap.size 4 #[.bool false]) := R19.out.kept hb20 R19.out.inside
  clear hb20
  obtain ⟨B0_20, d0_20, rfl⟩ := hR20.form
  obtain ⟨B1_20, d1_20, g1_20⟩ := (hS20 1 (by omega) (by omega)).form
  obtain ⟨B2_20, d2_20, g2_20⟩ := (hS20 2 (by omega) (by omega)).form
  obtain ⟨B3_20, d3_20, g3_20⟩ := (hS20 3 (by omega) (by omega)).form
  rw [g1_20, g2_20, g3_20]
  generalize (foundM none M.now [102, 50]).items.length = m0_20
  generalize (lsOf (foundM none M.now [102, 50]) 1).length = m1_20
  generalize (lsOf (foundM none M.now [102, 50]) 2).length = m2_20
  generalize (lsOf (foundM none M.now [102, 50]) 3).length = m3_20
  clear hR20 hS20 g1_20 g2_20 g3_20
  obtain ⟨w21, hw21⟩ : ∃ V, w20.alloc (.cells #[.slice B0_20 m0_20 d0_20, .slice B1_20 m1_20 d1_20, .slice B2_20 m2_20 d2_20, .slice B3_20 m3_20 d3_20] 39) = V := ⟨_, rfl⟩
  have hb21 : Below w20.heap.size w20 w21 := hw21 ▸ (Below.refl _ _).alloc (Nat.le_refl _) _
  have X21 : Hid (Has w21 w20.heap.size 39 #[.slice B0_20 m0_20 d0_20, .slice B1_20 m1_20 d1_20, .slice B2_20 m2_20 d2_20, .slice B3_20 m3_20 d3_20]) := by rw [← hw21]; exact Has.fresh _ _ _
  have L21 := hid (L20.out.on hb21)
  have R21 : Hid (Has w21 w.heap.size 4 #[.bool false]) := R20.out.kept hb21 R20.out.inside
  clear hb21
  obtain ⟨own22, hD22⟩ := L21.out.headD
  have C22 := hid (walk_any hD22 (GW.out _ L21.out.bl).1 (GW.out _ L21.out.bl).2 HO.out.dg [102, 49, 47, 97] (.pointer none) none .none)
  rw [HO2.out.ra] at C22
  clear hD22
  go_wp2_with fail
  refine C22.out.mono ?_; rintro e22 w22 ⟨vi22, vs22, rfl, hR22, hS22, hb22⟩
  have L22 := hid (L21.out.on hb22)
  have R22 : Hid (Has w22 w.heap.size 4 #[.bool false]) := R21.out.kept hb22 R21.out.inside
  clear hb22
  obtain ⟨B0_22, d0_22, rfl⟩ := hR22.form
  obtain ⟨B1_22, d1_22, g1_22⟩ := (hS22 1 (by omega) (by omega)).form
  obtain ⟨B2_22, d2_22, g2_22⟩ := (hS22 2 (by omega) (by omega)).form
  obtain ⟨B3_22, d3_22, g3_22⟩ := (hS22 3 (by omega) (by omega)).form
  rw [g1_22, g2_22, g3_22]
  generalize (foundM none M.now [102, 49, 47, 97]).items.length = m0_22
  generalize (lsOf (foundM none M.now [102, 49, 47, 97]) 1).length = m1_22
  generalize (lsOf (foundM none M.now [102, 49, 47, 97]) 2).length = m2_22
  generalize (lsOf (foundM none M.now [102, 49, 47, 97]) 3).length = m3_22
  clear hR22 hS22 g1_22 g2_22 g3_22
  obtain ⟨w23, hw23⟩ : ∃ V, w22.alloc (.cells #[.slice B0_22 m0_22 d0_22, .slice B1_22 m1_22 d1_22, .slice B2_22 m2_22 d2_22, .slice B3_22 m3_22 d3_22] 39) = V := ⟨_, rfl⟩
  have hb23 : Below w22.heap.size w22 w23 := hw23 ▸ (Below.refl _ _).alloc (Nat.le_refl _) _
  have X23 : Hid (Has w23 w22.heap.size 39 #[.slice B0_22 m0_22 d0_22, .slice B1_22 m1_22 d1_22, .slice B2_22 m2_22 d2_22, .slice B3_22 m3_22 d3_22]) := by rw [← hw23]; exact Has.fresh _ _ _
  have L23 := hid (L22.out.on hb23)
  have R23 : Hid (Has w23 w.heap.size 4 #[.bool false]) := R22.out.kept hb23 R22.out.inside
  clear hb23
  obtain ⟨own24, hD24⟩ := L23.out.headD
  have C24 := hid (walk_any hD24 (GW.out _ L23.out.bl).1 (GW.out _ L23.out.bl).2 HO.out.dg [] (.pointer none) none .none)
  rw [HO2.out.re] at C24
  clear hD24
  go_wp2_with fail
  refine C24.out.mono ?_; rintro e24 w24 ⟨vi24, vs24, rfl, hR24, hS24, hb24⟩
  have L24 := hid (L23.out.on hb24)
  have R24 : Hid (Has w24 w.heap.size 4 #[.bool false]) := R23.out.kept hb24 R23.out.inside
  clear hb24
  obtain ⟨B0_24, d0_24, rfl⟩ := hR24.form
  obtain ⟨B1_24, d1_24, g1_24⟩ := (hS24 1 (by omega) (by omega)).form
  obtain ⟨B2_24, d2_24, g2_24⟩ := (hS24 2 (by omega) (by omega)).form
  obtain ⟨B3_24, d3_24, g3_24⟩ := (hS24 3 (by omega) (by omega)).form
  rw [g1_24, g2_24, g3_24]
  generalize (foundM none M.now []).items.length = m0_24
  generalize (lsOf (foundM none M.now []) 1).length = m1_24
  generalize (lsOf (foundM none M.now []) 2).length = m2_24
  generalize (lsOf (foundM none M.now []) 3).length = m3_24
  clear hR24 hS24 g1_24 g2_24 g3_24
  obtain ⟨w25, hw25⟩ : ∃ V, w24.alloc (.cells #[.slice B0_24 m0_24 d0_24, .slice B1_24 m1_24 d1_24, .slice B2_24 m2_24 d2_24, .slice B3_24 m3_24 d3_24] 39) = V := ⟨_, rfl⟩
  have hb25 : Below w24.heap.size w24 w25 := hw25 ▸ (Below.refl _ _).alloc (Nat.le_refl _) _
  have X25 : Hid (Has w25 w24.heap.size 39 #[.slice B0_24 m0_24 d0_24, .slice B1_24 m1_24 d1_24, .slice B2_24 m2_24 d2_24, .slice B3_24 m3_24 d3_24]) := by rw [← hw25]; exact Has.fresh _ _ _
  have L25 := hid (L24.out.on hb25)
  have R25 : Hid (Has w25 w.heap.size 4 #[.bool false]) := R24.out.kept hb25 R24.out.inside
  clear hb25
  have C26 := hid (walk_none gRoot w25)
  go_wp2_with fail
  refine C26.out.mono ?_; rintro e26 w26 ⟨rfl, hb26⟩
  have L26 := hid (L25.out.on hb26)
  have R26 : Hid (Has w26 w.heap.size 4 #[.bool false]) := R25.out.kept hb26 R25.out.inside
  clear hb26
  obtain ⟨w27, hw27⟩ : ∃ V, (w26.alloc (.cells #[.slice none 0 0, .slice none 0 0, .slice none 0 0, .slice none 0 0] 39)).setRow w26.heap.size #[.slice none 0 0, .slice none 0 0, .slice none 0 0, .slice none 0 0] = V := ⟨_, rfl⟩
  have X27 : Hid (Has (w26.alloc (.cells #[.slice none 0 0, .slice none 0 0, .slice none 0 0, .slice none 0 0] 39)) w26.heap.size 39 #[.slice none 0 0, .slice none 0 0, .slice none 0 0, .slice none 0 0]) := Has.fresh _ _ _
  have hb27 : Below w26.heap.size w26 w27 := hw27 ▸ ((Below.refl _ _).alloc (Nat.le_refl _) _).rowK (Nat.le_refl _) _
  have L27 := hid (L26.out.on hb27)
  have R27 : Hid (Has w27 w.heap.size 4 #[.bool false]) := R26.out.kept hb27 R26.out.inside
  clear hb27
  have C28 := hid (item_none gRoot [97] (by decide) (by decide) w27)
  go_wp2_with (first
   | (refine wpList_store_row rfl 39 (.tmp 22) (.tmp 167) rfl w26.heap.size #[.slice none 0 0, .slice none 0 0, .slice none 0 0, .slice none 0 0] rfl rfl 39 _ X27.out (by kernel_rfl) rfl (by simp [Value.oneCell']) ?_; rw [hw27]))
  refine C28.out.mono ?_; rintro e28 w28 ⟨rfl, hb28⟩
  have L28 := hid (L27.out.on hb28)
  have R28 : Hid (Has w28 w.heap.size 4 #[.bool false]) := R27.out.kept hb28 R27.out.inside
  clear hb28
  obtain ⟨w29, hw29⟩ : ∃ V, (w28.alloc (.cells #[.string ⟨#[]⟩, .int .i64 0, .bool false, .int .i64 0, .int .i64 0, .int .i64 0, .int .u32 0, .int .u32 0, .int .u32 0, .int .u32 0, .int .u32 0, .int .u32 0, .int .u32 0, .int .u32 0, .int .u32 0, .int .u32 0, .int .u32 0, .int .u32 0, .int .u32 0, .int .u32 0, .int .u32 0, .int .u32 0, .int .i64 0, .slice none 0 0, .string ⟨#[]⟩, .int .i64 0, .int .i64 0] 58)).setRow w28.heap.size recZ = V := ⟨_, rfl⟩
  have X29 : Hid (Has (w28.alloc (.cells #[.string ⟨#[]⟩, .int .i64 0, .bool false, .int .i64 0, .int .i64 0, .int .i64 0, .int .u32 0, .int .u32 0, .int .u32 0, .int .u32 0, .int .u32 0, .int .u32 0, .int .u32 0, .int .u32 0, .int .u32 0, .int .u32 0, .int .u32 0, .int .u32 0, .int .u32 0, .int .u32 0, .int .u32 0, .int .u32 0, .int .i64 0, .slice none 0 0, .string ⟨#[]⟩, .int .i64 0, .int .i64 0] 58)) w28.heap.size 58 #[.string ⟨#[]⟩, .int .i64 0, .bool false, .int .i64 0, .int .i64 0, .int .i64 0, .int .u32 0, .int .u32 0, .int .u32 0, .int .u32 0, .int .u32 0, .int .u32 0, .int .u32 0, .int .u32 0, .int .u32 0, .int .u32 0, .int .u32 0, .int .u32 0, .int .u32 0, .int .u32 0, .int .u32 0, .int .u32 0, .int .i64 0, .slice none 0 0, .string ⟨#[]⟩, .int .i64 0, .int .i64 0]) := Has.fresh _ _ _
  have hb29 : Below w28.heap.size w28 w29 := hw29 ▸ ((Below.refl _ _).alloc (Nat.le_refl _) _).rowK (Nat.le_refl _) _
  have L29 := hid (L28.out.on hb29)
  have R29 : Hid (Has w29 w.heap.size 4 #[.bool false]) := R28.out.kept hb29 R28.out.inside
  clear hb29
  have C30 := hid (weach_none gRoot w29)
  go_wp2_with (first
   | (refine wpList_store_row rfl 58 (.tmp 24) (.tmp 171) rfl w28.heap.size recZ rfl rfl 58 _ X29.out (by kernel_rfl) rfl recZ_all ?_; rw [hw29]))
  refine C30.out.mono ?_; rintro e30 w30 ⟨rfl, hw30⟩
  go_wp2
  rw [← hw30]
  have b30 : Below w29.heap.size w29 w30 := by rw [hw30]; exact ((Below.refl _ _).alloc (Nat.le_refl _) _).alloc (by simp) _
  have D30 : Has w30 w29.heap.size 26 #[.pointer none] := by rw [hw30]; exact (Has.fresh _ _ _).more _
  have E30 : Has w30 (w29.heap.size + 1) 9 #[kS gRoot] := by rw [hw30]; exact Has.fresh' _ _ _ (by simp)
  have ST := each_none 8 (by omega) gRoot (by decide) _ _ D30 E30
  have R30 : Hid (Has w30 w.heap.size 4 #[.bool false]) := R29.out.kept b30 R29.out.inside
  have B30 : Hid (Below w.heap.size w w30) := L29.out.bl.trans (b30.mono L29.out.bl.size)
  clear hw30 b30 D30 E30
  refine (wpIn_wide (n := 9)).1 ?_
  refine wpIn_rangeFunc_ownH (F := Fence.wide) (n := 9) rfl (by omega) (gf := 66) (lb := #[.pointer (some ⟨w29.heap.size, 0, none⟩), .pointer (some ⟨w29.heap.size + 1, 0, none⟩)]) rfl trivial (enters_of Tryz.func66 (by kernel_rfl) rfl)
   ST KpE.trans (fun W il o o' h1 h2 h3 h4 => KpE.putObj _ W il o o' h1 h2 h3 h4) (Below.refl _ _) (fun _ => rfl)
   (fun pre W => Below w30.heap.size w30 W)
   (fun _ _ _ => False) ?hI (fun _ _ _ _ _ hs _ _ => hs) (Below.refl _ _)
   (fun x a' W => False) ?hAx ?assign ?body ?done ?stop
  case hI =>
   rintro pre W W' row hB hg hr
   exact hB.grown hg hB.size (fun r e => (hr r e).1)
  case hAx =>
   rintro x a' u W W' row ha hg hr
   exact ha.elim
  case assign =>
   rintro il pre ⟨x, hx⟩
   cases hx
  case body =>
   rintro il pre ⟨x, hx⟩
   cases hx
  case stop => exact fun _ _ _ _ _ _ h _ => h.elim
  case done =>
   rintro D ys W hD hys hB hK
   have R9 := R30.out.kept hB R30.out.inside
   have B9 : Hid (Below w.heap.size w W) := B30.out.trans (hB.mono B30.out.size)
   have c0 := R9.at_ 0
   have c1 := R9.free 0
   obtain ⟨W10, hW10⟩ : ∃ W10, W.setCell ⟨w.heap.size, 0, none⟩ (.bool true) = W10 := ⟨_, rfl⟩
   have K10 : Hid (W10.heap[D]? = some (.deferred (some []))) := by
    rw [← hW10]
    refine (Below.heap_setCell W ⟨w.heap.size, 0, none⟩ _ D ?_).trans hK
    rintro rfl
    have := R9; unfold Has at this; rw [hK] at this; cases this
   have Y10 : Hid (Has W10 w.heap.size 4 #[.bool true]) := by rw [← hW10]; exact R9.put 0 _
   have BF : Hid (Below w.heap.size w W10) := by rw [← hW10]; exact B9.out.setCell (p := ⟨w.heap.size, 0, none⟩) (Nat.le_refl _) _
   clear hB hK hys R9
   go_wp2
   try rw [hW10]
   refine ⟨by simp, .inl ⟨_, _, rfl, run_takeDeferred K10.out, ?_⟩⟩
   have kq : Kq W10 (W10.putObj D (.deferred none)) := Kq.of_own (grownBy_putObj' W10 D _) (fun r e => by cases e; exact ⟨_, K10.out, rfl⟩)
   refine ⟨_, results_bk rfl _ _ w.heap.size true rfl ((Y10.out.kq kq).at_ 0), rfl, ?_⟩
   exact BF.out.grown (grownBy_putObj' W10 D _) BF.out.size (fun r e => by cases e; have := B30.out.size; omega)
end Go.Proofs.YtahkcemdbfjilaaGreatDoor
