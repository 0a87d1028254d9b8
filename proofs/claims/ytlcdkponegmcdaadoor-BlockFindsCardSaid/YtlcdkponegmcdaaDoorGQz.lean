/- The walk of BlockFinds. Conditions: the listed table; acts in a block of the world. -/
import Derived.Test.YtlcdkponegmcdaaDoorGZ2
namespace Go.Proofs.YtlcdkponegmcdaaDoor
open Go.RowKit
theorem xor85 (x : UInt8) : ∃ z : UInt8, bits .xor .u8 (b8 x) 85 = b8 z := by
  have h : ∀ i : _root_.Fin 256, 0 ≤ bits .xor .u8 ((i.val : Nat) : Int) 85 ∧ bits .xor .u8 ((i.val : Nat) : Int) 85 < 256 := by decide +kernel
  have hx := x.toNat_lt
  have h9 := h ⟨x.toNat, by omega⟩
  refine ⟨UInt8.ofNat (bits .xor .u8 (b8 x) 85).toNat, ?_⟩
  rw [b8_ofNat]
  have e : (bits .xor .u8 (b8 x) 85) = bits .xor .u8 ((x.toNat : Nat) : Int) 85 := rfl
  rw [e]
  generalize bits .xor .u8 ((x.toNat : Nat) : Int) 85 = z at h9 ⊢
  have h9 : 0 ≤ z ∧ z < 256 := h9
  omega
theorem hcells_two (d z : By) : hcells [d, z] = (d ++ z).map V8 := by simp [hcells]
theorem run_build_dg2 (w : World) (d z : By) (hd : d.length = 32) (hz : z.length = 32) :
    (Instr.buildSlice 28 2 #[(0, Value.agg (hvec d)), (1, Value.agg (hvec z))]).run Tryd.prog w = .ok (.slice (some ⟨w.heap.size, 0, none⟩) 2 2) (w.alloc (.cells (hvec (d ++ z)) 27)) := by
  have hI : (Tryd.prog.info? 27).map (fun i => (i.size, i.zero)) = some (32, some (.agg (hvec (List.replicate 32 0)))) := by kernel_rfl
  cases hie : Tryd.prog.info? 27 with
  | none => rw [hie] at hI; cases hI
  | some ie =>
    rw [hie] at hI
    simp only [Option.map_some, Option.some.injEq, Prod.mk.injEq] at hI
    refine run_buildSlice (P := Tryd.prog) w 28 27 2 _ _ ie _ Tryd.underlying28 hie hI.2 (by rw [hI.1]; omega) (by rw [hI.1]; omega) ?_
    rw [hI.1]
    refine (Great.fill_whole (s := 32) (by omega) [Value.agg (hvec d), Value.agg (hvec z)] _ (fun v hv => ?_) (by simp)).trans (by simp [Value.cells, hvec])
    simp only [List.mem_cons, List.not_mem_nil, or_false] at hv
    rcases hv with rfl | rfl
    · show (hvec d).size = 32
      rw [hvec_size, hd]
    · show (hvec z).size = 32
      rw [hvec_size, hz]
section
variable {ops : Array Oper} {o : Oper} {a : Act}
theorem step_build_dg2 {w : World} {K : Act → World → Prop} {Q : Exit → Act → World → Prop} {E : Prop} (hw : Region.wanted o (yielded ops a.tmps) = true) (x y : Operand) (ho : o.op = .buildSlice 28 2 #[(0, x), (1, y)]) (d z : By) (hx : a.eval x = .agg (hvec d)) (hy : a.eval y = .agg (hvec z)) (hd : d.length = 32) (hz : z.length = 32)
    (hK : K (a.put o.dst (.slice (some ⟨w.heap.size, 0, none⟩) 2 2)) (w.alloc (.cells (hvec (d ++ z)) 27))) : if Region.wanted o (yielded ops a.tmps) = true then Oper.wp Tryd.prog o a w K Q else E := by
  rw [if_pos hw]
  unfold Oper.wp
  simp only [execOp, ho, hx, hy, Sem.run_bind, List.map_toArray, List.map_cons, List.map_nil, run_build_dg2 w d z hd hz, Result.andThen]
  exact hK
end
theorem FK.more {own : Nat → Prop} {w : World} {p : Nat} {F : By → Option By} {b b' : Nat} (h : FK own w p F b) (hb : b ≤ b') : FK own w p F b' := by
  obtain ⟨P, cf, N, keys, h1, h2, h3, h4⟩ := h
  exact ⟨P, cf, N, keys, h1, h2, Nat.le_trans h3 hb, h4⟩
theorem QSt.more {av : Nat → Prop} {B : Nat} {w wr : World} {pf pg : Nat} {F : By → Option By} {b b' : Nat} {fs : List FileV} {v : Value} {ds : List By} (h : QSt av B w wr pf pg F b fs v ds) (hb : b ≤ b') : QSt av B w wr pf pg F b' fs v ds := by
  obtain ⟨o1, o2, h⟩ := h
  exact ⟨o1, o2, { h with f := h.f.more hb }⟩
theorem dgs_two {B : Nat} {W : World} {g : Nat} {d z : By} (h : Has W g 27 (hvec (d ++ z))) (hd : d.length = 32) (hz : z.length = 32) (hB : B ≤ g) : Dgs B W (.slice (some ⟨g, 0, none⟩) 2 2) [d, z] := by
  refine ⟨⟨?_, .inr ⟨g, 2, hvec (d ++ z), rfl, hB, h, Nat.le_refl _, by unfold maxLen; omega, ?_, ?_⟩⟩, fun c hc => ?_⟩
  · rw [hcells_two, List.length_map, List.length_append, hd, hz]; rfl
  · rw [hvec_size, List.length_append, hd, hz]
  · rw [hcells_two]
    show List.take _ (hvec (d ++ z)).toList = _
    have : (hvec (d ++ z)).toList = (d ++ z).map V8 := by simp [hvec]
    rw [this]
    exact List.take_of_length_le (by rw [List.length_map, List.length_append, hd, hz]; exact Nat.le_refl _)
  · simp only [List.mem_cons, List.not_mem_nil, or_false] at hc
    rcases hc with rfl | rfl
    · exact hd
    · exact hz
def pgv (g : Nat) : Value := .pointer (some ⟨g, 0, none⟩)
set_option maxRecDepth 100000 in
set_option maxHeartbeats 4000000 in
theorem finds_big (A : Option Addr) (n cap bb off : Nat) (xs : List ActT) (d : By) (w : World) (_h : ActsIn w A n bb off xs) (hT : Sha.Tab w) (hl : 40 < n) :
    Calls Tryd.prog 5 #[.slice A n cap, .agg (hvec d)] w fun e w' => e = .returned (.bool true) ∧ Below w.heap.size w w' := by
  have h1 : (40 : Int) < (n : Int) := by omega
  have hbx : Below w.heap.size w (w.alloc (.cells (hvec d) 27)) := (Below.refl _ _).alloc (Nat.le_refl _) _
  have CA := hid (awake_any (w.alloc (.cells (hvec d) 27)) (hT.kept hbx hT.pos))
  have HBX := hid hbx
  clear _h hl hT hbx
  go_enter Tryd.func5, Tryd.ntmps5
  go_wp2_with (go_at_call 14; refine CA.out.mono ?_; rintro e5 w5 ⟨rfl, hb5⟩)
  go_ret
  exact ⟨rfl, HBX.out.trans (hb5.mono HBX.out.size)⟩
set_option maxRecDepth 100000 in
set_option maxHeartbeats 64000000 in
theorem blockfinds_any (A : Option Addr) (n cap bb off : Nat) (xs : List ActT) (d : By) (hd : d.length = 32) (w : World) (h : ActsIn w A n bb off xs) (hT : Sha.Tab w) :
    Calls Tryd.prog 5 #[.slice A n cap, .agg (hvec d)] w fun e w' => e = .returned (.bool true) ∧ Below w.heap.size w w' := by
  by_cases hb : 40 < n
  · exact finds_big A n cap bb off xs d w h hT hb
  have hn40 : n ≤ 40 := by omega
  have h1 : ¬ (40 : Int) < (n : Int) := by omega
  have HA := hid h
  have HT := hid hT
  have HPOS := hid hT.pos
  have HN : Hid (xs.length = n) := h.len
  have HOK := hid h.ok
  have HDL := hid hd
  have hbx : Below w.heap.size w (w.alloc (.cells (hvec d) 27)) := (Below.refl _ _).alloc (Nat.le_refl _) _
  have HX1 : Hid (Has (w.alloc (.cells (hvec d) 27)) w.heap.size 27 (hvec d)) := Has.fresh w 27 _
  have HB1 := hid hbx
  obtain ⟨w1, HW1⟩ : ∃ w1, Hid (w.alloc (.cells (hvec d) 27) = w1) := ⟨_, rfl⟩
  have HW1S : Hid (w.heap.size < w1.heap.size) := by show _ < _; rw [← HW1.out]; simp
  rw [HW1.out] at HX1 HB1
  clear h hT hb hd hbx
  go_enter Tryd.func5, Tryd.ntmps5
  go_wp2_with (fail)
  rw [HW1.out]
  refine (newk_any w1).mono ?_
  rintro e2 w2 ⟨o1, pf, rfl, hf2, hl2, hb2⟩
  have HB2 : Hid (Below w.heap.size w w2) := HB1.out.trans (hb2.mono HB1.out.size)
  have hb3 : Below w2.heap.size w2 (w2.alloc (.cells #[.slice none 0 0] 45)) := (Below.refl _ _).alloc (Nat.le_refl _) _
  have hx3 : Has (w2.alloc (.cells #[.slice none 0 0] 45)) w2.heap.size 45 #[.slice none 0 0] := Has.fresh w2 45 _
  obtain ⟨w3, HW3⟩ : ∃ w3, Hid (w2.alloc (.cells #[.slice none 0 0] 45) = w3) := ⟨_, rfl⟩
  have HW3S : Hid (w2.heap.size < w3.heap.size) := by show _ < _; rw [← HW3.out]; simp
  obtain ⟨pg, HPG⟩ : ∃ pg, Hid (w2.heap.size = pg) := ⟨_, rfl⟩
  rw [HW3.out] at hb3 hx3
  have Q3 : Hid (QSt (fun _ => False) w.heap.size w w3 pf pg (fun _ => none) 0 [] (.slice none 0 0) []) := by
    have hsz := HW3S.out
    have hs1 := HW1S.out
    refine ⟨o1, fun k => k = pg, hf2.on hb3, ⟨.slice none 0 0, fun k hk => by rw [hk, ← HPG.out]; exact hsz, by rw [← HPG.out]; exact hx3, rfl, LRow.nil _ _, (fun k hk => by cases hk), (fun a ha => by cases ha)⟩, fun k hk => by have := hl2 k hk; omega, fun k hk => by have := HB2.out.size; rw [hk, ← HPG.out]; exact this, fun k hk hh => by have := hf2.low k hk; rw [hh, ← HPG.out] at this; omega, Dgs.nil _ _, (fun k hk => by cases hk), (fun k hk => by cases hk), (fun k hk => by cases hk), (fun k hk => by cases hk), (fun k hk => by cases hk), (fun k hk => by cases hk), HB2.out.trans (hb3.mono HB2.out.size), Nat.le_trans HB2.out.size hb3.size⟩
  have X3 : Hid (Has w3 w.heap.size 27 (hvec d)) := (HX1.out.kept hb2 HW1S.out).on hb3
  have X3d : Hid (Has w3.drew w.heap.size 27 (hvec d)) := X3.out
  have Q3d : Hid (QSt (fun _ => False) w.heap.size w w3.drew pf pg (fun _ => none) 0 [] (.slice none 0 0) []) := Q3.out.on (Below.refl _ _).drew
  obtain ⟨z, HZ⟩ : ∃ z, Hid (dg [] = z) := ⟨_, rfl⟩
  have HZL : Hid (z.length = 32) := by show _ = _; rw [← HZ.out]; exact dg_len _
  have CS := hid (rsum_any (.slice none 0 0) [] none 0 0 0 w3.drew (Bytes.nil _ (Nat.lt_of_lt_of_le HPOS.out Q3d.out.below.2)) (by simp))
  rw [HZ.out] at CS
  clear hf2 hl2 hb2 hb3 hx3
  go_wp2
  generalize hWW : World.alloc _ _ = W0
  obtain rfl : w3 = W0 := HW3.out.symm.trans hWW
  clear hWW
  rw [HPG.out]
  refine wp_region_noPanic ?_
  refine wp_region_held_drew (S := fun W => Has W w.heap.size 27 (hvec d)) (by kernel_rfl) (X3d.out) (fun hS => ?_)
  refine' wpAnyH_take (i := 0) (v := _) (by simp only [List.getElem?_toArray, List.getElem?_cons_zero]; rfl) (by kernel_rfl) (by kernel_rfl) (by kernel_rfl) (fun _ _ _ h => h) (yields_load_h (by rfl) (.tmp 3) rfl w.heap.size 0 rfl d (fun w hS => load_h hS HDL.out)) (by assumption) ?_
  simp only [Act.put, List.setIfInBounds_toArray, List.set_cons_zero, List.set_cons_succ]
  refine wpAnyH_ready (rs := [1]) (by kernel_rfl) (by simp) ?_
  refine AllReadyH.cons (by simp only [List.getElem?_toArray, List.getElem?_cons_zero, List.getElem?_cons_succ]; rfl) (fun K hK => ?_) AllReadyH.nil
  go_simp
  refine (CS.out).mono ?_
  rintro e4 w4 ⟨rfl, hb4⟩
  have Q4 := hid (Q3d.out.on hb4)
  have hz1 := X3d.out.on hb4
  refine hK.out _ _ hz1 (fun hS => ?_)
  clear hK K hS
  refine wpAnyH_ready (rs := [2]) (by kernel_rfl) (by simp) ?_
  refine AllReadyH.cons (by simp only [List.getElem?_toArray, List.getElem?_cons_zero, List.getElem?_cons_succ]; rfl) (fun K hK => ?_) AllReadyH.nil
  refine step_build_dg2 (by rfl) (.tmp 36) (.tmp 37) rfl d z rfl rfl HDL.out HZL.out ?_
  have hbA : Below w4.heap.size w4 (w4.alloc (.cells (hvec (d ++ z)) 27)) := (Below.refl _ w4).alloc (Nat.le_refl _) _
  have hgA : Has (w4.alloc (.cells (hvec (d ++ z)) 27)) w4.heap.size 27 (hvec (d ++ z)) := Has.fresh w4 27 _
  obtain ⟨w5, HW5⟩ : ∃ w5, Hid (w4.alloc (.cells (hvec (d ++ z)) 27) = w5) := ⟨_, rfl⟩
  obtain ⟨ga, HGA⟩ : ∃ ga, Hid (w4.heap.size = ga) := ⟨_, rfl⟩
  rw [HW5.out] at hbA hgA
  have Q5 : Hid (QSt (fun _ => False) w.heap.size w w5 pf pg (fun _ => none) 0 [] (.slice (some ⟨ga, 0, none⟩) 2 2) [d, z]) := by rw [← HGA.out]; exact Q4.out.setrow hbA (dgs_two hgA HDL.out HZL.out (Nat.le_refl _))
  have hz5 : Has w5 w.heap.size 27 (hvec d) := hz1.on hbA
  rw [HW5.out, HGA.out]
  refine hK.out _ _ hz5 (fun hS => ?_)
  clear hK K hS
  refine wpAnyH_take (i := 3) (v := ?_) (by simp only [List.getElem?_toArray, List.getElem?_cons_zero, List.getElem?_cons_succ]; rfl) (by kernel_rfl) (by kernel_rfl) (by kernel_rfl) (fun _ _ _ h => h) (Or.inl ⟨by rfl, ?_⟩) (by assumption) ?_
  rotate_left 1
  · intro w hSw
    go_simp
    try with_reducible rfl
  simp only [Act.put, List.setIfInBounds_toArray, List.set_cons_zero, List.set_cons_succ]
  refine wpAnyH_done (by kernel_rfl) ?_ _
  refine NoPanic.normal ?_
  clear hz1 hz5 hbA hgA hb4
  have HXK : Hid (∀ W, Below w.heap.size w W → ∀ i, i < n → ActAt W bb (off + i * 4) (xs.getD i act0)) := fun W hW i hi => (HA.out.at_ i hi).kept hW (Nat.le_refl _)
  go_wp2
  go_loopw [7, 8, 9, 10, 11, 12, 13, 14] (fun v7 v8 _ _ _ _ _ _ wr => ∃ (i : Nat) (F : By → Option By) (fs : List FileV) (ds : List By), i ≤ n ∧ v8 = .int .i64 (i : Int) ∧ fs.length ≤ i ∧ ds.length ≤ 2 + 2 * i ∧ Hid (QSt (fun _ => False) w.heap.size w wr pf pg F (120 * i) fs v7 ds) ∧ Hid (FR F fs)) (fun _ v8 _ _ _ _ _ _ _ => n - (intOf v8).toNat)
  case atStart => exact ⟨0, fun _ => none, [], [d, z], by omega, rfl, Nat.le_refl _, by simp, Q5.out, fr_none⟩
  case round =>
    obtain ⟨wo, hwo⟩ : ∃ wo, wo = wr := ⟨_, rfl⟩
    subst hwo
    obtain ⟨i, F, fs, ds, hi, rfl, hfl, hdl, HQ, HF⟩ := hrel
    by_cases hlt : i < n
    · have hlt2 : (i : Int) < (n : Int) := by omega
      have w1' : IntKind.i64.wrap ((i : Int) + 1) = (i : Int) + 1 := i64in _ (by omega) (by omega)
      obtain ⟨hA, hbbw⟩ := HA.out.src (by omega)
      subst hA
      have hix : i < xs.length := by rw [HN.out]; exact hlt
      obtain ⟨x, HX⟩ : ∃ x, Hid (xs.getD i act0 = x) := ⟨_, rfl⟩
      have HXO : Hid (ActOk x) := by show ActOk _; rw [← HX.out]; exact HOK.out _ (by rw [List.getD, List.getElem?_eq_getElem hix]; exact List.getElem_mem _)
      have hxa := HXK.out wo HQ.out.below.1 i hlt
      rw [HX.out] at hxa
      obtain ⟨G, HGX⟩ : ∃ G, Hid (x.gone = G) := ⟨_, rfl⟩
      obtain ⟨N, HNX⟩ : ∃ N, Hid (x.name = N) := ⟨_, rfl⟩
      obtain ⟨T, HTX⟩ : ∃ T, Hid (x.text = T) := ⟨_, rfl⟩
      obtain ⟨L, HLX⟩ : ∃ L, Hid (x.long = L) := ⟨_, rfl⟩
      have HNN : Hid (ba (nm x) = N) := by show _ = _; rw [← HNX.out]; exact ba_tl x.name
      have c0 : wo.cell? ⟨bb, off + i * 4, none⟩ = some (.bool G) := by rw [← HGX.out]; exact hxa.c0
      have c1 : wo.cell? ⟨bb, off + i * 4 + 1, none⟩ = some (.string N) := by rw [← HNX.out]; exact hxa.c1
      have c2 : wo.cell? ⟨bb, off + i * 4 + 2, none⟩ = some (.string T) := by rw [← HTX.out]; exact hxa.c2
      have c3 : wo.cell? ⟨bb, off + i * 4 + 3, none⟩ = some (.int .i64 L) := by rw [← HLX.out]; exact hxa.c3
      have HACX : Hid (actCells x = #[.bool G, .string N, .string T, .int .i64 L]) := by show _ = _; rw [actCells, HGX.out, HNX.out, HTX.out, HLX.out]
      have hbx : Below wo.heap.size wo (wo.alloc (.cells #[.bool G, .string N, .string T, .int .i64 L] 47)) := (Below.refl _ _).alloc (Nat.le_refl _) _
      have hxb : Has (wo.alloc (.cells #[.bool G, .string N, .string T, .int .i64 L] 47)) wo.heap.size 47 #[.bool G, .string N, .string T, .int .i64 L] := Has.fresh wo 47 _
      obtain ⟨wb, HWB⟩ : ∃ wb, Hid (wo.alloc (.cells #[.bool G, .string N, .string T, .int .i64 L] 47) = wb) := ⟨_, rfl⟩
      obtain ⟨bx, HBX⟩ : ∃ bx, Hid (wo.heap.size = bx) := ⟨_, rfl⟩
      have HBS : Hid (wo.heap.size ≤ bx ∧ bx < wb.heap.size) := by show _ ∧ _; rw [← HWB.out, ← HBX.out]; simp
      rw [HWB.out] at hbx hxb
      rw [HBX.out] at hxb
      have HXB := hid hxb
      have HBB := hid hbx
      have HHAS : Hid ((F (nm x)).isSome = fhas fs (nm x)) := fr_has HF.out (nm x)
      obtain ⟨hb, HHB⟩ : ∃ hb, Hid (fhas fs (nm x) = hb) := ⟨_, rfl⟩
      have HNE := ne_self hb
      clear hxa hbx hxb
      cases G with
      | true =>
        have QB : Hid (QSt (fun k => wo.heap.size ≤ k ∧ k < wb.drew.heap.size) w.heap.size w wb.drew pf pg F (120 * i) fs u7 ds) := HQ.out.avoid HBB.out.drew
        have CF := hid (QB.out.forget_f HT.out (nm x) (nm_len HXO.out) (by omega))
        rw [HNN.out, HHAS.out, HHB.out] at CF
        have HXD : Hid (Has wb.drew bx 47 #[.bool true, .string N, .string T, .int .i64 L]) := HXB.out
        go_wp2
        generalize hWW : World.alloc _ _ = W0
        obtain rfl : wb = W0 := HWB.out.symm.trans hWW
        clear hWW
        rw [HBX.out]
        refine wp_region_noPanic ?_
        refine wp_region_held_drew (S := fun W => Has W bx 47 #[.bool true, .string N, .string T, .int .i64 L]) (by kernel_rfl) (HXD.out) (fun hS => ?_)
        refine wpAnyH_take (i := 0) (v := ?_) (by simp only [List.getElem?_toArray, List.getElem?_cons_zero]; rfl) (by kernel_rfl) (by kernel_rfl) (by kernel_rfl) (fun _ _ _ h => h) (Or.inl ⟨by rfl, ?_⟩) (by assumption) ?_
        rotate_left 1
        · intro w hSw
          have k1 : w.cell? ⟨bx, 1, none⟩ = some (.string N) := hSw.at_ 1
          go_simp
          try with_reducible rfl
        simp only [Act.put, List.setIfInBounds_toArray, List.set_cons_zero, List.set_cons_succ]
        refine wpAnyH_take (i := 1) (v := ?_) (by simp only [List.getElem?_toArray, List.getElem?_cons_zero, List.getElem?_cons_succ]; rfl) (by kernel_rfl) (by kernel_rfl) (by kernel_rfl) (fun _ _ _ h => h) (Or.inl ⟨by rfl, ?_⟩) (by assumption) ?_
        rotate_left 1
        · intro w hSw
          have k1 : w.cell? ⟨bx, 1, none⟩ = some (.string N) := hSw.at_ 1
          go_simp
          try with_reducible rfl
        simp only [Act.put, List.setIfInBounds_toArray, List.set_cons_zero, List.set_cons_succ]
        refine wpAnyH_take (i := 2) (v := ?_) (by simp only [List.getElem?_toArray, List.getElem?_cons_zero, List.getElem?_cons_succ]; rfl) (by kernel_rfl) (by kernel_rfl) (by kernel_rfl) (fun _ _ _ h => h) (Or.inl ⟨by rfl, ?_⟩) (by assumption) ?_
        rotate_left 1
        · intro w hSw
          have k1 : w.cell? ⟨bx, 1, none⟩ = some (.string N) := hSw.at_ 1
          go_simp
          try with_reducible rfl
        simp only [Act.put, List.setIfInBounds_toArray, List.set_cons_zero, List.set_cons_succ]
        refine wpAnyH_take (i := 4) (v := ?_) (by simp only [List.getElem?_toArray, List.getElem?_cons_zero, List.getElem?_cons_succ]; rfl) (by kernel_rfl) (by kernel_rfl) (by kernel_rfl) (fun _ _ _ h => h) (Or.inl ⟨by rfl, ?_⟩) (by assumption) ?_
        rotate_left 1
        · intro w hSw
          have k1 : w.cell? ⟨bx, 1, none⟩ = some (.string N) := hSw.at_ 1
          go_simp
          try with_reducible rfl
        simp only [Act.put, List.setIfInBounds_toArray, List.set_cons_zero, List.set_cons_succ]
        refine wpAnyH_take (i := 5) (v := ?_) (by simp only [List.getElem?_toArray, List.getElem?_cons_zero, List.getElem?_cons_succ]; rfl) (by kernel_rfl) (by kernel_rfl) (by kernel_rfl) (fun _ _ _ h => h) (Or.inl ⟨by rfl, ?_⟩) (by assumption) ?_
        rotate_left 1
        · intro w hSw
          have k1 : w.cell? ⟨bx, 1, none⟩ = some (.string N) := hSw.at_ 1
          go_simp
          try with_reducible rfl
        simp only [Act.put, List.setIfInBounds_toArray, List.set_cons_zero, List.set_cons_succ]
        refine wpAnyH_take (i := 6) (v := ?_) (by simp only [List.getElem?_toArray, List.getElem?_cons_zero, List.getElem?_cons_succ]; rfl) (by kernel_rfl) (by kernel_rfl) (by kernel_rfl) (fun _ _ _ h => h) (Or.inl ⟨by rfl, ?_⟩) (by assumption) ?_
        rotate_left 1
        · intro w hSw
          have k1 : w.cell? ⟨bx, 1, none⟩ = some (.string N) := hSw.at_ 1
          go_simp
          try with_reducible rfl
        simp only [Act.put, List.setIfInBounds_toArray, List.set_cons_zero, List.set_cons_succ]
        refine wpAnyH_ready (rs := [3]) (by kernel_rfl) (by simp) ?_
        refine AllReadyH.cons (by simp only [List.getElem?_toArray, List.getElem?_cons_zero, List.getElem?_cons_succ]; rfl) (fun K hK => ?_) AllReadyH.nil
        go_simp
        refine (CF.out).mono ?_
        rintro e5 w5 ⟨rfl, hq5, hfr5⟩
        have hz1 := (hfr5 bx HBS.out).trans HXD.out
        refine hK.out _ _ hz1 (fun hS => ?_)
        clear hK K hS
        refine wpAnyH_ready (rs := [7]) (by kernel_rfl) (by simp) ?_
        refine AllReadyH.cons (by simp only [List.getElem?_toArray, List.getElem?_cons_zero, List.getElem?_cons_succ]; rfl) (fun K hK => ?_) AllReadyH.nil
        go_simp
        have CG := hq5.forget_g (nm x) (by omega)
        rw [HNN.out, HHB.out] at CG
        refine CG.mono ?_
        rintro e6 w6 ⟨rfl, hq6, hfr6⟩
        have hz2 := (hfr6 bx HBS.out).trans hz1
        refine hK.out _ _ hz2 (fun hS => ?_)
        clear hK K hS
        refine wpAnyH_take (i := 8) (v := ?_) (by simp only [List.getElem?_toArray, List.getElem?_cons_zero, List.getElem?_cons_succ]; rfl) (by kernel_rfl) (by kernel_rfl) (by kernel_rfl) (fun _ _ _ h => h) (Or.inl ⟨by rfl, ?_⟩) (by assumption) ?_
        rotate_left 1
        · intro w hSw
          go_simp
          try with_reducible rfl
        simp only [Act.put, List.setIfInBounds_toArray, List.set_cons_zero, List.set_cons_succ]
        refine wpAnyH_done (by kernel_rfl) ?_ _
        refine NoPanic.normal ?_
        have Q6 := hid hq6
        have F6 := hid (fr_del HF.out (nm x))
        have HFL6 : Hid ((fdrop fs (nm x)).length ≤ i + 1) := Nat.le_trans (List.length_filter_le _ _) (by omega)
        clear hz1 hz2 hq5 hq6 hfr5 hfr6
        have hq25 := Q6.out.on (Below.refl _ _).drew
        obtain ⟨A9, c9, hc9⟩ := hq25.cell
        obtain ⟨m9, HM9⟩ : ∃ m9, Hid ((fdrop fs (nm x)).length = m9) := ⟨_, rfl⟩
        rw [HM9.out] at hc9
        have HC9 := hid hc9
        have CL := hid (hq25.len_f F6.out)
        rw [HM9.out] at CL
        have QE := hid (hq25.less (av' := fun _ => False) (fun k hk => hk.elim))
        clear hc9 hq25
        go_wp2
        refine wp_region_noPanic ?_
        refine wp_region_held_drew (S := fun W => W.cell? ⟨pg, 0, none⟩ = some (.slice A9 m9 c9)) (by kernel_rfl) (HC9.out) (fun hS => ?_)
        refine wpAnyH_take (i := 0) (v := ?_) (by simp only [List.getElem?_toArray, List.getElem?_cons_zero]; rfl) (by kernel_rfl) (by kernel_rfl) (by kernel_rfl) (fun _ _ _ h => h) (Or.inl ⟨by rfl, ?_⟩) (by assumption) ?_
        rotate_left 1
        · intro w hSw
          have k0 := hSw
          go_simp
          try with_reducible rfl
        simp only [Act.put, List.setIfInBounds_toArray, List.set_cons_zero, List.set_cons_succ]
        refine wpAnyH_take (i := 2) (v := ?_) (by simp only [List.getElem?_toArray, List.getElem?_cons_zero, List.getElem?_cons_succ]; rfl) (by kernel_rfl) (by kernel_rfl) (by kernel_rfl) (fun _ _ _ h => h) (Or.inl ⟨by rfl, ?_⟩) (by assumption) ?_
        rotate_left 1
        · intro w hSw
          have k0 := hSw
          go_simp
          try with_reducible rfl
        simp only [Act.put, List.setIfInBounds_toArray, List.set_cons_zero, List.set_cons_succ]
        refine wpAnyH_take (i := 3) (v := ?_) (by simp only [List.getElem?_toArray, List.getElem?_cons_zero, List.getElem?_cons_succ]; rfl) (by kernel_rfl) (by kernel_rfl) (by kernel_rfl) (fun _ _ _ h => h) (Or.inl ⟨by rfl, ?_⟩) (by assumption) ?_
        rotate_left 1
        · intro w hSw
          have k0 := hSw
          go_simp
          try with_reducible rfl
        simp only [Act.put, List.setIfInBounds_toArray, List.set_cons_zero, List.set_cons_succ]
        refine wpAnyH_take (i := 4) (v := ?_) (by simp only [List.getElem?_toArray, List.getElem?_cons_zero, List.getElem?_cons_succ]; rfl) (by kernel_rfl) (by kernel_rfl) (by kernel_rfl) (fun _ _ _ h => h) (Or.inl ⟨by rfl, ?_⟩) (by assumption) ?_
        rotate_left 1
        · intro w hSw
          have k0 := hSw
          go_simp
          try with_reducible rfl
        simp only [Act.put, List.setIfInBounds_toArray, List.set_cons_zero, List.set_cons_succ]
        refine wpAnyH_take (i := 5) (v := ?_) (by simp only [List.getElem?_toArray, List.getElem?_cons_zero, List.getElem?_cons_succ]; rfl) (by kernel_rfl) (by kernel_rfl) (by kernel_rfl) (fun _ _ _ h => h) (Or.inl ⟨by rfl, ?_⟩) (by assumption) ?_
        rotate_left 1
        · intro w hSw
          have k0 := hSw
          go_simp
          try with_reducible rfl
        simp only [Act.put, List.setIfInBounds_toArray, List.set_cons_zero, List.set_cons_succ]
        refine wpAnyH_take (i := 6) (v := ?_) (by simp only [List.getElem?_toArray, List.getElem?_cons_zero, List.getElem?_cons_succ]; rfl) (by kernel_rfl) (by kernel_rfl) (by kernel_rfl) (fun _ _ _ h => h) (Or.inl ⟨by rfl, ?_⟩) (by assumption) ?_
        rotate_left 1
        · intro w hSw
          have k0 := hSw
          go_simp
          try with_reducible rfl
        simp only [Act.put, List.setIfInBounds_toArray, List.set_cons_zero, List.set_cons_succ]
        refine wpAnyH_ready (rs := [1]) (by kernel_rfl) (by simp) ?_
        refine AllReadyH.cons (by simp only [List.getElem?_toArray, List.getElem?_cons_zero, List.getElem?_cons_succ]; rfl) (fun K hK => ?_) AllReadyH.nil
        go_simp
        refine (CL.out).mono ?_
        rintro e25 w25 ⟨rfl, rfl⟩
        have hz1 := HC9.out
        refine hK.out _ _ hz1 (fun hS => ?_)
        clear hK K hS
        refine wpAnyH_take (i := 7) (v := ?_) (by simp only [List.getElem?_toArray, List.getElem?_cons_zero, List.getElem?_cons_succ]; rfl) (by kernel_rfl) (by kernel_rfl) (by kernel_rfl) (fun _ _ _ h => h) (Or.inl ⟨by rfl, ?_⟩) (by assumption) ?_
        rotate_left 1
        · intro w hSw
          go_simp
          try with_reducible rfl
        simp only [Act.put, List.setIfInBounds_toArray, List.set_cons_zero, List.set_cons_succ]
        refine wpAnyH_done (by kernel_rfl) ?_ _
        refine NoPanic.normal ?_
        go_wp2
        go_roundw
        case rel => exact ⟨i + 1, delF F (nm x), fdrop fs (nm x), ds, by omega, by go_num, HFL6.out, by omega, QE.out.more (by omega), F6.out⟩
        case measure => simp [intOf]; omega
      | false =>
        have HPB : Hid (0 < wb.heap.size) := Nat.lt_of_lt_of_le HPOS.out (Nat.le_trans HQ.out.below.2 HBB.out.size)
        have CD := hid (data_any x HXO.out wb HPB.out)
        rw [HACX.out] at CD
        go_wp2_with (fail)
        generalize hWW : World.alloc _ _ = W0
        obtain rfl : wb = W0 := HWB.out.symm.trans hWW
        clear hWW
        rw [HBX.out]
        refine CD.out.mono ?_
        rintro e5 w5 ⟨vd, rfl, hfd, hbd⟩
        obtain ⟨Ad, cd, gd, hyd, _, _⟩ := hfd.bytes (Nat.lt_of_lt_of_le HPB.out hbd.size)
        obtain ⟨nd, HND⟩ : ∃ nd, Hid ((dataL x).length = nd) := ⟨_, rfl⟩
        have hvd := hyd.form
        rw [HND.out] at hvd
        subst hvd
        have FD5 := hid hfd
        have B5 := hid hbd
        have CL5 := hid (rlist_both _ (dataL x) Ad cd gd 0 w5 (Nat.lt_of_lt_of_le HPB.out hbd.size) hyd)
        obtain ⟨hs, HHS⟩ : ∃ hs, Hid (hashL (dataL x) = hs) := ⟨_, rfl⟩
        obtain ⟨ze, HZE⟩ : ∃ ze, Hid (errL (dataL x) = ze) := ⟨_, rfl⟩
        obtain ⟨c, HC⟩ : ∃ c, Hid (hs.length = c) := ⟨_, rfl⟩
        have hc32 : c ≤ 32 := by rw [← HC.out, ← HHS.out]; exact hashL_len _
        rw [HHS.out, HZE.out] at CL5
        clear hfd hbd hyd
        go_wp2_with (fail)
        refine CL5.out.mono ?_
        rintro e6 w6 ⟨v11, rfl, hd6, hb6⟩
        obtain ⟨A11, c11, hv11⟩ := hd6.form
        rw [HC.out] at hv11
        subst hv11
        have B56 := hid hb6
        have Bo6 : Hid (Below wo.heap.size wo w6) := HBB.out.trans ((B5.out.trans (hb6.mono B5.out.size)).mono HBB.out.size)
        have L6 := hid hd6
        have HBA : Hid (wo.heap.size ≤ bx ∧ bx < w6.heap.size) := ⟨HBS.out.1, Nat.lt_of_lt_of_le HBS.out.2 (Nat.le_trans B5.out.size hb6.size)⟩
        have Q6 : Hid (QSt (fun k => wo.heap.size ≤ k ∧ k < w6.heap.size) w.heap.size w w6 pf pg F (120 * i) fs u7 ds) := HQ.out.avoid Bo6.out
        have X6 : Hid (Has w6 bx 47 #[.bool false, .string N, .string T, .int .i64 L]) := (HXB.out.kept B5.out HBS.out.2).on hb6
        have FD6 : Hid (DIn (fun k => wo.heap.size ≤ k ∧ k < w6.heap.size) w6 (.slice Ad nd cd) (dataL x)) := ⟨(fresh_kept FD5.out hb6).mono (Nat.zero_le _), fun k hk => by
          have h9 := World.ownsRow.lt FD5.out k hk
          have := HBB.out.size
          exact ⟨by omega, Nat.lt_of_lt_of_le h9.2 hb6.size⟩⟩
        have HL6 : Hid (∀ k, (Value.slice A11 c c11).ownBlock = some k → wo.heap.size ≤ k ∧ k < w6.heap.size) := fun k hk => by
          have h9 := World.ownsRow.lt L6.out.own k hk
          have := HBB.out.size
          have := B5.out.size
          exact ⟨by omega, h9.2⟩
        have hZZ : (ze != ze) = false := by simp
        have hdi : (ds.length : Int) = ds.length := rfl
        obtain ⟨Aq, cq, hvq⟩ := Q6.out.row.form
        obtain ⟨nq, HNQ⟩ : ∃ nq, Hid (ds.length = nq) := ⟨_, rfl⟩
        rw [HNQ.out] at hvq hdl
        subst hvq
        clear hd6 hb6 hdi
        by_cases hcc : 0 < c ∧ nq < 40
        · obtain ⟨hc1, hq40⟩ := hcc
          obtain ⟨m1, rfl⟩ : ∃ m1, c = m1 + 1 := ⟨c - 1, by omega⟩
          have hcI : (0 : Int) < ((m1 + 1 : Nat) : Int) := by omega
          have hqI : (nq : Int) < 40 := by omega
          have h0I : 0 < hs.length := by rw [HC.out]; omega
          have hmI : m1 < hs.length := by rw [HC.out]; omega
          obtain ⟨g11, c12, hv12, _⟩ := L6.out.at_ 0 h0I
          rw [HC.out] at hv12
          injection hv12 with hA12 hn12 hc12
          subst hA12 hc12
          clear hn12
          obtain ⟨d1, HD1⟩ : ∃ d1, Hid (hs[0] = d1) := ⟨_, hid rfl⟩
          obtain ⟨d2, HD2⟩ : ∃ d2, Hid (hs[m1] = d2) := ⟨_, hid rfl⟩
          have HD1L : Hid (d1.length = 32) := by show _ = _; rw [← HD1.out]; exact L6.out.len _ (List.getElem_mem _)
          have HD2L : Hid (d2.length = 32) := by show _ = _; rw [← HD2.out]; exact L6.out.len _ (List.getElem_mem _)
          have HLD1 : Hid (∀ W, Dgs 0 W (.slice (some ⟨g11, 0, none⟩) (m1 + 1) c11) hs → (loadVar 27 ⟨g11, 0, none⟩).run Tryd.prog W = .ok (.agg (hvec d1)) W) := fun W hW => by
            have := hW.ld 0 h0I d1 HD1.out
            simpa using this
          have HLD2 : Hid (∀ W, Dgs 0 W (.slice (some ⟨g11, 0, none⟩) (m1 + 1) c11) hs → (loadVar 27 ⟨g11, m1 * 32, none⟩).run Tryd.prog W = .ok (.agg (hvec d2)) W) := fun W hW => hW.ld m1 hmI d2 HD2.out
          have w3' : IntKind.i64.wrap (((m1 + 1 : Nat) : Int) - 1) = (m1 : Int) := by rw [show ((m1 + 1 : Nat) : Int) - 1 = (m1 : Int) by omega]; exact i64in _ (by omega) (by omega)
          have w4' : IntKind.i64.wrap ((m1 : Int) + 1 - 1) = (m1 : Int) := by rw [show (m1 : Int) + 1 - 1 = (m1 : Int) by omega]; exact i64in _ (by omega) (by omega)
          have w5' : IntKind.i64.wrap (m1 : Int) = (m1 : Int) := i64in _ (by omega) (by omega)
          have hm2 : (m1 : Int) < (m1 : Int) + 1 := by omega
          have L6d : Hid (Dgs 0 w6.drew (.slice (some ⟨g11, 0, none⟩) (m1 + 1) c11) hs) := (L6.out.kept (Below.refl _ _).drew (Nat.le_refl _)).mono (Nat.zero_le _)
          obtain ⟨WA, HWA⟩ : ∃ WA, Hid (w6.drew.alloc (.cells (hvec (d1 ++ d2)) 27) = WA) := ⟨_, rfl⟩
          obtain ⟨ga2, HGA2⟩ : ∃ ga2, Hid (w6.drew.heap.size = ga2) := ⟨_, rfl⟩
          have hbA : Below w6.heap.size w6 (w6.drew.alloc (.cells (hvec (d1 ++ d2)) 27)) := (Below.refl _ w6).drew.alloc (Nat.le_refl _) _
          have hgA : Has (w6.drew.alloc (.cells (hvec (d1 ++ d2)) 27)) w6.drew.heap.size 27 (hvec (d1 ++ d2)) := Has.fresh w6.drew 27 _
          rw [HWA.out] at hbA hgA
          rw [HGA2.out] at hgA
          have HSA : Hid (Dgs 0 WA (.slice (some ⟨g11, 0, none⟩) (m1 + 1) c11) hs) := (L6.out.kept hbA (Nat.le_refl _)).mono (Nat.zero_le _)
          obtain ⟨v7, w7, hr7, hq7, hfr7⟩ := (Q6.out.on hbA).app [d1, d2] 2 rfl (fun c hc => by
            simp only [List.mem_cons, List.not_mem_nil, or_false] at hc
            rcases hc with rfl | rfl
            · exact HD1L.out
            · exact HD2L.out) ga2 (fun j u hj => by
            rw [hgA.at_ j]
            rw [hcells_two] at hj
            rw [hvec, List.getElem?_toArray]; exact hj) (by rw [HNQ.out]; omega)
          have R7 := hid hr7
          have Q7 := hid hq7
          have HS7 : Hid (Dgs 0 w7 (.slice (some ⟨g11, 0, none⟩) (m1 + 1) c11) hs) := HSA.out.stay fun k hk => hfr7 k (HL6.out k hk)
          have X7 : Hid (Has w7 bx 47 #[.bool false, .string N, .string T, .int .i64 L]) := (hfr7 bx HBA.out).trans (X6.out.on hbA)
          have FD7 : Hid (DIn (fun k => wo.heap.size ≤ k ∧ k < w6.heap.size) w7 (.slice Ad nd cd) (dataL x)) := ⟨row_of (fresh_kept FD6.out.1 hbA) fun k hk => hfr7 k (FD6.out.2 k hk), FD6.out.2⟩
          have HDS : Hid ((ds ++ [d1, d2]).length ≤ 2 + 2 * (i + 1)) := by show _ ≤ _; rw [List.length_append, HNQ.out]; simp only [List.length_cons, List.length_nil]; omega
          clear hr7 hq7 hfr7 hbA hgA
          go_wp2
          refine wp_region_noPanic ?_
          refine wp_region_held_drew (S := fun W => Dgs 0 W (.slice (some ⟨g11, 0, none⟩) (m1 + 1) c11) hs) (by kernel_rfl) (L6d.out) (fun hS => ?_)
          refine wpAnyH_take (i := 0) (v := ?_) (by simp only [List.getElem?_toArray, List.getElem?_cons_zero]; rfl) (by kernel_rfl) (by kernel_rfl) (by kernel_rfl) (fun _ _ _ h => h) (Or.inl ⟨by rfl, ?_⟩) (by assumption) ?_
          rotate_left 1
          · intro w hSw
            go_simp
            try with_reducible rfl
          simp only [Act.put, List.setIfInBounds_toArray, List.set_cons_zero, List.set_cons_succ]
          refine wpAnyH_take (i := 1) (v := ?_) (by simp only [List.getElem?_toArray, List.getElem?_cons_zero, List.getElem?_cons_succ]; rfl) (by kernel_rfl) (by kernel_rfl) (by kernel_rfl) (fun _ _ _ h => h) (Or.inl ⟨by rfl, ?_⟩) (by assumption) ?_
          rotate_left 1
          · intro w hSw
            go_simp
            try with_reducible rfl
          simp only [Act.put, List.setIfInBounds_toArray, List.set_cons_zero, List.set_cons_succ]
          refine wpAnyH_take (i := 2) (v := ?_) (by simp only [List.getElem?_toArray, List.getElem?_cons_zero, List.getElem?_cons_succ]; rfl) (by kernel_rfl) (by kernel_rfl) (by kernel_rfl) (fun _ _ _ h => h) (Or.inl ⟨by rfl, ?_⟩) (by assumption) ?_
          rotate_left 1
          · intro w hSw
            go_simp
            try with_reducible rfl
          simp only [Act.put, List.setIfInBounds_toArray, List.set_cons_zero, List.set_cons_succ]
          refine' wpAnyH_take (i := 3) (v := _) (by simp only [List.getElem?_toArray, List.getElem?_cons_zero, List.getElem?_cons_succ]; rfl) (by kernel_rfl) (by kernel_rfl) (by kernel_rfl) (fun _ _ _ h => h) (yields_load_h (by rfl) (.tmp 77) rfl g11 0 rfl d1 (fun w hS => HLD1.out w hS)) (by assumption) ?_
          simp only [Act.put, List.setIfInBounds_toArray, List.set_cons_zero, List.set_cons_succ]
          refine wpAnyH_take (i := 4) (v := ?_) (by simp only [List.getElem?_toArray, List.getElem?_cons_zero, List.getElem?_cons_succ]; rfl) (by kernel_rfl) (by kernel_rfl) (by kernel_rfl) (fun _ _ _ h => h) (Or.inl ⟨by rfl, ?_⟩) (by assumption) ?_
          rotate_left 1
          · intro w hSw
            go_simp
            try with_reducible rfl
          simp only [Act.put, List.setIfInBounds_toArray, List.set_cons_zero, List.set_cons_succ]
          refine wpAnyH_take (i := 5) (v := ?_) (by simp only [List.getElem?_toArray, List.getElem?_cons_zero, List.getElem?_cons_succ]; rfl) (by kernel_rfl) (by kernel_rfl) (by kernel_rfl) (fun _ _ _ h => h) (Or.inl ⟨by rfl, ?_⟩) (by assumption) ?_
          rotate_left 1
          · intro w hSw
            go_simp
            try with_reducible rfl
          simp only [Act.put, List.setIfInBounds_toArray, List.set_cons_zero, List.set_cons_succ]
          refine wpAnyH_take (i := 6) (v := ?_) (by simp only [List.getElem?_toArray, List.getElem?_cons_zero, List.getElem?_cons_succ]; rfl) (by kernel_rfl) (by kernel_rfl) (by kernel_rfl) (fun _ _ _ h => h) (Or.inl ⟨by rfl, ?_⟩) (by assumption) ?_
          rotate_left 1
          · intro w hSw
            go_simp
            try with_reducible rfl
          simp only [Act.put, List.setIfInBounds_toArray, List.set_cons_zero, List.set_cons_succ]
          refine wpAnyH_take (i := 7) (v := ?_) (by simp only [List.getElem?_toArray, List.getElem?_cons_zero, List.getElem?_cons_succ]; rfl) (by kernel_rfl) (by kernel_rfl) (by kernel_rfl) (fun _ _ _ h => h) (Or.inl ⟨by rfl, ?_⟩) (by assumption) ?_
          rotate_left 1
          · intro w hSw
            go_simp
            try with_reducible rfl
          simp only [Act.put, List.setIfInBounds_toArray, List.set_cons_zero, List.set_cons_succ]
          refine wpAnyH_take (i := 8) (v := ?_) (by simp only [List.getElem?_toArray, List.getElem?_cons_zero, List.getElem?_cons_succ]; rfl) (by kernel_rfl) (by kernel_rfl) (by kernel_rfl) (fun _ _ _ h => h) (Or.inl ⟨by rfl, ?_⟩) (by assumption) ?_
          rotate_left 1
          · intro w hSw
            go_simp
            try with_reducible rfl
          simp only [Act.put, List.setIfInBounds_toArray, List.set_cons_zero, List.set_cons_succ]
          refine' wpAnyH_take (i := 9) (v := _) (by simp only [List.getElem?_toArray, List.getElem?_cons_zero, List.getElem?_cons_succ]; rfl) (by kernel_rfl) (by kernel_rfl) (by kernel_rfl) (fun _ _ _ h => h) (yields_load_h (by rfl) (.tmp 83) rfl g11 (m1 * 32) rfl d2 (fun w hS => HLD2.out w hS)) (by assumption) ?_
          simp only [Act.put, List.setIfInBounds_toArray, List.set_cons_zero, List.set_cons_succ]
          refine wpAnyH_ready (rs := [10]) (by kernel_rfl) (by simp) ?_
          refine AllReadyH.cons (by simp only [List.getElem?_toArray, List.getElem?_cons_zero, List.getElem?_cons_succ]; rfl) (fun K hK => ?_) AllReadyH.nil
          refine step_build_dg2 (by rfl) (.tmp 78) (.tmp 84) rfl d1 d2 rfl rfl HD1L.out HD2L.out ?_
          rw [HWA.out, HGA2.out]
          refine hK.out _ _ HSA.out (fun hS => ?_)
          clear hK K hS
          refine wpAnyH_ready (rs := [11]) (by kernel_rfl) (by simp) ?_
          refine AllReadyH.cons (by simp only [List.getElem?_toArray, List.getElem?_cons_zero, List.getElem?_cons_succ]; rfl) (fun K hK => ?_) AllReadyH.nil
          refine step_append_run rfl (.tmp 75) (.tmp 85) 28 28 rfl (.slice Aq nq cq) (.slice (some ⟨ga2, 0, none⟩) 2 2) rfl rfl R7.out ?_
          refine hK.out _ _ HS7.out (fun hS => ?_)
          clear hK K hS
          refine wpAnyH_take (i := 12) (v := ?_) (by simp only [List.getElem?_toArray, List.getElem?_cons_zero, List.getElem?_cons_succ]; rfl) (by kernel_rfl) (by kernel_rfl) (by kernel_rfl) (fun _ _ _ h => h) (Or.inl ⟨by rfl, ?_⟩) (by assumption) ?_
          rotate_left 1
          · intro w hSw
            go_simp
            try with_reducible rfl
          simp only [Act.put, List.setIfInBounds_toArray, List.set_cons_zero, List.set_cons_succ]
          refine wpAnyH_done (by kernel_rfl) ?_ _
          refine NoPanic.normal ?_
          have k1 : w7.cell? ⟨bx, 1, none⟩ = some (.string N) := X7.out.at_ 1
          have CA := hid (Q7.out.add_f HT.out x HXO.out _ FD7.out (by omega))
          rw [HNX.out, HZE.out] at CA
          go_wp2_with (fail)
          refine CA.out.mono ?_
          rintro e8 w8 ⟨rfl, hq8, hfr8, hdi8⟩
          have X8 : Hid (Has w8 bx 47 #[.bool false, .string N, .string T, .int .i64 L]) := (hfr8 bx HBA.out).trans X7.out
          have k2 : w8.cell? ⟨bx, 1, none⟩ = some (.string N) := X8.out.at_ 1
          have CG := hid (hq8.add_g HPOS.out x _ hdi8 (by omega))
          rw [HNN.out, HZE.out] at CG
          clear hq8 hfr8 hdi8
          go_wp2_with (fail)
          refine CG.out.mono ?_
          rintro e9 w9 ⟨rfl, ⟨fs', hq9, hfl9, hF9⟩, hfr9, hdi9⟩
          have Q9 := hid hq9
          have F9 := hid (hF9 F HF.out)
          have D9 := hid hdi9
          have HFL9 : Hid (fs'.length ≤ i + 1) := Nat.le_trans hfl9 (by omega)
          clear hq9 hfl9 hF9 hfr9 hdi9 CA CG k1 k2
          go_wp2
          rcases Nat.eq_zero_or_pos nd with hnd | hnd
          · subst hnd
            go_loopw [14] (fun v wr => v = .int .i64 0 ∧ wr = w9) (fun _ _ => 0)
            case atStart => exact ⟨rfl, rfl⟩
            case round =>
              obtain ⟨rfl, rfl⟩ := hrel
              have hq25 := Q9.out.on (Below.refl _ _).drew
              obtain ⟨A9, c9, hc9⟩ := hq25.cell
              obtain ⟨m9, HM9⟩ : ∃ m9, Hid ((fs').length = m9) := ⟨_, rfl⟩
              rw [HM9.out] at hc9
              have HC9 := hid hc9
              have CL := hid (hq25.len_f F9.out)
              rw [HM9.out] at CL
              have QE := hid (hq25.less (av' := fun _ => False) (fun k hk => hk.elim))
              clear hc9 hq25
              go_wp2
              refine wp_region_noPanic ?_
              refine wp_region_held_drew (S := fun W => W.cell? ⟨pg, 0, none⟩ = some (.slice A9 m9 c9)) (by kernel_rfl) (HC9.out) (fun hS => ?_)
              refine wpAnyH_take (i := 0) (v := ?_) (by simp only [List.getElem?_toArray, List.getElem?_cons_zero]; rfl) (by kernel_rfl) (by kernel_rfl) (by kernel_rfl) (fun _ _ _ h => h) (Or.inl ⟨by rfl, ?_⟩) (by assumption) ?_
              rotate_left 1
              · intro w hSw
                have k0 := hSw
                go_simp
                try with_reducible rfl
              simp only [Act.put, List.setIfInBounds_toArray, List.set_cons_zero, List.set_cons_succ]
              refine wpAnyH_take (i := 2) (v := ?_) (by simp only [List.getElem?_toArray, List.getElem?_cons_zero, List.getElem?_cons_succ]; rfl) (by kernel_rfl) (by kernel_rfl) (by kernel_rfl) (fun _ _ _ h => h) (Or.inl ⟨by rfl, ?_⟩) (by assumption) ?_
              rotate_left 1
              · intro w hSw
                have k0 := hSw
                go_simp
                try with_reducible rfl
              simp only [Act.put, List.setIfInBounds_toArray, List.set_cons_zero, List.set_cons_succ]
              refine wpAnyH_take (i := 3) (v := ?_) (by simp only [List.getElem?_toArray, List.getElem?_cons_zero, List.getElem?_cons_succ]; rfl) (by kernel_rfl) (by kernel_rfl) (by kernel_rfl) (fun _ _ _ h => h) (Or.inl ⟨by rfl, ?_⟩) (by assumption) ?_
              rotate_left 1
              · intro w hSw
                have k0 := hSw
                go_simp
                try with_reducible rfl
              simp only [Act.put, List.setIfInBounds_toArray, List.set_cons_zero, List.set_cons_succ]
              refine wpAnyH_take (i := 4) (v := ?_) (by simp only [List.getElem?_toArray, List.getElem?_cons_zero, List.getElem?_cons_succ]; rfl) (by kernel_rfl) (by kernel_rfl) (by kernel_rfl) (fun _ _ _ h => h) (Or.inl ⟨by rfl, ?_⟩) (by assumption) ?_
              rotate_left 1
              · intro w hSw
                have k0 := hSw
                go_simp
                try with_reducible rfl
              simp only [Act.put, List.setIfInBounds_toArray, List.set_cons_zero, List.set_cons_succ]
              refine wpAnyH_take (i := 5) (v := ?_) (by simp only [List.getElem?_toArray, List.getElem?_cons_zero, List.getElem?_cons_succ]; rfl) (by kernel_rfl) (by kernel_rfl) (by kernel_rfl) (fun _ _ _ h => h) (Or.inl ⟨by rfl, ?_⟩) (by assumption) ?_
              rotate_left 1
              · intro w hSw
                have k0 := hSw
                go_simp
                try with_reducible rfl
              simp only [Act.put, List.setIfInBounds_toArray, List.set_cons_zero, List.set_cons_succ]
              refine wpAnyH_take (i := 6) (v := ?_) (by simp only [List.getElem?_toArray, List.getElem?_cons_zero, List.getElem?_cons_succ]; rfl) (by kernel_rfl) (by kernel_rfl) (by kernel_rfl) (fun _ _ _ h => h) (Or.inl ⟨by rfl, ?_⟩) (by assumption) ?_
              rotate_left 1
              · intro w hSw
                have k0 := hSw
                go_simp
                try with_reducible rfl
              simp only [Act.put, List.setIfInBounds_toArray, List.set_cons_zero, List.set_cons_succ]
              refine wpAnyH_ready (rs := [1]) (by kernel_rfl) (by simp) ?_
              refine AllReadyH.cons (by simp only [List.getElem?_toArray, List.getElem?_cons_zero, List.getElem?_cons_succ]; rfl) (fun K hK => ?_) AllReadyH.nil
              go_simp
              refine (CL.out).mono ?_
              rintro e25 w25 ⟨rfl, rfl⟩
              have hz1 := HC9.out
              refine hK.out _ _ hz1 (fun hS => ?_)
              clear hK K hS
              refine wpAnyH_take (i := 7) (v := ?_) (by simp only [List.getElem?_toArray, List.getElem?_cons_zero, List.getElem?_cons_succ]; rfl) (by kernel_rfl) (by kernel_rfl) (by kernel_rfl) (fun _ _ _ h => h) (Or.inl ⟨by rfl, ?_⟩) (by assumption) ?_
              rotate_left 1
              · intro w hSw
                go_simp
                try with_reducible rfl
              simp only [Act.put, List.setIfInBounds_toArray, List.set_cons_zero, List.set_cons_succ]
              refine wpAnyH_done (by kernel_rfl) ?_ _
              refine NoPanic.normal ?_
              go_wp2
              go_roundw
              case rel => exact ⟨i + 1, stepF F x, fs', ds ++ [d1, d2], by omega, by go_num, HFL9.out, HDS.out, QE.out.more (by omega), F9.out⟩
              case measure => simp [intOf]; omega
          · have hform : ∃ gd2, Ad = some ⟨gd2, 0, none⟩ := by
              rcases D9.out.1.2 with ⟨_, k2⟩ | ⟨g, _, _, k1, _⟩
              · have := HND.out; omega
              · injection k1 with k1; exact ⟨g, k1⟩
            obtain ⟨g2, rfl⟩ := hform
            have HAG := hid (D9.out.2 g2 rfl)
            have hnd5 : nd ≤ 5000 := by rw [← HND.out, dataL_len]; omega
            go_loopw [14] (fun v wr => ∃ k : Nat, k ≤ nd ∧ v = .int .i64 (k : Int) ∧ Hid (∃ zs : By, zs.length = nd ∧ Fresh 0 wr (.slice (some ⟨g2, 0, none⟩) nd cd) zs) ∧ Hid (QSt (fun k => wo.heap.size ≤ k ∧ k < w6.heap.size) w.heap.size w wr pf pg (stepF F x) (120 * i + 80) fs' v7 (ds ++ [d1, d2]))) (fun v _ => nd - (intOf v).toNat)
            case atStart => exact ⟨0, by omega, rfl, ⟨_, HND.out, D9.out.1⟩, Q9.out⟩
            case round =>
              obtain ⟨k, hk, rfl, J1, J2⟩ := hrel
              by_cases hkn : k < nd
              · have hkn2 : (k : Int) < (nd : Int) := by omega
                have w2' : IntKind.i64.wrap ((k : Int) + 1) = (k : Int) + 1 := i64in _ (by omega) (by omega)
                obtain ⟨zs, hzl, hzf⟩ := J1.out
                have hc0 : wr.cell? ⟨g2, k, none⟩ = some (V8 (at8 zs k)) := by
                  have h9 := hzf
                  rw [← hzl] at h9
                  rw [World.ownsRow.cellAt (g := g2) (cap := cd) h9 k (by omega)]
                  exact get_map (by omega)
                obtain ⟨z9, hx⟩ := xor85 (at8 zs k)
                obtain ⟨_, hfro, hf9⟩ := fresh_set hzf hzl k z9 hkn
                unfold V8 at hc0
                generalize b8 (at8 zs k) = z8 at hx hc0
                have HF9 := hid hf9
                obtain ⟨b9, HB9⟩ : ∃ b9, Hid (b8 z9 = b9) := ⟨_, rfl⟩
                rw [HB9.out] at hx HF9
                have HZS : Hid ((zs.set k z9).length = nd) := by show _ = _; rw [List.length_set]; exact hzl
                clear hzf hf9 hzl
                go_wp2
                go_roundw
                case rel => exact ⟨k + 1, by omega, by go_num, ⟨_, HZS.out, HF9.out⟩, J2.out.mut (Grw.of_set g2 k wr _) HAG.out⟩
                case measure => simp [intOf]; omega
              · obtain rfl : k = nd := by omega
                have hq25 := J2.out.on (Below.refl _ _).drew
                obtain ⟨A9, c9, hc9⟩ := hq25.cell
                obtain ⟨m9, HM9⟩ : ∃ m9, Hid ((fs').length = m9) := ⟨_, rfl⟩
                rw [HM9.out] at hc9
                have HC9 := hid hc9
                have CL := hid (hq25.len_f F9.out)
                rw [HM9.out] at CL
                have QE := hid (hq25.less (av' := fun _ => False) (fun k hk => hk.elim))
                clear hc9 hq25
                go_wp2
                refine wp_region_noPanic ?_
                refine wp_region_held_drew (S := fun W => W.cell? ⟨pg, 0, none⟩ = some (.slice A9 m9 c9)) (by kernel_rfl) (HC9.out) (fun hS => ?_)
                refine wpAnyH_take (i := 0) (v := ?_) (by simp only [List.getElem?_toArray, List.getElem?_cons_zero]; rfl) (by kernel_rfl) (by kernel_rfl) (by kernel_rfl) (fun _ _ _ h => h) (Or.inl ⟨by rfl, ?_⟩) (by assumption) ?_
                rotate_left 1
                · intro w hSw
                  have k0 := hSw
                  go_simp
                  try with_reducible rfl
                simp only [Act.put, List.setIfInBounds_toArray, List.set_cons_zero, List.set_cons_succ]
                refine wpAnyH_take (i := 2) (v := ?_) (by simp only [List.getElem?_toArray, List.getElem?_cons_zero, List.getElem?_cons_succ]; rfl) (by kernel_rfl) (by kernel_rfl) (by kernel_rfl) (fun _ _ _ h => h) (Or.inl ⟨by rfl, ?_⟩) (by assumption) ?_
                rotate_left 1
                · intro w hSw
                  have k0 := hSw
                  go_simp
                  try with_reducible rfl
                simp only [Act.put, List.setIfInBounds_toArray, List.set_cons_zero, List.set_cons_succ]
                refine wpAnyH_take (i := 3) (v := ?_) (by simp only [List.getElem?_toArray, List.getElem?_cons_zero, List.getElem?_cons_succ]; rfl) (by kernel_rfl) (by kernel_rfl) (by kernel_rfl) (fun _ _ _ h => h) (Or.inl ⟨by rfl, ?_⟩) (by assumption) ?_
                rotate_left 1
                · intro w hSw
                  have k0 := hSw
                  go_simp
                  try with_reducible rfl
                simp only [Act.put, List.setIfInBounds_toArray, List.set_cons_zero, List.set_cons_succ]
                refine wpAnyH_take (i := 4) (v := ?_) (by simp only [List.getElem?_toArray, List.getElem?_cons_zero, List.getElem?_cons_succ]; rfl) (by kernel_rfl) (by kernel_rfl) (by kernel_rfl) (fun _ _ _ h => h) (Or.inl ⟨by rfl, ?_⟩) (by assumption) ?_
                rotate_left 1
                · intro w hSw
                  have k0 := hSw
                  go_simp
                  try with_reducible rfl
                simp only [Act.put, List.setIfInBounds_toArray, List.set_cons_zero, List.set_cons_succ]
                refine wpAnyH_take (i := 5) (v := ?_) (by simp only [List.getElem?_toArray, List.getElem?_cons_zero, List.getElem?_cons_succ]; rfl) (by kernel_rfl) (by kernel_rfl) (by kernel_rfl) (fun _ _ _ h => h) (Or.inl ⟨by rfl, ?_⟩) (by assumption) ?_
                rotate_left 1
                · intro w hSw
                  have k0 := hSw
                  go_simp
                  try with_reducible rfl
                simp only [Act.put, List.setIfInBounds_toArray, List.set_cons_zero, List.set_cons_succ]
                refine wpAnyH_take (i := 6) (v := ?_) (by simp only [List.getElem?_toArray, List.getElem?_cons_zero, List.getElem?_cons_succ]; rfl) (by kernel_rfl) (by kernel_rfl) (by kernel_rfl) (fun _ _ _ h => h) (Or.inl ⟨by rfl, ?_⟩) (by assumption) ?_
                rotate_left 1
                · intro w hSw
                  have k0 := hSw
                  go_simp
                  try with_reducible rfl
                simp only [Act.put, List.setIfInBounds_toArray, List.set_cons_zero, List.set_cons_succ]
                refine wpAnyH_ready (rs := [1]) (by kernel_rfl) (by simp) ?_
                refine AllReadyH.cons (by simp only [List.getElem?_toArray, List.getElem?_cons_zero, List.getElem?_cons_succ]; rfl) (fun K hK => ?_) AllReadyH.nil
                go_simp
                refine (CL.out).mono ?_
                rintro e25 w25 ⟨rfl, rfl⟩
                have hz1 := HC9.out
                refine hK.out _ _ hz1 (fun hS => ?_)
                clear hK K hS
                refine wpAnyH_take (i := 7) (v := ?_) (by simp only [List.getElem?_toArray, List.getElem?_cons_zero, List.getElem?_cons_succ]; rfl) (by kernel_rfl) (by kernel_rfl) (by kernel_rfl) (fun _ _ _ h => h) (Or.inl ⟨by rfl, ?_⟩) (by assumption) ?_
                rotate_left 1
                · intro w hSw
                  go_simp
                  try with_reducible rfl
                simp only [Act.put, List.setIfInBounds_toArray, List.set_cons_zero, List.set_cons_succ]
                refine wpAnyH_done (by kernel_rfl) ?_ _
                refine NoPanic.normal ?_
                go_wp2
                go_roundw
                case rel => exact ⟨i + 1, stepF F x, fs', ds ++ [d1, d2], by omega, by go_num, HFL9.out, HDS.out, QE.out.more (by omega), F9.out⟩
                case measure => simp [intOf]; omega
        · have X7 := X6
          have FD7 := FD6
          have Q7 := Q6
          have HDS : Hid (ds.length ≤ 2 + 2 * (i + 1)) := by show _ ≤ _; rw [HNQ.out]; omega
          have hcc2 : ¬ (0 : Int) < (c : Int) ∨ (0 : Int) < (c : Int) ∧ ¬ (nq : Int) < 40 ∧ ¬ nq < 40 := by omega
          rcases hcc2 with hcc2 | ⟨hcc2, hcc3, hcc4⟩
          · have k1 : w6.cell? ⟨bx, 1, none⟩ = some (.string N) := X7.out.at_ 1
            have CA := hid (Q7.out.add_f HT.out x HXO.out _ FD7.out (by omega))
            rw [HNX.out, HZE.out] at CA
            go_wp2_with (fail)
            refine CA.out.mono ?_
            rintro e8 w8 ⟨rfl, hq8, hfr8, hdi8⟩
            have X8 : Hid (Has w8 bx 47 #[.bool false, .string N, .string T, .int .i64 L]) := (hfr8 bx HBA.out).trans X7.out
            have k2 : w8.cell? ⟨bx, 1, none⟩ = some (.string N) := X8.out.at_ 1
            have CG := hid (hq8.add_g HPOS.out x _ hdi8 (by omega))
            rw [HNN.out, HZE.out] at CG
            clear hq8 hfr8 hdi8
            go_wp2_with (fail)
            refine CG.out.mono ?_
            rintro e9 w9 ⟨rfl, ⟨fs', hq9, hfl9, hF9⟩, hfr9, hdi9⟩
            have Q9 := hid hq9
            have F9 := hid (hF9 F HF.out)
            have D9 := hid hdi9
            have HFL9 : Hid (fs'.length ≤ i + 1) := Nat.le_trans hfl9 (by omega)
            clear hq9 hfl9 hF9 hfr9 hdi9 CA CG k1 k2
            go_wp2
            rcases Nat.eq_zero_or_pos nd with hnd | hnd
            · subst hnd
              go_loopw [14] (fun v wr => v = .int .i64 0 ∧ wr = w9) (fun _ _ => 0)
              case atStart => exact ⟨rfl, rfl⟩
              case round =>
                obtain ⟨rfl, rfl⟩ := hrel
                have hq25 := Q9.out.on (Below.refl _ _).drew
                obtain ⟨A9, c9, hc9⟩ := hq25.cell
                obtain ⟨m9, HM9⟩ : ∃ m9, Hid ((fs').length = m9) := ⟨_, rfl⟩
                rw [HM9.out] at hc9
                have HC9 := hid hc9
                have CL := hid (hq25.len_f F9.out)
                rw [HM9.out] at CL
                have QE := hid (hq25.less (av' := fun _ => False) (fun k hk => hk.elim))
                clear hc9 hq25
                go_wp2
                refine wp_region_noPanic ?_
                refine wp_region_held_drew (S := fun W => W.cell? ⟨pg, 0, none⟩ = some (.slice A9 m9 c9)) (by kernel_rfl) (HC9.out) (fun hS => ?_)
                refine wpAnyH_take (i := 0) (v := ?_) (by simp only [List.getElem?_toArray, List.getElem?_cons_zero]; rfl) (by kernel_rfl) (by kernel_rfl) (by kernel_rfl) (fun _ _ _ h => h) (Or.inl ⟨by rfl, ?_⟩) (by assumption) ?_
                rotate_left 1
                · intro w hSw
                  have k0 := hSw
                  go_simp
                  try with_reducible rfl
                simp only [Act.put, List.setIfInBounds_toArray, List.set_cons_zero, List.set_cons_succ]
                refine wpAnyH_take (i := 2) (v := ?_) (by simp only [List.getElem?_toArray, List.getElem?_cons_zero, List.getElem?_cons_succ]; rfl) (by kernel_rfl) (by kernel_rfl) (by kernel_rfl) (fun _ _ _ h => h) (Or.inl ⟨by rfl, ?_⟩) (by assumption) ?_
                rotate_left 1
                · intro w hSw
                  have k0 := hSw
                  go_simp
                  try with_reducible rfl
                simp only [Act.put, List.setIfInBounds_toArray, List.set_cons_zero, List.set_cons_succ]
                refine wpAnyH_take (i := 3) (v := ?_) (by simp only [List.getElem?_toArray, List.getElem?_cons_zero, List.getElem?_cons_succ]; rfl) (by kernel_rfl) (by kernel_rfl) (by kernel_rfl) (fun _ _ _ h => h) (Or.inl ⟨by rfl, ?_⟩) (by assumption) ?_
                rotate_left 1
                · intro w hSw
                  have k0 := hSw
                  go_simp
                  try with_reducible rfl
                simp only [Act.put, List.setIfInBounds_toArray, List.set_cons_zero, List.set_cons_succ]
                refine wpAnyH_take (i := 4) (v := ?_) (by simp only [List.getElem?_toArray, List.getElem?_cons_zero, List.getElem?_cons_succ]; rfl) (by kernel_rfl) (by kernel_rfl) (by kernel_rfl) (fun _ _ _ h => h) (Or.inl ⟨by rfl, ?_⟩) (by assumption) ?_
                rotate_left 1
                · intro w hSw
                  have k0 := hSw
                  go_simp
                  try with_reducible rfl
                simp only [Act.put, List.setIfInBounds_toArray, List.set_cons_zero, List.set_cons_succ]
                refine wpAnyH_take (i := 5) (v := ?_) (by simp only [List.getElem?_toArray, List.getElem?_cons_zero, List.getElem?_cons_succ]; rfl) (by kernel_rfl) (by kernel_rfl) (by kernel_rfl) (fun _ _ _ h => h) (Or.inl ⟨by rfl, ?_⟩) (by assumption) ?_
                rotate_left 1
                · intro w hSw
                  have k0 := hSw
                  go_simp
                  try with_reducible rfl
                simp only [Act.put, List.setIfInBounds_toArray, List.set_cons_zero, List.set_cons_succ]
                refine wpAnyH_take (i := 6) (v := ?_) (by simp only [List.getElem?_toArray, List.getElem?_cons_zero, List.getElem?_cons_succ]; rfl) (by kernel_rfl) (by kernel_rfl) (by kernel_rfl) (fun _ _ _ h => h) (Or.inl ⟨by rfl, ?_⟩) (by assumption) ?_
                rotate_left 1
                · intro w hSw
                  have k0 := hSw
                  go_simp
                  try with_reducible rfl
                simp only [Act.put, List.setIfInBounds_toArray, List.set_cons_zero, List.set_cons_succ]
                refine wpAnyH_ready (rs := [1]) (by kernel_rfl) (by simp) ?_
                refine AllReadyH.cons (by simp only [List.getElem?_toArray, List.getElem?_cons_zero, List.getElem?_cons_succ]; rfl) (fun K hK => ?_) AllReadyH.nil
                go_simp
                refine (CL.out).mono ?_
                rintro e25 w25 ⟨rfl, rfl⟩
                have hz1 := HC9.out
                refine hK.out _ _ hz1 (fun hS => ?_)
                clear hK K hS
                refine wpAnyH_take (i := 7) (v := ?_) (by simp only [List.getElem?_toArray, List.getElem?_cons_zero, List.getElem?_cons_succ]; rfl) (by kernel_rfl) (by kernel_rfl) (by kernel_rfl) (fun _ _ _ h => h) (Or.inl ⟨by rfl, ?_⟩) (by assumption) ?_
                rotate_left 1
                · intro w hSw
                  go_simp
                  try with_reducible rfl
                simp only [Act.put, List.setIfInBounds_toArray, List.set_cons_zero, List.set_cons_succ]
                refine wpAnyH_done (by kernel_rfl) ?_ _
                refine NoPanic.normal ?_
                go_wp2
                go_roundw
                case rel => exact ⟨i + 1, stepF F x, fs', ds, by omega, by go_num, HFL9.out, HDS.out, QE.out.more (by omega), F9.out⟩
                case measure => simp [intOf]; omega
            · have hform : ∃ gd2, Ad = some ⟨gd2, 0, none⟩ := by
                rcases D9.out.1.2 with ⟨_, k2⟩ | ⟨g, _, _, k1, _⟩
                · have := HND.out; omega
                · injection k1 with k1; exact ⟨g, k1⟩
              obtain ⟨g2, rfl⟩ := hform
              have HAG := hid (D9.out.2 g2 rfl)
              have hnd5 : nd ≤ 5000 := by rw [← HND.out, dataL_len]; omega
              go_loopw [14] (fun v wr => ∃ k : Nat, k ≤ nd ∧ v = .int .i64 (k : Int) ∧ Hid (∃ zs : By, zs.length = nd ∧ Fresh 0 wr (.slice (some ⟨g2, 0, none⟩) nd cd) zs) ∧ Hid (QSt (fun k => wo.heap.size ≤ k ∧ k < w6.heap.size) w.heap.size w wr pf pg (stepF F x) (120 * i + 80) fs' (.slice Aq nq cq) (ds))) (fun v _ => nd - (intOf v).toNat)
              case atStart => exact ⟨0, by omega, rfl, ⟨_, HND.out, D9.out.1⟩, Q9.out⟩
              case round =>
                obtain ⟨k, hk, rfl, J1, J2⟩ := hrel
                by_cases hkn : k < nd
                · have hkn2 : (k : Int) < (nd : Int) := by omega
                  have w2' : IntKind.i64.wrap ((k : Int) + 1) = (k : Int) + 1 := i64in _ (by omega) (by omega)
                  obtain ⟨zs, hzl, hzf⟩ := J1.out
                  have hc0 : wr.cell? ⟨g2, k, none⟩ = some (V8 (at8 zs k)) := by
                    have h9 := hzf
                    rw [← hzl] at h9
                    rw [World.ownsRow.cellAt (g := g2) (cap := cd) h9 k (by omega)]
                    exact get_map (by omega)
                  obtain ⟨z9, hx⟩ := xor85 (at8 zs k)
                  obtain ⟨_, hfro, hf9⟩ := fresh_set hzf hzl k z9 hkn
                  unfold V8 at hc0
                  generalize b8 (at8 zs k) = z8 at hx hc0
                  have HF9 := hid hf9
                  obtain ⟨b9, HB9⟩ : ∃ b9, Hid (b8 z9 = b9) := ⟨_, rfl⟩
                  rw [HB9.out] at hx HF9
                  have HZS : Hid ((zs.set k z9).length = nd) := by show _ = _; rw [List.length_set]; exact hzl
                  clear hzf hf9 hzl
                  go_wp2
                  go_roundw
                  case rel => exact ⟨k + 1, by omega, by go_num, ⟨_, HZS.out, HF9.out⟩, J2.out.mut (Grw.of_set g2 k wr _) HAG.out⟩
                  case measure => simp [intOf]; omega
                · obtain rfl : k = nd := by omega
                  have hq25 := J2.out.on (Below.refl _ _).drew
                  obtain ⟨A9, c9, hc9⟩ := hq25.cell
                  obtain ⟨m9, HM9⟩ : ∃ m9, Hid ((fs').length = m9) := ⟨_, rfl⟩
                  rw [HM9.out] at hc9
                  have HC9 := hid hc9
                  have CL := hid (hq25.len_f F9.out)
                  rw [HM9.out] at CL
                  have QE := hid (hq25.less (av' := fun _ => False) (fun k hk => hk.elim))
                  clear hc9 hq25
                  go_wp2
                  refine wp_region_noPanic ?_
                  refine wp_region_held_drew (S := fun W => W.cell? ⟨pg, 0, none⟩ = some (.slice A9 m9 c9)) (by kernel_rfl) (HC9.out) (fun hS => ?_)
                  refine wpAnyH_take (i := 0) (v := ?_) (by simp only [List.getElem?_toArray, List.getElem?_cons_zero]; rfl) (by kernel_rfl) (by kernel_rfl) (by kernel_rfl) (fun _ _ _ h => h) (Or.inl ⟨by rfl, ?_⟩) (by assumption) ?_
                  rotate_left 1
                  · intro w hSw
                    have k0 := hSw
                    go_simp
                    try with_reducible rfl
                  simp only [Act.put, List.setIfInBounds_toArray, List.set_cons_zero, List.set_cons_succ]
                  refine wpAnyH_take (i := 2) (v := ?_) (by simp only [List.getElem?_toArray, List.getElem?_cons_zero, List.getElem?_cons_succ]; rfl) (by kernel_rfl) (by kernel_rfl) (by kernel_rfl) (fun _ _ _ h => h) (Or.inl ⟨by rfl, ?_⟩) (by assumption) ?_
                  rotate_left 1
                  · intro w hSw
                    have k0 := hSw
                    go_simp
                    try with_reducible rfl
                  simp only [Act.put, List.setIfInBounds_toArray, List.set_cons_zero, List.set_cons_succ]
                  refine wpAnyH_take (i := 3) (v := ?_) (by simp only [List.getElem?_toArray, List.getElem?_cons_zero, List.getElem?_cons_succ]; rfl) (by kernel_rfl) (by kernel_rfl) (by kernel_rfl) (fun _ _ _ h => h) (Or.inl ⟨by rfl, ?_⟩) (by assumption) ?_
                  rotate_left 1
                  · intro w hSw
                    have k0 := hSw
                    go_simp
                    try with_reducible rfl
                  simp only [Act.put, List.setIfInBounds_toArray, List.set_cons_zero, List.set_cons_succ]
                  refine wpAnyH_take (i := 4) (v := ?_) (by simp only [List.getElem?_toArray, List.getElem?_cons_zero, List.getElem?_cons_succ]; rfl) (by kernel_rfl) (by kernel_rfl) (by kernel_rfl) (fun _ _ _ h => h) (Or.inl ⟨by rfl, ?_⟩) (by assumption) ?_
                  rotate_left 1
                  · intro w hSw
                    have k0 := hSw
                    go_simp
                    try with_reducible rfl
                  simp only [Act.put, List.setIfInBounds_toArray, List.set_cons_zero, List.set_cons_succ]
                  refine wpAnyH_take (i := 5) (v := ?_) (by simp only [List.getElem?_toArray, List.getElem?_cons_zero, List.getElem?_cons_succ]; rfl) (by kernel_rfl) (by kernel_rfl) (by kernel_rfl) (fun _ _ _ h => h) (Or.inl ⟨by rfl, ?_⟩) (by assumption) ?_
                  rotate_left 1
                  · intro w hSw
                    have k0 := hSw
                    go_simp
                    try with_reducible rfl
                  simp only [Act.put, List.setIfInBounds_toArray, List.set_cons_zero, List.set_cons_succ]
                  refine wpAnyH_take (i := 6) (v := ?_) (by simp only [List.getElem?_toArray, List.getElem?_cons_zero, List.getElem?_cons_succ]; rfl) (by kernel_rfl) (by kernel_rfl) (by kernel_rfl) (fun _ _ _ h => h) (Or.inl ⟨by rfl, ?_⟩) (by assumption) ?_
                  rotate_left 1
                  · intro w hSw
                    have k0 := hSw
                    go_simp
                    try with_reducible rfl
                  simp only [Act.put, List.setIfInBounds_toArray, List.set_cons_zero, List.set_cons_succ]
                  refine wpAnyH_ready (rs := [1]) (by kernel_rfl) (by simp) ?_
                  refine AllReadyH.cons (by simp only [List.getElem?_toArray, List.getElem?_cons_zero, List.getElem?_cons_succ]; rfl) (fun K hK => ?_) AllReadyH.nil
                  go_simp
                  refine (CL.out).mono ?_
                  rintro e25 w25 ⟨rfl, rfl⟩
                  have hz1 := HC9.out
                  refine hK.out _ _ hz1 (fun hS => ?_)
                  clear hK K hS
                  refine wpAnyH_take (i := 7) (v := ?_) (by simp only [List.getElem?_toArray, List.getElem?_cons_zero, List.getElem?_cons_succ]; rfl) (by kernel_rfl) (by kernel_rfl) (by kernel_rfl) (fun _ _ _ h => h) (Or.inl ⟨by rfl, ?_⟩) (by assumption) ?_
                  rotate_left 1
                  · intro w hSw
                    go_simp
                    try with_reducible rfl
                  simp only [Act.put, List.setIfInBounds_toArray, List.set_cons_zero, List.set_cons_succ]
                  refine wpAnyH_done (by kernel_rfl) ?_ _
                  refine NoPanic.normal ?_
                  go_wp2
                  go_roundw
                  case rel => exact ⟨i + 1, stepF F x, fs', ds, by omega, by go_num, HFL9.out, HDS.out, QE.out.more (by omega), F9.out⟩
                  case measure => simp [intOf]; omega
          · have k1 : w6.cell? ⟨bx, 1, none⟩ = some (.string N) := X7.out.at_ 1
            have CA := hid (Q7.out.add_f HT.out x HXO.out _ FD7.out (by omega))
            rw [HNX.out, HZE.out] at CA
            go_wp2_with (fail)
            refine CA.out.mono ?_
            rintro e8 w8 ⟨rfl, hq8, hfr8, hdi8⟩
            have X8 : Hid (Has w8 bx 47 #[.bool false, .string N, .string T, .int .i64 L]) := (hfr8 bx HBA.out).trans X7.out
            have k2 : w8.cell? ⟨bx, 1, none⟩ = some (.string N) := X8.out.at_ 1
            have CG := hid (hq8.add_g HPOS.out x _ hdi8 (by omega))
            rw [HNN.out, HZE.out] at CG
            clear hq8 hfr8 hdi8
            go_wp2_with (fail)
            refine CG.out.mono ?_
            rintro e9 w9 ⟨rfl, ⟨fs', hq9, hfl9, hF9⟩, hfr9, hdi9⟩
            have Q9 := hid hq9
            have F9 := hid (hF9 F HF.out)
            have D9 := hid hdi9
            have HFL9 : Hid (fs'.length ≤ i + 1) := Nat.le_trans hfl9 (by omega)
            clear hq9 hfl9 hF9 hfr9 hdi9 CA CG k1 k2
            go_wp2
            rcases Nat.eq_zero_or_pos nd with hnd | hnd
            · subst hnd
              go_loopw [14] (fun v wr => v = .int .i64 0 ∧ wr = w9) (fun _ _ => 0)
              case atStart => exact ⟨rfl, rfl⟩
              case round =>
                obtain ⟨rfl, rfl⟩ := hrel
                have hq25 := Q9.out.on (Below.refl _ _).drew
                obtain ⟨A9, c9, hc9⟩ := hq25.cell
                obtain ⟨m9, HM9⟩ : ∃ m9, Hid ((fs').length = m9) := ⟨_, rfl⟩
                rw [HM9.out] at hc9
                have HC9 := hid hc9
                have CL := hid (hq25.len_f F9.out)
                rw [HM9.out] at CL
                have QE := hid (hq25.less (av' := fun _ => False) (fun k hk => hk.elim))
                clear hc9 hq25
                go_wp2
                refine wp_region_noPanic ?_
                refine wp_region_held_drew (S := fun W => W.cell? ⟨pg, 0, none⟩ = some (.slice A9 m9 c9)) (by kernel_rfl) (HC9.out) (fun hS => ?_)
                refine wpAnyH_take (i := 0) (v := ?_) (by simp only [List.getElem?_toArray, List.getElem?_cons_zero]; rfl) (by kernel_rfl) (by kernel_rfl) (by kernel_rfl) (fun _ _ _ h => h) (Or.inl ⟨by rfl, ?_⟩) (by assumption) ?_
                rotate_left 1
                · intro w hSw
                  have k0 := hSw
                  go_simp
                  try with_reducible rfl
                simp only [Act.put, List.setIfInBounds_toArray, List.set_cons_zero, List.set_cons_succ]
                refine wpAnyH_take (i := 2) (v := ?_) (by simp only [List.getElem?_toArray, List.getElem?_cons_zero, List.getElem?_cons_succ]; rfl) (by kernel_rfl) (by kernel_rfl) (by kernel_rfl) (fun _ _ _ h => h) (Or.inl ⟨by rfl, ?_⟩) (by assumption) ?_
                rotate_left 1
                · intro w hSw
                  have k0 := hSw
                  go_simp
                  try with_reducible rfl
                simp only [Act.put, List.setIfInBounds_toArray, List.set_cons_zero, List.set_cons_succ]
                refine wpAnyH_take (i := 3) (v := ?_) (by simp only [List.getElem?_toArray, List.getElem?_cons_zero, List.getElem?_cons_succ]; rfl) (by kernel_rfl) (by kernel_rfl) (by kernel_rfl) (fun _ _ _ h => h) (Or.inl ⟨by rfl, ?_⟩) (by assumption) ?_
                rotate_left 1
                · intro w hSw
                  have k0 := hSw
                  go_simp
                  try with_reducible rfl
                simp only [Act.put, List.setIfInBounds_toArray, List.set_cons_zero, List.set_cons_succ]
                refine wpAnyH_take (i := 4) (v := ?_) (by simp only [List.getElem?_toArray, List.getElem?_cons_zero, List.getElem?_cons_succ]; rfl) (by kernel_rfl) (by kernel_rfl) (by kernel_rfl) (fun _ _ _ h => h) (Or.inl ⟨by rfl, ?_⟩) (by assumption) ?_
                rotate_left 1
                · intro w hSw
                  have k0 := hSw
                  go_simp
                  try with_reducible rfl
                simp only [Act.put, List.setIfInBounds_toArray, List.set_cons_zero, List.set_cons_succ]
                refine wpAnyH_take (i := 5) (v := ?_) (by simp only [List.getElem?_toArray, List.getElem?_cons_zero, List.getElem?_cons_succ]; rfl) (by kernel_rfl) (by kernel_rfl) (by kernel_rfl) (fun _ _ _ h => h) (Or.inl ⟨by rfl, ?_⟩) (by assumption) ?_
                rotate_left 1
                · intro w hSw
                  have k0 := hSw
                  go_simp
                  try with_reducible rfl
                simp only [Act.put, List.setIfInBounds_toArray, List.set_cons_zero, List.set_cons_succ]
                refine wpAnyH_take (i := 6) (v := ?_) (by simp only [List.getElem?_toArray, List.getElem?_cons_zero, List.getElem?_cons_succ]; rfl) (by kernel_rfl) (by kernel_rfl) (by kernel_rfl) (fun _ _ _ h => h) (Or.inl ⟨by rfl, ?_⟩) (by assumption) ?_
                rotate_left 1
                · intro w hSw
                  have k0 := hSw
                  go_simp
                  try with_reducible rfl
                simp only [Act.put, List.setIfInBounds_toArray, List.set_cons_zero, List.set_cons_succ]
                refine wpAnyH_ready (rs := [1]) (by kernel_rfl) (by simp) ?_
                refine AllReadyH.cons (by simp only [List.getElem?_toArray, List.getElem?_cons_zero, List.getElem?_cons_succ]; rfl) (fun K hK => ?_) AllReadyH.nil
                go_simp
                refine (CL.out).mono ?_
                rintro e25 w25 ⟨rfl, rfl⟩
                have hz1 := HC9.out
                refine hK.out _ _ hz1 (fun hS => ?_)
                clear hK K hS
                refine wpAnyH_take (i := 7) (v := ?_) (by simp only [List.getElem?_toArray, List.getElem?_cons_zero, List.getElem?_cons_succ]; rfl) (by kernel_rfl) (by kernel_rfl) (by kernel_rfl) (fun _ _ _ h => h) (Or.inl ⟨by rfl, ?_⟩) (by assumption) ?_
                rotate_left 1
                · intro w hSw
                  go_simp
                  try with_reducible rfl
                simp only [Act.put, List.setIfInBounds_toArray, List.set_cons_zero, List.set_cons_succ]
                refine wpAnyH_done (by kernel_rfl) ?_ _
                refine NoPanic.normal ?_
                go_wp2
                go_roundw
                case rel => exact ⟨i + 1, stepF F x, fs', ds, by omega, by go_num, HFL9.out, HDS.out, QE.out.more (by omega), F9.out⟩
                case measure => simp [intOf]; omega
            · have hform : ∃ gd2, Ad = some ⟨gd2, 0, none⟩ := by
                rcases D9.out.1.2 with ⟨_, k2⟩ | ⟨g, _, _, k1, _⟩
                · have := HND.out; omega
                · injection k1 with k1; exact ⟨g, k1⟩
              obtain ⟨g2, rfl⟩ := hform
              have HAG := hid (D9.out.2 g2 rfl)
              have hnd5 : nd ≤ 5000 := by rw [← HND.out, dataL_len]; omega
              go_loopw [14] (fun v wr => ∃ k : Nat, k ≤ nd ∧ v = .int .i64 (k : Int) ∧ Hid (∃ zs : By, zs.length = nd ∧ Fresh 0 wr (.slice (some ⟨g2, 0, none⟩) nd cd) zs) ∧ Hid (QSt (fun k => wo.heap.size ≤ k ∧ k < w6.heap.size) w.heap.size w wr pf pg (stepF F x) (120 * i + 80) fs' (.slice Aq nq cq) (ds))) (fun v _ => nd - (intOf v).toNat)
              case atStart => exact ⟨0, by omega, rfl, ⟨_, HND.out, D9.out.1⟩, Q9.out⟩
              case round =>
                obtain ⟨k, hk, rfl, J1, J2⟩ := hrel
                by_cases hkn : k < nd
                · have hkn2 : (k : Int) < (nd : Int) := by omega
                  have w2' : IntKind.i64.wrap ((k : Int) + 1) = (k : Int) + 1 := i64in _ (by omega) (by omega)
                  obtain ⟨zs, hzl, hzf⟩ := J1.out
                  have hc0 : wr.cell? ⟨g2, k, none⟩ = some (V8 (at8 zs k)) := by
                    have h9 := hzf
                    rw [← hzl] at h9
                    rw [World.ownsRow.cellAt (g := g2) (cap := cd) h9 k (by omega)]
                    exact get_map (by omega)
                  obtain ⟨z9, hx⟩ := xor85 (at8 zs k)
                  obtain ⟨_, hfro, hf9⟩ := fresh_set hzf hzl k z9 hkn
                  unfold V8 at hc0
                  generalize b8 (at8 zs k) = z8 at hx hc0
                  have HF9 := hid hf9
                  obtain ⟨b9, HB9⟩ : ∃ b9, Hid (b8 z9 = b9) := ⟨_, rfl⟩
                  rw [HB9.out] at hx HF9
                  have HZS : Hid ((zs.set k z9).length = nd) := by show _ = _; rw [List.length_set]; exact hzl
                  clear hzf hf9 hzl
                  go_wp2
                  go_roundw
                  case rel => exact ⟨k + 1, by omega, by go_num, ⟨_, HZS.out, HF9.out⟩, J2.out.mut (Grw.of_set g2 k wr _) HAG.out⟩
                  case measure => simp [intOf]; omega
                · obtain rfl : k = nd := by omega
                  have hq25 := J2.out.on (Below.refl _ _).drew
                  obtain ⟨A9, c9, hc9⟩ := hq25.cell
                  obtain ⟨m9, HM9⟩ : ∃ m9, Hid ((fs').length = m9) := ⟨_, rfl⟩
                  rw [HM9.out] at hc9
                  have HC9 := hid hc9
                  have CL := hid (hq25.len_f F9.out)
                  rw [HM9.out] at CL
                  have QE := hid (hq25.less (av' := fun _ => False) (fun k hk => hk.elim))
                  clear hc9 hq25
                  go_wp2
                  refine wp_region_noPanic ?_
                  refine wp_region_held_drew (S := fun W => W.cell? ⟨pg, 0, none⟩ = some (.slice A9 m9 c9)) (by kernel_rfl) (HC9.out) (fun hS => ?_)
                  refine wpAnyH_take (i := 0) (v := ?_) (by simp only [List.getElem?_toArray, List.getElem?_cons_zero]; rfl) (by kernel_rfl) (by kernel_rfl) (by kernel_rfl) (fun _ _ _ h => h) (Or.inl ⟨by rfl, ?_⟩) (by assumption) ?_
                  rotate_left 1
                  · intro w hSw
                    have k0 := hSw
                    go_simp
                    try with_reducible rfl
                  simp only [Act.put, List.setIfInBounds_toArray, List.set_cons_zero, List.set_cons_succ]
                  refine wpAnyH_take (i := 2) (v := ?_) (by simp only [List.getElem?_toArray, List.getElem?_cons_zero, List.getElem?_cons_succ]; rfl) (by kernel_rfl) (by kernel_rfl) (by kernel_rfl) (fun _ _ _ h => h) (Or.inl ⟨by rfl, ?_⟩) (by assumption) ?_
                  rotate_left 1
                  · intro w hSw
                    have k0 := hSw
                    go_simp
                    try with_reducible rfl
                  simp only [Act.put, List.setIfInBounds_toArray, List.set_cons_zero, List.set_cons_succ]
                  refine wpAnyH_take (i := 3) (v := ?_) (by simp only [List.getElem?_toArray, List.getElem?_cons_zero, List.getElem?_cons_succ]; rfl) (by kernel_rfl) (by kernel_rfl) (by kernel_rfl) (fun _ _ _ h => h) (Or.inl ⟨by rfl, ?_⟩) (by assumption) ?_
                  rotate_left 1
                  · intro w hSw
                    have k0 := hSw
                    go_simp
                    try with_reducible rfl
                  simp only [Act.put, List.setIfInBounds_toArray, List.set_cons_zero, List.set_cons_succ]
                  refine wpAnyH_take (i := 4) (v := ?_) (by simp only [List.getElem?_toArray, List.getElem?_cons_zero, List.getElem?_cons_succ]; rfl) (by kernel_rfl) (by kernel_rfl) (by kernel_rfl) (fun _ _ _ h => h) (Or.inl ⟨by rfl, ?_⟩) (by assumption) ?_
                  rotate_left 1
                  · intro w hSw
                    have k0 := hSw
                    go_simp
                    try with_reducible rfl
                  simp only [Act.put, List.setIfInBounds_toArray, List.set_cons_zero, List.set_cons_succ]
                  refine wpAnyH_take (i := 5) (v := ?_) (by simp only [List.getElem?_toArray, List.getElem?_cons_zero, List.getElem?_cons_succ]; rfl) (by kernel_rfl) (by kernel_rfl) (by kernel_rfl) (fun _ _ _ h => h) (Or.inl ⟨by rfl, ?_⟩) (by assumption) ?_
                  rotate_left 1
                  · intro w hSw
                    have k0 := hSw
                    go_simp
                    try with_reducible rfl
                  simp only [Act.put, List.setIfInBounds_toArray, List.set_cons_zero, List.set_cons_succ]
                  refine wpAnyH_take (i := 6) (v := ?_) (by simp only [List.getElem?_toArray, List.getElem?_cons_zero, List.getElem?_cons_succ]; rfl) (by kernel_rfl) (by kernel_rfl) (by kernel_rfl) (fun _ _ _ h => h) (Or.inl ⟨by rfl, ?_⟩) (by assumption) ?_
                  rotate_left 1
                  · intro w hSw
                    have k0 := hSw
                    go_simp
                    try with_reducible rfl
                  simp only [Act.put, List.setIfInBounds_toArray, List.set_cons_zero, List.set_cons_succ]
                  refine wpAnyH_ready (rs := [1]) (by kernel_rfl) (by simp) ?_
                  refine AllReadyH.cons (by simp only [List.getElem?_toArray, List.getElem?_cons_zero, List.getElem?_cons_succ]; rfl) (fun K hK => ?_) AllReadyH.nil
                  go_simp
                  refine (CL.out).mono ?_
                  rintro e25 w25 ⟨rfl, rfl⟩
                  have hz1 := HC9.out
                  refine hK.out _ _ hz1 (fun hS => ?_)
                  clear hK K hS
                  refine wpAnyH_take (i := 7) (v := ?_) (by simp only [List.getElem?_toArray, List.getElem?_cons_zero, List.getElem?_cons_succ]; rfl) (by kernel_rfl) (by kernel_rfl) (by kernel_rfl) (fun _ _ _ h => h) (Or.inl ⟨by rfl, ?_⟩) (by assumption) ?_
                  rotate_left 1
                  · intro w hSw
                    go_simp
                    try with_reducible rfl
                  simp only [Act.put, List.setIfInBounds_toArray, List.set_cons_zero, List.set_cons_succ]
                  refine wpAnyH_done (by kernel_rfl) ?_ _
                  refine NoPanic.normal ?_
                  go_wp2
                  go_roundw
                  case rel => exact ⟨i + 1, stepF F x, fs', ds, by omega, by go_num, HFL9.out, HDS.out, QE.out.more (by omega), F9.out⟩
                  case measure => simp [intOf]; omega
    · obtain rfl : i = n := by omega
      obtain ⟨Aq, cq, hvq⟩ := HQ.out.row.form
      obtain ⟨m, HM⟩ : ∃ m, Hid (ds.length = m) := ⟨_, rfl⟩
      rw [HM.out] at hvq hdl
      subst hvq
      have hfs : fs.length ≤ 900 := by omega
      have HFS := hid hfs
      clear hfs hfl hlt
      go_wp2
      go_loopw [15, 16, 17, 18, 19, 20, 21, 22, 23, 24, 25, 26] (fun v15 _ _ _ _ _ _ _ _ _ _ _ wr => ∃ j : Nat, j ≤ m ∧ v15 = .int .i64 (j : Int) ∧ Hid (QSt (fun _ => False) w.heap.size w wr pf pg F (120 * i) fs (.slice Aq m cq) ds)) (fun v15 _ _ _ _ _ _ _ _ _ _ _ _ => m - (intOf v15).toNat)
      case atStart => exact ⟨0, by omega, rfl, HQ.out⟩
      case round =>
        obtain ⟨wj, hwj⟩ : ∃ wj, wj = wr := ⟨_, rfl⟩
        subst hwj
        obtain ⟨j, hj, rfl, HQJ⟩ := hrel
        by_cases hjm : j < m
        · have hjm2 : (j : Int) < (m : Int) := by omega
          have w2' : IntKind.i64.wrap ((j : Int) + 1) = (j : Int) + 1 := i64in _ (by omega) (by omega)
          have hjl : j < ds.length := by rw [HM.out]; exact hjm
          obtain ⟨dj, HDJ⟩ : ∃ dj, Hid (ds[j] = dj) := ⟨_, hid rfl⟩
          have HDJL : Hid (dj.length = 32) := by show _ = _; rw [← HDJ.out]; exact HQJ.out.row.len _ (List.getElem_mem _)
          obtain ⟨gq, c12, hv12, _⟩ := HQJ.out.row.at_ j hjl
          rw [HM.out] at hv12
          injection hv12 with hA12 hn12 hc12
          subst hA12 hc12
          clear hn12
          have HLJ : Hid (∀ W (av : Nat → Prop), QSt av w.heap.size w W pf pg F (120 * i) fs (.slice (some ⟨gq, 0, none⟩) m cq) ds → (loadVar 27 ⟨gq, j * 32, none⟩).run Tryd.prog W = .ok (.agg (hvec dj)) W) := fun W av hW => (hW.row.mono (Nat.zero_le _)).ld j hjl dj HDJ.out
          obtain ⟨ys, nme, kk, is, hfq, hfind⟩ := HQJ.out.find_f HDJL.out
          have HFI := hid hfind
          have HFQ := hid hfq
          have hyl := hfq.le
          obtain ⟨m5, HM5⟩ : ∃ m5, Hid (ys.length = m5) := ⟨_, rfl⟩
          rw [HM5.out] at hyl
          have HZ1 := hid (pcell_size (nme, kk))
          obtain ⟨Z, HZZ⟩ : ∃ Z, Hid (ba ys = Z) := ⟨_, rfl⟩
          have hnis := ne_self is
          have HLD1 := hid (HLJ.out wj _ HQJ.out)
          clear hfind hfq
          go_wp2_with (first
            | (refine wpList_load_g (by rfl) 27 (.tmp 131) rfl gq (j * 32) rfl (hvec dj) HLD1.out ?_)
            | fail)
          refine (HFI.out wj _ _ _ HQJ.out).mono ?_
          rintro e5 w5 ⟨v5, rfl, hf5, hb5⟩
          have Q5 : Hid (QSt (fun k => wj.heap.size ≤ k ∧ k < w5.heap.size) w.heap.size w w5 pf pg F (120 * i) fs (.slice (some ⟨gq, 0, none⟩) m cq) ds) := HQJ.out.avoid hb5
          have F5 := hid hf5
          obtain ⟨Aa, ca, ba5, hy5, _, _⟩ := hf5.bytes (Nat.lt_of_lt_of_le HPOS.out Q5.out.below.2)
          have hv5 := hy5.form
          rw [HM5.out] at hv5
          subst hv5
          clear hf5 hb5 hy5
          go_wp2_with (first
            | (refine wpList_store_row rfl 54 (.tmp 17) (.tmp 135) rfl w5.heap.size (pcell (nme, kk)).toArray rfl rfl 54 _ (Has.fresh w5 54 _) HZ1.out rfl (pcell_all (nme, kk)) ?_
               generalize hG : World.setRow _ _ _ = W1
               obtain ⟨W6, hG0, X6, XB6⟩ := box_p w5 (nme, kk)
               obtain rfl : W6 = W1 := hG0.symm.trans hG
               have Q6 := hid (Q5.out.on XB6.out)
               have HLD6 := hid (HLJ.out W6 _ Q6.out)
               clear hG hG0)
            | (refine wpList_load_g (by rfl) 27 (.tmp 141) rfl gq (j * 32) rfl (hvec dj) HLD6.out ?_)
            | fail)
          refine (Q6.out.find_g HPOS.out HF.out HDJL.out HFS.out HFQ.out).mono ?_
          rintro e7 w7 ⟨u7, rfl, hf7, hb7⟩
          have Q7 := hid (Q6.out.on hb7)
          have X7 : Hid (Has w7 w5.heap.size 54 (pcell (nme, kk)).toArray) := X6.out.on hb7
          have U7 : Hid (Fresh W6.heap.size w7 u7 ys) := hf7
          obtain ⟨Ab, cb1, bb1, hy7, _, _⟩ := hf7.bytes (Nat.lt_of_lt_of_le HPOS.out Q7.out.below.2)
          have hv7 := hy7.form
          rw [HM5.out] at hv7
          subst hv7
          have hcv7 := conv_back hy7
          have F57 : Hid (Fresh wj.heap.size w7 (.slice Aa m5 ca) ys) := fresh_kept (fresh_kept F5.out XB6.out) hb7
          obtain ⟨Ac, cc, bc, hyc, _, _⟩ := F57.out.bytes (Nat.lt_of_lt_of_le HPOS.out Q7.out.below.2)
          have hcv5 := conv_back hyc
          rw [HZZ.out] at hcv5 hcv7
          have k0 : w7.cell? ⟨w5.heap.size, 0, none⟩ = some (.string (ba nme)) := X7.out.at_ 0
          have k1 : w7.cell? ⟨w5.heap.size, 1, none⟩ = some (.int .i64 (kk : Int)) := X7.out.at_ 1
          have HLA : Hid (∀ k, (Value.slice Aa m5 ca).ownBlock = some k → wj.heap.size ≤ k ∧ k < w5.heap.size) := fun k hk => World.ownsRow.lt F5.out k hk
          have HW56 : Hid (w5.heap.size ≤ W6.heap.size) := XB6.out.size
          clear hf7 hb7 hy7 hyc
          go_wp2
          rcases Nat.eq_zero_or_pos m5 with hm0 | hm0
          · subst hm0
            go_loopw [23] (fun v wr => v = .int .i64 0 ∧ wr = w7) (fun _ _ => 0)
            case atStart => exact ⟨rfl, rfl⟩
            case round =>
              obtain ⟨rfl, rfl⟩ := hrel
              have U7z : Hid (Fresh 0 wr (.slice Ab 0 cb1) ys) := U7.out.mono (Nat.zero_le _)
              clear hcv5 hcv7 k0 k1
              have HLDa := hid (HLJ.out wr _ Q7.out)
              go_wp2_with (first
                | (refine wpList_load_g (by rfl) 27 (.tmp 188) rfl gq (j * 32) rfl (hvec dj) HLDa.out ?_)
                | fail)
              refine (HFI.out wr _ _ _ Q7.out).mono ?_
              rintro e10 w10 ⟨v10, rfl, hf10, hb10⟩
              have Q10 := hid (Q7.out.on hb10)
              obtain ⟨A10, c10, b10, hy10, _, _⟩ := hf10.bytes (Nat.lt_of_lt_of_le HPOS.out Q10.out.below.2)
              have hv10 := hy10.form
              rw [HM5.out] at hv10
              subst hv10
              have F10 : Hid (Fresh 0 w10 (.slice A10 0 c10) ys) := hf10.mono (Nat.zero_le _)
              have U10 : Hid (Fresh 0 w10 (.slice Ab 0 cb1) ys) := fresh_kept U7z.out hb10
              clear hf10 hb10 hy10
              go_wp2_with (first
                | (refine wpList_store_row rfl 54 (.tmp 25) (.tmp 192) rfl w10.heap.size (pcell (nme, kk)).toArray rfl rfl 54 _ (Has.fresh w10 54 _) HZ1.out rfl (pcell_all (nme, kk)) ?_
                   generalize hG : World.setRow _ _ _ = W1
                   obtain ⟨W11, hG0, X11, XB11⟩ := box_p w10 (nme, kk)
                   obtain rfl : W11 = W1 := hG0.symm.trans hG
                   have Q11 := hid (Q10.out.on XB11.out)
                   have hcv1 : (convert 25 9 (.slice A10 0 c10)).run Tryd.prog W11 = .ok (.string Z) W11 := by
                     obtain ⟨Ax, cx, bx, hyx, _, _⟩ := (fresh_kept F10.out XB11.out).bytes (Nat.lt_of_lt_of_le HPOS.out Q11.out.below.2)
                     have := conv_back hyx
                     rw [HZZ.out] at this; exact this
                   have hcv2 : (convert 25 9 (.slice Ab 0 cb1)).run Tryd.prog W11 = .ok (.string Z) W11 := by
                     obtain ⟨Ax, cx, bx, hyx, _, _⟩ := (fresh_kept U10.out XB11.out).bytes (Nat.lt_of_lt_of_le HPOS.out Q11.out.below.2)
                     have := conv_back hyx
                     rw [HZZ.out] at this; exact this
                   clear hG hG0)
                | fail)
              have QE := hid (Q11.out.less (av' := fun _ => False) (fun k hk => hk.elim))
              go_wp2
              go_roundw
              case rel => exact ⟨j + 1, by omega, by go_num, QE.out⟩
              case measure => simp [intOf]; omega
          · have hform : ∃ g2, Aa = some ⟨g2, 0, none⟩ := by
              rcases F57.out.2 with ⟨_, k2⟩ | ⟨g, _, _, k1, _⟩
              · have := HM5.out; omega
              · injection k1 with k1; exact ⟨g, k1⟩
            obtain ⟨g2, rfl⟩ := hform
            have HAG := hid (HLA.out g2 rfl)
            clear hcv5 hcv7 k0 k1
            go_loopw [23] (fun v wr => ∃ k : Nat, k ≤ m5 ∧ v = .int .i64 (k : Int) ∧ Hid (∃ zs : By, zs.length = m5 ∧ Fresh 0 wr (.slice (some ⟨g2, 0, none⟩) m5 ca) zs) ∧ Hid (QSt (fun k => wj.heap.size ≤ k ∧ k < w5.heap.size) w.heap.size w wr pf pg F (120 * i) fs (.slice (some ⟨gq, 0, none⟩) m cq) ds) ∧ Hid (Fresh W6.heap.size wr (.slice Ab m5 cb1) ys)) (fun v _ => m5 - (intOf v).toNat)
            case atStart => exact ⟨0, by omega, rfl, ⟨_, HM5.out, F57.out.mono (Nat.zero_le _)⟩, Q7.out, U7.out⟩
            case round =>
              obtain ⟨k, hk, rfl, J1, J2, J3⟩ := hrel
              by_cases hkn : k < m5
              · have hkn2 : (k : Int) < (m5 : Int) := by omega
                have w3' : IntKind.i64.wrap ((k : Int) + 1) = (k : Int) + 1 := i64in _ (by omega) (by omega)
                obtain ⟨zs, hzl, hzf⟩ := J1.out
                have hc0 : wr.cell? ⟨g2, k, none⟩ = some (V8 (at8 zs k)) := by
                  have h9 := hzf
                  rw [← hzl] at h9
                  rw [World.ownsRow.cellAt (g := g2) (cap := ca) h9 k (by omega)]
                  exact get_map (by omega)
                obtain ⟨z9, hx⟩ := xor85 (at8 zs k)
                obtain ⟨_, hfro, hf9⟩ := fresh_set hzf hzl k z9 hkn
                unfold V8 at hc0
                generalize b8 (at8 zs k) = z8 at hx hc0
                have HF9 := hid hf9
                obtain ⟨b9, HB9⟩ : ∃ b9, Hid (b8 z9 = b9) := ⟨_, rfl⟩
                rw [HB9.out] at hx HF9
                have HZS : Hid ((zs.set k z9).length = m5) := by show _ = _; rw [List.length_set]; exact hzl
                have HU9 : Hid (Fresh W6.heap.size (wr.setCell ⟨g2, k, none⟩ (.int .u8 b9)) (.slice Ab m5 cb1) ys) := row_of J3.out fun q hq => (Grw.of_set g2 k wr (.int .u8 b9)).block q (World.ownsRow.lt J3.out q hq).2 (fun e => by
                  have e := Option.some.inj e
                  have h1 := (World.ownsRow.lt J3.out q hq).1
                  have h2 := HAG.out.2
                  have h3 := HW56.out
                  omega)
                clear hzf hf9 hzl
                go_wp2
                go_roundw
                case rel => exact ⟨k + 1, by omega, by go_num, ⟨_, HZS.out, HF9.out⟩, J2.out.mut (Grw.of_set g2 k wr _) HAG.out, HU9.out⟩
                case measure => simp [intOf]; omega
              · obtain rfl : k = m5 := by omega
                have U7z : Hid (Fresh 0 wr (.slice Ab k cb1) ys) := J3.out.mono (Nat.zero_le _)
                have HLDa := hid (HLJ.out wr _ J2.out)
                go_wp2_with (first
                  | (refine wpList_load_g (by rfl) 27 (.tmp 188) rfl gq (j * 32) rfl (hvec dj) HLDa.out ?_)
                  | fail)
                refine (HFI.out wr _ _ _ J2.out).mono ?_
                rintro e10 w10 ⟨v10, rfl, hf10, hb10⟩
                have Q10 := hid (J2.out.on hb10)
                obtain ⟨A10, c10, b10, hy10, _, _⟩ := hf10.bytes (Nat.lt_of_lt_of_le HPOS.out Q10.out.below.2)
                have hv10 := hy10.form
                rw [HM5.out] at hv10
                subst hv10
                have F10 : Hid (Fresh 0 w10 (.slice A10 k c10) ys) := hf10.mono (Nat.zero_le _)
                have U10 : Hid (Fresh 0 w10 (.slice Ab k cb1) ys) := fresh_kept U7z.out hb10
                clear hf10 hb10 hy10
                go_wp2_with (first
                  | (refine wpList_store_row rfl 54 (.tmp 25) (.tmp 192) rfl w10.heap.size (pcell (nme, kk)).toArray rfl rfl 54 _ (Has.fresh w10 54 _) HZ1.out rfl (pcell_all (nme, kk)) ?_
                     generalize hG : World.setRow _ _ _ = W1
                     obtain ⟨W11, hG0, X11, XB11⟩ := box_p w10 (nme, kk)
                     obtain rfl : W11 = W1 := hG0.symm.trans hG
                     have Q11 := hid (Q10.out.on XB11.out)
                     have hcv1 : (convert 25 9 (.slice A10 k c10)).run Tryd.prog W11 = .ok (.string Z) W11 := by
                       obtain ⟨Ax, cx, bx, hyx, _, _⟩ := (fresh_kept F10.out XB11.out).bytes (Nat.lt_of_lt_of_le HPOS.out Q11.out.below.2)
                       have := conv_back hyx
                       rw [HZZ.out] at this; exact this
                     have hcv2 : (convert 25 9 (.slice Ab k cb1)).run Tryd.prog W11 = .ok (.string Z) W11 := by
                       obtain ⟨Ax, cx, bx, hyx, _, _⟩ := (fresh_kept U10.out XB11.out).bytes (Nat.lt_of_lt_of_le HPOS.out Q11.out.below.2)
                       have := conv_back hyx
                       rw [HZZ.out] at this; exact this
                     clear hG hG0)
                  | fail)
                have QE := hid (Q11.out.less (av' := fun _ => False) (fun k hk => hk.elim))
                go_wp2
                go_roundw
                case rel => exact ⟨j + 1, by omega, by go_num, QE.out⟩
                case measure => simp [intOf]; omega
        · obtain rfl : j = m := by omega
          have CA := hid (awake_any wj (HT.out.kept HQJ.out.below.1 HPOS.out))
          go_wp2_with (go_at_call 14; refine CA.out.mono ?_; rintro e12 w12 ⟨rfl, hb12⟩)
          go_ret
          exact ⟨rfl, HQJ.out.below.1.trans (hb12.mono HQJ.out.below.2)⟩
end Go.Proofs.YtlcdkponegmcdaaDoor
