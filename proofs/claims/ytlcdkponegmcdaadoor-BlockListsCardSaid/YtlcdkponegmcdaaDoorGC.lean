/- The walk of BlockLists. Conditions: the listed table; bytes in a block of the world. -/
import Derived.Test.YtlcdkponegmcdaaDoorGB
namespace Go.Proofs.YtlcdkponegmcdaaDoor
open Go.RowKit
def hashL (xs : By) : List By := if xs.length ≤ 4096 then hashes xs else []
def errL (xs : By) : Int := if xs.length ≤ 4096 then 0 else 3
theorem hashL_len (xs : By) : (hashL xs).length ≤ 32 := by
  unfold hashL
  split
  · rename_i h; rw [hashes_len]; exact cntL_le _ h
  · exact Nat.zero_le _
theorem list_both (v : Value) (xs : By) (A : Option Addr) (cap bb off : Nat) (w : World) (hT : Sha.Tab w) (h : Bytes w v xs A cap bb off) :
    Calls Tryd.prog 15 #[v] w fun e w' => ∃ v', e = .returned (.tuple #[v', .int .i64 (errL xs)]) ∧ Dgs w.heap.size w' v' (hashL xs) ∧ Below w.heap.size w w' := by
  by_cases hl : xs.length ≤ 4096
  · rw [errL, hashL, if_pos hl, if_pos hl]
    exact list_any v xs A cap bb off w hT h hl
  · rw [errL, hashL, if_neg hl, if_neg hl]
    refine (list_long v xs A cap bb off w h (by omega)).mono ?_
    rintro e w' ⟨rfl, rfl⟩
    exact ⟨_, rfl, Dgs.nil _ _, Below.refl _ _⟩
theorem rlist_both (v : Value) (xs : By) (A : Option Addr) (cap bb off : Nat) (w : World) (hp : 0 < w.heap.size) (h : Bytes w v xs A cap bb off) :
    Calls Tryd.prog 16 #[v] w fun e w' => ∃ v', e = .returned (.tuple #[v', .int .i64 (errL xs)]) ∧ Dgs w.heap.size w' v' (hashL xs) ∧ Below w.heap.size w w' := by
  by_cases hl : xs.length ≤ 4096
  · rw [errL, hashL, if_pos hl, if_pos hl]
    exact rlist_any v xs A cap bb off w h hp hl
  · rw [errL, hashL, if_neg hl, if_neg hl]
    refine (rlist_long v xs A cap bb off w h (by omega)).mono ?_
    rintro e w' ⟨rfl, rfl⟩
    exact ⟨_, rfl, Dgs.nil _ _, Below.refl _ _⟩
/-- What the great region reads. -/
structure S8 (gb : Nat) (d : By) (vp : Value) (ys : By) (A : Option Addr) (cap bb : Nat) (W : World) : Prop where
  box : Has W gb 27 (hvec d)
  p : Bytes W vp ys A cap bb 0
theorem S8.on {gb : Nat} {d : By} {vp : Value} {ys : By} {A : Option Addr} {cap bb : Nat} {W W' : World} (h : S8 gb d vp ys A cap bb W) (hb : Below W.heap.size W W') : S8 gb d vp ys A cap bb W' := ⟨h.box.on hb, h.p.kept hb (Nat.le_refl _)⟩
theorem xor255 (x : UInt8) : bits .xor .u8 (b8 x) 255 = b8 (UInt8.ofNat (255 - x.toNat)) := by
  have h : ∀ i : _root_.Fin 256, bits .xor .u8 ((i.val : Nat) : Int) 255 = ((255 - i.val : Nat) : Int) := by decide +kernel
  have hx := x.toNat_lt
  have := h ⟨x.toNat, by omega⟩
  rw [b8_ofNat]
  have e : (255 - x.toNat) % 256 = 255 - x.toNat := by omega
  rw [e]
  exact this
theorem partI_small (xs : By) (i : Int) : (partI xs i).length ≤ 128 := by
  unfold partI
  split
  · simp
  · exact partL_le _ _
theorem ne_self (b : Bool) : (b != b) = false := by cases b <;> rfl
set_option maxRecDepth 100000 in
set_option maxHeartbeats 4000000 in
theorem lists_big (v : Value) (xs : By) (A : Option Addr) (cap bb off : Nat) (i : Int) (d : By) (w : World) (h : Bytes w v xs A cap bb off) (hT : Sha.Tab w) (hl : 9000 < xs.length) :
    Calls Tryd.prog 4 #[v, .int .i64 i, .agg (hvec d)] w fun e w' => e = .returned (.bool true) ∧ Below w.heap.size w w' := by
  obtain rfl := h.form
  obtain ⟨n, HN⟩ : ∃ n, Hid (xs.length = n) := ⟨_, rfl⟩
  rw [HN.out] at hl ⊢
  have h1 : (9000 : Int) < (n : Int) := by omega
  have hbx : Below w.heap.size w (w.alloc (.cells (hvec d) 27)) := (Below.refl _ _).alloc (Nat.le_refl _) _
  have CA := hid (awake_any (w.alloc (.cells (hvec d) 27)) (hT.kept hbx hT.pos))
  have HBX := hid hbx
  clear h hl hT hbx
  go_enter Tryd.func4, Tryd.ntmps4
  go_wp2_with (go_at_call 14; refine CA.out.mono ?_; rintro e5 w5 ⟨rfl, hb5⟩)
  go_ret
  exact ⟨rfl, HBX.out.trans (hb5.mono HBX.out.size)⟩
set_option maxRecDepth 100000 in
set_option maxHeartbeats 16000000 in
theorem lists_any (v : Value) (xs : By) (A : Option Addr) (cap bb off : Nat) (i : Int) (d : By) (hd : d.length = 32) (w : World) (h : Bytes w v xs A cap bb off) (hT : Sha.Tab w) :
    Calls Tryd.prog 4 #[v, .int .i64 i, .agg (hvec d)] w fun e w' => e = .returned (.bool true) ∧ Below w.heap.size w w' := by
  by_cases hb : 9000 < xs.length
  · exact lists_big v xs A cap bb off i d w h hT hb
  have hl : xs.length ≤ 9000 := by omega
  have e0 := h.form
  obtain ⟨n, HN⟩ : ∃ n, Hid (xs.length = n) := ⟨_, rfl⟩
  have h1 : ¬ (9000 : Int) < (n : Int) := by rw [← HN.out]; omega
  have hbx : Below w.heap.size w (w.alloc (.cells (hvec d) 27)) := (Below.refl _ _).alloc (Nat.le_refl _) _
  have hb0 : Below w.heap.size w ((w.alloc (.cells (hvec d) 27)).alloc (.cells #[] 5)) := hbx.alloc hbx.size _
  have h0 : Fresh w.heap.size ((w.alloc (.cells (hvec d) 27)).alloc (.cells #[] 5)) (.slice (some ⟨w.heap.size + 1, 0, none⟩) 0 0) [] := by
    have := World.ownsRow_made (base := w.heap.size) (w.alloc (.cells (hvec d) 27)) #[] 0 (e := 5) (size := 1) (by simp) (by unfold maxLen; omega) rfl
    unfold Fresh
    simpa using this
  obtain ⟨v1, w1, hr1, hf1, hg1⟩ := fresh_app h0 (h.kept hb0 (Nat.le_refl _)) (by simp; omega) (by simp; omega)
  rw [List.nil_append] at hf1
  have B1 : Below w.heap.size w w1 := hb0.grown hg1 (by simp; omega) (fun g hg => by have hg : w.heap.size + 1 = g := Option.some.inj hg; omega)
  have HBOX1 : Has w1 w.heap.size 27 (hvec d) := ((Has.fresh w 27 (hvec d)).more _).grw (g := w.heap.size + 1) hg1 (by omega)
  obtain ⟨A1, c1, b1, hy1, hb1w, _⟩ := hf1.bytes (Nat.lt_of_lt_of_le hT.pos B1.size)
  have e1 := hy1.form
  rw [HN.out] at e0 e1
  subst e0
  subst e1
  have T1 := hT.kept B1 hT.pos
  have CL1 := hid (list_both _ xs A1 c1 b1 0 w1 T1 hy1)
  have HLL := hid (hashL_len xs)
  obtain ⟨hs, HHS⟩ : ∃ hs, Hid (hashL xs = hs) := ⟨_, rfl⟩
  obtain ⟨z, HZ⟩ : ∃ z, Hid (errL xs = z) := ⟨_, rfl⟩
  rw [HHS.out, HZ.out] at CL1
  rw [HHS.out] at HLL
  obtain ⟨ys, HYS⟩ : ∃ ys, Hid (partI xs i = ys) := ⟨_, rfl⟩
  have HX := hid h
  have HT := hid hT
  have HPOS := hid hT.pos
  have HL := hid hl
  have HY1 := hid hy1
  have HB1 := hid B1
  have HBX := hid HBOX1
  have HR1 := hid hr1
  have HF1 := hid hf1
  have HDL := hid hd
  clear h hT hl hb hbx hb0 h0 hr1 hf1 hg1 hy1 T1 B1 HBOX1 hb1w hd
  go_enter Tryd.func4, Tryd.ntmps4
  go_wp2_with (first
    | (refine wpList_append_run rfl (.tmp 20) (.tmp 21) 25 25 rfl ⟨_, _, HR1.out, ?_⟩)
    | fail)
  refine CL1.out.mono ?_
  rintro e2 w2 ⟨v2, rfl, hd2, hb2⟩
  have D2 : Hid (Dgs 0 w2 v2 hs) := hd2.mono (Nat.zero_le _)
  have B2 : Hid (Below w.heap.size w w2) := HB1.out.trans (hb2.mono HB1.out.size)
  have Y2 : Hid (Bytes w2 (.slice A1 n c1) xs A1 c1 b1 0) := HY1.out.kept hb2 (Nat.le_refl _)
  have X2 : Hid (Has w2 w.heap.size 27 (hvec d)) := HBX.out.on hb2
  have CL2 := hid (rlist_both _ xs _ cap bb off w2 (Nat.lt_of_lt_of_le HPOS.out B2.out.size) (HX.out.kept B2.out (Nat.le_refl _)))
  rw [HHS.out, HZ.out] at CL2
  clear hd2 hb2
  go_wp2_with (fail)
  refine CL2.out.mono ?_
  rintro e3 w3 ⟨v3, rfl, hd3, hb3⟩
  have D3 : Hid (Dgs 0 w3 v3 hs) := hd3.mono (Nat.zero_le _)
  have D2b : Hid (Dgs 0 w3 v2 hs) := D2.out.kept hb3 (Nat.le_refl _)
  have B3 : Hid (Below w.heap.size w w3) := B2.out.trans (hb3.mono B2.out.size)
  have Y3 : Hid (Bytes w3 (.slice A1 n c1) xs A1 c1 b1 0) := Y2.out.kept hb3 (Nat.le_refl _)
  have X3 : Hid (Has w3 w.heap.size 27 (hvec d)) := X2.out.on hb3
  have CP1 := hid (part_any _ xs A1 c1 b1 0 i w3 Y3.out)
  rw [HYS.out] at CP1
  clear hd3 hb3
  go_wp2_with (fail)
  refine CP1.out.mono ?_
  rintro e4 w4 ⟨vp, rfl, hf4, hb4⟩
  have B4 : Hid (Below w.heap.size w w4) := B3.out.trans (hb4.mono B3.out.size)
  have Y4 : Hid (Bytes w4 (.slice A1 n c1) xs A1 c1 b1 0) := Y3.out.kept hb4 (Nat.le_refl _)
  have X4 : Hid (Has w4 w.heap.size 27 (hvec d)) := X3.out.on hb4
  have D4 : Hid (L2 v2 v3 hs hs w4) := ⟨D2b.out.kept hb4 (Nat.le_refl _), D3.out.kept hb4 (Nat.le_refl _)⟩
  have P4 : Hid (Fresh w3.heap.size w4 vp ys) := hf4
  have HB4 : Hid (b1 < w3.heap.size ∧ w3.heap.size ≤ w4.heap.size) := ⟨Y3.out.blk, hb4.size⟩
  have CP2 := hid (part_any _ xs A1 c1 b1 0 i w4 Y4.out)
  rw [HYS.out] at CP2
  clear hf4 hb4
  go_wp2_with (fail)
  refine CP2.out.mono ?_
  rintro e5 w5 ⟨vq, rfl, hf5, hb5⟩
  have B5 : Hid (Below w.heap.size w w5) := B4.out.trans (hb5.mono B4.out.size)
  have Y5 : Hid (Bytes w5 (.slice A1 n c1) xs A1 c1 b1 0) := Y4.out.kept hb5 (Nat.le_refl _)
  have X5 : Hid (Has w5 w.heap.size 27 (hvec d)) := X4.out.on hb5
  have D5 : Hid (L2 v2 v3 hs hs w5) := D4.out.on hb5
  have P5 : Hid (Fresh w3.heap.size w5 vp ys) := fresh_kept P4.out hb5
  have Q5 : Hid (Fresh w4.heap.size w5 vq ys) := hf5
  have HPG : Hid (∀ g, vp.ownBlock = some g → g < w4.heap.size) := fun g hg => (World.ownsRow.lt P4.out g hg).2
  have CP3 := hid (rpart_any _ xs _ cap bb off i w5 (HX.out.kept B5.out (Nat.le_refl _)) (Nat.lt_of_lt_of_le HPOS.out B5.out.size) (by have := HL.out; omega))
  rw [HYS.out] at CP3
  clear hf5 hb5
  go_wp2_with (fail)
  refine CP3.out.mono ?_
  rintro e6 w6 ⟨u6, rfl, hf6, hb6⟩
  have B6 : Hid (Below w.heap.size w w6.drew) := (B5.out.trans (hb6.mono B5.out.size)).drew
  have hb6d : Below w5.heap.size w5 w6.drew := hb6.drew
  have Y6 : Hid (Bytes w6.drew (.slice A1 n c1) xs A1 c1 b1 0) := Y5.out.kept hb6d (Nat.le_refl _)
  have X6 : Hid (Has w6.drew w.heap.size 27 (hvec d)) := X5.out.on hb6d
  have D6 : Hid (L2 v2 v3 hs hs w6.drew) := D5.out.on hb6d
  have P6 : Hid (Fresh w3.heap.size w6.drew vp ys) := fresh_kept P5.out hb6d
  have Q6 : Hid (Fresh w4.heap.size w6.drew vq ys) := fresh_kept Q5.out hb6d
  obtain ⟨Ap, cp, bp, hyp, _, _⟩ := P6.out.bytes (Nat.lt_of_lt_of_le HPOS.out B6.out.size)
  obtain ⟨Aq, cq, bq, hyq, hbq, _⟩ := Q6.out.bytes (Nat.lt_of_lt_of_le HPOS.out B6.out.size)
  obtain ⟨Au, cu, bu, hyu, _, _⟩ := hf6.bytes (Nat.lt_of_lt_of_le HPOS.out (Nat.le_trans B5.out.size hb6.size))
  have hcu := conv_back hyu
  obtain ⟨m, HM⟩ : ∃ m, Hid (ys.length = m) := ⟨_, rfl⟩
  have e7 := hyp.form
  have e8 := hyq.form
  have e9 := hyu.form
  rw [HM.out] at e7 e8 e9
  subst e7 e8 e9
  obtain ⟨Z, HZZ⟩ : ∃ Z, Hid (ba ys = Z) := ⟨_, rfl⟩
  rw [HZZ.out] at hcu
  obtain ⟨A2, c2, hv2⟩ := D6.out.a.form
  obtain ⟨A3, c3, hv3⟩ := D6.out.b.form
  obtain ⟨hn, HHN⟩ : ∃ hn, Hid (hs.length = hn) := ⟨_, rfl⟩
  rw [HHN.out] at hv2 hv3 HLL
  subst hv2 hv3
  have T6 : Hid (Sha.Tab w6.drew) := HT.out.kept B6.out HPOS.out
  have S6 : Hid (S8 w.heap.size d (.slice Ap m cp) ys Ap cp bp w6.drew) := ⟨X6.out, hyp⟩
  have HQ := hid hyq
  have HBQ := hid hbq
  have CS := hid (rsame_any _ _ hs w6.drew D6.out.a D6.out.b (by rw [HHN.out]; have := HLL.out; omega))
  obtain ⟨dx, HDX⟩ : ∃ dx, Hid (dg xs = dx) := ⟨_, rfl⟩
  have HDXL : Hid (dx.length = 32) := by show _ = _; rw [← HDX.out]; exact dg_len _
  obtain ⟨b, HBB⟩ : ∃ b, Hid (same8 dx d = b) := ⟨_, rfl⟩
  have HSS : Hid (same8 dx dx = true) := same8_refl dx
  have HNB := ne_self b
  have HXD : Hid (∀ W, Below w6.drew.heap.size w6.drew W → Bytes W (.slice A n cap) xs A cap bb off ∧ Bytes W (.slice A1 n c1) xs A1 c1 b1 0 ∧ Sha.Tab W) := fun W hW => ⟨HX.out.kept (B6.out.trans (hW.mono B6.out.size)) (Nat.le_refl _), Y6.out.kept hW (Nat.le_refl _), T6.out.kept hW (Nat.lt_of_lt_of_le HPOS.out B6.out.size)⟩
  have hxl : xs.length ≤ 100000 := by have := HL.out; omega
  have HXL := hid hxl
  clear hf6 hb6 hb6d hyu hyp hyq hbq hxl
  go_wp2_with (fail)
  refine wp_region_noPanic ?_
  refine wp_region_held_drew (S := S8 w.heap.size d (.slice Ap m cp) ys Ap cp bp) (by kernel_rfl) (S6.out) (fun hS => ?_)
  refine wpAnyH_take (i := 0) (v := ?_) (by simp only [List.getElem?_toArray, List.getElem?_cons_zero]; rfl) (by kernel_rfl) (by kernel_rfl) (by kernel_rfl) (fun _ _ _ h => h) (Or.inl ⟨by rfl, ?_⟩) (by assumption) ?_
  rotate_left 1
  · intro w hSw
    go_simp
    try with_reducible rfl
  simp only [Act.put, List.setIfInBounds_toArray, List.set_cons_zero, List.set_cons_succ]
  refine wpAnyH_take (i := 1) (v := ?_) (by simp only [List.getElem?_toArray, List.getElem?_cons_zero, List.getElem?_cons_succ]; rfl) (by kernel_rfl) (by kernel_rfl) (by kernel_rfl) (fun _ _ _ h => h) (Or.inl ⟨by rfl, ?_⟩) (by assumption) ?_
  rotate_left 1
  · intro w hSw
    go_simp
    try with_reducible rfl
  simp only [Act.put, List.setIfInBounds_toArray, List.set_cons_zero, List.set_cons_succ]
  refine wpAnyH_ready (rs := [2]) (by kernel_rfl) (by simp) ?_
  refine AllReadyH.cons (by simp only [List.getElem?_toArray, List.getElem?_cons_zero, List.getElem?_cons_succ]; rfl) (fun K hK => ?_) AllReadyH.nil
  go_simp
  refine (CS.out).mono ?_
  rintro e7 w7 ⟨rfl, hb7⟩
  have hz1 := S6.out.on hb7
  refine hK.out _ _ hz1 (fun hS => ?_)
  clear hK K hS
  refine wpAnyH_take (i := 3) (v := ?_) (by simp only [List.getElem?_toArray, List.getElem?_cons_zero, List.getElem?_cons_succ]; rfl) (by kernel_rfl) (by kernel_rfl) (by kernel_rfl) (fun _ _ _ h => h) (Or.inl ⟨by rfl, ?_⟩) (by assumption) ?_
  rotate_left 1
  · intro w hSw
    go_simp
    try with_reducible rfl
  simp only [Act.put, List.setIfInBounds_toArray, List.set_cons_zero, List.set_cons_succ]
  refine wpAnyH_take (i := 4) (v := ?_) (by simp only [List.getElem?_toArray, List.getElem?_cons_zero, List.getElem?_cons_succ]; rfl) (by kernel_rfl) (by kernel_rfl) (by kernel_rfl) (fun _ _ _ h => h) (Or.inl ⟨by rfl, ?_⟩) (by assumption) ?_
  rotate_left 1
  · intro w hSw
    go_simp
    try with_reducible rfl
  simp only [Act.put, List.setIfInBounds_toArray, List.set_cons_zero, List.set_cons_succ]
  refine wpAnyH_take (i := 5) (v := ?_) (by simp only [List.getElem?_toArray, List.getElem?_cons_zero, List.getElem?_cons_succ]; rfl) (by kernel_rfl) (by kernel_rfl) (by kernel_rfl) (fun _ _ _ h => h) (Or.inl ⟨by rfl, ?_⟩) (by assumption) ?_
  rotate_left 1
  · intro w hSw
    go_simp
    try with_reducible rfl
  simp only [Act.put, List.setIfInBounds_toArray, List.set_cons_zero, List.set_cons_succ]
  refine wpAnyH_take (i := 6) (v := ?_) (by simp only [List.getElem?_toArray, List.getElem?_cons_zero, List.getElem?_cons_succ]; rfl) (by kernel_rfl) (by kernel_rfl) (by kernel_rfl) (fun _ _ _ h => h) (Or.inl ⟨by rfl, ?_⟩) (by assumption) ?_
  rotate_left 1
  · intro w hSw
    go_simp
    try with_reducible rfl
  simp only [Act.put, List.setIfInBounds_toArray, List.set_cons_zero, List.set_cons_succ]
  refine wpAnyH_take (i := 7) (v := ?_) (by simp only [List.getElem?_toArray, List.getElem?_cons_zero, List.getElem?_cons_succ]; rfl) (by kernel_rfl) (by kernel_rfl) (by kernel_rfl) (fun _ _ _ h => h) (Or.inl ⟨by rfl, ?_⟩) (by assumption) ?_
  rotate_left 1
  · intro w hSw
    go_simp
    try with_reducible rfl
  simp only [Act.put, List.setIfInBounds_toArray, List.set_cons_zero, List.set_cons_succ]
  refine wpAnyH_take (i := 8) (v := ?_) (by simp only [List.getElem?_toArray, List.getElem?_cons_zero, List.getElem?_cons_succ]; rfl) (by kernel_rfl) (by kernel_rfl) (by kernel_rfl) (fun _ _ _ h => h) (Or.inl ⟨by rfl, ?_⟩) (by assumption) ?_
  rotate_left 1
  · intro w hSw
    go_simp
    try with_reducible rfl
  simp only [Act.put, List.setIfInBounds_toArray, List.set_cons_zero, List.set_cons_succ]
  refine wpAnyH_take (i := 9) (v := ?_) (by simp only [List.getElem?_toArray, List.getElem?_cons_zero, List.getElem?_cons_succ]; rfl) (by kernel_rfl) (by kernel_rfl) (by kernel_rfl) (fun _ _ _ h => h) (Or.inl ⟨by rfl, ?_⟩) (by assumption) ?_
  rotate_left 1
  · intro w hSw
    go_simp
    try with_reducible rfl
  simp only [Act.put, List.setIfInBounds_toArray, List.set_cons_zero, List.set_cons_succ]
  refine wpAnyH_take (i := 10) (v := ?_) (by simp only [List.getElem?_toArray, List.getElem?_cons_zero, List.getElem?_cons_succ]; rfl) (by kernel_rfl) (by kernel_rfl) (by kernel_rfl) (fun _ _ _ h => h) (Or.inl ⟨by rfl, ?_⟩) (by assumption) ?_
  rotate_left 1
  · intro w hSw
    go_simp
    try with_reducible rfl
  simp only [Act.put, List.setIfInBounds_toArray, List.set_cons_zero, List.set_cons_succ]
  refine wpAnyH_take (i := 11) (v := ?_) (by simp only [List.getElem?_toArray, List.getElem?_cons_zero, List.getElem?_cons_succ]; rfl) (by kernel_rfl) (by kernel_rfl) (by kernel_rfl) (fun _ _ _ h => h) (Or.inl ⟨by rfl, ?_⟩) (by assumption) ?_
  rotate_left 1
  · intro w hSw
    have hcp := conv_back hSw.p
    rw [HZZ.out] at hcp
    go_simp
    try with_reducible rfl
  simp only [Act.put, List.setIfInBounds_toArray, List.set_cons_zero, List.set_cons_succ]
  refine wpAnyH_take (i := 12) (v := ?_) (by simp only [List.getElem?_toArray, List.getElem?_cons_zero, List.getElem?_cons_succ]; rfl) (by kernel_rfl) (by kernel_rfl) (by kernel_rfl) (fun _ _ _ h => h) (Or.inl ⟨by rfl, ?_⟩) (by assumption) ?_
  rotate_left 1
  · intro w hSw
    go_simp
    try with_reducible rfl
  simp only [Act.put, List.setIfInBounds_toArray, List.set_cons_zero, List.set_cons_succ]
  refine wpAnyH_take (i := 13) (v := ?_) (by simp only [List.getElem?_toArray, List.getElem?_cons_zero, List.getElem?_cons_succ]; rfl) (by kernel_rfl) (by kernel_rfl) (by kernel_rfl) (fun _ _ _ h => h) (Or.inl ⟨by rfl, ?_⟩) (by assumption) ?_
  rotate_left 1
  · intro w hSw
    go_simp
    try with_reducible rfl
  simp only [Act.put, List.setIfInBounds_toArray, List.set_cons_zero, List.set_cons_succ]
  refine wpAnyH_take (i := 14) (v := ?_) (by simp only [List.getElem?_toArray, List.getElem?_cons_zero, List.getElem?_cons_succ]; rfl) (by kernel_rfl) (by kernel_rfl) (by kernel_rfl) (fun _ _ _ h => h) (Or.inl ⟨by rfl, ?_⟩) (by assumption) ?_
  rotate_left 1
  · intro w hSw
    go_simp
    try with_reducible rfl
  simp only [Act.put, List.setIfInBounds_toArray, List.set_cons_zero, List.set_cons_succ]
  refine wpAnyH_take (i := 15) (v := ?_) (by simp only [List.getElem?_toArray, List.getElem?_cons_zero, List.getElem?_cons_succ]; rfl) (by kernel_rfl) (by kernel_rfl) (by kernel_rfl) (fun _ _ _ h => h) (Or.inl ⟨by rfl, ?_⟩) (by assumption) ?_
  rotate_left 1
  · intro w hSw
    go_simp
    try with_reducible rfl
  simp only [Act.put, List.setIfInBounds_toArray, List.set_cons_zero, List.set_cons_succ]
  refine wpAnyH_take (i := 16) (v := ?_) (by simp only [List.getElem?_toArray, List.getElem?_cons_zero, List.getElem?_cons_succ]; rfl) (by kernel_rfl) (by kernel_rfl) (by kernel_rfl) (fun _ _ _ h => h) (Or.inl ⟨by rfl, ?_⟩) (by assumption) ?_
  rotate_left 1
  · intro w hSw
    go_simp
    try with_reducible rfl
  simp only [Act.put, List.setIfInBounds_toArray, List.set_cons_zero, List.set_cons_succ]
  refine' wpAnyH_take (i := 17) (v := _) (by simp only [List.getElem?_toArray, List.getElem?_cons_zero, List.getElem?_cons_succ]; rfl) (by kernel_rfl) (by kernel_rfl) (by kernel_rfl) (fun _ _ _ h => h) (yields_load_h (by rfl) (.tmp 5) rfl w.heap.size 0 rfl d (fun w hS => load_h hS.box HDL.out)) (by assumption) ?_
  simp only [Act.put, List.setIfInBounds_toArray, List.set_cons_zero, List.set_cons_succ]
  refine wpAnyH_take (i := 19) (v := ?_) (by simp only [List.getElem?_toArray, List.getElem?_cons_zero, List.getElem?_cons_succ]; rfl) (by kernel_rfl) (by kernel_rfl) (by kernel_rfl) (fun _ _ _ h => h) (Or.inl ⟨by rfl, ?_⟩) (by assumption) ?_
  rotate_left 1
  · intro w hSw
    go_simp
    try with_reducible rfl
  simp only [Act.put, List.setIfInBounds_toArray, List.set_cons_zero, List.set_cons_succ]
  refine' wpAnyH_take (i := 21) (v := _) (by simp only [List.getElem?_toArray, List.getElem?_cons_zero, List.getElem?_cons_succ]; rfl) (by kernel_rfl) (by kernel_rfl) (by kernel_rfl) (fun _ _ _ h => h) (yields_load_h (by rfl) (.tmp 5) rfl w.heap.size 0 rfl d (fun w hS => load_h hS.box HDL.out)) (by assumption) ?_
  simp only [Act.put, List.setIfInBounds_toArray, List.set_cons_zero, List.set_cons_succ]
  refine wpAnyH_ready (rs := [18]) (by kernel_rfl) (by simp) ?_
  refine AllReadyH.cons (by simp only [List.getElem?_toArray, List.getElem?_cons_zero, List.getElem?_cons_succ]; rfl) (fun K hK => ?_) AllReadyH.nil
  go_simp
  refine (verify_any _ xs A1 c1 b1 0 d HDL.out w7 (HXD.out w7 hb7).2.2 (HXD.out w7 hb7).2.1 (by have := HXL.out; omega)).mono ?_
  rintro e8 w8 ⟨rfl, hb8⟩
  rw [HDX.out, HBB.out]
  have hc8 := hb7.trans (hb8.mono hb7.size)
  have hz2 := hz1.on hb8
  refine hK.out _ _ hz2 (fun hS => ?_)
  clear hK K hS
  refine wpAnyH_ready (rs := [20]) (by kernel_rfl) (by simp) ?_
  refine AllReadyH.cons (by simp only [List.getElem?_toArray, List.getElem?_cons_zero, List.getElem?_cons_succ]; rfl) (fun K hK => ?_) AllReadyH.nil
  go_simp
  refine (rsum_any _ xs A cap bb off w8 (HXD.out w8 hc8).1 HXL.out).mono ?_
  rintro e9 w9 ⟨rfl, hb9⟩
  rw [HDX.out]
  have hc9 := hc8.trans (hb9.mono hc8.size)
  have hz3 := hz2.on hb9
  refine hK.out _ _ hz3 (fun hS => ?_)
  clear hK K hS
  refine' wpAnyH_take (i := 22) (v := _) (by simp only [List.getElem?_toArray, List.getElem?_cons_zero, List.getElem?_cons_succ]; rfl) (by kernel_rfl) (by kernel_rfl) (by kernel_rfl) (fun _ _ _ h => h) (yields_eql_h (by rfl) (.tmp 63) (.tmp 64) rfl dx d rfl rfl HDXL.out HDL.out b HBB.out) (by assumption) ?_
  simp only [Act.put, List.setIfInBounds_toArray, List.set_cons_zero, List.set_cons_succ]
  refine wpAnyH_take (i := 23) (v := ?_) (by simp only [List.getElem?_toArray, List.getElem?_cons_zero, List.getElem?_cons_succ]; rfl) (by kernel_rfl) (by kernel_rfl) (by kernel_rfl) (fun _ _ _ h => h) (Or.inl ⟨by rfl, ?_⟩) (by assumption) ?_
  rotate_left 1
  · intro w hSw
    go_simp
    try with_reducible rfl
  simp only [Act.put, List.setIfInBounds_toArray, List.set_cons_zero, List.set_cons_succ]
  refine wpAnyH_take (i := 24) (v := ?_) (by simp only [List.getElem?_toArray, List.getElem?_cons_zero, List.getElem?_cons_succ]; rfl) (by kernel_rfl) (by kernel_rfl) (by kernel_rfl) (fun _ _ _ h => h) (Or.inl ⟨by rfl, ?_⟩) (by assumption) ?_
  rotate_left 1
  · intro w hSw
    go_simp
    try with_reducible rfl
  simp only [Act.put, List.setIfInBounds_toArray, List.set_cons_zero, List.set_cons_succ]
  refine wpAnyH_take (i := 25) (v := ?_) (by simp only [List.getElem?_toArray, List.getElem?_cons_zero, List.getElem?_cons_succ]; rfl) (by kernel_rfl) (by kernel_rfl) (by kernel_rfl) (fun _ _ _ h => h) (Or.inl ⟨by rfl, ?_⟩) (by assumption) ?_
  rotate_left 1
  · intro w hSw
    go_simp
    try with_reducible rfl
  simp only [Act.put, List.setIfInBounds_toArray, List.set_cons_zero, List.set_cons_succ]
  refine wpAnyH_take (i := 26) (v := ?_) (by simp only [List.getElem?_toArray, List.getElem?_cons_zero, List.getElem?_cons_succ]; rfl) (by kernel_rfl) (by kernel_rfl) (by kernel_rfl) (fun _ _ _ h => h) (Or.inl ⟨by rfl, ?_⟩) (by assumption) ?_
  rotate_left 1
  · intro w hSw
    go_simp
    try with_reducible rfl
  simp only [Act.put, List.setIfInBounds_toArray, List.set_cons_zero, List.set_cons_succ]
  refine wpAnyH_take (i := 27) (v := ?_) (by simp only [List.getElem?_toArray, List.getElem?_cons_zero, List.getElem?_cons_succ]; rfl) (by kernel_rfl) (by kernel_rfl) (by kernel_rfl) (fun _ _ _ h => h) (Or.inl ⟨by rfl, ?_⟩) (by assumption) ?_
  rotate_left 1
  · intro w hSw
    go_simp
    try with_reducible rfl
  simp only [Act.put, List.setIfInBounds_toArray, List.set_cons_zero, List.set_cons_succ]
  refine wpAnyH_ready (rs := [28]) (by kernel_rfl) (by simp) ?_
  refine AllReadyH.cons (by simp only [List.getElem?_toArray, List.getElem?_cons_zero, List.getElem?_cons_succ]; rfl) (fun K hK => ?_) AllReadyH.nil
  go_simp
  refine (rsum_any _ xs A cap bb off w9 (HXD.out w9 hc9).1 HXL.out).mono ?_
  rintro e10 w10 ⟨rfl, hb10⟩
  rw [HDX.out]
  have hc10 := hc9.trans (hb10.mono hc9.size)
  have hz4 := hz3.on hb10
  refine hK.out _ _ hz4 (fun hS => ?_)
  clear hK K hS
  refine wpAnyH_ready (rs := [29]) (by kernel_rfl) (by simp) ?_
  refine AllReadyH.cons (by simp only [List.getElem?_toArray, List.getElem?_cons_zero, List.getElem?_cons_succ]; rfl) (fun K hK => ?_) AllReadyH.nil
  go_simp
  refine (verify_any _ xs A1 c1 b1 0 dx HDXL.out w10 (HXD.out w10 hc10).2.2 (HXD.out w10 hc10).2.1 (by have := HXL.out; omega)).mono ?_
  rintro e11 w11 ⟨rfl, hb11⟩
  rw [HDX.out, HSS.out]
  have hc11 := hc10.trans (hb11.mono hc10.size)
  have hz5 := hz4.on hb11
  refine hK.out _ _ hz5 (fun hS => ?_)
  clear hK K hS
  refine wpAnyH_take (i := 30) (v := ?_) (by simp only [List.getElem?_toArray, List.getElem?_cons_zero, List.getElem?_cons_succ]; rfl) (by kernel_rfl) (by kernel_rfl) (by kernel_rfl) (fun _ _ _ h => h) (Or.inl ⟨by rfl, ?_⟩) (by assumption) ?_
  rotate_left 1
  · intro w hSw
    go_simp
    try with_reducible rfl
  simp only [Act.put, List.setIfInBounds_toArray, List.set_cons_zero, List.set_cons_succ]
  refine wpAnyH_take (i := 31) (v := ?_) (by simp only [List.getElem?_toArray, List.getElem?_cons_zero, List.getElem?_cons_succ]; rfl) (by kernel_rfl) (by kernel_rfl) (by kernel_rfl) (fun _ _ _ h => h) (Or.inl ⟨by rfl, ?_⟩) (by assumption) ?_
  rotate_left 1
  · intro w hSw
    go_simp
    try with_reducible rfl
  simp only [Act.put, List.setIfInBounds_toArray, List.set_cons_zero, List.set_cons_succ]
  refine wpAnyH_done (by kernel_rfl) ?_ _
  refine NoPanic.normal ?_
  have B11 : Hid (Below w.heap.size w w11) := B6.out.trans (hc11.mono B6.out.size)
  have P11 : Hid (Fresh w3.heap.size w11 (.slice Ap m cp) ys) := fresh_kept P6.out hc11
  have Y11 := hid (HXD.out w11 hc11)
  have Q11 : Hid (Bytes w11 (.slice Aq m cq) ys Aq cq bq 0) := HQ.out.kept hc11 (Nat.le_refl _)
  obtain ⟨S, HSX⟩ : ∃ S, Hid (ba xs = S) := ⟨_, rfl⟩
  have HEND : Hid (∀ W gp, Grw gp w11 W → w3.heap.size ≤ gp → bq ≠ gp → (convert 25 9 (.slice Aq m cq)).run Tryd.prog W = .ok (.string Z) W ∧ (convert 25 9 (.slice A1 n c1)).run Tryd.prog W = .ok (.string S) W ∧ (convert 25 9 (.slice A n cap)).run Tryd.prog W = .ok (.string S) W ∧ Below w.heap.size w W ∧ Sha.Tab W) := fun W gp hg h3 hne => by
    have hb3 := HB4.out
    have hbw := B3.out.size
    have hbx := HX.out.blk
    have k1 := conv_back (Q11.out.grw hg hne)
    have k2 := conv_back (Y11.out.2.1.grw hg (by omega))
    have k3 := conv_back (Y11.out.1.grw hg (by omega))
    rw [HZZ.out] at k1
    rw [HSX.out] at k2 k3
    have hB : Below w.heap.size w W := Grw.below B11.out hg (by omega) B11.out.size
    exact ⟨k1, k2, k3, hB, HT.out.kept hB HPOS.out⟩
  clear hz1 hz2 hz3 hz4 hz5 hb7 hb8 hb9 hb10 hb11 hc8 hc9 hc10 hc11 HNB hcu
  go_wp2
  rcases Nat.eq_zero_or_pos m with hm0 | hm0
  · subst hm0
    have hbq2 : ∃ gp, w3.heap.size ≤ gp ∧ bq ≠ gp := ⟨w3.heap.size + bq + 1, by omega, by omega⟩
    obtain ⟨gp, hg1, hg2⟩ := hbq2
    obtain ⟨k1, k2, k3, HBE, HTE⟩ := HEND.out w11 gp (Grw.refl _ _) hg1 hg2
    have CA := hid (awake_any w11 HTE)
    have HBE := hid HBE
    clear HTE hg1 hg2
    go_loopw [15] (fun v wr => v = .int .i64 0 ∧ wr = w11) (fun _ _ => 0)
    case atStart => exact ⟨rfl, rfl⟩
    case round =>
      obtain ⟨rfl, rfl⟩ := hrel
      go_wp2_with (go_at_call 14; refine CA.out.mono ?_; rintro e12 w12 ⟨rfl, hb12⟩)
      go_ret
      exact ⟨rfl, HBE.out.trans (hb12.mono HBE.out.size)⟩
  · have hform : ∃ gp, Ap = some ⟨gp, 0, none⟩ := by
      rcases P11.out.2 with ⟨_, k2⟩ | ⟨g, _, _, k1, _⟩
      · have := HM.out; omega
      · injection k1 with k1; exact ⟨g, k1⟩
    obtain ⟨gp, rfl⟩ := hform
    have hgp3 : w3.heap.size ≤ gp := (World.ownsRow.lt P11.out gp rfl).1
    have hgp4 : gp < w4.heap.size := HPG.out gp rfl
    have hbqg : bq ≠ gp := by have := HBQ.out (by rw [HM.out]; exact hm0); omega
    have HG3 := hid hgp3
    have HGQ := hid hbqg
    have hm9 : m ≤ 100000 := by rw [← HM.out, ← HYS.out]; have := partI_small xs i; omega
    clear hgp3 hgp4 hbqg
    go_loopw [15] (fun v wr => ∃ k : Nat, k ≤ m ∧ v = .int .i64 (k : Int) ∧ Hid (∃ zs : By, zs.length = m ∧ Fresh w3.heap.size wr (.slice (some ⟨gp, 0, none⟩) m cp) zs) ∧ Hid (Grw gp w11 wr)) (fun v _ => m - (intOf v).toNat)
    case atStart => exact ⟨0, by omega, rfl, ⟨ys, HM.out, P11.out⟩, Grw.refl _ _⟩
    case round =>
      obtain ⟨k, hk, rfl, J1, J2⟩ := hrel
      by_cases hlt : k < m
      · have hlt2 : (k : Int) < (m : Int) := by omega
        have w1' : IntKind.i64.wrap ((k : Int) + 1) = (k : Int) + 1 := i64in _ (by omega) (by omega)
        obtain ⟨zs, hzl, hzf⟩ := J1.out
        have hc0 : wr.cell? ⟨gp, k, none⟩ = some (V8 (at8 zs k)) := by
          have h9 := hzf
          rw [← hzl] at h9
          rw [World.ownsRow.cellAt (g := gp) (cap := cp) h9 k (by omega)]
          exact get_map (by omega)
        have hx := xor255 (at8 zs k)
        obtain ⟨_, hfro, hf9⟩ := fresh_set hzf hzl k (UInt8.ofNat (255 - (at8 zs k).toNat)) hlt
        generalize UInt8.ofNat (255 - (at8 zs k).toNat) = z9 at hx hf9
        unfold V8 at hc0
        generalize b8 (at8 zs k) = z8 at hx hc0
        have HF9 := hid hf9
        obtain ⟨b9, HB9⟩ : ∃ b9, Hid (b8 z9 = b9) := ⟨_, rfl⟩
        rw [HB9.out] at hx HF9
        have HZS : Hid ((zs.set k z9).length = m) := by show _ = _; rw [List.length_set]; exact hzl
        clear hzf hf9 hzl
        go_wp2
        go_roundw
        case rel => exact ⟨k + 1, by omega, by go_num, ⟨_, HZS.out, HF9.out⟩, J2.out.trans (Grw.of_set gp k wr _)⟩
        case measure => simp [intOf]; omega
      · obtain rfl : k = m := by omega
        obtain ⟨k1, k2, k3, HBE, HTE⟩ := HEND.out wr gp J2.out HG3.out HGQ.out
        have CA := hid (awake_any wr HTE)
        have HBE := hid HBE
        clear HTE
        go_wp2_with (go_at_call 14; refine CA.out.mono ?_; rintro e12 w12 ⟨rfl, hb12⟩)
        go_ret
        exact ⟨rfl, HBE.out.trans (hb12.mono HBE.out.size)⟩
end Go.Proofs.YtlcdkponegmcdaaDoor
