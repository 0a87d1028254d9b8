/- Finder.Add: what the call does. Conditions: a finder; the listed table; a name of at most 2 to the 40 bytes; bytes in a block that is not the finder's. -/
import Derived.Test.YtlcdkponegmcdaaDoorDU
namespace Go.Proofs.YtlcdkponegmcdaaDoor
open Go.RowKit Go.Maps
noncomputable def fgP (F : By → Option By) (P : By → List Pl) (t : By) : By → List Pl := match F t with | none => P | some xs => dropTo P (hashes xs) t (cntL xs.length)
def fgc (F : By → Option By) (t : By) (cf : Nat) : Nat := match F t with | none => cf | some _ => cf - 1
noncomputable def addP (F : By → Option By) (P : By → List Pl) (t xs : By) : By → List Pl := noteTo (fgP F P t) (hashes xs) t (cntL xs.length)
theorem delF_id {F : By → Option By} {t : By} (h : F t = none) : delF F t = F := by
  funext s; unfold delF; split
  · rename_i e; rw [e, h]
  · rfl
theorem putF_del {F : By → Option By} {t xs : By} : putF (delF F t) t xs = putF F t xs := by
  funext s; unfold putF delF; split <;> rfl
theorem forget_any {own : Nat → Prop} {w : World} {p : Nat} {F : By → Option By} {P : By → List Pl} {cf N : Nat} (h : Fin own w p F P cf N) (hT : Sha.Tab w) (h0 : ¬ own 0) (t : By) (ht : t.length ≤ maxLen) (hN : N ≤ 900000) :
    Calls Tryd.prog 23 #[.pointer (some ⟨p, 0, none⟩), .string (ba t)] w fun e w' => e = .returned (.bool (F t).isSome) ∧ FPost own w p (delF F t) (fgP F P t) (fgc F t cf) (N + 40) w' := by
  cases hF : F t with
  | none =>
    refine (forget_no h t ht hF).mono ?_
    rintro e w' ⟨rfl, rfl⟩
    refine ⟨rfl, ?_⟩
    unfold fgP fgc
    rw [hF, delF_id hF]
    exact FPost.refl (h.more (by omega)) (Below.refl _ _)
  | some xs =>
    refine (forget_yes h hT h0 t xs ht hF hN).mono ?_
    rintro e w' ⟨rfl, hp⟩
    refine ⟨rfl, ?_⟩
    unfold fgP fgc
    rw [hF]
    exact hp
theorem Bytes.stay {w w' : World} {v : Value} {xs : By} {A : Option Addr} {cap bb off : Nat} (h : Bytes w v xs A cap bb off) (hs : w.heap.size ≤ w'.heap.size) (hb : w'.heap[bb]? = w.heap[bb]?) : Bytes w' v xs A cap bb off :=
  ⟨h.form, h.le, h.zero, fun a ha j hj => by
    have e := h.at_ a ha j hj
    have h2 := h.src (by omega)
    rw [ha] at h2
    obtain rfl := Option.some.inj h2
    rw [add_at] at e ⊢
    simp only [World.cell?] at e ⊢
    rw [hb]; exact e, Nat.lt_of_lt_of_le h.blk hs, h.src⟩
set_option maxRecDepth 100000 in
set_option maxHeartbeats 8000000 in
theorem add_long {own : Nat → Prop} {w : World} {p : Nat} {F : By → Option By} {P : By → List Pl} {cf N : Nat} (h : Fin own w p F P cf N) (t : By) (v : Value) (xs : By) (A : Option Addr) (cap bb off : Nat) (hy : Bytes w v xs A cap bb off) (hl : 4096 < xs.length) :
    Calls Tryd.prog 26 #[.pointer (some ⟨p, 0, none⟩), .string (ba t), v] w fun e w' => e = .returned (.int .i64 3) ∧ w = w' := by
  obtain ⟨m1, m2, fv, pv, cp, h⟩ := h
  have CM := hid (made_any h)
  have CL := hid (list_long v xs A cap bb off w hy hl)
  clear h hy hl
  go_enter Tryd.func26, Tryd.ntmps26
  go_wp2_with (first
    | (go_at_call 43; refine CM.out.mono ?_; rintro e1 w1 ⟨rfl, rfl⟩)
    | (go_at_call 15; refine CL.out.mono ?_; rintro e2 w2 ⟨rfl, rfl⟩))
  go_ret
  exact ⟨rfl, rfl⟩
/-- What the loads of Add's region need. -/
def AS (p m1 : Nat) (W : World) : Prop := ∃ m2, Has W p 66 #[.map (some m1), .map (some m2)]
theorem AS.cell1 {p m1 : Nat} {W : World} (h : AS p m1 W) : W.cell? ⟨p, 0, none⟩ = some (.map (some m1)) := by
  obtain ⟨m2, h1⟩ := h; exact h1.at_ 0
theorem FinI.pne1 {own : Nat → Prop} {w : World} {p m1 m2 : Nat} {fv pv : Value → Option Value} {F : By → Option By} {P : By → List Pl} {cf cp N : Nat} (h : FinI own w p m1 m2 fv pv F P cf cp N) : p ≠ m1 := fun e => by
  obtain ⟨D, ⟨es, ck, hh, _⟩, _⟩ := h.m1
  have := h.has
  unfold Has at this
  rw [e, hh] at this; cases this
open Classical in
theorem add_put {own : Nat → Prop} {w w5 w6 : World} {p m1 m2 : Nat} {fv pv : Value → Option Value} {F : By → Option By} {P : By → List Pl} {cf cp N : Nat} (h : FinI own w p m1 m2 fv pv F P cf cp N) (t xs : By) (v5 : Value) (hF : F t = none) (hx : xs.length ≤ 4096)
    (hf : Fresh w.heap.size w5 v5 xs) (hb : Below w.heap.size w w5) (hg : Grw m1 w5 w6) (hm : MapIs w6 9 m1 (if (fv (kS t)).isSome = true then cf else cf + 1) (fun y => if y = kS t then some v5 else fv y)) :
    FPost own w p (putF F t xs) P (cf + 1) (N + 1) w6 := by
  have h5 := h.kept hb.size (fun g ho => hb.block g (h.low g ho))
  rw [h.fnone t hF] at hm
  simp only [Option.isSome_none, Bool.false_eq_true, if_false] at hm
  have h6 := h5.fput t xs v5 hg hm (by have := h.cf; omega) (hf.mono (Nat.zero_le _)) hx
  have hvb : ∀ g, v5.ownBlock = some g → w.heap.size ≤ g := fun g hg => (World.ownsRow.lt hf g hg).1
  refine ⟨_, ⟨m1, m2, _, pv, cp, h6⟩, ?_, fun g ho => .inl ho, ?_⟩
  · exact Turn.trans (Turn.of_below hb) (Turn.of_grw hg (.inl h.o1)) (fun g ho => .inl ho)
  · rintro g (ho | ho)
    · exact .inl ho
    · exact .inr (hvb g ho)
open Classical in
set_option maxRecDepth 100000 in
set_option maxHeartbeats 8000000 in
theorem add_any {own : Nat → Prop} {w : World} {p : Nat} {F : By → Option By} {P : By → List Pl} {cf N : Nat} (h : Fin own w p F P cf N) (hT : Sha.Tab w) (h0 : ¬ own 0) (t : By) (ht : t.length ≤ maxLen) (v : Value) (xs : By) (A : Option Addr) (cap bb off : Nat) (hy : Bytes w v xs A cap bb off) (hbb : ¬ own bb) (hl : xs.length ≤ 4096) (hN : N ≤ 800000) :
    Calls Tryd.prog 26 #[.pointer (some ⟨p, 0, none⟩), .string (ba t), v] w fun e w' => e = .returned (.int .i64 0) ∧ FPost own w p (putF F t xs) (addP F P t xs) (fgc F t cf + 1) (N + 80) w' := by
  have hfin := h
  obtain ⟨m1, m2, fv, pv, cp, h⟩ := h
  have CM := hid (made_any h)
  obtain ⟨n, HN⟩ : ∃ n, Hid (cntL xs.length = n) := ⟨_, rfl⟩
  have hn32 : n ≤ 32 := by rw [← HN.out]; exact cntL_le _ hl
  obtain ⟨hs, HHS⟩ : ∃ hs, Hid (hashes xs = hs) := ⟨_, rfl⟩
  have HHL : Hid (hs.length = n) := by show _ = _; rw [← HHS.out, hashes_len, HN.out]
  have CL := hid (list_any v xs A cap bb off w hT hy hl)
  rw [HHS.out] at CL
  have HFIN := hid hfin
  have HT := hid ht
  have HNN := hid hN
  have HY := hid hy
  have HBB := hid hbb
  have HXL := hid hl
  have HTAB := hid hT
  have H0 := hid h0
  have HLOW := hid hfin.low
  have mixed : Tryd.prog.follows Departure.mixedOrders = true := by kernel_rfl
  have HEQ : Hid (addP F P t xs = noteTo (fgP F P t) hs t n) := by show _ = _; rw [addP, HHS.out, HN.out]
  obtain ⟨P1, HP1⟩ : ∃ P1, Hid (fgP F P t = P1) := ⟨_, rfl⟩
  obtain ⟨c1', HC1⟩ : ∃ c, Hid (fgc F t cf = c) := ⟨_, rfl⟩
  rw [HEQ.out, HP1.out, HC1.out]
  clear h hfin hy hbb hl hT h0 ht hN
  go_enter Tryd.func26, Tryd.ntmps26
  go_wp2_with (first
    | (go_at_call 43; refine CM.out.mono ?_; rintro e1 w1 ⟨rfl, rfl⟩)
    | (go_at_call 15; refine CL.out.mono ?_; rintro e2 w2 ⟨v2, rfl, hd2, hb2⟩
       obtain ⟨A2, c2, hv2⟩ := hd2.form
       rw [HHL.out] at hv2
       subst hv2
       have B2 := hid hb2
       have D2 : Hid (Dgs w.heap.size w2 (.slice A2 n c2) hs) := hd2
       have T2 : Hid (Sha.Tab w2) := HTAB.out.kept hb2 HTAB.out.pos
       have CF := hid (forget_any (HFIN.out.on hb2 (Nat.le_refl _)) T2.out H0.out t HT.out (by have := HNN.out; omega))
       rw [HP1.out, HC1.out] at CF
       clear hd2 hb2)
    | (go_at_call 23; refine CF.out.mono ?_; rintro e3 w3 ⟨rfl, hp3⟩
       have P3 := hid hp3
       clear hp3))
  obtain ⟨own3, ⟨m13, m23, fv3, pv3, cp3, hI3⟩, hTu3, hsub3, hnew3⟩ := P3.out
  have HI3 := hid hI3
  have HTU3 := hid hTu3
  have HSUB3 := hid hsub3
  have HNEW3 := hid hnew3
  have hY3 : Bytes w3.drew v xs A cap bb off := ((HY.out.kept B2.out (Nat.le_refl _)).stay P3.out.size (P3.out.block (Nat.lt_of_lt_of_le HY.out.blk B2.out.size) HBB.out)).kept (Below.refl _ w3).drew (Nat.le_refl _)
  have CC := hid (clone_any v xs A cap bb off (by have := HXL.out; omega) w3.drew hY3)
  have AS3 : Hid (AS p m13 w3.drew) := ⟨m23, hI3.has⟩
  obtain ⟨kl3, hk3⟩ : ∃ kl, keyOf Tryd.prog 9 (.string (ba t)) = some kl := ⟨_, str_key t HT.out⟩
  have HK3 := hid hk3
  have HFN : Hid (delF F t t = none) := by show _ = _; unfold delF; rw [if_pos rfl]
  clear hI3 hTu3 hsub3 hnew3 hY3 hk3
  refine wp_region_noPanic ?_
  refine wp_region_held_drew (S := AS p m13) (by kernel_rfl) (AS3.out) (fun hS => ?_)
  refine wpAnyH_take (i := 0) (v := ?_) (by simp only [List.getElem?_toArray, List.getElem?_cons_zero]; rfl) (by kernel_rfl) (by kernel_rfl) (by kernel_rfl) (fun _ _ _ h => h) (Or.inl ⟨by rfl, ?_⟩) (by assumption) ?_
  rotate_left 1
  · intro w hSw
    have hc2 := hSw.cell1
    go_simp
    with_reducible rfl
  simp only [Act.put, List.setIfInBounds_toArray, List.set_cons_zero, List.set_cons_succ]
  refine wpAnyH_take (i := 1) (v := ?_) (by simp only [List.getElem?_toArray, List.getElem?_cons_zero, List.getElem?_cons_succ]; rfl) (by kernel_rfl) (by kernel_rfl) (by kernel_rfl) (fun _ _ _ h => h) (Or.inl ⟨by rfl, ?_⟩) (by assumption) ?_
  rotate_left 1
  · intro w hSw
    have hc2 := hSw.cell1
    go_simp
    with_reducible rfl
  simp only [Act.put, List.setIfInBounds_toArray, List.set_cons_zero, List.set_cons_succ]
  refine wpAnyH_take (i := 2) (v := ?_) (by simp only [List.getElem?_toArray, List.getElem?_cons_zero, List.getElem?_cons_succ]; rfl) (by kernel_rfl) (by kernel_rfl) (by kernel_rfl) (fun _ _ _ h => h) (Or.inl ⟨by rfl, ?_⟩) (by assumption) ?_
  rotate_left 1
  · intro w hSw
    have hc2 := hSw.cell1
    go_simp
    with_reducible rfl
  simp only [Act.put, List.setIfInBounds_toArray, List.set_cons_zero, List.set_cons_succ]
  refine wpAnyH_take (i := 3) (v := ?_) (by simp only [List.getElem?_toArray, List.getElem?_cons_zero, List.getElem?_cons_succ]; rfl) (by kernel_rfl) (by kernel_rfl) (by kernel_rfl) (fun _ _ _ h => h) (Or.inl ⟨by rfl, ?_⟩) (by assumption) ?_
  rotate_left 1
  · intro w hSw
    have hc2 := hSw.cell1
    go_simp
    with_reducible rfl
  simp only [Act.put, List.setIfInBounds_toArray, List.set_cons_zero, List.set_cons_succ]
  refine wpAnyH_take (i := 4) (v := ?_) (by simp only [List.getElem?_toArray, List.getElem?_cons_zero, List.getElem?_cons_succ]; rfl) (by kernel_rfl) (by kernel_rfl) (by kernel_rfl) (fun _ _ _ h => h) (Or.inl ⟨by rfl, ?_⟩) (by assumption) ?_
  rotate_left 1
  · intro w hSw
    go_simp
    with_reducible rfl
  simp only [Act.put, List.setIfInBounds_toArray, List.set_cons_zero, List.set_cons_succ]
  refine wpAnyH_take (i := 5) (v := ?_) (by simp only [List.getElem?_toArray, List.getElem?_cons_zero, List.getElem?_cons_succ]; rfl) (by kernel_rfl) (by kernel_rfl) (by kernel_rfl) (fun _ _ _ h => h) (Or.inl ⟨by rfl, ?_⟩) (by assumption) ?_
  rotate_left 1
  · intro w hSw
    go_simp
    with_reducible rfl
  simp only [Act.put, List.setIfInBounds_toArray, List.set_cons_zero, List.set_cons_succ]
  refine wpAnyH_ready (rs := [6]) (by kernel_rfl) (by simp) ?_
  refine AllReadyH.cons (by simp only [List.getElem?_toArray, List.getElem?_cons_zero, List.getElem?_cons_succ]; rfl) (fun K hK => ?_) AllReadyH.nil
  go_simp
  refine CC.out.mono ?_
  rintro e4 w4 ⟨v4, rfl, hf4, hb4⟩
  have hb4 : Below w3.heap.size w3 w4 := (Below.refl _ w3).drew.trans hb4
  have hz4 : AS p m13 w4 := ⟨m23, HI3.out.has.on hb4⟩
  have hm4 : MapIs w4 9 m13 c1' fv3 := HI3.out.m1.kept (hb4.block m13 (HI3.out.low m13 HI3.out.o1))
  refine hK.out _ _ hz4 (fun hS => ?_)
  clear hK K hS
  refine wpAnyH_ready (rs := [7]) (by kernel_rfl) (by simp) ?_
  refine AllReadyH.cons (by simp only [List.getElem?_toArray, List.getElem?_cons_zero, List.getElem?_cons_succ]; rfl) (fun K hK => ?_) AllReadyH.nil
  obtain ⟨w5, hr5, hm5, hg5⟩ := hm4.store str_keyed Tryd.underlying63 (by have := HI3.out.cf; have := HNN.out; omega) (v := v4) HK3.out
  refine step_update (by rfl) (.tmp 28) (.tmp 29) (.tmp 31) rfl (.map (some m13)) (.string (ba t)) v4 rfl rfl rfl hr5 ?_
  have hput := add_put HI3.out t xs v4 HFN.out HXL.out hf4 hb4 hg5 hm5
  rw [putF_del] at hput
  have P5 : Hid (FPost own w2 p (putF F t xs) (noteTo P1 hs t 0) (c1' + 1) (N + 41 + 0) w5) := (FPost.step HTU3.out HSUB3.out HNEW3.out (Turn.refl own3 w3) hput)
  obtain ⟨mm2, hh2⟩ := hz4
  refine hK.out _ _ ⟨mm2, hh2.grw hg5 HI3.out.pne1⟩ (fun hS => ?_)
  clear hK K hS hm4 hr5 hm5 hg5 hput hb4 hf4 hh2
  refine wpAnyH_done (by kernel_rfl) ?_ _
  refine NoPanic.normal ?_
  go_wp2
  go_loopw [9, 10, 34] (fun _ _ b wr => ∃ k : Nat, k ≤ n ∧ b = .int .i64 (k : Int) ∧ Hid (FPost own w2 p (putF F t xs) (noteTo P1 hs t k) (c1' + 1) (N + 41 + k) wr)) (fun _ _ b _ => n - (intOf b).toNat)
  case atStart => exact ⟨0, by omega, rfl, P5.out⟩
  case round =>
    obtain ⟨k, hk, rfl, J1⟩ := hrel
    by_cases hlt : k < n
    · have hlt2 : (k : Int) < (n : Int) := by omega
      have w1 : IntKind.i64.wrap ((k : Int) + 1) = (k : Int) + 1 := i64in _ (by omega) (by omega)
      obtain ⟨own', hfi, hTu, hsub, hnew⟩ := J1.out
      have hD2 := Dgs.mono D2.out (Nat.zero_le _)
      have hDr : Dgs 0 wr (.slice A2 n c2) hs := hD2.stay (fun g hg => J1.out.block (by have := D2.out.own.lt g hg; omega) (fun e => by have := D2.out.own.lt g hg; have := HLOW.out g e; omega))
      obtain ⟨gl, cl, hvl, _, _, hld⟩ := hDr.at_ k (by rw [HHL.out]; exact hlt)
      rw [HHL.out] at hvl
      injection hvl with hA2 hn2 hc2
      subst hA2
      subst hc2
      clear hn2
      obtain ⟨d, HD⟩ : ∃ d, Hid (hs.getD k [] = d) := ⟨_, rfl⟩
      have hgd : hs[k]'(by rw [HHL.out]; exact hlt) = d := by rw [← HD.out, List.getD, List.getElem?_eq_getElem (by rw [HHL.out]; exact hlt)]; rfl
      rw [hgd] at hld
      have HLD := hid hld
      have HDL : Hid (d.length = 32) := by show _ = _; rw [← hgd]; exact D2.out.len _ (List.getElem_mem _)
      have HZ1 := hid (size_h d HDL.out)
      have HZ2 := hid (size_z d HDL.out)
      have HFI := hid hfi
      have HTU := hid hTu
      have HSUB := hid hsub
      have HNEW := hid hnew
      clear hfi hTu hsub hnew hD2 hDr hld hgd
      go_wp2_with (first
        | (refine wpList_load_g (by rfl) 27 (.tmp 37) rfl gl (k * 32) rfl (hvec d) HLD.out ?_)
        | (refine wpList_store_row rfl 27 (.tmp 10) (.tmp 38) rfl wr.heap.size (hvec d) rfl rfl 27 (hvec (List.replicate 32 0)) (Has.fresh wr 27 _) HZ1.out HZ2.out (hvec_one _) ?_
           generalize hG : World.setRow _ _ _ = W1
           obtain ⟨W0, hG0, X1, X2⟩ := box_h wr d HDL.out
           obtain rfl : W0 = W1 := hG0.symm.trans hG
           clear hG hG0)
        | (refine wpList_load_row rfl 27 (.tmp 10) rfl wr.heap.size rfl 27 (hvec d) (0, 0) _ X1.out Tryd.underlying27 rfl HZ1.out ?_)
        | (go_at_call 45; refine (note_any (HFI.out.on X2.out (Nat.le_refl _)) d HDL.out (t, k) (by have := HNN.out; omega)).mono ?_; rintro e5 w5 ⟨rfl, hp5⟩
           have P6 : Hid (FPost own w2 p (putF F t xs) (noteTo P1 hs t (k + 1)) (c1' + 1) (N + 41 + (k + 1)) w5) := by
             show FPost _ _ _ _ _ _ _ _
             rw [noteTo, HD.out]
             exact FPost.step HTU.out HSUB.out HNEW.out (Turn.of_below X2.out) hp5
           clear hp5))
      go_roundw
      case rel => exact ⟨k + 1, by omega, by go_num, P6.out⟩
      case measure => simp [intOf]; omega
    · obtain rfl : k = n := by omega
      have HE : Hid (FPost own w p (putF F t xs) (noteTo P1 hs t k) (c1' + 1) (N + 80) wr) := (FPost.step (Turn.of_below B2.out) (fun _ h => h) (fun _ h => .inl h) (Turn.refl own w2) J1.out).more (by omega)
      go_wp2
      go_ret
      exact ⟨rfl, HE.out⟩
end Go.Proofs.YtlcdkponegmcdaaDoor
