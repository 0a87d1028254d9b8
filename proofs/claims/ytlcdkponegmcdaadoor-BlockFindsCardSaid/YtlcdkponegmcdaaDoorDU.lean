/- Finder.Forget: what the call does. Conditions: a finder; the listed table; a name of at most 2 to the 40 bytes. -/
import Derived.Test.YtlcdkponegmcdaaDoorDS
namespace Go.Proofs.YtlcdkponegmcdaaDoor
open Go.RowKit Go.Maps
theorem tab_stay {w w' : World} (h : Sha.Tab w) (hb : w'.heap[0]? = w.heap[0]?) : Sha.Tab w' := fun i hi => by
  have := h i hi
  simp only [World.cell?] at this ⊢
  rw [hb]; exact this
theorem hvec_one (l : List UInt8) : (hvec l).all (·.oneCell') = true := by simp [hvec, V8, Value.oneCell']
theorem zero_vec : Sha.zero32 = hvec (List.replicate 32 0) := by rfl
theorem size_h (d : By) (hd : d.length = 32) : (Tryd.prog.info? 27).map (·.size) = some (hvec d).size := by rw [hvec_size, hd]; kernel_rfl
theorem size_z (d : By) (hd : d.length = 32) : (hvec (List.replicate 32 0)).size = (hvec d).size := by rw [hvec_size, hvec_size, hd]; rfl
theorem box_h (wr : World) (d : By) (_hd : d.length = 32) : ∃ W1, (wr.alloc (.cells (hvec (List.replicate 32 0)) 27)).setRow wr.heap.size (hvec d) = W1 ∧ Hid (Has W1 wr.heap.size 27 (hvec d)) ∧ Hid (Below wr.heap.size wr W1) := by
  refine ⟨_, rfl, ?_, ?_⟩
  · exact setRow_heap _ _ _ _ 27 (0, 0) (Has.fresh wr 27 _)
  · exact ((Below.refl _ _).alloc (Nat.le_refl _) _).rowK (Nat.le_refl _) _
theorem FinI.look1 {own : Nat → Prop} {w : World} {p m1 m2 : Nat} {fv pv : Value → Option Value} {F : By → Option By} {P : By → List Pl} {cf cp N : Nat} (h : FinI own w p m1 m2 fv pv F P cf cp N) (t : By) (ht : t.length ≤ maxLen) :
    (Instr.lookup 63 (.map (some m1)) (.string (ba t)) true).run Tryd.prog w = .ok (.tuple #[(fv (kS t)).getD nilV, .bool (fv (kS t)).isSome]) w :=
  h.m1.lookOk str_keyed Tryd.underlying63 (zero_bys w) (str_key t ht)
set_option maxRecDepth 100000 in
set_option maxHeartbeats 8000000 in
theorem forget_no {own : Nat → Prop} {w : World} {p : Nat} {F : By → Option By} {P : By → List Pl} {cf N : Nat} (h : Fin own w p F P cf N) (t : By) (ht : t.length ≤ maxLen) (hF : F t = none) :
    Calls Tryd.prog 23 #[.pointer (some ⟨p, 0, none⟩), .string (ba t)] w fun e w' => e = .returned (.bool false) ∧ w = w' := by
  obtain ⟨m1, m2, fv, pv, cp, h⟩ := h
  have CM := hid (made_any h)
  have c1 := h.cell1
  have hl := h.look1 t ht
  rw [h.fnone t hF] at hl
  simp only [Option.getD_none, Option.isSome_none, nilV] at hl
  clear h
  go_enter Tryd.func23, Tryd.ntmps23
  go_wp2_with (go_at_call 43; refine CM.out.mono ?_; rintro e1 w1 ⟨rfl, rfl⟩)
  go_ret
  exact ⟨rfl, rfl⟩
open Classical in
set_option maxRecDepth 100000 in
set_option maxHeartbeats 8000000 in
theorem forget_yes {own : Nat → Prop} {w : World} {p : Nat} {F : By → Option By} {P : By → List Pl} {cf N : Nat} (h : Fin own w p F P cf N) (hT : Sha.Tab w) (h0 : ¬ own 0) (t xs : By) (ht : t.length ≤ maxLen) (hF : F t = some xs) (hN : N ≤ 900000) :
    Calls Tryd.prog 23 #[.pointer (some ⟨p, 0, none⟩), .string (ba t)] w fun e w' => e = .returned (.bool true) ∧ FPost own w p (delF F t) (dropTo P (hashes xs) t (cntL xs.length)) (cf - 1) (N + 40) w' := by
  have hfin := h
  obtain ⟨m1, m2, fv, pv, cp, h⟩ := h
  obtain ⟨v, hfv, hfr, hfo, hxl⟩ := h.fsome t xs hF
  obtain ⟨A, c, bb, hby, _, _⟩ := Fresh.bytes hfr hT.pos
  have CM := hid (made_any h)
  have c1 := h.cell1
  have hl := h.look1 t ht
  rw [hfv] at hl
  simp only [Option.getD_some, Option.isSome_some] at hl
  obtain ⟨n, HN⟩ : ∃ n, Hid (cntL xs.length = n) := ⟨_, rfl⟩
  have hn32 : n ≤ 32 := by rw [← HN.out]; exact cntL_le _ hxl
  obtain ⟨hs, HHS⟩ : ∃ hs, Hid (hashes xs = hs) := ⟨_, rfl⟩
  have HHL : Hid (hs.length = n) := by show _ = _; rw [← HHS.out, hashes_len, HN.out]
  have CL := hid (list_any v xs A c bb 0 w hT hby hxl)
  rw [HHS.out] at CL
  have HFIN := hid hfin
  have HF := hid hF
  have HT := hid ht
  have HNN := hid hN
  have HST : Hid (∀ w3, Below w.heap.size w w3 → FPost own w3 p F (dropTo P hs t 0) cf (N + 0) w3) := fun w3 hb => FPost.refl (hfin.on hb (Nat.le_refl _)) (Below.refl _ _)
  have HLOW := hid hfin.low
  have H0 := hid h0
  rw [HN.out, HHS.out]
  clear h hfin hfv hfr hfo hxl hby hT hF h0 ht hN
  go_enter Tryd.func23, Tryd.ntmps23
  go_wp2_with (first
    | (go_at_call 43; refine CM.out.mono ?_; rintro e1 w1 ⟨rfl, rfl⟩)
    | (go_at_call 15; refine CL.out.mono ?_; rintro e2 w2 ⟨v2, rfl, hd2, hb2⟩
       obtain ⟨A2, c2, hv2⟩ := hd2.form
       rw [HHL.out] at hv2
       subst hv2
       have B2 := hid hb2
       have D2 : Hid (Dgs w.heap.size w2 (.slice A2 n c2) hs) := hd2
       clear hd2 hb2))
  go_loopw [10, 32] (fun _ b wr => ∃ k : Nat, k ≤ n ∧ b = .int .i64 (k : Int) ∧ Hid (FPost own w2 p F (dropTo P hs t k) cf (N + k) wr)) (fun _ b _ => n - (intOf b).toNat)
  case atStart => exact ⟨0, by omega, rfl, HST.out w2 B2.out⟩
  case round =>
    obtain ⟨k, hk, rfl, J1⟩ := hrel
    by_cases hlt : k < n
    · have hlt2 : (k : Int) < (n : Int) := by omega
      have w1 : IntKind.i64.wrap ((k : Int) + 1) = (k : Int) + 1 := i64in _ (by omega) (by omega)
      obtain ⟨own', hfi, hTu, hsub, hnew⟩ := J1.out
      have hD2 := Dgs.mono D2.out (Nat.zero_le _)
      have hDr : Dgs 0 wr (.slice A2 n c2) hs := hD2.stay (fun g hg => J1.out.block (by have := D2.out.own.lt g hg; omega) (fun e => by have := D2.out.own.lt g hg; have := HLOW.out g e; omega))
      obtain ⟨gl, cl, hvl, _, _, hld⟩ := hDr.at_ k (by rw [HHL.out]; exact hlt)
      rw [HHL.out] at hvl
      injection hvl with hA2 hn2 hc2
      subst hA2
      subst hc2
      clear hn2
      obtain ⟨d, HD⟩ : ∃ d, Hid (hs.getD k [] = d) := ⟨_, rfl⟩
      have hgd : hs[k]'(by rw [HHL.out]; exact hlt) = d := by rw [← HD.out, List.getD, List.getElem?_eq_getElem (by rw [HHL.out]; exact hlt)]; rfl
      rw [hgd] at hld
      have HLD := hid hld
      have HDL : Hid (d.length = 32) := by show _ = _; rw [← hgd]; exact D2.out.len _ (List.getElem_mem _)
      have HZ1 := hid (size_h d HDL.out)
      have HZ2 := hid (size_z d HDL.out)
      have HFI := hid hfi
      have HTU := hid hTu
      have HSUB := hid hsub
      have HNEW := hid hnew
      clear hfi hTu hsub hnew hD2 hDr hld hgd
      go_wp2_with (first
        | (refine wpList_load_g (by rfl) 27 (.tmp 34) rfl gl (k * 32) rfl (hvec d) HLD.out ?_)
        | (refine wpList_store_row rfl 27 (.tmp 10) (.tmp 35) rfl wr.heap.size (hvec d) rfl rfl 27 (hvec (List.replicate 32 0)) (Has.fresh wr 27 _) HZ1.out HZ2.out (hvec_one _) ?_
           generalize hG : World.setRow _ _ _ = W1
           obtain ⟨W0, hG0, X1, X2⟩ := box_h wr d HDL.out
           obtain rfl : W0 = W1 := hG0.symm.trans hG
           clear hG hG0)
        | (refine wpList_load_row rfl 27 (.tmp 10) rfl wr.heap.size rfl 27 (hvec d) (0, 0) _ X1.out Tryd.underlying27 rfl HZ1.out ?_)
        | (go_at_call 44; refine (drop_any (HFI.out.on X2.out (Nat.le_refl _)) d HDL.out t (by have := HNN.out; omega)).mono ?_; rintro e5 w5 ⟨rfl, hp5⟩
           have P5 : Hid (FPost own w2 p F (dropTo P hs t (k + 1)) cf (N + (k + 1)) w5) := by
             show FPost _ _ _ _ _ _ _ _
             rw [dropTo, HD.out]
             exact FPost.step HTU.out HSUB.out HNEW.out (Turn.of_below X2.out) hp5
           clear hp5))
      go_roundw
      case rel => exact ⟨k + 1, by omega, by go_num, P5.out⟩
      case measure => simp [intOf]; omega
    · obtain rfl : k = n := by omega
      obtain ⟨own', ⟨m1', m2', fv', pv', cp', hI⟩, hTu, hsub, hnew⟩ := J1.out
      have c1' := hI.cell1
      obtain ⟨w6, hr6, hm6, hg6⟩ := hI.m1.drop str_keyed Tryd.underlying63 (str_key t HT.out) 0
      have hsome : (fv' (kS t)).isSome = true := by
        obtain ⟨u, hu, _⟩ := hI.fsome t xs HF.out
        rw [hu]; rfl
      have hend : FPost own w p (delF F t) (dropTo P hs t k) (cf - 1) (N + 40) w6 := by
        have hm7 : MapIs w6 9 m1' (cf - 1) (fun y => if y = kS t then none else fv' y) := by
          have := hm6
          rw [show fv' (.string (ba t)) = fv' (kS t) from rfl, hsome] at this
          exact this
        have hF6 := hI.fdel t hg6 hm7 (by have := hI.cf; omega)
        have hz : FPost own' wr p (delF F t) (dropTo P hs t k) (cf - 1) (N + k) w6 := ⟨own', ⟨m1', m2', _, pv', cp', hF6⟩, Turn.of_grw hg6 (.inl hI.o1), fun _ h => h, fun _ h => .inl h⟩
        have hz2 := FPost.step hTu hsub hnew (Turn.refl own' wr) hz
        exact (FPost.step (Turn.of_below B2.out) (fun _ h => h) (fun _ h => .inl h) (Turn.refl own w2) hz2).more (by omega)
      have HE := hid hend
      have HR6 : Hid (∀ ty, (Builtin.delete_ #[63, 9] ty #[.map (some m1'), .string (ba t)]).run Tryd.prog wr = .ok (.tuple #[]) w6) := fun ty => hr6
      clear hI hTu hsub hnew hr6 hm6 hg6 hsome hend c1
      go_wp2_with (refine wpList_delete_run rfl (.tmp 44) (.tmp 45) 63 9 rfl (.map (some m1')) (.string (ba t)) rfl rfl ⟨w6, HR6.out, ?_⟩)
      go_ret
      exact ⟨rfl, HE.out⟩
end Go.Proofs.YtlcdkponegmcdaaDoor
