/- Several texts in one: YL, YM. Conditions: those said at each. -/
import Derived.Test.YtlbeemlnbpchgaaGreatQY
import Derived.Test.YtlbeemlnbpchgaaGreatQZ
import Derived.Test.YtlbeemlnbpchgaaGreatQZA
/- The document's trees: next, append. Conditions: as at write. -/
namespace Go.Proofs.YtlbeemlnbpchgaaGreat
open Go.RowKit Go.Maps
/-- What the old node's own region reads. -/
structure SdF (u g n c b : Nat) (L : Tr) (p : By) (W : World) : Prop where
  c0 : W.cell? ⟨u, 0, none⟩ = some (.slice (some ⟨g, 0, none⟩) n c)
  at_ : ∀ k, k < n → AtAt W g (k * 5) (L.getD k at0)
  cp : W.cell? ⟨b, 1, none⟩ = some (kS p)
theorem SdF.on {u g n c b : Nat} {L : Tr} {p : By} {W W' : World} (h : SdF u g n c b L p W) (hb : Below W.heap.size W W') : SdF u g n c b L p W' :=
  ⟨(hb.cell (p := ⟨u, 0, none⟩) (block_lt_of_cell (a := ⟨u, 0, none⟩) h.c0)).trans h.c0, fun k hk => (h.at_ k hk).on hb, (hb.cell (p := ⟨b, 1, none⟩) (block_lt_of_cell (a := ⟨b, 1, none⟩) h.cp)).trans h.cp⟩
set_option maxRecDepth 100000 in
set_option maxHeartbeats 32000000 in
theorem rnext_append {w : World} {u : Nat} {L : Tr} {room : Nat} (h : TreeR w u L room) (hW : WFT room L) (hT : TG L) (hr : room ≤ 1048576) (p q d : By) (tm m : Int) (pk : Bool) (hm : 0 ≤ m) (hd : d.length ≤ 100000000) (hmy : mayB p = true) :
    Calls Tryz.prog 58 #[.pointer (some ⟨u, 0, none⟩), .agg (efC 2 p q d tm m pk)] w fun e w' => NextP w room (nextE room L (cutR (.append p d) m pk)) e w' := by
  rw [cutR_append p d m pk hm]
  have hL : L.length ≤ 16384 := by have h1 := used_len (L := L); have := hW.used; omega
  have hU := hW.used
  obtain ⟨D, HD⟩ : ∃ D, Hid (cutD d m pk = D) := ⟨_, rfl⟩
  have hDl : D.length ≤ 100000000 := by rw [← HD.out]; have := cutD_len d m pk; omega
  obtain ⟨kk, HKK⟩ : ∃ c, Hid (kindP L p = c) := ⟨_, rfl⟩
  obtain ⟨hh, HH⟩ : ∃ c, Hid (homeE L p = c) := ⟨_, rfl⟩
  obtain ⟨r, HRR⟩ : ∃ r, Hid (nextE room L (.append p (cutD d m pk)) = r) := ⟨_, rfl⟩
  rw [HRR.out]
  rw [HD.out] at HRR
  obtain ⟨lk, HLK⟩ : ∃ lk, Hid (look L p = lk) := ⟨_, rfl⟩
  have HMY := hid hmy
  have hbx : Below w.heap.size w (w.alloc (.cells (efC 2 p q d tm m pk) 83)) := (Below.refl _ _).alloc (Nat.le_refl _) _
  obtain ⟨b, HB⟩ : ∃ b, Hid (w.heap.size = b) := ⟨_, rfl⟩
  have XB : Hid (Has (w.alloc (.cells (efC 2 p q d tm m pk) 83)) b 83 #[.int .i64 2, kS p, kS q, kS d, .int .i64 tm, .int .i64 m, .bool pk]) := by rw [← HB.out]; exact Has.fresh _ _ _
  have B0 := hid hbx
  obtain ⟨w1, HW1⟩ : ∃ w1, Hid (w.alloc (.cells (efC 2 p q d tm m pk) 83) = w1) := ⟨_, rfl⟩
  rw [HW1.out] at B0 XB
  have hw1 := HW1.out
  have HS1 : Hid (w1.heap.size = b + 1) := by show _ = _; rw [← HW1.out, ← HB.out]; simp
  have T1 := hid (h.on B0.out)
  have CK : Hid (Calls Tryz.prog 98 #[.pointer (some ⟨u, 0, none⟩), kS p] w1 fun e w' => e = .returned (.int .i64 kk) ∧ w1 = w') := by rw [← HKK.out]; exact rKind_any T1.out p (by omega)
  have HWF := hid hW
  have HTG := hid hT
  have HR := hid hr
  have HLL := hid hL
  have HUU := hid hU
  obtain ⟨cc, HCC⟩ : ∃ cc, Hid ((pk && decide (m < (d.length : Int))) = cc) := ⟨_, rfl⟩
  have hcy : Hid (cc = true → D = d.take m.toNat ∧ m ≤ (d.length : Int)) := fun e => by
    rw [← HD.out, cutD_yes (by rw [HCC.out]; exact e)]
    refine ⟨rfl, ?_⟩
    have h1 := HCC.out
    rw [e, Bool.and_eq_true, decide_eq_true_eq] at h1
    omega
  have hcn : Hid (cc = false → D = d) := fun e => by rw [← HD.out, cutD_no (by rw [HCC.out]; exact e)]
  have x0 := XB.out.at_ 0
  have x1 := XB.out.at_ 1
  have x2 := XB.out.at_ 2
  have x3 := XB.out.at_ 3
  have x4 := XB.out.at_ 4
  have x5 := XB.out.at_ 5
  have x6 := XB.out.at_ 6
  have zd : (ba d).size = d.length := ba_size d
  have HDL := hid hDl
  have CH : Hid (Calls Tryz.prog 103 #[.pointer (some ⟨u, 0, none⟩), kS p] w1 fun e w' => e = .returned (.int .i64 hh) ∧ Below w1.heap.size w1 w') := by rw [← HH.out]; exact rhome_any T1.out HWF.out p hmy (by have := (may_parts hmy).1; omega) (by omega)
  have HPL : Hid (p.length ≤ 4000) := by have := (may_parts hmy).1; show _ ≤ _; omega
  clear h hW hT hr hbx hL hU hDl hd
  go_enter Tryz.func58, Tryz.ntmps58
  have hbs := HB.out
  go_wp2_with fail
  refine CK.out.mono ?_; rintro e1 w1' ⟨rfl, rfl⟩
  clear hw1 hbs
  go_upto_region 3 with fail
  go_cut [27] (fun t w' => t = .bool cc ∧ w1 = w')
  case first =>
    cases pk with
    | false =>
      have hc : cc = false := by rw [← HCC.out]; rfl
      clear hcy hcn
      go_wp2_with fail
      go_meet
      exact ⟨by rw [hc], rfl⟩
    | true =>
      have hc : decide (m < (d.length : Int)) = cc := by rw [← HCC.out]; rfl
      clear hcy hcn
      go_wp2_with fail
      go_meet
      exact ⟨rfl, rfl⟩
  case rest =>
    obtain ⟨rfl, rfl⟩ := hcut
    go_upto_if 27 with fail
    go_cut [7] (fun t w' => t = kS D ∧ w1 = w')
    case first =>
      cases cc with
      | false =>
        have hc := hcn.out rfl
        clear hcy hcn
        go_wp2_with fail
        go_meet
        exact ⟨by rw [hc], rfl⟩
      | true =>
        obtain ⟨hc, hml⟩ := hcy.out rfl
        have e1 : (ba d).extract 0 m.toNat = ba D := by rw [hc]; exact ba_cut0 d _
        clear hcy hcn hc
        go_wp2_with fail
        go_meet
        exact ⟨rfl, rfl⟩
    case rest =>
      obtain ⟨rfl, rfl⟩ := hcut
      clear hcy hcn
      cases lk with
      | none =>
        have hk0 : kk = 0 := by rw [← HKK.out]; unfold kindP; rw [if_neg (may_ne HMY.out), HLK.out]
        have q2 : (kk == 0) = true := by simp [hk0]
        have HE : Hid (r.1 = 5) := by show _ = _; rw [← HRR.out]; simp only [nextE, HLK.out]
        clear hk0
        go_wp2
        go_ret2
        exact NextP.bad HE.out (by decide) B0.out
      | some nn =>
        obtain ⟨nk, nd, ng, nt⟩ := nn
        obtain rfl : kk = nk := by rw [← HKK.out]; unfold kindP; rw [if_neg (may_ne HMY.out), HLK.out]
        have hk3 : kk = 1 ∨ kk = 2 ∨ kk = 3 := HWF.out.kind p _ HLK.out
        have HK3 := hid hk3
        have q2 : (kk == 0) = false := by simp only [beq_eq_false_iff_ne, ne_eq]; omega
        have hh0 : hh = 0 := by rw [← HH.out]; unfold homeE noDirE; rw [if_pos (HWF.out.par p (by rw [HLK.out]; rfl))]
        have q0 : (hh != 0) = false := by simp [hh0]
        have HRD : Hid (r = if kk = 2 then (12, L) else if kk = 3 then (11, L) else if usedL (ins p ⟨kk, nd ++ D, ng, nt⟩ L) ≤ room then (0, ins p ⟨kk, nd ++ D, ng, nt⟩ L) else (7, L)) := by
          show _ = _
          rw [← HRR.out]; simp only [nextE, HLK.out, taken_kind L (may_ne HMY.out), HKK.out, putE_used HWF.out.srt]
          by_cases k2 : kk = 2
          · simp [k2]
          · by_cases k3 : kk = 3
            · simp [k3]
            · simp [k2, k3]
        clear hk3 hh0
        go_wp2_with fail
        refine CH.out.mono ?_; rintro e2 w2 ⟨rfl, hb2⟩
        have XB2 := hid (XB.out.kept hb2 XB.out.inside)
        have B2 : Hid (Below w.heap.size w w2) := B0.out.trans (hb2.mono B0.out.size)
        have T2 := hid (T1.out.on hb2)
        clear x0 x1 x2 x3 x4 x5 x6
        clear hb2
        have x0 := XB2.out.at_ 0
        have x1 := XB2.out.at_ 1
        have x2 := XB2.out.at_ 2
        have x3 := XB2.out.at_ 3
        have x4 := XB2.out.at_ 4
        have x5 := XB2.out.at_ 5
        have x6 := XB2.out.at_ 6
        by_cases k2 : kk = 2
        · have q3 : (kk == 2) = true := by simpa using k2
          have HE : Hid (r.1 = 12) := by show _ = _; rw [HRD.out, if_pos k2]
          clear k2
          go_wp2
          go_ret2
          exact NextP.bad HE.out (by decide) B2.out
        · have q3 : (kk == 2) = false := by simpa using k2
          by_cases k3 : kk = 3
          · have q4 : (kk == 3) = true := by simpa using k3
            have HE : Hid (r.1 = 11) := by show _ = _; rw [HRD.out, if_neg k2, if_pos k3]
            clear k2 k3
            go_wp2
            go_ret2
            exact NextP.bad HE.out (by decide) B2.out
          · have q4 : (kk == 3) = false := by simpa using k3
            have HR3 := hid ((HRD.out.trans (if_neg k2)).trans (if_neg k3))
            obtain rfl : kk = 1 := by have := HK3.out; omega
            obtain rfl : ng = [] := HTG.out p _ HLK.out rfl
            clear k2 k3
            go_upto_region 26 with fail
            obtain ⟨w3, HW3⟩ : ∃ w3, Hid (w2.alloc (.cells #[.int .i64 1, .string (ba D), .string ⟨#[]⟩, .int .i64 tm] 64) = w3) := ⟨_, rfl⟩
            obtain ⟨b2, HB2⟩ : ∃ b2, Hid (w2.heap.size = b2) := ⟨_, rfl⟩
            have XN : Hid (Has w3 b2 64 (ndA 1 D [] tm)) := by rw [← HW3.out, ← HB2.out]; exact Has.fresh _ _ _
            have hb3 : Below w2.heap.size w2 w3 := by rw [← HW3.out]; exact (Below.refl _ _).alloc (Nat.le_refl _) _
            have XB3 := hid (XB2.out.kept hb3 XB2.out.inside)
            have B3 : Hid (Below w.heap.size w w3) := B2.out.trans (hb3.mono B2.out.size)
            have T3 := hid (T2.out.on hb3)
            rw [HW3.out, HB2.out]
            have HB3 := hid hb3
            clear hb3
            clear x0 x1 x2 x3 x4 x5 x6
            have x0 := XB3.out.at_ 0
            have x1 := XB3.out.at_ 1
            have x2 := XB3.out.at_ 2
            have x3 := XB3.out.at_ 3
            have x4 := XB3.out.at_ 4
            have x5 := XB3.out.at_ 5
            have x6 := XB3.out.at_ 6
            have HRT := HR3
            obtain ⟨A, n, c, hv⟩ := T3.out.view
            have HL := hid hv.len
            obtain ⟨g, hA, hat0⟩ := hv.row (by
              have h1 := look_mem HLK.out
              have h2 := hv.len
              cases L with
              | nil => cases h1
              | cons x L => rw [List.length_cons] at h2; omega)
            subst hA
            have SD3 : Hid (SdF u g n c b L p w3.drew) := ⟨hv.c0, fun k hk => (hat0 k hk).on (Below.refl _ _).drew, XB3.out.at_ 1⟩
            have CF := hid (rfind_any (T3.out.on (Below.refl _ _).drew) p (by have := HLL.out; omega))
            have CFA : Hid (∀ W, Below w3.heap.size w3 W → Calls Tryz.prog 97 #[.pointer (some ⟨u, 0, none⟩), kS p] W fun e w' => ∃ r, e = .returned (.int .i64 r) ∧ FindR L p r ∧ W = w') := fun W hb => rfind_any (T3.out.on hb) p (by have := HLL.out; omega)
            clear hv hat0
            have HS5 : Hid (w3.drew.heap.size = w3.heap.size) := rfl
            have B5 : Hid (Below w3.heap.size w3 w3.drew) := (Below.refl _ _).drew
            go_upto_region 27 with fail
            go_cut [11] (fun t w' => t = .pointer (some ⟨w3.heap.size, 0, none⟩) ∧ Hid (Has w' w3.heap.size 64 (ndA 1 nd [] nt)) ∧ Hid (Below w3.heap.size w3 w'))
            case first =>
              refine wp_region_noPanic ?_
              refine wp_region_held_drew (S := SdF u g n c b L p) (by kernel_rfl) (SD3.out) (fun hS => ?_)
              generalize w3.drew = w5 at *
              refine wpAnyH_take (i := 0) (v := ?_) (by simp only [List.getElem?_toArray, List.getElem?_cons_zero]; rfl) (by kernel_rfl) (by kernel_rfl) (by kernel_rfl) (fun _ _ _ h => h) (Or.inl ⟨by rfl, ?_⟩) (by assumption) ?_
              rotate_left 1
              · intro w hSw
                go_simp
                with_reducible rfl
              simp only [Act.put, List.setIfInBounds_toArray, List.set_cons_zero, List.set_cons_succ]
              refine wpAnyH_take (i := 1) (v := ?_) (by simp only [List.getElem?_toArray, List.getElem?_cons_zero, List.getElem?_cons_succ]; rfl) (by kernel_rfl) (by kernel_rfl) (by kernel_rfl) (fun _ _ _ h => h) (Or.inl ⟨by rfl, ?_⟩) (by assumption) ?_
              rotate_left 1
              · intro w hSw
                go_simp
                with_reducible rfl
              simp only [Act.put, List.setIfInBounds_toArray, List.set_cons_zero, List.set_cons_succ]
              refine wpAnyH_take (i := 2) (v := ?_) (by simp only [List.getElem?_toArray, List.getElem?_cons_zero, List.getElem?_cons_succ]; rfl) (by kernel_rfl) (by kernel_rfl) (by kernel_rfl) (fun _ _ _ h => h) (Or.inl ⟨by rfl, ?_⟩) (by assumption) ?_
              rotate_left 1
              · intro w hSw
                go_simp
                with_reducible rfl
              simp only [Act.put, List.setIfInBounds_toArray, List.set_cons_zero, List.set_cons_succ]
              refine wpAnyH_take (i := 3) (v := ?_) (by simp only [List.getElem?_toArray, List.getElem?_cons_zero, List.getElem?_cons_succ]; rfl) (by kernel_rfl) (by kernel_rfl) (by kernel_rfl) (fun _ _ _ h => h) (Or.inl ⟨by rfl, ?_⟩) (by assumption) ?_
              rotate_left 1
              · intro w hSw
                have hc := hSw.c0
                have hp := hSw.cp
                go_simp
                with_reducible rfl
              simp only [Act.put, List.setIfInBounds_toArray, List.set_cons_zero, List.set_cons_succ]
              refine wpAnyH_take (i := 4) (v := ?_) (by simp only [List.getElem?_toArray, List.getElem?_cons_zero, List.getElem?_cons_succ]; rfl) (by kernel_rfl) (by kernel_rfl) (by kernel_rfl) (fun _ _ _ h => h) (Or.inl ⟨by rfl, ?_⟩) (by assumption) ?_
              rotate_left 1
              · intro w hSw
                go_simp
                with_reducible rfl
              simp only [Act.put, List.setIfInBounds_toArray, List.set_cons_zero, List.set_cons_succ]
              refine wpAnyH_take (i := 5) (v := ?_) (by simp only [List.getElem?_toArray, List.getElem?_cons_zero, List.getElem?_cons_succ]; rfl) (by kernel_rfl) (by kernel_rfl) (by kernel_rfl) (fun _ _ _ h => h) (Or.inl ⟨by rfl, ?_⟩) (by assumption) ?_
              rotate_left 1
              · intro w hSw
                go_simp
                with_reducible rfl
              simp only [Act.put, List.setIfInBounds_toArray, List.set_cons_zero, List.set_cons_succ]
              refine wpAnyH_take (i := 6) (v := ?_) (by simp only [List.getElem?_toArray, List.getElem?_cons_zero, List.getElem?_cons_succ]; rfl) (by kernel_rfl) (by kernel_rfl) (by kernel_rfl) (fun _ _ _ h => h) (Or.inl ⟨by rfl, ?_⟩) (by assumption) ?_
              rotate_left 1
              · intro w hSw
                have hc := hSw.c0
                have hp := hSw.cp
                go_simp
                with_reducible rfl
              simp only [Act.put, List.setIfInBounds_toArray, List.set_cons_zero, List.set_cons_succ]
              refine wpAnyH_ready (rs := [7, 11]) (by kernel_rfl) (by simp) ?_
              refine AllReadyH.cons (by simp only [List.getElem?_toArray, List.getElem?_cons_zero, List.getElem?_cons_succ]; rfl) (fun K hK => ?_) (AllReadyH.cons (by simp only [List.getElem?_toArray, List.getElem?_cons_zero, List.getElem?_cons_succ]; rfl) (fun K hK => ?_) (AllReadyH.nil))
              · go_simp
                refine (CF.out).mono ?_
                rintro e5 w6 ⟨ri, rfl, hf, rfl⟩
                obtain ⟨i, hi, rfl, hl2⟩ : ∃ i, i < L.length ∧ ri = (i : Int) ∧ look L p = some (L.getD i at0).2 := by
                  rcases hf with ⟨_, h⟩ | h
                  · rw [HLK.out] at h; cases h
                  · exact h
                have hin : i < n := by rw [← HL.out]; exact hi
                have HEQ : (L.getD i at0).2 = ⟨1, nd, [], nt⟩ := by rw [HLK.out] at hl2; injection hl2 with h; exact h.symm
                have hat : Hid (∀ W, SdF u g n c b L p W → (loadVar 64 ⟨g, i * 5 + 1, none⟩).run Tryz.prog W = .ok (.agg (ndA 1 nd [] nt)) W) := fun W hS => by
                  have := (hS.at_ i hin).node
                  rw [HEQ] at this; exact this
                have hlt2 : (i : Int) < (n : Int) := by omega
                have h02 : (0 : Int) ≤ (i : Int) := by omega
                clear hf hl2 hi HEQ
                have hz1 := SD3.out
                refine hK.out _ _ hz1 (fun hS => ?_)
                clear hK K hS
                refine wpAnyH_take (i := 8) (v := ?_) (by simp only [List.getElem?_toArray, List.getElem?_cons_zero, List.getElem?_cons_succ]; rfl) (by kernel_rfl) (by kernel_rfl) (by kernel_rfl) (fun _ _ _ h => h) (Or.inl ⟨by rfl, ?_⟩) (by assumption) ?_
                rotate_left 1
                · intro w hSw
                  go_simp
                  with_reducible rfl
                simp only [Act.put, List.setIfInBounds_toArray, List.set_cons_zero, List.set_cons_succ]
                refine wpAnyH_take (i := 9) (v := ?_) (by simp only [List.getElem?_toArray, List.getElem?_cons_zero, List.getElem?_cons_succ]; rfl) (by kernel_rfl) (by kernel_rfl) (by kernel_rfl) (fun _ _ _ h => h) (Or.inl ⟨by rfl, ?_⟩) (by assumption) ?_
                rotate_left 1
                · intro w hSw
                  go_simp
                  with_reducible rfl
                simp only [Act.put, List.setIfInBounds_toArray, List.set_cons_zero, List.set_cons_succ]
                refine' wpAnyH_take (i := 10) (v := _) (by simp only [List.getElem?_toArray, List.getElem?_cons_zero, List.getElem?_cons_succ]; rfl) (by kernel_rfl) (by kernel_rfl) (by kernel_rfl) (fun _ _ _ h => h) (yields_loadA (by rfl) 64 (.tmp 126) rfl g (i * 5 + 1) rfl (ndA 1 nd [] nt) (fun w hSw => hat.out w hSw)) (by assumption) ?_
                simp only [Act.put, List.setIfInBounds_toArray, List.set_cons_zero, List.set_cons_succ]
                refine wpAnyH_ready (rs := [11]) (by kernel_rfl) (by simp) ?_
                refine AllReadyH.cons (by simp only [List.getElem?_toArray, List.getElem?_cons_zero, List.getElem?_cons_succ]; rfl) (fun K hK => ?_) (AllReadyH.nil)
                go_simp
                refine hK.out _ _ (SD3.out.on ((Below.refl _ _).alloc (Nat.le_refl _) _)) (fun hS => ?_)
                clear hK K
                refine wpAnyH_ready (rs := [12]) (by kernel_rfl) (by simp) ?_
                refine AllReadyH.cons (by simp only [List.getElem?_toArray, List.getElem?_cons_zero, List.getElem?_cons_succ]; rfl) (fun K hK => ?_) (AllReadyH.nil)
                go_simp
                refine hK.out _ _ (SD3.out.on ((Below.refl _ _).alloc (Nat.le_refl _) _)) (fun hS => ?_)
                clear hK K
                refine wpAnyH_done (by kernel_rfl) ?_ _
                refine NoPanic.normal ?_
                go_wp2_with fail
                go_meet
                exact ⟨by rw [HS5.out], by rw [← HS5.out]; exact Has.fresh _ _ _, B5.out.alloc B5.out.size _⟩
              · go_simp
                refine hK.out _ _ (SD3.out.on ((Below.refl _ _).alloc (Nat.le_refl _) _)) (fun hS => ?_)
                clear hK K
                refine wpAnyH_ready (rs := [7]) (by kernel_rfl) (by simp) ?_
                refine AllReadyH.cons (by simp only [List.getElem?_toArray, List.getElem?_cons_zero, List.getElem?_cons_succ]; rfl) (fun K hK => ?_) (AllReadyH.nil)
                go_simp
                refine (CFA.out (w5.alloc (.cells #[.int .i64 0, .string ⟨#[]⟩, .string ⟨#[]⟩, .int .i64 0] 64)) (B5.out.alloc B5.out.size (.cells #[.int .i64 0, .string ⟨#[]⟩, .string ⟨#[]⟩, .int .i64 0] 64))).mono ?_
                rintro e5 w6 ⟨ri, rfl, hf, rfl⟩
                obtain ⟨i, hi, rfl, hl2⟩ : ∃ i, i < L.length ∧ ri = (i : Int) ∧ look L p = some (L.getD i at0).2 := by
                  rcases hf with ⟨_, h⟩ | h
                  · rw [HLK.out] at h; cases h
                  · exact h
                have hin : i < n := by rw [← HL.out]; exact hi
                have HEQ : (L.getD i at0).2 = ⟨1, nd, [], nt⟩ := by rw [HLK.out] at hl2; injection hl2 with h; exact h.symm
                have hat : Hid (∀ W, SdF u g n c b L p W → (loadVar 64 ⟨g, i * 5 + 1, none⟩).run Tryz.prog W = .ok (.agg (ndA 1 nd [] nt)) W) := fun W hS => by
                  have := (hS.at_ i hin).node
                  rw [HEQ] at this; exact this
                have hlt2 : (i : Int) < (n : Int) := by omega
                have h02 : (0 : Int) ≤ (i : Int) := by omega
                clear hf hl2 hi HEQ
                have hz1 := (SD3.out.on ((Below.refl _ _).alloc (Nat.le_refl _) (.cells #[.int .i64 0, .string ⟨#[]⟩, .string ⟨#[]⟩, .int .i64 0] 64)))
                refine hK.out _ _ hz1 (fun hS => ?_)
                clear hK K hS
                refine wpAnyH_take (i := 8) (v := ?_) (by simp only [List.getElem?_toArray, List.getElem?_cons_zero, List.getElem?_cons_succ]; rfl) (by kernel_rfl) (by kernel_rfl) (by kernel_rfl) (fun _ _ _ h => h) (Or.inl ⟨by rfl, ?_⟩) (by assumption) ?_
                rotate_left 1
                · intro w hSw
                  go_simp
                  with_reducible rfl
                simp only [Act.put, List.setIfInBounds_toArray, List.set_cons_zero, List.set_cons_succ]
                refine wpAnyH_take (i := 9) (v := ?_) (by simp only [List.getElem?_toArray, List.getElem?_cons_zero, List.getElem?_cons_succ]; rfl) (by kernel_rfl) (by kernel_rfl) (by kernel_rfl) (fun _ _ _ h => h) (Or.inl ⟨by rfl, ?_⟩) (by assumption) ?_
                rotate_left 1
                · intro w hSw
                  go_simp
                  with_reducible rfl
                simp only [Act.put, List.setIfInBounds_toArray, List.set_cons_zero, List.set_cons_succ]
                refine' wpAnyH_take (i := 10) (v := _) (by simp only [List.getElem?_toArray, List.getElem?_cons_zero, List.getElem?_cons_succ]; rfl) (by kernel_rfl) (by kernel_rfl) (by kernel_rfl) (fun _ _ _ h => h) (yields_loadA (by rfl) 64 (.tmp 126) rfl g (i * 5 + 1) rfl (ndA 1 nd [] nt) (fun w hSw => hat.out w hSw)) (by assumption) ?_
                simp only [Act.put, List.setIfInBounds_toArray, List.set_cons_zero, List.set_cons_succ]
                refine wpAnyH_ready (rs := [12]) (by kernel_rfl) (by simp) ?_
                refine AllReadyH.cons (by simp only [List.getElem?_toArray, List.getElem?_cons_zero, List.getElem?_cons_succ]; rfl) (fun K hK => ?_) (AllReadyH.nil)
                go_simp
                refine hK.out _ _ (SD3.out.on ((Below.refl _ _).alloc (Nat.le_refl _) _)) (fun hS => ?_)
                clear hK K
                refine wpAnyH_done (by kernel_rfl) ?_ _
                refine NoPanic.normal ?_
                go_wp2_with fail
                go_meet
                exact ⟨by rw [HS5.out], by rw [← HS5.out]; exact Has.fresh _ _ _, B5.out.alloc B5.out.size _⟩
            case rest =>
              obtain ⟨rfl, XO, hb7⟩ := hcut
              obtain ⟨E, HE9⟩ : ∃ E, Hid (nd ++ D = E) := ⟨_, rfl⟩
              rw [HE9.out] at HRT
              have hnl : nd.length ≤ 1048576 := by
                have h1 := used_mem (look_mem HLK.out)
                have h2 := HUU.out
                have h3 := HR.out
                unfold useN at h1
                simp only at h1
                omega
              have HEL : Hid (E.length ≤ 102000000) := by show _ ≤ _; rw [← HE9.out, List.length_append]; have := HDL.out; omega
              have XNc := hid (XN.out.kept hb7.out XN.out.inside)
              have XBc := hid (XB3.out.kept hb7.out XB3.out.inside)
              obtain ⟨b11, HB11⟩ : ∃ b, Hid (w3.heap.size = b) := ⟨_, rfl⟩
              rw [HB11.out] at XO
              have hne : b11 ≠ b2 := fun e => by have := XN.out.inside; rw [← e, ← HB11.out] at this; omega
              have hle : w2.heap.size ≤ b2 := by rw [HB2.out]; exact Nat.le_refl _
              obtain ⟨wa, HWA⟩ : ∃ y, Hid (wc.setCell ⟨b2, 1, none⟩ (.string (ba E)) = y) := ⟨_, rfl⟩
              obtain ⟨wb, HWB⟩ : ∃ y, Hid (wa.setCell ⟨b2, 3, none⟩ (.int .i64 nt) = y) := ⟨_, rfl⟩
              have XNa : Hid (Has wa b2 64 (ndA 1 E [] tm)) := by rw [← HWA.out]; exact XNc.out.put 1 _
              have XNb : Hid (Has wb b2 64 (ndA 1 E [] nt)) := by rw [← HWB.out]; exact XNa.out.put 3 _
              have XOa : Hid (Has wa b11 64 (ndA 1 nd [] nt)) := by rw [← HWA.out]; exact XO.out.other hne _
              have hb2b : Below w2.heap.size w2 wb := by rw [← HWB.out, ← HWA.out]; exact ((HB3.out.trans (hb7.out.mono HB3.out.size)).setCell (p := ⟨b2, 1, none⟩) hle _).setCell (p := ⟨b2, 3, none⟩) hle _
              have XBb := hid (XB2.out.kept hb2b XB2.out.inside)
              have Bb : Hid (Below w.heap.size w wb) := B2.out.trans (hb2b.mono B2.out.size)
              have Tb := hid (T2.out.on hb2b)
              have o1 := XO.out.at_ 1
              have k1 := XNc.out.at_ 1
              have f1 := XNc.out.free 1
              have o3 := XOa.out.at_ 3
              have k3 := XNa.out.at_ 3
              have f3 := XNa.out.free 3
              have hwa := HWA.out
              have hbz := HB11.out
              have hwb := HWB.out
              have hcat : ba nd ++ ba D = ba E := by rw [ba_append, HE9.out]
              have znd : (ba nd).size = nd.length := ba_size nd
              have zD : (ba D).size = D.length := ba_size D
              have zdl := HDL.out
              clear x0 x1 x2 x3 x4 x5 x6 hb2b hle hne
              have x0 := XBb.out.at_ 0
              have x1 := XBb.out.at_ 1
              have x2 := XBb.out.at_ 2
              have x3 := XBb.out.at_ 3
              have x4 := XBb.out.at_ 4
              have x5 := XBb.out.at_ 5
              have x6 := XBb.out.at_ 6
              have CWT : Hid (Calls Tryz.prog 104 #[.pointer (some ⟨u, 0, none⟩), kS p, .agg (ndA 1 E [] nt)] wb fun e w' => NewT wb (ins p ⟨1, E, [], nt⟩ L) room e w') := rwith_any Tb.out p 1 E [] nt HPL.out (by have := HLL.out; omega) (HWF.out.short)
              go_wp2_with (first
                | (refine wpList_load_nodeC rfl (.tmp 10) rfl b2 rfl 1 E [] nt XNb.out ?_))
              refine CWT.out.mono ?_; rintro e4 w4 ⟨o4, rfl, ht4, hb4⟩
              have T4 := hid (ht4.mono Bb.out.size)
              have B4 : Hid (Below w.heap.size w w4) := Bb.out.trans (hb4.mono Bb.out.size)
              have hu4 := (Tb.out.on hb4)
              have HK := hid (used_ins HWF.out.srt p ⟨1, E, [], nt⟩)
              obtain ⟨K, HKD⟩ : ∃ K, Hid (ins p ⟨1, E, [], nt⟩ L = K) := ⟨_, rfl⟩
              rw [HKD.out] at T4 HRT HK
              have HUK : Hid (usedL K ≤ 1000000000) := by have h1 := HK.out; have h2 := HUU.out; have h3 := HR.out; show _ ≤ _; unfold useN at h1; simp only at h1; have := HEL.out; omega
              have HU4 : Hid (w4.drew.cell? ⟨u, 1, none⟩ = some (.int .i64 (room : Int))) := by obtain ⟨A, n, c, hv⟩ := hu4.view; exact hv.c1
              have CU := hid (rUsed_any (T4.out.tree.on (Below.refl _ _).drew) HUK.out)
              have T5 := hid (T4.out.on (Below.refl _ _).drew)
              have B5 := hid B4.out.drew
              clear ht4 hb4 hu4 x0 x1 x2 x3 x4 x5 x6
              go_upto_region 35 with fail
              refine wp_region_noPanic ?_
              refine wp_region_held_drew (S := fun W => W.cell? ⟨u, 1, none⟩ = some (.int .i64 (room : Int))) (by kernel_rfl) (HU4.out) (fun hS => ?_)
              generalize w4.drew = w5 at *
              refine wpAnyH_take (i := 0) (v := ?_) (by simp only [List.getElem?_toArray, List.getElem?_cons_zero]; rfl) (by kernel_rfl) (by kernel_rfl) (by kernel_rfl) (fun _ _ _ h => h) (Or.inl ⟨by rfl, ?_⟩) (by assumption) ?_
              rotate_left 1
              · intro w hSw
                go_simp
                with_reducible rfl
              simp only [Act.put, List.setIfInBounds_toArray, List.set_cons_zero, List.set_cons_succ]
              refine wpAnyH_take (i := 2) (v := ?_) (by simp only [List.getElem?_toArray, List.getElem?_cons_zero, List.getElem?_cons_succ]; rfl) (by kernel_rfl) (by kernel_rfl) (by kernel_rfl) (fun _ _ _ h => h) (Or.inl ⟨by rfl, ?_⟩) (by assumption) ?_
              rotate_left 1
              · intro w hSw
                go_simp
                with_reducible rfl
              simp only [Act.put, List.setIfInBounds_toArray, List.set_cons_zero, List.set_cons_succ]
              refine wpAnyH_take (i := 3) (v := ?_) (by simp only [List.getElem?_toArray, List.getElem?_cons_zero, List.getElem?_cons_succ]; rfl) (by kernel_rfl) (by kernel_rfl) (by kernel_rfl) (fun _ _ _ h => h) (Or.inl ⟨by rfl, ?_⟩) (by assumption) ?_
              rotate_left 1
              · intro w hSw
                go_simp
                with_reducible rfl
              simp only [Act.put, List.setIfInBounds_toArray, List.set_cons_zero, List.set_cons_succ]
              refine wpAnyH_take (i := 4) (v := ?_) (by simp only [List.getElem?_toArray, List.getElem?_cons_zero, List.getElem?_cons_succ]; rfl) (by kernel_rfl) (by kernel_rfl) (by kernel_rfl) (fun _ _ _ h => h) (Or.inl ⟨by rfl, ?_⟩) (by assumption) ?_
              rotate_left 1
              · intro w hSw
                go_simp
                with_reducible rfl
              simp only [Act.put, List.setIfInBounds_toArray, List.set_cons_zero, List.set_cons_succ]
              refine wpAnyH_take (i := 5) (v := ?_) (by simp only [List.getElem?_toArray, List.getElem?_cons_zero, List.getElem?_cons_succ]; rfl) (by kernel_rfl) (by kernel_rfl) (by kernel_rfl) (fun _ _ _ h => h) (Or.inl ⟨by rfl, ?_⟩) (by assumption) ?_
              rotate_left 1
              · intro w hSw
                have hc : w.cell? ⟨u, 1, none⟩ = some (.int .i64 (room : Int)) := hSw
                go_simp
                with_reducible rfl
              simp only [Act.put, List.setIfInBounds_toArray, List.set_cons_zero, List.set_cons_succ]
              refine wpAnyH_ready (rs := [1]) (by kernel_rfl) (by simp) ?_
              refine AllReadyH.cons (by simp only [List.getElem?_toArray, List.getElem?_cons_zero, List.getElem?_cons_succ]; rfl) (fun K hK => ?_) AllReadyH.nil
              go_simp
              refine (CU.out).mono ?_
              rintro e5 w6 ⟨rfl, rfl⟩
              have hz1 := HU4.out
              refine hK.out _ _ hz1 (fun hS => ?_)
              clear hK K hS
              refine wpAnyH_take (i := 6) (v := ?_) (by simp only [List.getElem?_toArray, List.getElem?_cons_zero, List.getElem?_cons_succ]; rfl) (by kernel_rfl) (by kernel_rfl) (by kernel_rfl) (fun _ _ _ h => h) (Or.inl ⟨by rfl, ?_⟩) (by assumption) ?_
              rotate_left 1
              · intro w hSw
                go_simp
                with_reducible rfl
              simp only [Act.put, List.setIfInBounds_toArray, List.set_cons_zero, List.set_cons_succ]
              refine wpAnyH_done (by kernel_rfl) ?_ _
              refine NoPanic.normal ?_
              by_cases hu : usedL K ≤ room
              · have hq : ¬ ((room : Int) < ((usedL K : Nat) : Int)) := by omega
                have HR5 := hid (HRT.out.trans (if_pos hu))
                clear hu
                go_wp2
                go_ret2
                exact .inl ⟨by rw [HR5.out], o4, rfl, by rw [HR5.out]; exact T5.out, B5.out⟩
              · have hq : (room : Int) < ((usedL K : Nat) : Int) := by omega
                have HE : Hid (r.1 = 7) := by show _ = _; rw [HRT.out, if_neg hu]
                clear hu
                go_wp2
                go_ret2
                exact NextP.bad HE.out (by decide) B5.out
end Go.Proofs.YtlbeemlnbpchgaaGreat
/- The document's trees: next, whatever the effect. Conditions: an effect whose arguments may be. -/
namespace Go.Proofs.YtlbeemlnbpchgaaGreat
open Go.RowKit Go.Maps
theorem rwE_1 (p q d : By) (tm : Int) : rwE ⟨1, p, q, d, tm⟩ = .write p d tm := rfl
theorem rwE_2 (p q d : By) (tm : Int) : rwE ⟨2, p, q, d, tm⟩ = .append p d := rfl
theorem rwE_3 (p q d : By) (tm : Int) : rwE ⟨3, p, q, d, tm⟩ = .mkdir p := rfl
theorem rwE_4 (p q d : By) (tm : Int) : rwE ⟨4, p, q, d, tm⟩ = .link p d tm := rfl
theorem rwE_5 (p q d : By) (tm : Int) : rwE ⟨5, p, q, d, tm⟩ = .rename p q := rfl
theorem rwE_6 (p q d : By) (tm : Int) : rwE ⟨6, p, q, d, tm⟩ = .remove p := rfl
theorem six {z : Int} (h0 : 1 ≤ z) (h1 : z ≤ 6) : z = 1 ∨ z = 2 ∨ z = 3 ∨ z = 4 ∨ z = 5 ∨ z = 6 := by omega
theorem arg_may {p : By} {c d : Int} (h : (if mayB p then c else 10) = 0) : mayB p = true := by
  cases k : mayB p with
  | true => rfl
  | false => rw [k] at h; simp at h
theorem rnext_any {w : World} {u : Nat} {L : Tr} {room : Nat} (h : TreeR w u L room) (hW : WFT room L) (hT : TG L) (hr : room ≤ 1048576) (e : Rw) (he : RwOk e) (ha : argE (rwE e) = 0) (m : Int) (pk : Bool) (hm : 0 ≤ m) :
    Calls Tryz.prog 58 #[.pointer (some ⟨u, 0, none⟩), .agg (efC e.dO e.p e.q e.d e.tm m pk)] w fun en w' => NextP w room (nextE room L (cutR (rwE e) m pk)) en w' := by
  obtain ⟨dO, p, q, d, tm⟩ := e
  have hd : d.length ≤ 100000000 := he.ld
  rcases six he.k0 he.k1 with k | k | k | k | k | k <;> simp only at k <;> subst k
  · exact rnext_write h hW hT hr p q d tm m pk hm hd (arg_may (d := 0) ha)
  · exact rnext_append h hW hT hr p q d tm m pk hm hd (arg_may (d := 0) ha)
  · exact rnext_mkdir h hW hT hr p q d tm m pk hm hd (arg_may (d := 0) ha)
  · exact rnext_link h hW hT hr p q d tm m pk hm hd (arg_may (d := 0) ha)
  · have ha2 : (if (mayB p && mayB q) = true then (if q = p ∨ withinB q p = true then (2 : Int) else 0) else 10) = 0 := ha
    cases h1 : mayB p with
    | false => rw [h1] at ha2; simp at ha2
    | true =>
      cases h2 : mayB q with
      | false => rw [h1, h2] at ha2; simp at ha2
      | true =>
        rw [h1, h2] at ha2
        simp only [Bool.and_self, if_true] at ha2
        by_cases k : q = p ∨ withinB q p = true
        · rw [if_pos k] at ha2; cases ha2
        · have k1 : q ≠ p := fun e => k (.inl e)
          have k2 : withinB q p = false := by
            cases e : withinB q p with
            | false => rfl
            | true => exact absurd (.inr e) k
          exact rnext_rename h hW hT hr p q d tm m pk hm hd h1 h2 k1 k2
  · exact rnext_remove h hW hT hr p q d tm m pk hm hd (arg_may (d := 0) ha)
end Go.Proofs.YtlbeemlnbpchgaaGreat
