/- Several texts in one: YK. Conditions: those said at each. -/
import Derived.Test.YtlbeemlnbpchgaaGreatQY
/- The document's trees: next, remove. Conditions: as at write. -/
namespace Go.Proofs.YtlbeemlnbpchgaaGreat
open Go.RowKit Go.Maps
theorem inner_none {room : Nat} {L : Tr} (hW : WFT room L) {p : By} (hp : mayB p = true) : innerL L p = [] ↔ ∀ x ∈ L, withinB x.1 p = false := by
  constructor
  · intro h x hx
    cases hw : withinB x.1 p with
    | false => rfl
    | true =>
      obtain ⟨r, e⟩ := withinB_yes hp hw
      have h1 : r ∈ innerL L p := (hW.inner (may_ne hp) r).2 (by rw [← e, mem_look hW.srt (show (x.1, x.2) ∈ L from hx)]; rfl)
      rw [h] at h1; cases h1
  · intro h
    cases hi : innerL L p with
    | nil => rfl
    | cons r rs =>
      have h1 : (look L (p ++ 47 :: r)).isSome := (hW.inner (may_ne hp) r).1 (by rw [hi]; exact List.mem_cons_self)
      cases hl : look L (p ++ 47 :: r) with
      | none => rw [hl] at h1; cases h1
      | some n =>
        have h2 := h _ (look_mem hl)
        rw [withinB_mk (hW.may _ (by rw [hl]; rfl)) hp ⟨r, rfl⟩] at h2; cases h2
structure RdW (u : Nat) (A : Option Addr) (n c g k b : Nat) (x : At) (p : By) (W : World) : Prop where
  t : RdT u A n c g k x W
  cp : W.cell? ⟨b, 1, none⟩ = some (kS p)
set_option maxRecDepth 100000 in
set_option maxHeartbeats 32000000 in
theorem rnext_remove {w : World} {u : Nat} {L : Tr} {room : Nat} (h : TreeR w u L room) (hW : WFT room L) (hT : TG L) (hr : room ≤ 1048576) (p q d : By) (tm m : Int) (pk : Bool) (hm : 0 ≤ m) (hd : d.length ≤ 100000000) (hmy : mayB p = true) :
    Calls Tryz.prog 58 #[.pointer (some ⟨u, 0, none⟩), .agg (efC 6 p q d tm m pk)] w fun e w' => NextP w room (nextE room L (cutR (.remove p) m pk)) e w' := by
  rw [show cutR (.remove p) m pk = .remove p by unfold cutR; cases pk <;> rfl]
  have hL : L.length ≤ 16384 := by have h1 := used_len (L := L); have := hW.used; omega
  have hU := hW.used
  obtain ⟨D, HD⟩ : ∃ D, Hid (cutD d m pk = D) := ⟨_, rfl⟩
  have hDl : D.length ≤ 100000000 := by rw [← HD.out]; have := cutD_len d m pk; omega
  obtain ⟨kk, HKK⟩ : ∃ c, Hid (kindP L p = c) := ⟨_, rfl⟩
  obtain ⟨hh, HH⟩ : ∃ c, Hid (homeE L p = c) := ⟨_, rfl⟩
  obtain ⟨r, HRR⟩ : ∃ r, Hid (nextE room L (.remove p) = r) := ⟨_, rfl⟩
  rw [HRR.out]
  have HRD : Hid (r = if kk ≠ 0 then (if innerL L p = [] then (0, del L p) else (22, L)) else (5, L)) := by
    show _ = _
    have h1 := isSome_kind hW (may_ne hmy)
    rw [HKK.out] at h1
    rw [← HRR.out]; simp only [nextE, h1]
  have HIN := hid (inner_none hW hmy)
  have hbx : Below w.heap.size w (w.alloc (.cells (efC 6 p q d tm m pk) 83)) := (Below.refl _ _).alloc (Nat.le_refl _) _
  obtain ⟨b, HB⟩ : ∃ b, Hid (w.heap.size = b) := ⟨_, rfl⟩
  have XB : Hid (Has (w.alloc (.cells (efC 6 p q d tm m pk) 83)) b 83 #[.int .i64 6, kS p, kS q, kS d, .int .i64 tm, .int .i64 m, .bool pk]) := by rw [← HB.out]; exact Has.fresh _ _ _
  have B0 := hid hbx
  obtain ⟨w1, HW1⟩ : ∃ w1, Hid (w.alloc (.cells (efC 6 p q d tm m pk) 83) = w1) := ⟨_, rfl⟩
  rw [HW1.out] at B0 XB
  have hw1 := HW1.out
  have HS1 : Hid (w1.heap.size = b + 1) := by show _ = _; rw [← HW1.out, ← HB.out]; simp
  have T1 := hid (h.on B0.out)
  have CK : Hid (Calls Tryz.prog 98 #[.pointer (some ⟨u, 0, none⟩), kS p] w1 fun e w' => e = .returned (.int .i64 kk) ∧ w1 = w') := by rw [← HKK.out]; exact rKind_any T1.out p (by omega)
  have HWF := hid hW
  have HTG := hid hT
  have HR := hid hr
  have HLL := hid hL
  have HUU := hid hU
  obtain ⟨cc, HCC⟩ : ∃ cc, Hid ((pk && decide (m < (d.length : Int))) = cc) := ⟨_, rfl⟩
  have hcy : Hid (cc = true → D = d.take m.toNat ∧ m ≤ (d.length : Int)) := fun e => by
    rw [← HD.out, cutD_yes (by rw [HCC.out]; exact e)]
    refine ⟨rfl, ?_⟩
    have h1 := HCC.out
    rw [e, Bool.and_eq_true, decide_eq_true_eq] at h1
    omega
  have hcn : Hid (cc = false → D = d) := fun e => by rw [← HD.out, cutD_no (by rw [HCC.out]; exact e)]
  have x0 := XB.out.at_ 0
  have x1 := XB.out.at_ 1
  have x2 := XB.out.at_ 2
  have x3 := XB.out.at_ 3
  have x4 := XB.out.at_ 4
  have x5 := XB.out.at_ 5
  have x6 := XB.out.at_ 6
  have zd : (ba d).size = d.length := ba_size d
  have HDL := hid hDl
  have HPL : p.length ≤ 160 := (may_parts hmy).1
  have HPL2 := hid HPL
  obtain ⟨A, n, c, hv⟩ := T1.out.view
  have HL := hid hv.len
  have HROW := hid hv.row
  have HC0 := hid hv.c0
  have HT0 := hid (block_lt_of_cell (a := ⟨u, 0, none⟩) hv.c0)
  have hn : n ≤ 16384 := by rw [← HL.out]; exact hL
  clear HPL hv
  clear h hW hT hr hbx hL hU hDl hd
  go_enter Tryz.func58, Tryz.ntmps58
  have hbs := HB.out
  go_wp2_with fail
  refine CK.out.mono ?_; rintro e1 w1' ⟨rfl, rfl⟩
  clear hw1 hbs
  go_upto_region 3 with fail
  go_cut [27] (fun t w' => t = .bool cc ∧ w1 = w')
  case first =>
    cases pk with
    | false =>
      have hc : cc = false := by rw [← HCC.out]; rfl
      clear hcy hcn
      go_wp2_with fail
      go_meet
      exact ⟨by rw [hc], rfl⟩
    | true =>
      have hc : decide (m < (d.length : Int)) = cc := by rw [← HCC.out]; rfl
      clear hcy hcn
      go_wp2_with fail
      go_meet
      exact ⟨rfl, rfl⟩
  case rest =>
    obtain ⟨rfl, rfl⟩ := hcut
    go_upto_if 27 with fail
    go_cut [7] (fun t w' => t = kS D ∧ w1 = w')
    case first =>
      cases cc with
      | false =>
        have hc := hcn.out rfl
        clear hcy hcn
        go_wp2_with fail
        go_meet
        exact ⟨by rw [hc], rfl⟩
      | true =>
        obtain ⟨hc, hml⟩ := hcy.out rfl
        have e1 : (ba d).extract 0 m.toNat = ba D := by rw [hc]; exact ba_cut0 d _
        clear hcy hcn hc
        go_wp2_with fail
        go_meet
        exact ⟨rfl, rfl⟩
    case rest =>
      obtain ⟨rfl, rfl⟩ := hcut
      clear hcy hcn
      by_cases k0 : kk = 0
      · have q2 : (kk == 0) = true := by simp [k0]
        have HE : Hid (r.1 = 5) := by show _ = _; rw [HRD.out, if_neg (fun k => k k0)]
        clear k0
        go_wp2
        go_ret2
        exact NextP.bad HE.out (by decide) B0.out
      · have q2 : (kk == 0) = false := by simpa using k0
        have HR2 := hid (HRD.out.trans (if_pos k0))
        clear k0
        go_wp2
        clear x0 x1 x2 x3 x4 x5 x6
        go_loopw [8] (fun v8 wr => ∃ k : Nat, v8 = .int .i64 (k : Int) ∧ k ≤ n ∧ Hid (∀ x ∈ L.take k, withinB x.1 p = false) ∧ Hid (Below w1.heap.size w1 wr)) (fun v8 _ => n - (intOf v8).toNat)
        case atStart => exact ⟨0, rfl, by omega, by intro x hx; simp at hx, Below.refl _ _⟩
        case round =>
          obtain ⟨k, rfl, hk, J1, J2⟩ := hrel
          have XBr := hid (XB.out.kept J2.out XB.out.inside)
          have Tr := hid (T1.out.on J2.out)
          have Br : Hid (Below w.heap.size w wr) := B0.out.trans (J2.out.mono B0.out.size)
          have c0 : wr.cell? ⟨u, 0, none⟩ = some (.slice A n c) := (J2.out.cell (p := ⟨u, 0, none⟩) HT0.out).trans HC0.out
          have x1 := XBr.out.at_ 1
          by_cases hlt : k < n
          · obtain ⟨g, hA, hat⟩ := HROW.out (by omega)
            subst hA
            have hkl : k < L.length := by rw [HL.out]; exact hlt
            have hat2 := (hat k hlt).on J2.out
            have HMX := hid (memD hkl)
            have HTK := hid (take_succD hkl)
            have hmx : mayB (L.getD k at0).1 = true := HWF.out.may _ (by rw [lookD HWF.out.srt hkl]; rfl)
            obtain ⟨x, hx⟩ : ∃ x, x = (L.getD k at0) := ⟨_, rfl⟩
            rw [← hx] at hat2 HMX HTK hmx
            have hxl : x.1.length ≤ 160 := (may_parts hmx).1
            have hlt' : (k : Int) < (n : Int) := by omega
            have h0 : (0 : Int) ≤ (k : Int) := by omega
            have w1' : IntKind.i64.wrap ((k : Int) + 1) = (k : Int) + 1 := i64in _ (by omega) (by omega)
            have SD : Hid (RdW u (some ⟨g, 0, none⟩) n c g k b x p wr.drew) := ⟨⟨c0, hat2.on (Below.refl _ _).drew⟩, x1⟩
            have CWI : Hid (∀ W, Calls Tryz.prog 93 #[kS x.1, kS p] W fun e w' => e = .returned (.bool (withinB x.1 p)) ∧ Below W.heap.size W w') := fun W => by
              have := Rf.rwithin_any (ba x.1) (ba p) W (by rw [ba_size]; omega) (by rw [ba_size]; have := HPL2.out; omega)
              rw [tl_ba, tl_ba] at this; exact this
            have J2d := hid J2.out.drew
            clear hat hat2 hmx hx hkl
            go_wp2
            refine wp_region_noPanic ?_
            refine wp_region_held_drew (S := RdW u (some ⟨g, 0, none⟩) n c g k b x p) (by kernel_rfl) (SD.out) (fun hS => ?_)
            generalize wr.drew = w3 at *
            refine wpAnyH_take (i := 0) (v := ?_) (by simp only [List.getElem?_toArray, List.getElem?_cons_zero]; rfl) (by kernel_rfl) (by kernel_rfl) (by kernel_rfl) (fun _ _ _ h => h) (Or.inl ⟨by rfl, ?_⟩) (by assumption) ?_
            rotate_left 1
            · intro w hSw
              go_simp
              with_reducible rfl
            simp only [Act.put, List.setIfInBounds_toArray, List.set_cons_zero, List.set_cons_succ]
            refine wpAnyH_take (i := 1) (v := ?_) (by simp only [List.getElem?_toArray, List.getElem?_cons_zero, List.getElem?_cons_succ]; rfl) (by kernel_rfl) (by kernel_rfl) (by kernel_rfl) (fun _ _ _ h => h) (Or.inl ⟨by rfl, ?_⟩) (by assumption) ?_
            rotate_left 1
            · intro w hSw
              go_simp
              with_reducible rfl
            simp only [Act.put, List.setIfInBounds_toArray, List.set_cons_zero, List.set_cons_succ]
            refine wpAnyH_take (i := 2) (v := ?_) (by simp only [List.getElem?_toArray, List.getElem?_cons_zero, List.getElem?_cons_succ]; rfl) (by kernel_rfl) (by kernel_rfl) (by kernel_rfl) (fun _ _ _ h => h) (Or.inl ⟨by rfl, ?_⟩) (by assumption) ?_
            rotate_left 1
            · intro w hSw
              go_simp
              with_reducible rfl
            simp only [Act.put, List.setIfInBounds_toArray, List.set_cons_zero, List.set_cons_succ]
            refine wpAnyH_take (i := 3) (v := ?_) (by simp only [List.getElem?_toArray, List.getElem?_cons_zero, List.getElem?_cons_succ]; rfl) (by kernel_rfl) (by kernel_rfl) (by kernel_rfl) (fun _ _ _ h => h) (Or.inl ⟨by rfl, ?_⟩) (by assumption) ?_
            rotate_left 1
            · intro w hSw
              have hc := hSw.t.c0
              have ha := hSw.t.at_.c0
              have hp := hSw.cp
              go_simp
              with_reducible rfl
            simp only [Act.put, List.setIfInBounds_toArray, List.set_cons_zero, List.set_cons_succ]
            refine wpAnyH_take (i := 4) (v := ?_) (by simp only [List.getElem?_toArray, List.getElem?_cons_zero, List.getElem?_cons_succ]; rfl) (by kernel_rfl) (by kernel_rfl) (by kernel_rfl) (fun _ _ _ h => h) (Or.inl ⟨by rfl, ?_⟩) (by assumption) ?_
            rotate_left 1
            · intro w hSw
              go_simp
              with_reducible rfl
            simp only [Act.put, List.setIfInBounds_toArray, List.set_cons_zero, List.set_cons_succ]
            refine wpAnyH_take (i := 5) (v := ?_) (by simp only [List.getElem?_toArray, List.getElem?_cons_zero, List.getElem?_cons_succ]; rfl) (by kernel_rfl) (by kernel_rfl) (by kernel_rfl) (fun _ _ _ h => h) (Or.inl ⟨by rfl, ?_⟩) (by assumption) ?_
            rotate_left 1
            · intro w hSw
              go_simp
              with_reducible rfl
            simp only [Act.put, List.setIfInBounds_toArray, List.set_cons_zero, List.set_cons_succ]
            refine wpAnyH_take (i := 6) (v := ?_) (by simp only [List.getElem?_toArray, List.getElem?_cons_zero, List.getElem?_cons_succ]; rfl) (by kernel_rfl) (by kernel_rfl) (by kernel_rfl) (fun _ _ _ h => h) (Or.inl ⟨by rfl, ?_⟩) (by assumption) ?_
            rotate_left 1
            · intro w hSw
              go_simp
              with_reducible rfl
            simp only [Act.put, List.setIfInBounds_toArray, List.set_cons_zero, List.set_cons_succ]
            refine wpAnyH_take (i := 7) (v := ?_) (by simp only [List.getElem?_toArray, List.getElem?_cons_zero, List.getElem?_cons_succ]; rfl) (by kernel_rfl) (by kernel_rfl) (by kernel_rfl) (fun _ _ _ h => h) (Or.inl ⟨by rfl, ?_⟩) (by assumption) ?_
            rotate_left 1
            · intro w hSw
              have hc := hSw.t.c0
              have ha := hSw.t.at_.c0
              have hp := hSw.cp
              go_simp
              with_reducible rfl
            simp only [Act.put, List.setIfInBounds_toArray, List.set_cons_zero, List.set_cons_succ]
            refine wpAnyH_take (i := 8) (v := ?_) (by simp only [List.getElem?_toArray, List.getElem?_cons_zero, List.getElem?_cons_succ]; rfl) (by kernel_rfl) (by kernel_rfl) (by kernel_rfl) (fun _ _ _ h => h) (Or.inl ⟨by rfl, ?_⟩) (by assumption) ?_
            rotate_left 1
            · intro w hSw
              go_simp
              with_reducible rfl
            simp only [Act.put, List.setIfInBounds_toArray, List.set_cons_zero, List.set_cons_succ]
            refine wpAnyH_take (i := 9) (v := ?_) (by simp only [List.getElem?_toArray, List.getElem?_cons_zero, List.getElem?_cons_succ]; rfl) (by kernel_rfl) (by kernel_rfl) (by kernel_rfl) (fun _ _ _ h => h) (Or.inl ⟨by rfl, ?_⟩) (by assumption) ?_
            rotate_left 1
            · intro w hSw
              have hc := hSw.t.c0
              have ha := hSw.t.at_.c0
              have hp := hSw.cp
              go_simp
              with_reducible rfl
            simp only [Act.put, List.setIfInBounds_toArray, List.set_cons_zero, List.set_cons_succ]
            refine wpAnyH_ready (rs := [10]) (by kernel_rfl) (by simp) ?_
            refine AllReadyH.cons (by simp only [List.getElem?_toArray, List.getElem?_cons_zero, List.getElem?_cons_succ]; rfl) (fun K hK => ?_) AllReadyH.nil
            go_simp
            refine (CWI.out _).mono ?_
            rintro e9 w9 ⟨rfl, hb9⟩
            have hz1 := (⟨SD.out.t.on hb9, (hb9.cell (p := ⟨b, 1, none⟩) (block_lt_of_cell (a := ⟨b, 1, none⟩) SD.out.cp)).trans SD.out.cp⟩ : RdW u (some ⟨g, 0, none⟩) n c g k b x p w9)
            refine hK.out _ _ hz1 (fun hS => ?_)
            clear hK K hS
            refine wpAnyH_done (by kernel_rfl) ?_ _
            refine NoPanic.normal ?_
            have J3 : Hid (Below w1.heap.size w1 w9) := J2d.out.trans (hb9.mono J2d.out.size)
            have B9 : Hid (Below w.heap.size w w9) := B0.out.trans (J3.out.mono B0.out.size)
            clear hb9 c0 x1
            cases hwi : withinB x.1 p with
            | true =>
              have HE : Hid (r.1 = 22) := by
                show _ = _
                rw [HR2.out, if_neg]
                intro k
                have := HIN.out.1 k x HMX.out
                rw [hwi] at this; cases this
              clear hwi
              go_wp2
              go_ret2
              exact NextP.bad HE.out (by decide) B9.out
            | false =>
              have J4 : Hid (∀ y ∈ L.take (k + 1), withinB y.1 p = false) := by
                intro y hy
                rw [HTK.out] at hy
                rcases List.mem_append.1 hy with e | e
                · exact J1.out y e
                · rw [List.mem_singleton] at e; rw [e]; exact hwi
              clear hwi
              go_wp2
              go_roundw
              case rel => exact ⟨k + 1, by go_num, by omega, J4.out, J3.out⟩
              case measure => simp [intOf]; omega
          · have HE : Hid (r = (0, del L p)) := by
              show _ = _
              rw [HR2.out, if_pos]
              refine HIN.out.2 (fun x hx => J1.out x ?_)
              rw [List.take_of_length_le (by rw [HL.out]; omega)]; exact hx
            have CWO := hid (rwithout_any Tr.out p (by have := HLL.out; omega))
            go_wp2_with fail
            refine CWO.out.mono ?_; rintro e4 w4 ⟨o4, rfl, ht4, hb4⟩
            have T4 := hid (ht4.mono Br.out.size)
            have B4 : Hid (Below w.heap.size w w4) := Br.out.trans (hb4.mono Br.out.size)
            clear ht4 hb4
            go_wp2
            go_ret2
            exact .inl ⟨by rw [HE.out], o4, rfl, by rw [HE.out]; exact T4.out, B4.out⟩
end Go.Proofs.YtlbeemlnbpchgaaGreat
