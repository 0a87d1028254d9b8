/- Several texts in one: YH, YJ. Conditions: those said at each. -/
import Derived.Test.YtlbeemlnbpchgaaGreatQU
import Derived.Test.YtlbeemlnbpchgaaGreatQY
/- The document's trees: moved. Conditions: a tree whose paths may be. -/
namespace Go.Proofs.YtlbeemlnbpchgaaGreat
open Go.RowKit Go.Maps
set_option maxRecDepth 100000 in
set_option maxHeartbeats 32000000 in
theorem rmoved_any {w : World} {t : Nat} {L : Tr} {room : Nat} (h : TreeR w t L room) (hW : WFT room L) (hr : room ≤ 1048576) (a b : By) (ha : mayB a = true) (hb : mayB b = true) (hne : b ≠ a) (hout : withinB b a = false) :
    Calls Tryz.prog 101 #[.pointer (some ⟨t, 0, none⟩), kS a, kS b] w fun e w' => NextP w room (nextE room L (.rename a b)) e w' := by
  have hL : L.length ≤ 16384 := by have h1 := used_len (L := L); have := hW.used; omega
  have hal : a.length ≤ 160 := (may_parts ha).1
  have hbl : b.length ≤ 160 := (may_parts hb).1
  have CF := hid (rfind_any h a (by omega))
  have CH : Hid (∀ W, Below w.heap.size w W → Calls Tryz.prog 103 #[.pointer (some ⟨t, 0, none⟩), kS b] W fun e w' => e = .returned (.int .i64 (homeE L b)) ∧ Below W.heap.size W w') := fun W hb' => rhome_any (h.on hb') hW b hb (by omega) (by omega)
  have CK : Hid (∀ W q, Below w.heap.size w W → Calls Tryz.prog 98 #[.pointer (some ⟨t, 0, none⟩), kS q] W fun e w' => e = .returned (.int .i64 (kindP L q)) ∧ W = w') := fun W q hb' => rKind_any (h.on hb') q (by omega)
  have CW : Hid (∀ W q, Below w.heap.size w W → Calls Tryz.prog 102 #[.pointer (some ⟨t, 0, none⟩), kS q] W fun e w' => NewT W (del L q) room e w') := fun W q hb' => rwithout_any (h.on hb') q (by omega)
  obtain ⟨A, n, c, hv⟩ := h.view
  have HV := hid hv
  have HWF := hid hW
  have HA := hid ha
  have HBm := hid hb
  have HNE := hid hne
  have HOUT := hid hout
  have HLL := hid hL
  obtain ⟨hh, HH⟩ : ∃ c, Hid (homeE L b = c) := ⟨_, rfl⟩
  obtain ⟨kb, HKB⟩ : ∃ c, Hid (kindP L b = c) := ⟨_, rfl⟩
  obtain ⟨ka, HKA⟩ : ∃ c, Hid (kindP L a = c) := ⟨_, rfl⟩
  have HBS : Hid ((look L b).isSome ↔ kb ≠ 0) := by
    show _ ↔ _
    rw [← HKB.out]; unfold kindP; rw [if_neg (may_ne hb)]
    cases hl : look L b with
    | none => simp
    | some m => have := hW.kind b m hl; simp; omega
  obtain ⟨r, HRR⟩ : ∃ r, Hid (nextE room L (.rename a b) = r) := ⟨_, rfl⟩
  have HRD : Hid (r = if (look L a).isSome then (if hh = 0 then (if kb = 2 ∨ (ka = 2 ∧ kb ≠ 0) then (12, L) else if farB b (innerL L a) then (0, mvAll L a b (innerL L a)) else (10, L)) else (hh, L)) else (5, L)) := by
    show _ = _
    have := HBS.out
    rw [← HRR.out]; simp only [nextE, HH.out, HKB.out, HKA.out, this]
  rw [HRR.out]
  have B0 : Hid (Below w.heap.size w w) := Below.refl _ _
  rw [HH.out] at CH
  clear h hv hW ha hb hne hout hr
  go_enter Tryz.func101, Tryz.ntmps101
  go_wp2_with fail
  refine CF.out.mono ?_; rintro e1 w1 ⟨i, rfl, hf, rfl⟩
  rcases hf with ⟨rfl, hl⟩ | ⟨i0, hi, rfl, hl⟩
  · have HE : Hid (r.1 = 5) := by show _ = _; rw [HRD.out, hl]; rfl
    clear hl
    go_wp2
    go_ret2
    exact NextP.bad HE.out (by decide) B0.out
  · have HSA : Hid ((look L a).isSome = true) := by show _ = _; rw [hl]; rfl
    have HRE : Hid (r = if hh = 0 then (if kb = 2 ∨ (ka = 2 ∧ kb ≠ 0) then (12, L) else if farB b (innerL L a) then (0, mvAll L a b (innerL L a)) else (10, L)) else (hh, L)) := by show _ = _; rw [HRD.out, if_pos HSA.out]
    have h9 : ¬ (i0 : Int) < 0 := by omega
    clear hl hi
    go_wp2_with fail
    refine (CH.out _ B0.out).mono ?_; rintro e2 w2 ⟨rfl, hb2⟩
    have B2 := hid hb2
    clear hb2
    by_cases hh0 : hh = 0
    · have HRF : Hid (r = if kb = 2 ∨ (ka = 2 ∧ kb ≠ 0) then (12, L) else if farB b (innerL L a) then (0, mvAll L a b (innerL L a)) else (10, L)) := by show _ = _; rw [HRE.out, if_pos hh0]
      have HH0 := hid hh0
      have q0 : (hh != 0) = false := by simp [hh0]
      have q0' : (hh == 0) = true := by simp [hh0]
      clear hh0
      go_upto_region 6 with fail
      go_cut [40] (fun t w' => t = .bool (decide (kb = 2 ∨ (ka = 2 ∧ kb ≠ 0))) ∧ w2 = w')
      case first =>
        by_cases hk2 : kb = 2
        · have q1 : (kb == 2) = true := by simpa using hk2
          have HV2 := hid (decide_eq_true (p := kb = 2 ∨ (ka = 2 ∧ kb ≠ 0)) (.inl hk2))
          clear hk2
          go_wp2_with fail
          refine (CK.out _ b B2.out).mono ?_; rintro e3 w3 ⟨rfl, rfl⟩
          rw [HKB.out]
          go_wp2_with fail
          go_meet
          exact ⟨by rw [HV2.out], rfl⟩
        · have q1 : (kb == 2) = false := by simpa using hk2
          have HK2 := hid hk2
          clear hk2
          go_wp2_with fail
          refine (CK.out _ b B2.out).mono ?_; rintro e3 w3 ⟨rfl, rfl⟩
          rw [HKB.out]
          go_wp2_with fail
          refine (CK.out _ b B2.out).mono ?_; rintro e4 w4 ⟨rfl, rfl⟩
          rw [HKB.out]
          by_cases hk0 : kb = 0
          · have q2 : (kb != 0) = false := by simp [hk0]
            have HV2 := hid (decide_eq_false (p := kb = 2 ∨ (ka = 2 ∧ kb ≠ 0)) (fun k => by rcases k with e | e; exact HK2.out e; exact e.2 hk0))
            clear hk0
            go_wp2_with fail
            go_meet
            exact ⟨by rw [HV2.out], rfl⟩
          · have q2 : (kb != 0) = true := by simpa using hk0
            have HK0 := hid hk0
            clear hk0
            go_wp2_with fail
            refine (CK.out _ a B2.out).mono ?_; rintro e5 w5 ⟨rfl, rfl⟩
            rw [HKA.out]
            by_cases hka : ka = 2
            · have q4 : (ka == 2) = true := by simpa using hka
              have HV2 := hid (decide_eq_true (p := kb = 2 ∨ (ka = 2 ∧ kb ≠ 0)) (.inr ⟨hka, HK0.out⟩))
              clear hka
              go_wp2_with fail
              go_meet
              exact ⟨by rw [HV2.out], rfl⟩
            · have q4 : (ka == 2) = false := by simpa using hka
              have HV2 := hid (decide_eq_false (p := kb = 2 ∨ (ka = 2 ∧ kb ≠ 0)) (fun k => by rcases k with e | e; exact HK2.out e; exact hka e.1))
              clear hka
              go_wp2_with fail
              go_meet
              exact ⟨by rw [HV2.out], rfl⟩
      case rest =>
        obtain ⟨rfl, rfl⟩ := hcut
        by_cases hbad : kb = 2 ∨ (ka = 2 ∧ kb ≠ 0)
        · have HE : Hid (r.1 = 12) := by show _ = _; rw [HRF.out, if_pos hbad]
          rw [decide_eq_true hbad]
          clear hbad
          go_wp2
          go_ret2
          exact NextP.bad HE.out (by decide) B2.out
        · have HRG : Hid (r = if farB b (innerL L a) then (0, mvAll L a b (innerL L a)) else (10, L)) := by show _ = _; rw [HRF.out, if_neg hbad]
          have HNR : Hid (¬ (kindP L a = 2 ∧ (look L b).isSome)) := fun k => hbad (.inr ⟨by rw [← HKA.out]; exact k.1, HBS.out.1 k.2⟩)
          have HK2 : Hid (kb ≠ 2) := fun e => hbad (.inl e)
          rw [decide_eq_false hbad]
          clear hbad
          go_wp2_with fail
          refine (CW.out _ b B2.out).mono ?_; rintro e6 w6 ⟨o6, rfl, ht6, hb6⟩
          have HM : Hid (Moves room L a b) := ⟨HWF.out, HA.out, HBm.out, HNE.out, HOUT.out, HSA.out, by rw [HH.out]; exact HH0.out, by rw [HKB.out]; exact HK2.out, HNR.out⟩
          have T6 := hid (ht6.mono B2.out.size)
          have B6 : Hid (Below w.heap.size w w6) := B2.out.trans (hb6.mono B2.out.size)
          have HL := hid HV.out.len
          have HR := hid HV.out.row
          have hn : n ≤ 16384 := by rw [← HL.out]; exact HLL.out
          have za : (ba a).size = a.length := ba_size a
          have HC0 := hid HV.out.c0
          have HT0 := hid (block_lt_of_cell (a := ⟨t, 0, none⟩) HV.out.c0)
          clear ht6 hb6 q0 q0'
          go_wp2
          go_loopw [9, 10] (fun v9 v10 wr => ∃ (k oo : Nat), v9 = .pointer (some ⟨oo, 0, none⟩) ∧ v10 = .int .i64 (k : Int) ∧ k ≤ n ∧ Hid (TreeF w.heap.size wr oo (strike a (del L b) (L.take k)) room) ∧ Hid (farTo L a b k) ∧ Hid (Below w.heap.size w wr)) (fun _ v10 _ => n - (intOf v10).toNat)
          case atStart => exact ⟨0, o6, rfl, rfl, by omega, by show TreeF _ _ _ _ _; rw [List.take_zero]; exact T6.out, by intro x hx; simp at hx, B6.out⟩
          case round =>
            obtain ⟨k, oo, rfl, rfl, hk, J1, J2, J3⟩ := hrel
            have c0 : wr.cell? ⟨t, 0, none⟩ = some (.slice A n c) := (J3.out.cell (p := ⟨t, 0, none⟩) HT0.out).trans HC0.out
            by_cases hlt : k < n
            · obtain ⟨g, hA, hat⟩ := HR.out (by omega)
              subst hA
              have hkl : k < L.length := by rw [HL.out]; exact hlt
              have hat2 := (hat k hlt).on J3.out
              have HSN := hid (strike_next a (del L b) L k hkl)
              have HFN := hid (fun h => far_next hkl J2.out h)
              have hmx : mayB (L.getD k at0).1 = true := HWF.out.may _ (by rw [lookD HWF.out.srt hkl]; rfl)
              have HFM : Hid (∀ (_ : movesB a (L.getD k at0).1 = true) (_ : mayB (toP a b (L.getD k at0).1) = false), farR L a b = false) := fun h1 h2 => far_not (memD hkl) h1 h2
              obtain ⟨x, hx⟩ : ∃ x, x = (L.getD k at0) := ⟨_, rfl⟩
              rw [← hx] at hat2 HSN HFN hmx HFM
              have d0 := hat2.c0
              have hxl : x.1.length ≤ 160 := (may_parts hmx).1
              have hlt' : (k : Int) < (n : Int) := by omega
              have h0 : (0 : Int) ≤ (k : Int) := by omega
              have w1 : IntKind.i64.wrap ((k : Int) + 1) = (k : Int) + 1 := i64in _ (by omega) (by omega)
              have CWI : Hid (∀ W, Below w.heap.size w W → Calls Tryz.prog 93 #[kS x.1, kS a] W fun e w' => e = .returned (.bool (withinB x.1 a)) ∧ Below W.heap.size W w') := fun W _ => by
                have := Rf.rwithin_any (ba x.1) (ba a) W (by rw [ba_size]; omega) (by rw [ba_size]; omega)
                rw [tl_ba, tl_ba] at this; exact this
              have zx : (ba x.1).size = x.1.length := ba_size x.1
              have hms : movesB a x.1 = (decide (x.1 = a) || withinB x.1 a) := rfl
              have HML := hid (fun h => moves_le (p := x.1) HA.out h)
              clear hat hat2 hmx hx
              go_upto_region 13 with fail
              go_cut [69] from 44 to 81 (fun t w' => t = .bool (!movesB a x.1) ∧ Hid (Below wr.heap.size wr w'))
              case first =>
                by_cases hxa : x.1 = a
                · have q : ((ba x.1).toList == (ba a).toList) = true := by rw [eqS, decide_eq_true hxa]
                  have q2 : ((ba x.1).toList != (ba a).toList) = false := by rw [bne, q]; rfl
                  have HMT : Hid (movesB a x.1 = true) := by show _ = _; rw [hms, decide_eq_true hxa]; rfl
                  clear hms hxa hkl
                  go_wp2_with fail
                  go_meet
                  exact ⟨by rw [HMT.out]; rfl, Below.refl _ _⟩
                · have q : ((ba x.1).toList == (ba a).toList) = false := by rw [eqS, decide_eq_false hxa]
                  have q2 : ((ba x.1).toList != (ba a).toList) = true := by rw [bne, q]; rfl
                  have HMT : Hid (movesB a x.1 = withinB x.1 a) := by show _ = _; rw [hms, decide_eq_false hxa]; rfl
                  clear hms hxa hkl
                  go_wp2_with fail
                  refine (CWI.out _ J3.out).mono ?_; rintro e7 w7 ⟨rfl, hb7⟩
                  go_wp2_with fail
                  go_meet
                  exact ⟨by rw [HMT.out], hb7⟩
              case rest =>
                obtain ⟨rfl, hb7⟩ := hcut
                have J37 : Hid (Below w.heap.size w wc) := J3.out.trans (hb7.out.mono J3.out.size)
                have J17 := hid (J1.out.on hb7.out)
                clear hb7 hms c0 d0 hkl
                cases hmv : movesB a x.1 with
                | true =>
                  have HMT := hid hmv
                  clear hmv
                  have hle : a.length ≤ x.1.length := HML.out HMT.out
                  have hle' : (a.length : Int) ≤ (x.1.length : Int) := by omega
                  have HNX : Hid (strike a (del L b) (L.take (k + 1)) = del (strike a (del L b) (L.take k)) x.1) := by show _ = _; rw [HSN.out, HMT.out]; rfl
                  have e1 : (ba x.1).extract a.length x.1.length = ba (x.1.drop a.length) := ba_cut _ _
                  have e2 : ba b ++ ba (x.1.drop a.length) = ba (toP a b x.1) := ba_append _ _
                  have zb : (ba b).size ≤ 4000 := by rw [ba_size]; omega
                  have zy : (ba (x.1.drop a.length)).size ≤ 4000 := by rw [ba_size, List.length_drop]; omega
                  have HTL : Hid ((toP a b x.1).length ≤ 4000) := by show _ ≤ _; unfold toP; rw [List.length_append, List.length_drop]; omega
                  have CM : Hid (∀ v, mayB (toP a b x.1) = v → ∀ W, Calls Tryz.prog 48 #[kS (toP a b x.1)] W fun e w' => e = .returned (.bool v) ∧ Below W.heap.size W w') := fun v hv W => Rf.rmay_v (ba (toP a b x.1)) v (by rw [tl_ba]; exact hv) W (by rw [ba_size]; exact HTL.out)
                  have CWO : Hid (∀ W, Below wc.heap.size wc W → Calls Tryz.prog 102 #[.pointer (some ⟨oo, 0, none⟩), kS x.1] W fun e w' => NewT W (del (strike a (del L b) (L.take k)) x.1) room e w') := fun W hb' => rwithout_any (J17.out.tree.on hb') x.1 (by have h1 := strike_len a (L.take k) (del L b); have h2 := del_len L b; have h3 := HLL.out; omega)
                  cases hmq : mayB (toP a b x.1) with
                  | true =>
                    have CMT := hid (CM.out true hmq)
                    have HFX := hid (HFN.out (fun _ => hmq))
                    clear hmq hle
                    go_wp2_with fail
                    refine (CMT.out _).mono ?_; rintro e8 w8 ⟨rfl, hb8⟩
                    have B8 := hid hb8
                    clear hb8
                    go_wp2_with fail
                    refine (CWO.out _ B8.out).mono ?_; rintro e9 w9 ⟨o9, rfl, ht9, hb9⟩
                    have T9 := hid (ht9.mono (Nat.le_trans J37.out.size B8.out.size))
                    have B9 : Hid (Below w.heap.size w w9) := J37.out.trans ((B8.out.trans (hb9.mono B8.out.size)).mono J37.out.size)
                    clear ht9 hb9
                    go_wp2
                    go_roundw
                    case rel => exact ⟨k + 1, o9, rfl, by go_num, by omega, by show TreeF _ _ _ _ _; rw [HNX.out]; exact T9.out, HFX.out, B9.out⟩
                    case measure => simp [intOf]; omega
                  | false =>
                    have CMT := hid (CM.out false hmq)
                    have HE : Hid (r.1 = 10) := by
                      have h1 := far_same HWF.out HA.out HBm.out
                      rw [HFM.out HMT.out hmq] at h1
                      show _ = _
                      rw [HRG.out, ← h1]; rfl
                    clear hmq hle
                    go_wp2_with fail
                    refine (CMT.out _).mono ?_; rintro e8 w8 ⟨rfl, hb8⟩
                    have B8 : Hid (Below w.heap.size w w8) := J37.out.trans (hb8.mono J37.out.size)
                    clear hb8
                    go_wp2
                    go_ret2
                    exact NextP.bad HE.out (by decide) B8.out
                | false =>
                  have HMT := hid hmv
                  clear hmv
                  have HNX : Hid (strike a (del L b) (L.take (k + 1)) = strike a (del L b) (L.take k)) := by show _ = _; rw [HSN.out, HMT.out]; rfl
                  have HFX := hid (HFN.out (fun h => by rw [HMT.out] at h; cases h))
                  go_wp2
                  go_roundw
                  case rel => exact ⟨k + 1, oo, rfl, by go_num, by omega, by show TreeF _ _ _ _ _; rw [HNX.out]; exact J17.out, HFX.out, J37.out⟩
                  case measure => simp [intOf]; omega
            · have HKN : Hid (L.take k = L) := by show _ = _; rw [List.take_of_length_le (by rw [HL.out]; omega)]
              have HFA : Hid (farTo L a b L.length) := by
                have := J2.out
                unfold farTo at this ⊢
                rw [HKN.out] at this
                show ∀ x ∈ L.take L.length, _
                rw [List.take_length]; exact this
              have HR0 : Hid (r.1 = 0 ∧ r.2 = mvR L a b) := by
                have h1 := far_same HWF.out HA.out HBm.out
                rw [far_all HFA.out] at h1
                have h2 := HRG.out
                rw [if_pos h1.symm] at h2
                rw [h2]
                exact ⟨rfl, HM.out.same.symm⟩
              have HS1 : Hid (Short (strike a (del L b) L)) := Short.strike L (HWF.out.short.del b)
              have HSL : Hid ((strike a (del L b) L).length ≤ 16384) := by have h1 := strike_len a L (del L b); have h2 := del_len L b; have h3 := HLL.out; show _ ≤ _; omega
              rw [HKN.out] at J1
              obtain ⟨T1, HT1⟩ : ∃ T, Hid (strike a (del L b) L = T) := ⟨_, rfl⟩
              rw [HT1.out] at J1 HS1 HSL
              go_wp2
              clear c0
              go_loopw [9, 13] (fun v9 v13 wr => ∃ (j oo : Nat), v9 = .pointer (some ⟨oo, 0, none⟩) ∧ v13 = .int .i64 (j : Int) ∧ j ≤ n ∧ Hid (TreeF w.heap.size wr oo (lay a b T1 (L.take j)) room) ∧ Hid (Below w.heap.size w wr)) (fun _ v13 _ => n - (intOf v13).toNat)
              case atStart => exact ⟨0, oo, rfl, rfl, by omega, by show TreeF _ _ _ _ _; rw [List.take_zero]; exact J1.out, J3.out⟩
              case round =>
                obtain ⟨j, o9, rfl, rfl, hj, K1, K2⟩ := hrel
                have c0 : wr.cell? ⟨t, 0, none⟩ = some (.slice A n c) := (K2.out.cell (p := ⟨t, 0, none⟩) HT0.out).trans HC0.out
                by_cases hlt : j < n
                · obtain ⟨g, hA, hat⟩ := HR.out (by omega)
                  subst hA
                  have hjl : j < L.length := by rw [HL.out]; exact hlt
                  have hat1 := hat j hlt
                  have HLN := hid (lay_next a b T1 L j hjl)
                  have hmx : mayB (L.getD j at0).1 = true := HWF.out.may _ (by rw [lookD HWF.out.srt hjl]; rfl)
                  have HFX : Hid (movesB a (L.getD j at0).1 = true → mayB (toP a b (L.getD j at0).1) = true) := fun h => HFA.out _ (by rw [List.take_length]; exact memD hjl) h
                  have HSJ := hid (lay_short HFA.out HS1.out j)
                  have HLJ : Hid ((lay a b T1 (L.take j)).length ≤ 99000) := by have h1 := lay_len a b (L.take j) T1; have h2 := HSL.out; have h3 := HLL.out; rw [List.length_take] at h1; show _ ≤ _; omega
                  obtain ⟨x, hx⟩ : ∃ x, x = (L.getD j at0) := ⟨_, rfl⟩
                  rw [← hx] at hat1 HLN hmx HFX
                  have SD0 : Hid (RdT t (some ⟨g, 0, none⟩) n c g j x w) := ⟨HC0.out, hat1⟩
                  have d0 := (hat1.on K2.out).c0
                  have hxl : x.1.length ≤ 160 := (may_parts hmx).1
                  have hlt' : (j : Int) < (n : Int) := by omega
                  have h0 : (0 : Int) ≤ (j : Int) := by omega
                  have w1 : IntKind.i64.wrap ((j : Int) + 1) = (j : Int) + 1 := i64in _ (by omega) (by omega)
                  have CWI : Hid (∀ W, Below w.heap.size w W → Calls Tryz.prog 93 #[kS x.1, kS a] W fun e w' => e = .returned (.bool (withinB x.1 a)) ∧ Below W.heap.size W w') := fun W _ => by
                    have := Rf.rwithin_any (ba x.1) (ba a) W (by rw [ba_size]; omega) (by rw [ba_size]; omega)
                    rw [tl_ba, tl_ba] at this; exact this
                  have zx : (ba x.1).size = x.1.length := ba_size x.1
                  have hms : movesB a x.1 = (decide (x.1 = a) || withinB x.1 a) := rfl
                  have HML := hid (fun h => moves_le (p := x.1) HA.out h)
                  clear hat hat1 hmx hx
                  go_upto_region 22 with fail
                  go_cut [106] from 82 to 122 (fun t w' => t = .bool (movesB a x.1) ∧ Hid (Below wr.heap.size wr w'))
                  case first =>
                    by_cases hxa : x.1 = a
                    · have q : ((ba x.1).toList == (ba a).toList) = true := by rw [eqS, decide_eq_true hxa]
                      have HMT : Hid (movesB a x.1 = true) := by show _ = _; rw [hms, decide_eq_true hxa]; rfl
                      clear hms hxa hjl
                      go_wp2_with fail
                      go_meet
                      exact ⟨by rw [HMT.out], Below.refl _ _⟩
                    · have q : ((ba x.1).toList == (ba a).toList) = false := by rw [eqS, decide_eq_false hxa]
                      have HMT : Hid (movesB a x.1 = withinB x.1 a) := by show _ = _; rw [hms, decide_eq_false hxa]; rfl
                      clear hms hxa hjl
                      go_wp2_with fail
                      refine (CWI.out _ K2.out).mono ?_; rintro e7 w7 ⟨rfl, hb7⟩
                      go_wp2_with fail
                      go_meet
                      exact ⟨by rw [HMT.out], hb7⟩
                  case rest =>
                    obtain ⟨rfl, hb7⟩ := hcut
                    have K27 : Hid (Below w.heap.size w wc) := K2.out.trans (hb7.out.mono K2.out.size)
                    have K17 := hid (K1.out.on hb7.out)
                    clear hb7 hms c0 d0 hjl
                    cases hmv : movesB a x.1 with
                    | true =>
                      have HMT := hid hmv
                      clear hmv
                      obtain ⟨xp, xk, xd, xt, xm⟩ := x
                      simp only at HLN HFX hxl zx HML HMT
                      have hle : a.length ≤ xp.length := HML.out HMT.out
                      have hle' : (a.length : Int) ≤ (xp.length : Int) := by omega
                      have HNX : Hid (lay a b T1 (L.take (j + 1)) = ins (toP a b xp) ⟨xk, xd, xt, xm⟩ (lay a b T1 (L.take j))) := by show _ = _; rw [HLN.out, HMT.out]; rfl
                      have e1 : (ba xp).extract a.length xp.length = ba (xp.drop a.length) := ba_cut _ _
                      have e2 : ba b ++ ba (xp.drop a.length) = ba (toP a b xp) := ba_append _ _
                      have zb : (ba b).size ≤ 4000 := by rw [ba_size]; omega
                      have zy : (ba (xp.drop a.length)).size ≤ 4000 := by rw [ba_size, List.length_drop]; omega
                      have HTL : Hid ((toP a b xp).length ≤ 4000) := by have := (may_parts (HFX.out HMT.out)).1; show _ ≤ _; omega
                      have SD3 : Hid (RdT t (some ⟨g, 0, none⟩) n c g j (xp, ⟨xk, xd, xt, xm⟩) wc.drew) := SD0.out.on K27.out.drew
                      have BD := hid K27.out.drew
                      have CWT : Hid (Calls Tryz.prog 104 #[.pointer (some ⟨o9, 0, none⟩), kS (toP a b xp), .agg (ndA xk xd xt xm)] wc.drew fun e w' => NewT wc.drew (ins (toP a b xp) ⟨xk, xd, xt, xm⟩ (lay a b T1 (L.take j))) room e w') := rwith_any (K17.out.tree.on (Below.refl _ _).drew) _ _ _ _ _ HTL.out (by have h1 := lay_len a b (L.take j) T1; have h2 := HSL.out; have h3 := HLL.out; rw [List.length_take] at h1; omega) HSJ.out
                      clear hle
                      go_wp2
                      refine wp_region_noPanic ?_
                      refine wp_region_held_drew (S := RdT t (some ⟨g, 0, none⟩) n c g j (xp, ⟨xk, xd, xt, xm⟩)) (by kernel_rfl) (SD3.out) (fun hS => ?_)
                      generalize wc.drew = w3 at *
                      refine wpAnyH_take (i := 0) (v := ?_) (by simp only [List.getElem?_toArray, List.getElem?_cons_zero]; rfl) (by kernel_rfl) (by kernel_rfl) (by kernel_rfl) (fun _ _ _ h => h) (Or.inl ⟨by rfl, ?_⟩) (by assumption) ?_
                      rotate_left 1
                      · intro w hSw
                        go_simp
                        with_reducible rfl
                      simp only [Act.put, List.setIfInBounds_toArray, List.set_cons_zero, List.set_cons_succ]
                      refine wpAnyH_take (i := 1) (v := ?_) (by simp only [List.getElem?_toArray, List.getElem?_cons_zero, List.getElem?_cons_succ]; rfl) (by kernel_rfl) (by kernel_rfl) (by kernel_rfl) (fun _ _ _ h => h) (Or.inl ⟨by rfl, ?_⟩) (by assumption) ?_
                      rotate_left 1
                      · intro w hSw
                        go_simp
                        with_reducible rfl
                      simp only [Act.put, List.setIfInBounds_toArray, List.set_cons_zero, List.set_cons_succ]
                      refine wpAnyH_take (i := 2) (v := ?_) (by simp only [List.getElem?_toArray, List.getElem?_cons_zero, List.getElem?_cons_succ]; rfl) (by kernel_rfl) (by kernel_rfl) (by kernel_rfl) (fun _ _ _ h => h) (Or.inl ⟨by rfl, ?_⟩) (by assumption) ?_
                      rotate_left 1
                      · intro w hSw
                        go_simp
                        with_reducible rfl
                      simp only [Act.put, List.setIfInBounds_toArray, List.set_cons_zero, List.set_cons_succ]
                      refine wpAnyH_take (i := 3) (v := ?_) (by simp only [List.getElem?_toArray, List.getElem?_cons_zero, List.getElem?_cons_succ]; rfl) (by kernel_rfl) (by kernel_rfl) (by kernel_rfl) (fun _ _ _ h => h) (Or.inl ⟨by rfl, ?_⟩) (by assumption) ?_
                      rotate_left 1
                      · intro w hSw
                        go_simp
                        with_reducible rfl
                      simp only [Act.put, List.setIfInBounds_toArray, List.set_cons_zero, List.set_cons_succ]
                      refine wpAnyH_take (i := 4) (v := ?_) (by simp only [List.getElem?_toArray, List.getElem?_cons_zero, List.getElem?_cons_succ]; rfl) (by kernel_rfl) (by kernel_rfl) (by kernel_rfl) (fun _ _ _ h => h) (Or.inl ⟨by rfl, ?_⟩) (by assumption) ?_
                      rotate_left 1
                      · intro w hSw
                        go_simp
                        with_reducible rfl
                      simp only [Act.put, List.setIfInBounds_toArray, List.set_cons_zero, List.set_cons_succ]
                      refine wpAnyH_take (i := 5) (v := ?_) (by simp only [List.getElem?_toArray, List.getElem?_cons_zero, List.getElem?_cons_succ]; rfl) (by kernel_rfl) (by kernel_rfl) (by kernel_rfl) (fun _ _ _ h => h) (Or.inl ⟨by rfl, ?_⟩) (by assumption) ?_
                      rotate_left 1
                      · intro w hSw
                        go_simp
                        with_reducible rfl
                      simp only [Act.put, List.setIfInBounds_toArray, List.set_cons_zero, List.set_cons_succ]
                      refine wpAnyH_take (i := 6) (v := ?_) (by simp only [List.getElem?_toArray, List.getElem?_cons_zero, List.getElem?_cons_succ]; rfl) (by kernel_rfl) (by kernel_rfl) (by kernel_rfl) (fun _ _ _ h => h) (Or.inl ⟨by rfl, ?_⟩) (by assumption) ?_
                      rotate_left 1
                      · intro w hSw
                        have zs : ¬ (9223372036854775807 < (ba b).size + (ba (List.drop a.length xp)).size) := by omega
                        go_simp
                        with_reducible rfl
                      simp only [Act.put, List.setIfInBounds_toArray, List.set_cons_zero, List.set_cons_succ]
                      refine wpAnyH_take (i := 7) (v := ?_) (by simp only [List.getElem?_toArray, List.getElem?_cons_zero, List.getElem?_cons_succ]; rfl) (by kernel_rfl) (by kernel_rfl) (by kernel_rfl) (fun _ _ _ h => h) (Or.inl ⟨by rfl, ?_⟩) (by assumption) ?_
                      rotate_left 1
                      · intro w hSw
                        go_simp
                        with_reducible rfl
                      simp only [Act.put, List.setIfInBounds_toArray, List.set_cons_zero, List.set_cons_succ]
                      refine wpAnyH_take (i := 8) (v := ?_) (by simp only [List.getElem?_toArray, List.getElem?_cons_zero, List.getElem?_cons_succ]; rfl) (by kernel_rfl) (by kernel_rfl) (by kernel_rfl) (fun _ _ _ h => h) (Or.inl ⟨by rfl, ?_⟩) (by assumption) ?_
                      rotate_left 1
                      · intro w hSw
                        go_simp
                        with_reducible rfl
                      simp only [Act.put, List.setIfInBounds_toArray, List.set_cons_zero, List.set_cons_succ]
                      refine wpAnyH_take (i := 9) (v := ?_) (by simp only [List.getElem?_toArray, List.getElem?_cons_zero, List.getElem?_cons_succ]; rfl) (by kernel_rfl) (by kernel_rfl) (by kernel_rfl) (fun _ _ _ h => h) (Or.inl ⟨by rfl, ?_⟩) (by assumption) ?_
                      rotate_left 1
                      · intro w hSw
                        go_simp
                        with_reducible rfl
                      simp only [Act.put, List.setIfInBounds_toArray, List.set_cons_zero, List.set_cons_succ]
                      refine wpAnyH_take (i := 10) (v := ?_) (by simp only [List.getElem?_toArray, List.getElem?_cons_zero, List.getElem?_cons_succ]; rfl) (by kernel_rfl) (by kernel_rfl) (by kernel_rfl) (fun _ _ _ h => h) (Or.inl ⟨by rfl, ?_⟩) (by assumption) ?_
                      rotate_left 1
                      · intro w hSw
                        have hc := hSw.c0
                        go_simp
                        with_reducible rfl
                      simp only [Act.put, List.setIfInBounds_toArray, List.set_cons_zero, List.set_cons_succ]
                      refine wpAnyH_take (i := 11) (v := ?_) (by simp only [List.getElem?_toArray, List.getElem?_cons_zero, List.getElem?_cons_succ]; rfl) (by kernel_rfl) (by kernel_rfl) (by kernel_rfl) (fun _ _ _ h => h) (Or.inl ⟨by rfl, ?_⟩) (by assumption) ?_
                      rotate_left 1
                      · intro w hSw
                        go_simp
                        with_reducible rfl
                      simp only [Act.put, List.setIfInBounds_toArray, List.set_cons_zero, List.set_cons_succ]
                      refine wpAnyH_take (i := 12) (v := ?_) (by simp only [List.getElem?_toArray, List.getElem?_cons_zero, List.getElem?_cons_succ]; rfl) (by kernel_rfl) (by kernel_rfl) (by kernel_rfl) (fun _ _ _ h => h) (Or.inl ⟨by rfl, ?_⟩) (by assumption) ?_
                      rotate_left 1
                      · intro w hSw
                        go_simp
                        with_reducible rfl
                      simp only [Act.put, List.setIfInBounds_toArray, List.set_cons_zero, List.set_cons_succ]
                      refine wpAnyH_take (i := 13) (v := ?_) (by simp only [List.getElem?_toArray, List.getElem?_cons_zero, List.getElem?_cons_succ]; rfl) (by kernel_rfl) (by kernel_rfl) (by kernel_rfl) (fun _ _ _ h => h) (Or.inl ⟨by rfl, ?_⟩) (by assumption) ?_
                      rotate_left 1
                      · intro w hSw
                        go_simp
                        with_reducible rfl
                      simp only [Act.put, List.setIfInBounds_toArray, List.set_cons_zero, List.set_cons_succ]
                      refine' wpAnyH_take (i := 14) (v := _) (by simp only [List.getElem?_toArray, List.getElem?_cons_zero, List.getElem?_cons_succ]; rfl) (by kernel_rfl) (by kernel_rfl) (by kernel_rfl) (fun _ _ _ h => h) (yields_loadA (by rfl) 64 (.tmp 120) rfl g (j * 5 + 1) rfl (ndA xk xd xt xm) (fun w hSw => hSw.at_.node)) (by assumption) ?_
                      simp only [Act.put, List.setIfInBounds_toArray, List.set_cons_zero, List.set_cons_succ]
                      refine wpAnyH_ready (rs := [15]) (by kernel_rfl) (by simp) ?_
                      refine AllReadyH.cons (by simp only [List.getElem?_toArray, List.getElem?_cons_zero, List.getElem?_cons_succ]; rfl) (fun K hK => ?_) AllReadyH.nil
                      go_simp
                      refine (CWT.out).mono ?_
                      rintro e9 w9 ⟨o8, rfl, ht9, hb9⟩
                      have T9 := hid (ht9.mono BD.out.size)
                      have B9 : Hid (Below w.heap.size w w9) := BD.out.trans (hb9.mono BD.out.size)
                      have hz1 := SD0.out.on (BD.out.trans (hb9.mono BD.out.size))
                      refine hK.out _ _ hz1 (fun hS => ?_)
                      clear hK K hS
                      refine wpAnyH_take (i := 16) (v := ?_) (by simp only [List.getElem?_toArray, List.getElem?_cons_zero, List.getElem?_cons_succ]; rfl) (by kernel_rfl) (by kernel_rfl) (by kernel_rfl) (fun _ _ _ h => h) (Or.inl ⟨by rfl, ?_⟩) (by assumption) ?_
                      rotate_left 1
                      · intro w hSw
                        go_simp
                        with_reducible rfl
                      simp only [Act.put, List.setIfInBounds_toArray, List.set_cons_zero, List.set_cons_succ]
                      refine wpAnyH_done (by kernel_rfl) ?_ _
                      refine NoPanic.normal ?_
                      go_wp2
                      go_roundw
                      case rel => exact ⟨j + 1, o8, rfl, by go_num, by omega, by show TreeF _ _ _ _ _; rw [HNX.out]; exact T9.out, B9.out⟩
                      case measure => simp [intOf]; omega
                    | false =>
                      have HMT := hid hmv
                      clear hmv
                      have HNX : Hid (lay a b T1 (L.take (j + 1)) = lay a b T1 (L.take j)) := by show _ = _; rw [HLN.out, HMT.out]; rfl
                      go_wp2
                      go_roundw
                      case rel => exact ⟨j + 1, o9, rfl, by go_num, by omega, by show TreeF _ _ _ _ _; rw [HNX.out]; exact K17.out, K27.out⟩
                      case measure => simp [intOf]; omega
                · have HKN2 : Hid (L.take j = L) := by show _ = _; rw [List.take_of_length_le (by rw [HL.out]; omega)]
                  go_wp2
                  go_ret2
                  refine .inl ⟨HR0.out.1, o9, rfl, ?_, K2.out⟩
                  have := K1.out
                  rw [HKN2.out, ← HT1.out] at this
                  rw [HR0.out.2]; exact this
    · have HE : Hid (r.1 = hh) := by show _ = _; rw [HRE.out, if_neg hh0]
      have q0 : (hh != 0) = true := by simpa using hh0
      have q0' : (hh == 0) = false := by simpa using hh0
      have HH0 := hid hh0
      clear hh0
      go_wp2
      go_ret2
      exact NextP.bad HE.out HH0.out B2.out
end Go.Proofs.YtlbeemlnbpchgaaGreat
/- The document's trees: next, rename. Conditions: as at write. -/
namespace Go.Proofs.YtlbeemlnbpchgaaGreat
open Go.RowKit Go.Maps
set_option maxRecDepth 100000 in
set_option maxHeartbeats 32000000 in
theorem rnext_rename {w : World} {u : Nat} {L : Tr} {room : Nat} (h : TreeR w u L room) (hW : WFT room L) (hT : TG L) (hr : room ≤ 1048576) (p q d : By) (tm m : Int) (pk : Bool) (hm : 0 ≤ m) (hd : d.length ≤ 100000000) (hmy : mayB p = true) (hmq : mayB q = true) (hne : q ≠ p) (hout : withinB q p = false) :
    Calls Tryz.prog 58 #[.pointer (some ⟨u, 0, none⟩), .agg (efC 5 p q d tm m pk)] w fun e w' => NextP w room (nextE room L (cutR (.rename p q) m pk)) e w' := by
  rw [show cutR (.rename p q) m pk = .rename p q by unfold cutR; cases pk <;> rfl]
  have hL : L.length ≤ 16384 := by have h1 := used_len (L := L); have := hW.used; omega
  have hU := hW.used
  obtain ⟨D, HD⟩ : ∃ D, Hid (cutD d m pk = D) := ⟨_, rfl⟩
  have hDl : D.length ≤ 100000000 := by rw [← HD.out]; have := cutD_len d m pk; omega
  obtain ⟨kk, HKK⟩ : ∃ c, Hid (kindP L p = c) := ⟨_, rfl⟩
  obtain ⟨hh, HH⟩ : ∃ c, Hid (homeE L p = c) := ⟨_, rfl⟩
  obtain ⟨r, HRR⟩ : ∃ r, Hid (nextE room L (.rename p q) = r) := ⟨_, rfl⟩
  rw [HRR.out]
  have hbx : Below w.heap.size w (w.alloc (.cells (efC 5 p q d tm m pk) 83)) := (Below.refl _ _).alloc (Nat.le_refl _) _
  obtain ⟨b, HB⟩ : ∃ b, Hid (w.heap.size = b) := ⟨_, rfl⟩
  have XB : Hid (Has (w.alloc (.cells (efC 5 p q d tm m pk) 83)) b 83 #[.int .i64 5, kS p, kS q, kS d, .int .i64 tm, .int .i64 m, .bool pk]) := by rw [← HB.out]; exact Has.fresh _ _ _
  have B0 := hid hbx
  obtain ⟨w1, HW1⟩ : ∃ w1, Hid (w.alloc (.cells (efC 5 p q d tm m pk) 83) = w1) := ⟨_, rfl⟩
  rw [HW1.out] at B0 XB
  have hw1 := HW1.out
  have HS1 : Hid (w1.heap.size = b + 1) := by show _ = _; rw [← HW1.out, ← HB.out]; simp
  have T1 := hid (h.on B0.out)
  have CK : Hid (Calls Tryz.prog 98 #[.pointer (some ⟨u, 0, none⟩), kS p] w1 fun e w' => e = .returned (.int .i64 kk) ∧ w1 = w') := by rw [← HKK.out]; exact rKind_any T1.out p (by omega)
  have HWF := hid hW
  have HTG := hid hT
  have HR := hid hr
  have HLL := hid hL
  have HUU := hid hU
  obtain ⟨cc, HCC⟩ : ∃ cc, Hid ((pk && decide (m < (d.length : Int))) = cc) := ⟨_, rfl⟩
  have hcy : Hid (cc = true → D = d.take m.toNat ∧ m ≤ (d.length : Int)) := fun e => by
    rw [← HD.out, cutD_yes (by rw [HCC.out]; exact e)]
    refine ⟨rfl, ?_⟩
    have h1 := HCC.out
    rw [e, Bool.and_eq_true, decide_eq_true_eq] at h1
    omega
  have hcn : Hid (cc = false → D = d) := fun e => by rw [← HD.out, cutD_no (by rw [HCC.out]; exact e)]
  have x0 := XB.out.at_ 0
  have x1 := XB.out.at_ 1
  have x2 := XB.out.at_ 2
  have x3 := XB.out.at_ 3
  have x4 := XB.out.at_ 4
  have x5 := XB.out.at_ 5
  have x6 := XB.out.at_ 6
  have zd : (ba d).size = d.length := ba_size d
  have HDL := hid hDl
  have CM : Hid (Calls Tryz.prog 101 #[.pointer (some ⟨u, 0, none⟩), kS p, kS q] w1 fun e w' => NextP w1 room r e w') := by rw [← HRR.out]; exact rmoved_any T1.out HWF.out hr p q hmy hmq hne hout
  clear h hW hT hr hbx hL hU hDl hd
  go_enter Tryz.func58, Tryz.ntmps58
  have hbs := HB.out
  go_wp2_with fail
  refine CK.out.mono ?_; rintro e1 w1' ⟨rfl, rfl⟩
  clear hw1 hbs
  go_upto_region 3 with fail
  go_cut [27] (fun t w' => t = .bool cc ∧ w1 = w')
  case first =>
    cases pk with
    | false =>
      have hc : cc = false := by rw [← HCC.out]; rfl
      clear hcy hcn
      go_wp2_with fail
      go_meet
      exact ⟨by rw [hc], rfl⟩
    | true =>
      have hc : decide (m < (d.length : Int)) = cc := by rw [← HCC.out]; rfl
      clear hcy hcn
      go_wp2_with fail
      go_meet
      exact ⟨rfl, rfl⟩
  case rest =>
    obtain ⟨rfl, rfl⟩ := hcut
    go_upto_if 27 with fail
    go_cut [7] (fun t w' => t = kS D ∧ w1 = w')
    case first =>
      cases cc with
      | false =>
        have hc := hcn.out rfl
        clear hcy hcn
        go_wp2_with fail
        go_meet
        exact ⟨by rw [hc], rfl⟩
      | true =>
        obtain ⟨hc, hml⟩ := hcy.out rfl
        have e1 : (ba d).extract 0 m.toNat = ba D := by rw [hc]; exact ba_cut0 d _
        clear hcy hcn hc
        go_wp2_with fail
        go_meet
        exact ⟨rfl, rfl⟩
    case rest =>
      obtain ⟨rfl, rfl⟩ := hcut
      clear hcy hcn
      go_wp2_with fail
      refine CM.out.mono ?_; rintro e2 w2 hp
      rcases hp with ⟨h0, o2, rfl, ht2, hb2⟩ | ⟨h0, rfl, hb2⟩
      · have H0 := hid h0
        have T2 := hid (ht2.mono B0.out.size)
        have B2 : Hid (Below w.heap.size w w2) := B0.out.trans (hb2.mono B0.out.size)
        clear h0 ht2 hb2
        go_wp2
        go_ret2
        exact .inl ⟨H0.out, o2, rfl, T2.out, B2.out⟩
      · have H0 := hid h0
        have B2 : Hid (Below w.heap.size w w2) := B0.out.trans (hb2.mono B0.out.size)
        clear h0 hb2
        go_wp2
        go_ret2
        exact .inr ⟨H0.out, rfl, B2.out⟩
end Go.Proofs.YtlbeemlnbpchgaaGreat
