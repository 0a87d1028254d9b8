/- Several texts in one: YP, TU. Conditions: those said at each. -/
import Derived.Test.YtlbeemlnbpchgaaGreatQZC
import Derived.Test.YtlbeemlnbpchgaaGreatQS
/- The document's disk: Crash: as the plain model says. Conditions: as at the disk; picks that lie in memory. -/
namespace Go.Proofs.YtlbeemlnbpchgaaGreat
open Go.RowKit Go.Maps
set_option maxRecDepth 100000 in
theorem ERow.load {B : Nat} {w : World} {v : Value} {es : List Rw} (h : ERow B w v es) (k : Nat) (hk : k < es.length) : ∃ g c, v = .slice (some ⟨g, 0, none⟩) es.length c ∧ (loadVar 83 ⟨g, k * 7, none⟩).run Tryz.prog w = .ok (.agg (rwC (es.getD k rw0))) w := by
  rcases h.2 with ⟨_, h3⟩ | ⟨g, c, cur, h3, hB, h4, h5⟩
  · omega
  · refine ⟨g, c, h3, ?_⟩
    subst h3
    have hc : ∀ j, j < 7 → ∀ u, (rwC (es.getD k rw0)).toList[j]? = some u → w.cell? ⟨g, k * 7 + j, none⟩ = some u := fun j hj u hu => by
      have := World.ownsRow.cells (g := g) h rfl (k * 7 + j) u (by rw [ecells_at es k hk j hj]; exact hu)
      rwa [add_at, Nat.zero_add] at this
    refine run_loadVar_mid (P := Tryz.prog) w g (k * 7) 83 (rwC (es.getD k rw0)).toList _ (fun j u hj => ?_) Tryz.underlying83 rfl (by show _ = some 7; kernel_rfl)
    match j, hj with
    | 0, hj => exact hc 0 (by omega) u hj
    | 1, hj => exact hc 1 (by omega) u hj
    | 2, hj => exact hc 2 (by omega) u hj
    | 3, hj => exact hc 3 (by omega) u hj
    | 4, hj => exact hc 4 (by omega) u hj
    | 5, hj => exact hc 5 (by omega) u hj
    | 6, hj => exact hc 6 (by omega) u hj
    | j + 7, hj => simp [rwC, efC] at hj
/-- A tree whose blocks are the disk's, or new. -/
structure CrR (own : Nat → Prop) (w wr : World) (u : Nat) (L : Tr) (room : Nat) : Prop where
  ex : ∃ nb : Nat → Prop, TreeO (fun g => own g ∨ nb g) wr u L room ∧ ∀ g, nb g → w.heap.size ≤ g ∧ g < wr.heap.size ∧ Loose wr g
theorem CrR.on {own : Nat → Prop} {w wr w' : World} {u : Nat} {L : Tr} {room : Nat} (h : CrR own w wr u L room) (hl : ∀ g, own g → g < wr.heap.size) (hb : Below wr.heap.size wr w') : CrR own w w' u L room := by
  obtain ⟨nb, h1, h2⟩ := h.ex
  refine ⟨nb, h1.kept (fun g hg => hb.block g (by rcases hg with k | k; exact hl g k; exact (h2 g k).2.1)), fun g hg => ⟨(h2 g hg).1, Nat.lt_of_lt_of_le (h2 g hg).2.1 hb.size, fun cs t q ho => (h2 g hg).2.2 cs t q ((hb.block g (h2 g hg).2.1).symm.trans ho)⟩⟩
theorem CrR.new {own : Nat → Prop} {w w' : World} {B u : Nat} {L : Tr} {room : Nat} (h : TreeF B w' u L room) (hB : w.heap.size ≤ B) : CrR own w w' u L room := by
  obtain ⟨nb, k1, k2, k3, k4⟩ := h.blocks
  exact ⟨nb, k1.mono (fun g hg => .inr hg), fun g hg => ⟨Nat.le_trans hB (k2 g hg), k3 g hg, k4 g hg⟩⟩
theorem CrR.tree {own : Nat → Prop} {w wr : World} {u : Nat} {L : Tr} {room : Nat} (h : CrR own w wr u L room) : TreeR wr u L room := by
  obtain ⟨nb, h1, _⟩ := h.ex
  exact h1.tree
theorem since_at {es : List Rw} {xs : List Eff} (h : es.map rwE = xs) {k : Nat} (hk : k < xs.length) : rwE (es.getD k rw0) = xs[k] := by
  subst h
  rw [List.length_map] at hk
  rw [List.getElem_map, List.getD, List.getElem?_eq_getElem hk]; rfl
theorem step_next {room : Nat} {L : Tr} {x : Eff} (h : argE x = 0) : stepE room L x = nextE room L x := by rw [step_split, if_pos h]
theorem next_err {room : Nat} {L : Tr} {x : Eff} (h : argE x = 0) (he : (nextE room L x).1 ≠ 0) : (nextE room L x).2 = L := by
  rw [← step_next h] at he ⊢; exact step_err x he
theorem Pk.belowP {w w' : World} {A : Option Addr} {ks : List UInt8} {g off : Nat} (h : Pk w A ks g off) (hb : Below w.heap.size w w') : Pk w' A ks g off := h.turn (own := fun _ => False) (Turn.of_below hb) (fun _ k => k)
set_option maxRecDepth 100000 in
set_option maxHeartbeats 16000000 in
theorem rCrash_any {own : Nat → Prop} {w : World} {r : Nat} {M : Mo} (h : RDk own w r M) (A : Option Addr) (ks : List UInt8) (cp g off : Nat) (hk : Pk w A ks g off) (hkl : ks.length ≤ 9223372036854775807) :
    Calls Tryz.prog 19 #[.pointer (some ⟨r, 0, none⟩), .slice A ks.length cp] w fun e w' => e = .returned (.tuple #[]) ∧ RPost own w r (crashM M (nats ks)) w' := by
  obtain ⟨tl, ts, sv, es, fused, left, h⟩ := h
  have H := hid h
  have c1 : w.cell? ⟨r, 1, none⟩ = some (.pointer (some ⟨ts, 0, none⟩)) := h.has.at_ 1
  obtain ⟨nk, HNK⟩ : ∃ n, Hid (ks.length = n) := ⟨_, rfl⟩
  obtain ⟨nv, HNV⟩ : ∃ n, Hid (es.length = n) := ⟨_, rfl⟩
  have HSL : Hid (M.since.length = nv) := by show _ = _; rw [← h.effs, List.length_map]; exact HNV.out
  have hnv : nv ≤ 100000 := by have := h.len; have := HSL.out; omega
  have hnk : (nk : Int) ≤ 9223372036854775807 := by have := HNK.out; omega
  obtain ⟨A6, c6', hsv⟩ := h.row.form
  rw [HNV.out] at hsv
  have HSV := hid hsv
  rw [HNK.out]
  have HK := hid hk
  have C0 : Hid (CrR own w w ts M.last M.room) := ⟨fun _ => False, h.t2.mono (fun g hg => .inl hg), fun g hg => hg.elim⟩
  have HKL := hid hkl
  clear h hk hsv hkl
  go_enter Tryz.func19, Tryz.ntmps19
  go_wp2
  clear c1
  go_loopw [4, 5] (fun v4 v5 wr => ∃ k u : Nat, v4 = .pointer (some ⟨u, 0, none⟩) ∧ v5 = .int .i64 (k : Int) ∧ k ≤ nv ∧ k ≤ nk ∧ Hid (CrR own w wr u (crashL M.room M.last (M.since.take k) ((nats ks).take k)) M.room) ∧ Hid (Below w.heap.size w wr)) (fun _ v5 _ => nv - (intOf v5).toNat)
  case atStart => exact ⟨0, ts, rfl, rfl, by omega, by omega, C0, Below.refl _ _⟩
  case round =>
    obtain ⟨k, u, rfl, rfl, hk, hkk, J1, J2⟩ := hrel
    have HIr : Hid (RDkI own wr r tl ts sv es fused left M) := H.out.kept J2.out.size (fun g hg => J2.out.block g (H.out.low g hg))
    have c2 : wr.cell? ⟨r, 2, none⟩ = some sv := HIr.out.has.at_ 2
    rw [HSV.out] at c2
    by_cases hlt : k < nv
    · by_cases hlk : k < nk
      · obtain ⟨gg, cc, hse, hld⟩ := HIr.out.row.load k (by have := HNV.out; omega)
        rw [HSV.out, HNV.out] at hse
        injection hse with hA _ hc
        subst hA hc
        have hks : k < ks.length := by have := HNK.out; omega
        have hP := HK.out.belowP J2.out
        have hA := hP.src (by omega)
        subst hA
        have hcp := hP.at_ k hks
        have hsi : k < M.since.length := by have := HSL.out; omega
        have HNX := hid (crash_next M.room M.last M.since ks k hsi hks)
        have HXE := hid (since_at H.out.effs hsi)
        have HAX := hid (H.out.good.args _ (List.getElem_mem hsi))
        have HEO := hid (H.out.ok _ (show es.getD k rw0 ∈ es by rw [List.getD, List.getElem?_eq_getElem (show k < es.length by have := HNV.out; omega)]; exact List.getElem_mem _))
        obtain ⟨x, hx9⟩ : ∃ x, x = M.since[k] := ⟨_, rfl⟩
        rw [← hx9] at HNX HXE HAX
        obtain ⟨e, he9⟩ : ∃ e, e = es.getD k rw0 := ⟨_, rfl⟩
        rw [← he9] at HXE HEO hld
        obtain ⟨c, HCC⟩ : ∃ c, Hid (ks.getD k 0 = c) := ⟨_, rfl⟩
        rw [HCC.out] at hcp HNX
        have HWL := hid (crash_wft (M.since.take k) ((nats ks).take k) H.out.good.good.w2)
        have HTL := hid (TG.crash (room := M.room) (M.since.take k) ((nats ks).take k) H.out.good.t2)
        obtain ⟨L, HLL⟩ : ∃ L, Hid (crashL M.room M.last (M.since.take k) ((nats ks).take k) = L) := ⟨_, rfl⟩
        rw [HLL.out] at J1 HNX HWL HTL
        have CN : Hid (∀ W m pk, 0 ≤ m → Below wr.heap.size wr W → Calls Tryz.prog 58 #[.pointer (some ⟨u, 0, none⟩), .agg (efC e.dO e.p e.q e.d e.tm m pk)] W fun en w' => NextP W M.room (nextE M.room L (cutR x m pk)) en w') := fun W m pk hm hb => by
          have := rnext_any (J1.out.tree.on hb) HWL.out HTL.out H.out.r1 e HEO.out (by rw [HXE.out]; exact HAX.out) m pk hm
          rw [HXE.out] at this; exact this
        have b0 := b8_nonneg c
        have b1 := b8_lt c
        have HBN : Hid (b8 c = (c.toNat : Int)) := rfl
        obtain ⟨dO, p, q, d, tm⟩ := e
        have HLD : Hid ((loadVar 83 ⟨gg, k * 7, none⟩).run Tryz.prog wr = .ok (.agg #[.int .i64 dO, kS p, kS q, kS d, .int .i64 tm, .int .i64 0, .bool false]) wr) := hld
        simp only at CN
        obtain ⟨b, HB⟩ : ∃ b, Hid (wr.heap.size = b) := ⟨_, rfl⟩
        obtain ⟨w2, HW2⟩ : ∃ w2, Hid (wr.alloc (.cells #[.int .i64 dO, kS p, kS q, kS d, .int .i64 tm, .int .i64 0, .bool false] 83) = w2) := ⟨_, rfl⟩
        have B2 : Hid (Below wr.heap.size wr w2) := by rw [← HW2.out]; exact (Below.refl _ _).alloc (Nat.le_refl _) _
        have X2 : Hid (Has w2 b 83 (efC dO p q d tm 0 false)) := by rw [← HW2.out, ← HB.out]; exact Has.fresh _ _ _
        have hcp2 := (hP.belowP B2.out).at_ k hks
        rw [HCC.out] at hcp2
        have HKS := hid hks
        have HPP := hid hP
        have hbs := HB.out
        have hlt' : (k : Int) < (nv : Int) := by omega
        have hlk' : (k : Int) < (nk : Int) := by omega
        have h0 : (0 : Int) ≤ (k : Int) := by omega
        have w1 : IntKind.i64.wrap ((k : Int) + 1) = (k : Int) + 1 := i64in _ (by omega) (by omega)
        have HLOW : Hid (∀ g, own g → g < wr.heap.size) := HIr.out.low
        clear hld hcp hsi hks hx9 he9 hP
        by_cases z0 : b8 c = 0
        · have q0 : (b8 c == 0) = true := by simpa using z0
          have HZ : Hid (pickE M.room L x c.toNat = L) := by show _ = _; unfold pickE; rw [if_pos (by have := HBN.out; omega)]
          have J12 := hid (J1.out.on HLOW.out B2.out)
          have J22 : Hid (Below w.heap.size w w2) := J2.out.trans (B2.out.mono J2.out.size)
          clear z0
          go_upto_region 5 with (refine wpList_load_g (by rfl) 83 (.tmp 33) rfl gg (k * 7) rfl #[.int .i64 dO, kS p, kS q, kS d, .int .i64 tm, .int .i64 0, .bool false] HLD.out ?_)
          rw [HW2.out]
          go_wp2
          go_roundw
          case rel => exact ⟨k + 1, u, rfl, by go_num, by omega, by omega, by show CrR _ _ _ _ _ _; rw [HNX.out, HZ.out]; exact J12.out, J22.out⟩
          case measure => simp [intOf]; omega
        · have q0 : (b8 c == 0) = false := by simpa using z0
          by_cases z1 : b8 c = 1
          · have q1 : ¬ (1 : Int) < b8 c := by omega
            have HZ : Hid (pickE M.room L x c.toNat = (nextE M.room L x).2) := by show _ = _; unfold pickE; rw [if_neg (by have := HBN.out; omega), if_pos (by have := HBN.out; omega), step_next HAX.out]
            have CK : Hid (Calls Tryz.prog 58 #[.pointer (some ⟨u, 0, none⟩), .agg #[.int .i64 dO, kS p, kS q, kS d, .int .i64 tm, .int .i64 0, .bool false]] w2 fun en w' => NextP w2 M.room (nextE M.room L x) en w') := CN.out w2 0 false (Int.le_refl 0) B2.out
            obtain ⟨rr, HRR⟩ : ∃ rr, Hid (nextE M.room L x = rr) := ⟨_, rfl⟩
            have HER : Hid (rr.1 ≠ 0 → rr.2 = L) := by rw [← HRR.out]; exact next_err HAX.out
            rw [HRR.out] at CK HZ
            clear z0 z1
            go_upto_region 5 with (refine wpList_load_g (by rfl) 83 (.tmp 33) rfl gg (k * 7) rfl #[.int .i64 dO, kS p, kS q, kS d, .int .i64 tm, .int .i64 0, .bool false] HLD.out ?_)
            rw [HW2.out]
            go_wp2_with (first
              | (refine wpList_load_g (by rfl) 83 (.tmp 6) rfl b 0 rfl #[.int .i64 dO, kS p, kS q, kS d, .int .i64 tm, .int .i64 0, .bool false] (load_ef X2.out) ?_))
            refine CK.out.mono ?_; rintro e5 w5 hp5
            obtain ⟨v5, rfl, hb5, ht5⟩ := hp5.both
            have B5 : Hid (Below wr.heap.size wr w5) := B2.out.trans (hb5.mono B2.out.size)
            have J25 : Hid (Below w.heap.size w w5) := J2.out.trans (B5.out.mono J2.out.size)
            have HNW : Hid (w.heap.size ≤ w2.heap.size) := Nat.le_trans J2.out.size B2.out.size
            have HT5 := hid ht5
            clear hb5 ht5
            by_cases g0 : rr.1 = 0
            · have q5 : (rr.1 == 0) = true := by simpa using g0
              obtain ⟨o5, rfl, ht⟩ := HT5.out g0
              have J15 : Hid (CrR own w w5 o5 rr.2 M.room) := CrR.new ht HNW.out
              clear g0 ht
              go_wp2
              go_roundw
              case rel => exact ⟨k + 1, o5, rfl, by go_num, by omega, by omega, by show CrR _ _ _ _ _ _; rw [HNX.out, HZ.out]; exact J15.out, J25.out⟩
              case measure => simp [intOf]; omega
            · have q5 : (rr.1 == 0) = false := by simpa using g0
              have J15 : Hid (CrR own w w5 u rr.2 M.room) := by rw [HER.out g0]; exact J1.out.on HLOW.out B5.out
              clear g0
              go_wp2
              go_roundw
              case rel => exact ⟨k + 1, u, rfl, by go_num, by omega, by omega, by show CrR _ _ _ _ _ _; rw [HNX.out, HZ.out]; exact J15.out, J25.out⟩
              case measure => simp [intOf]; omega
          · have q1 : (1 : Int) < b8 c := by omega
            have HZ : Hid (pickE M.room L x c.toNat = (nextE M.room L (cutE x (c.toNat - 2))).2) := by show _ = _; unfold pickE; rw [if_neg (by have := HBN.out; omega), if_neg (by have := HBN.out; omega), step_next (by rw [argE_cut]; exact HAX.out)]
            obtain ⟨w3, HW3⟩ : ∃ w3, Hid (w2.setCell ⟨b, 6, none⟩ (.bool true) = w3) := ⟨_, rfl⟩
            obtain ⟨w4, HW4⟩ : ∃ w4, Hid (w3.setCell ⟨b, 5, none⟩ (.int .i64 (b8 c - 2)) = w4) := ⟨_, rfl⟩
            have X3 : Hid (Has w3 b 83 (efC dO p q d tm 0 true)) := by rw [← HW3.out]; exact X2.out.put 6 _
            have X4 : Hid (Has w4 b 83 (efC dO p q d tm (b8 c - 2) true)) := by rw [← HW4.out]; exact X3.out.put 5 _
            have B3 : Hid (Below wr.heap.size wr w3) := by rw [← HW3.out]; exact B2.out.setCell (p := ⟨b, 6, none⟩) (by show _ ≤ b; rw [HB.out]; exact Nat.le_refl _) _
            have B4 : Hid (Below wr.heap.size wr w4) := by rw [← HW4.out]; exact B3.out.setCell (p := ⟨b, 5, none⟩) (by show _ ≤ b; rw [HB.out]; exact Nat.le_refl _) _
            have CK : Hid (Calls Tryz.prog 58 #[.pointer (some ⟨u, 0, none⟩), .agg #[.int .i64 dO, kS p, kS q, kS d, .int .i64 tm, .int .i64 (b8 c - 2), .bool true]] w4 fun en w' => NextP w4 M.room (nextE M.room L (cutE x (c.toNat - 2))) en w') := by
              have := CN.out w4 (b8 c - 2) true (by omega) B4.out
              rw [show cutR x (b8 c - 2) true = cutE x (c.toNat - 2) by unfold cutR; rw [if_pos rfl]; congr 1; have := HBN.out; omega] at this
              exact this
            obtain ⟨rr, HRR⟩ : ∃ rr, Hid (nextE M.room L (cutE x (c.toNat - 2)) = rr) := ⟨_, rfl⟩
            have HER : Hid (rr.1 ≠ 0 → rr.2 = L) := by rw [← HRR.out]; exact next_err (by rw [argE_cut]; exact HAX.out)
            rw [HRR.out] at CK HZ
            have hcp3 := (HPP.out.belowP B3.out).at_ k HKS.out
            rw [HCC.out] at hcp3
            have k6 := X2.out.at_ 6
            have f6 := X2.out.free 6
            have k5 := X3.out.at_ 5
            have f5 := X3.out.free 5
            have hw3 := HW3.out
            have hw4 := HW4.out
            have h2 : (2 : Int) ≤ b8 c := by omega
            clear z0 z1
            go_upto_region 5 with (refine wpList_load_g (by rfl) 83 (.tmp 33) rfl gg (k * 7) rfl #[.int .i64 dO, kS p, kS q, kS d, .int .i64 tm, .int .i64 0, .bool false] HLD.out ?_)
            rw [HW2.out]
            go_wp2_with (first
              | (refine wpList_load_g (by rfl) 83 (.tmp 6) rfl b 0 rfl #[.int .i64 dO, kS p, kS q, kS d, .int .i64 tm, .int .i64 (b8 c - 2), .bool true] (load_ef X4.out) ?_))
            refine CK.out.mono ?_; rintro e5 w5 hp5
            obtain ⟨v5, rfl, hb5, ht5⟩ := hp5.both
            have B5 : Hid (Below wr.heap.size wr w5) := B4.out.trans (hb5.mono B4.out.size)
            have J25 : Hid (Below w.heap.size w w5) := J2.out.trans (B5.out.mono J2.out.size)
            have HNW : Hid (w.heap.size ≤ w4.heap.size) := Nat.le_trans J2.out.size B4.out.size
            have HT5 := hid ht5
            clear hb5 ht5
            by_cases g0 : rr.1 = 0
            · have q5 : (rr.1 == 0) = true := by simpa using g0
              obtain ⟨o5, rfl, ht⟩ := HT5.out g0
              have J15 : Hid (CrR own w w5 o5 rr.2 M.room) := CrR.new ht HNW.out
              clear g0 ht
              go_wp2
              go_roundw
              case rel => exact ⟨k + 1, o5, rfl, by go_num, by omega, by omega, by show CrR _ _ _ _ _ _; rw [HNX.out, HZ.out]; exact J15.out, J25.out⟩
              case measure => simp [intOf]; omega
            · have q5 : (rr.1 == 0) = false := by simpa using g0
              have J15 : Hid (CrR own w w5 u rr.2 M.room) := by rw [HER.out g0]; exact J1.out.on HLOW.out B5.out
              clear g0
              go_wp2
              go_roundw
              case rel => exact ⟨k + 1, u, rfl, by go_num, by omega, by omega, by show CrR _ _ _ _ _ _; rw [HNX.out, HZ.out]; exact J15.out, J25.out⟩
              case measure => simp [intOf]; omega
      · have hlt' : (k : Int) < (nv : Int) := by omega
        have hlk' : ¬ (k : Int) < (nk : Int) := by omega
        have HSP : Hid (crashL M.room M.last (M.since.take k) ((nats ks).take k) = crashL M.room M.last M.since (nats ks)) := by
          show _ = _
          refine (crash_take M.room M.since (nats ks) M.last k (.inr ?_)).symm
          unfold nats; rw [List.length_map]; have := HNK.out; omega
        rw [HSP.out] at J1
        obtain ⟨L, HLL⟩ : ∃ L, Hid (crashL M.room M.last M.since (nats ks) = L) := ⟨_, rfl⟩
        rw [HLL.out] at J1
        have HM : Hid (crashM M (nats ks) = ⟨L, L, [], -1, M.room⟩) := by show _ = _; unfold crashM; rw [HLL.out]
        have HGD : Hid (GoodR ⟨L, L, [], -1, M.room⟩) := by have := H.out.good.crash (nats ks); rw [HM.out] at this; exact this
        have c0 : wr.cell? ⟨r, 0, none⟩ = some (.pointer (some ⟨tl, 0, none⟩)) := HIr.out.has.at_ 0
        have f0 := HIr.out.has.free 0
        obtain ⟨y1, HY1⟩ : ∃ y, Hid (wr.setCell ⟨r, 0, none⟩ (.pointer (some ⟨u, 0, none⟩)) = y) := ⟨_, rfl⟩
        have P1 : Hid (Has y1 r 79 (rcells u ts sv fused left)) := by rw [← HY1.out]; exact HIr.out.has.put 0 _
        have c1 := P1.out.at_ 1
        have f1 := P1.out.free 1
        obtain ⟨y2, HY2⟩ : ∃ y, Hid (y1.setCell ⟨r, 1, none⟩ (.pointer (some ⟨u, 0, none⟩)) = y) := ⟨_, rfl⟩
        have P2 : Hid (Has y2 r 79 (rcells u u sv fused left)) := by rw [← HY2.out]; exact P1.out.put 1 _
        have d2 := P2.out.at_ 2
        have f2 := P2.out.free 2
        obtain ⟨y3, HY3⟩ : ∃ y, Hid (y2.setCell ⟨r, 2, none⟩ (.slice none 0 0) = y) := ⟨_, rfl⟩
        have P3 : Hid (Has y3 r 79 (rcells u u (.slice none 0 0) fused left)) := by rw [← HY3.out]; exact P2.out.put 2 _
        have d3 := P3.out.at_ 3
        have f3 := P3.out.free 3
        obtain ⟨y4, HY4⟩ : ∃ y, Hid (y3.setCell ⟨r, 3, none⟩ (.bool false) = y) := ⟨_, rfl⟩
        have P4 : Hid (Has y4 r 79 (rcells u u (.slice none 0 0) false left)) := by rw [← HY4.out]; exact P3.out.put 3 _
        have U4 : Hid (Turn (One r) wr y4) := by
          rw [← HY4.out, ← HY3.out, ← HY2.out, ← HY1.out]
          exact (((Turn.set (own := One r) wr r 0 _ rfl).then (Turn.set _ r 1 _ rfl)).then (Turn.set _ r 2 _ rfl)).then (Turn.set _ r 3 _ rfl)
        have g1 := HY1.out
        have g2 := HY2.out
        have g3 := HY3.out
        have g4 := HY4.out
        go_wp2
        go_end0
        rw [HM.out]
        obtain ⟨nb, t1, t2⟩ := J1.out.ex
        have hI := (HIr.out.more (own' := fun g => own g ∨ nb g) (fun g hg => .inl hg) (by rintro g (e | e); exact HIr.out.low g e; exact (t2 g e).2.1) (by rintro g (e | e); exact HIr.out.loose g e; exact (t2 g e).2.2)).again (M' := ⟨L, L, [], -1, M.room⟩) U4.out P4.out t1 t1 (ERow.nil _ _) (fun b hb => by cases hb) rfl (fun e he => by cases he) (.inl ⟨rfl, rfl⟩) HGD.out rfl (by simp)
        exact ⟨rfl, _, ⟨_, _, _, _, _, _, hI⟩, (Turn.of_below J2.out).then (U4.out.mono (fun g k => by rw [k]; exact H.out.op)), by rintro g (e | e); exact .inl e; exact .inr (t2 g e).1⟩
    · have hlt' : ¬ (k : Int) < (nv : Int) := by omega
      have HSP : Hid (crashL M.room M.last (M.since.take k) ((nats ks).take k) = crashL M.room M.last M.since (nats ks)) := by
        show _ = _
        refine (crash_take M.room M.since (nats ks) M.last k (.inl ?_)).symm
        have := HSL.out; omega
      rw [HSP.out] at J1
      obtain ⟨L, HLL⟩ : ∃ L, Hid (crashL M.room M.last M.since (nats ks) = L) := ⟨_, rfl⟩
      rw [HLL.out] at J1
      have HM : Hid (crashM M (nats ks) = ⟨L, L, [], -1, M.room⟩) := by show _ = _; unfold crashM; rw [HLL.out]
      have HGD : Hid (GoodR ⟨L, L, [], -1, M.room⟩) := by have := H.out.good.crash (nats ks); rw [HM.out] at this; exact this
      have c0 : wr.cell? ⟨r, 0, none⟩ = some (.pointer (some ⟨tl, 0, none⟩)) := HIr.out.has.at_ 0
      have f0 := HIr.out.has.free 0
      obtain ⟨y1, HY1⟩ : ∃ y, Hid (wr.setCell ⟨r, 0, none⟩ (.pointer (some ⟨u, 0, none⟩)) = y) := ⟨_, rfl⟩
      have P1 : Hid (Has y1 r 79 (rcells u ts sv fused left)) := by rw [← HY1.out]; exact HIr.out.has.put 0 _
      have c1 := P1.out.at_ 1
      have f1 := P1.out.free 1
      obtain ⟨y2, HY2⟩ : ∃ y, Hid (y1.setCell ⟨r, 1, none⟩ (.pointer (some ⟨u, 0, none⟩)) = y) := ⟨_, rfl⟩
      have P2 : Hid (Has y2 r 79 (rcells u u sv fused left)) := by rw [← HY2.out]; exact P1.out.put 1 _
      have d2 := P2.out.at_ 2
      have f2 := P2.out.free 2
      obtain ⟨y3, HY3⟩ : ∃ y, Hid (y2.setCell ⟨r, 2, none⟩ (.slice none 0 0) = y) := ⟨_, rfl⟩
      have P3 : Hid (Has y3 r 79 (rcells u u (.slice none 0 0) fused left)) := by rw [← HY3.out]; exact P2.out.put 2 _
      have d3 := P3.out.at_ 3
      have f3 := P3.out.free 3
      obtain ⟨y4, HY4⟩ : ∃ y, Hid (y3.setCell ⟨r, 3, none⟩ (.bool false) = y) := ⟨_, rfl⟩
      have P4 : Hid (Has y4 r 79 (rcells u u (.slice none 0 0) false left)) := by rw [← HY4.out]; exact P3.out.put 3 _
      have U4 : Hid (Turn (One r) wr y4) := by
        rw [← HY4.out, ← HY3.out, ← HY2.out, ← HY1.out]
        exact (((Turn.set (own := One r) wr r 0 _ rfl).then (Turn.set _ r 1 _ rfl)).then (Turn.set _ r 2 _ rfl)).then (Turn.set _ r 3 _ rfl)
      have g1 := HY1.out
      have g2 := HY2.out
      have g3 := HY3.out
      have g4 := HY4.out
      go_wp2
      go_end0
      rw [HM.out]
      obtain ⟨nb, t1, t2⟩ := J1.out.ex
      have hI := (HIr.out.more (own' := fun g => own g ∨ nb g) (fun g hg => .inl hg) (by rintro g (e | e); exact HIr.out.low g e; exact (t2 g e).2.1) (by rintro g (e | e); exact HIr.out.loose g e; exact (t2 g e).2.2)).again (M' := ⟨L, L, [], -1, M.room⟩) U4.out P4.out t1 t1 (ERow.nil _ _) (fun b hb => by cases hb) rfl (fun e he => by cases he) (.inl ⟨rfl, rfl⟩) HGD.out rfl (by simp)
      exact ⟨rfl, _, ⟨_, _, _, _, _, _, hI⟩, (Turn.of_below J2.out).then (U4.out.mono (fun g k => by rw [k]; exact H.out.op)), by rintro g (e | e); exact .inl e; exact .inr (t2 g e).1⟩
end Go.Proofs.YtlbeemlnbpchgaaGreat
/- done: an act done to the document's disk. Conditions: as at do. -/
namespace Go.Proofs.YtlbeemlnbpchgaaGreat
open Go.RowKit Go.Maps
/-- What done answers: the act's answer, the document's disk as it is then. -/
def DnP (w0 : World) (q : Nat) (ds : List Th) (r : Int × Mo) (e : Ending) (w' : World) : Prop := e = .returned (.int .i64 r.1) ∧ Lv w0 w' (.r q (r.2) :: ds)
theorem postR_has {own : Nat → Prop} {w1 w2 : World} {q : Nat} {K : Mo} (hp : RPost own w1 q K w2) {b : Nat} {t : TypeId} {cs : Array Value} (hb : Has w1 b t cs) (hn : ¬ own b) : Has w2 b t cs := by
  obtain ⟨own', _, hu, _⟩ := hp
  exact (hu.block b hb.inside hn).trans hb
theorem eff_rw {x : ActT} (h0 : 1 ≤ doK x) (h1 : doK x ≤ 6) : effOf x = some (rwE ⟨doK x, x.p, x.q, dataL x, x.time⟩) := by
  rcases six h0 h1 with k | k | k | k | k | k
  · rw [eff_1 k, k]; rfl
  · rw [eff_2 k, k]; rfl
  · rw [eff_3 k, k]; rfl
  · rw [eff_4 k, k]; rfl
  · rw [eff_5 k, k]; rfl
  · rw [eff_6 k, k]; rfl
theorem eff_out {x : ActT} (h : ¬ (1 ≤ doK x ∧ doK x ≤ 6)) : effOf x = none := eff_no (by omega) (by omega) (by omega) (by omega) (by omega) (by omega)
set_option maxRecDepth 100000 in
set_option maxHeartbeats 8000000 in
theorem lDone {w0 w : World} {q0 : Nat} {M : Mo} {ds : List Th} (h : Lv w0 w (.r q0 M :: ds)) (hG : Gd w0) (x : ActT) (hx : ActOk x) (hsm : smallB x = true) (hpk : Pk w x.pA x.ks x.pg x.po) (hlen : M.since.length + 1 ≤ 100000) :
    Calls Tryz.prog 13 #[.pointer (some ⟨q0, 0, none⟩), .agg (actCells x)] w fun e w' => DnP w0 q0 ds (actM M x) e w' := by
  obtain ⟨hs1, hs2⟩ := small_of hsm
  have HDL := hid (dataL_len x)
  have HXE := hid (fun h0 h1 => act_eff M x _ (eff_rw (x := x) h0 h1))
  have HXE7 := hid (fun h => act_7 M (x := x) h)
  have HXE8 := hid (fun h => act_8 M (x := x) h)
  have HXE9 : Hid (¬ (1 ≤ doK x ∧ doK x ≤ 6) → doK x ≠ 7 → doK x ≠ 8 → actM M x = syncM M) := fun h1 h7 h8 => by unfold actM; rw [eff_out h1]; simp only; rw [if_neg h7, if_neg h8]
  obtain ⟨r, HR⟩ : ∃ r, Hid (actM M x = r) := ⟨_, rfl⟩
  rw [HR.out] at HXE HXE7 HXE8 HXE9 ⊢
  obtain ⟨D, HD⟩ : ∃ D, Hid (dataL x = D) := ⟨_, rfl⟩
  have CD : Hid (∀ W, Gd W → Calls Tryz.prog 44 #[.agg (actCells x)] W fun e w' => e = .returned (kS D) ∧ Below W.heap.size W w') := fun W hg => by rw [← HD.out]; exact data_any x hx W hg
  rw [HD.out] at HXE HDL
  obtain ⟨d, hd⟩ : ∃ d, doK x = d := ⟨_, rfl⟩
  rw [hd] at HXE HXE7 HXE8 HXE9
  obtain ⟨dO, p, q, text, long, time, pA, pc, ks, pg, po⟩ := x
  simp only at hs1 hs2 hpk HXE HXE7 HXE8
  replace hd : bits BinOp.and IntKind.i64 dO 15 = d := hd
  have HP : Hid (p.length ≤ 4000) := by show _ ≤ _; omega
  have HQ : Hid (q.length ≤ 4000) := by show _ ≤ _; omega
  have HL1 : Hid (long ≤ 9223372036854775807) := hx.l1
  have HKL : Hid (ks.length ≤ 9223372036854775807) := by show _ ≤ _; have h := hx.ks; simp only at h; unfold maxLen at h; omega
  have HLEN := hid hlen
  have B1 : Hid (Below w.heap.size w (w.alloc (.cells #[.int .i64 dO, kS p, kS q, kS text, .int .i64 long, .int .i64 time, .slice pA ks.length pc] 33))) := (Below.refl _ _).alloc (Nat.le_refl _) _
  have X1 : Hid (Has (w.alloc (.cells #[.int .i64 dO, kS p, kS q, kS text, .int .i64 long, .int .i64 time, .slice pA ks.length pc] 33)) w.heap.size 33 #[.int .i64 dO, kS p, kS q, kS text, .int .i64 long, .int .i64 time, .slice pA ks.length pc]) := Has.fresh _ _ _
  have HPK := hid (hpk.on B1.out)
  have HG := hid hG
  have HLV := hid h
  have HCD : Hid (∀ W, Gd W → Calls Tryz.prog 44 #[.agg #[.int .i64 dO, kS p, kS q, kS text, .int .i64 long, .int .i64 time, .slice pA ks.length pc]] W fun e w' => e = .returned (kS D) ∧ Below W.heap.size W w') := CD.out
  obtain ⟨own, h1, h3, h2⟩ := h.stepR
  have D0 := hid h1
  have H2 := hid h2
  have R1 := hid (h1.on B1.out)
  have NO : Hid (¬ own w.heap.size) := fun k => by have := h1.low _ k; omega
  have X1d : Hid (Has (w.alloc (.cells #[.int .i64 dO, kS p, kS q, kS text, .int .i64 long, .int .i64 time, .slice pA ks.length pc] 33)).drew w.heap.size 33 #[.int .i64 dO, kS p, kS q, kS text, .int .i64 long, .int .i64 time, .slice pA ks.length pc]) := X1.out
  have B1d := hid B1.out.drew
  have HGd := hid ((h.gd hG).kept B1d.out)
  have c0 : (w.alloc (.cells #[.int .i64 dO, kS p, kS q, kS text, .int .i64 long, .int .i64 time, .slice pA ks.length pc] 33)).cell? ⟨w.heap.size, 0, none⟩ = some (.int .i64 dO) := X1.out.at_ 0
  have c4 : (w.alloc (.cells #[.int .i64 dO, kS p, kS q, kS text, .int .i64 long, .int .i64 time, .slice pA ks.length pc] 33)).cell? ⟨w.heap.size, 4, none⟩ = some (.int .i64 long) := X1.out.at_ 4
  have c6 : (w.alloc (.cells #[.int .i64 dO, kS p, kS q, kS text, .int .i64 long, .int .i64 time, .slice pA ks.length pc] 33)).cell? ⟨w.heap.size, 6, none⟩ = some (.slice pA ks.length pc) := X1.out.at_ 6
  clear h hG hx hsm hpk hs1 hs2 hlen CD h1 h2 h3 HR HD
  show Calls Tryz.prog 13 #[.pointer (some ⟨q0, 0, none⟩), .agg #[.int .i64 dO, kS p, kS q, kS text, .int .i64 long, .int .i64 time, .slice pA ks.length pc]] w _
  by_cases n1 : 1 ≤ d
  · by_cases n6 : d ≤ 6
    · have HF := hid (HXE.out n1 n6)
      have HN1 := hid n1
      have HN6 := hid n6
      have RK : Hid (RwOk ⟨d, p, q, D, time⟩) := ⟨HN1.out, HN6.out, by show D.length ≤ _; have := HDL.out; omega⟩
      clear HXE HXE7 HXE8 HXE9 c4 c6
      go_enter Tryz.func13, Tryz.ntmps13
      go_wp2
      refine wp_region_noPanic ?_
      refine wp_region_held_drew (S := fun W => Has W w.heap.size 33 #[.int .i64 dO, kS p, kS q, kS text, .int .i64 long, .int .i64 time, .slice pA ks.length pc]) (by kernel_rfl) (X1d.out) (fun hS => ?_)
      refine wpAnyH_take (i := 0) (v := ?_) (by simp only [List.getElem?_toArray, List.getElem?_cons_zero]; rfl) (by kernel_rfl) (by kernel_rfl) (by kernel_rfl) (fun _ _ _ h => h) (Or.inl ⟨by rfl, ?_⟩) (by assumption) ?_
      rotate_left 1
      · intro w hSw
        have c1 := hSw.at_ 1
        have c2 := hSw.at_ 2
        have c5 := hSw.at_ 5
        go_simp
        with_reducible rfl
      simp only [Act.put, List.setIfInBounds_toArray, List.set_cons_zero, List.set_cons_succ]
      refine wpAnyH_take (i := 1) (v := ?_) (by simp only [List.getElem?_toArray, List.getElem?_cons_zero, List.getElem?_cons_succ]; rfl) (by kernel_rfl) (by kernel_rfl) (by kernel_rfl) (fun _ _ _ h => h) (Or.inl ⟨by rfl, ?_⟩) (by assumption) ?_
      rotate_left 1
      · intro w hSw
        have c1 := hSw.at_ 1
        have c2 := hSw.at_ 2
        have c5 := hSw.at_ 5
        go_simp
        with_reducible rfl
      simp only [Act.put, List.setIfInBounds_toArray, List.set_cons_zero, List.set_cons_succ]
      refine wpAnyH_take (i := 2) (v := ?_) (by simp only [List.getElem?_toArray, List.getElem?_cons_zero, List.getElem?_cons_succ]; rfl) (by kernel_rfl) (by kernel_rfl) (by kernel_rfl) (fun _ _ _ h => h) (Or.inl ⟨by rfl, ?_⟩) (by assumption) ?_
      rotate_left 1
      · intro w hSw
        have c1 := hSw.at_ 1
        have c2 := hSw.at_ 2
        have c5 := hSw.at_ 5
        go_simp
        with_reducible rfl
      simp only [Act.put, List.setIfInBounds_toArray, List.set_cons_zero, List.set_cons_succ]
      refine wpAnyH_take (i := 3) (v := ?_) (by simp only [List.getElem?_toArray, List.getElem?_cons_zero, List.getElem?_cons_succ]; rfl) (by kernel_rfl) (by kernel_rfl) (by kernel_rfl) (fun _ _ _ h => h) (Or.inl ⟨by rfl, ?_⟩) (by assumption) ?_
      rotate_left 1
      · intro w hSw
        have c1 := hSw.at_ 1
        have c2 := hSw.at_ 2
        have c5 := hSw.at_ 5
        go_simp
        with_reducible rfl
      simp only [Act.put, List.setIfInBounds_toArray, List.set_cons_zero, List.set_cons_succ]
      refine wpAnyH_take (i := 4) (v := ?_) (by simp only [List.getElem?_toArray, List.getElem?_cons_zero, List.getElem?_cons_succ]; rfl) (by kernel_rfl) (by kernel_rfl) (by kernel_rfl) (fun _ _ _ h => h) (Or.inl ⟨by rfl, ?_⟩) (by assumption) ?_
      rotate_left 1
      · intro w hSw
        have c1 := hSw.at_ 1
        have c2 := hSw.at_ 2
        have c5 := hSw.at_ 5
        go_simp
        with_reducible rfl
      simp only [Act.put, List.setIfInBounds_toArray, List.set_cons_zero, List.set_cons_succ]
      refine wpAnyH_take (i := 5) (v := ?_) (by simp only [List.getElem?_toArray, List.getElem?_cons_zero, List.getElem?_cons_succ]; rfl) (by kernel_rfl) (by kernel_rfl) (by kernel_rfl) (fun _ _ _ h => h) (Or.inl ⟨by rfl, ?_⟩) (by assumption) ?_
      rotate_left 1
      · intro w hSw
        have c1 := hSw.at_ 1
        have c2 := hSw.at_ 2
        have c5 := hSw.at_ 5
        go_simp
        with_reducible rfl
      simp only [Act.put, List.setIfInBounds_toArray, List.set_cons_zero, List.set_cons_succ]
      refine' wpAnyH_take (i := 6) (v := _) (by simp only [List.getElem?_toArray, List.getElem?_cons_zero, List.getElem?_cons_succ]; rfl) (by kernel_rfl) (by kernel_rfl) (by kernel_rfl) (fun _ _ _ h => h) (yields_loadA (by rfl) 33 (.tmp 3) rfl w.heap.size 0 rfl #[.int .i64 dO, kS p, kS q, kS text, .int .i64 long, .int .i64 time, .slice pA ks.length pc] (fun w hSw => load_act hSw rfl)) (by assumption) ?_
      simp only [Act.put, List.setIfInBounds_toArray, List.set_cons_zero, List.set_cons_succ]
      refine wpAnyH_take (i := 8) (v := ?_) (by simp only [List.getElem?_toArray, List.getElem?_cons_zero, List.getElem?_cons_succ]; rfl) (by kernel_rfl) (by kernel_rfl) (by kernel_rfl) (fun _ _ _ h => h) (Or.inl ⟨by rfl, ?_⟩) (by assumption) ?_
      rotate_left 1
      · intro w hSw
        have c1 := hSw.at_ 1
        have c2 := hSw.at_ 2
        have c5 := hSw.at_ 5
        go_simp
        with_reducible rfl
      simp only [Act.put, List.setIfInBounds_toArray, List.set_cons_zero, List.set_cons_succ]
      refine wpAnyH_take (i := 9) (v := ?_) (by simp only [List.getElem?_toArray, List.getElem?_cons_zero, List.getElem?_cons_succ]; rfl) (by kernel_rfl) (by kernel_rfl) (by kernel_rfl) (fun _ _ _ h => h) (Or.inl ⟨by rfl, ?_⟩) (by assumption) ?_
      rotate_left 1
      · intro w hSw
        have c1 := hSw.at_ 1
        have c2 := hSw.at_ 2
        have c5 := hSw.at_ 5
        go_simp
        with_reducible rfl
      simp only [Act.put, List.setIfInBounds_toArray, List.set_cons_zero, List.set_cons_succ]
      refine wpAnyH_ready (rs := [7]) (by kernel_rfl) (by simp) ?_
      refine AllReadyH.cons (by simp only [List.getElem?_toArray, List.getElem?_cons_zero, List.getElem?_cons_succ]; rfl) (fun K hK => ?_) AllReadyH.nil
      go_simp
      refine (HCD.out _ (HGd.out)).mono ?_
      rintro e1 w1 ⟨rfl, hb1⟩
      have HB1 := hid hb1
      have BD1 := hid (B1d.out.trans (hb1.mono B1d.out.size))
      clear hb1
      have hz1 := X1d.out.kept HB1.out X1d.out.inside
      refine hK.out _ _ hz1 (fun hS => ?_)
      clear hK K hS
      have HZ1 := hid hz1
      refine wpAnyH_take (i := 10) (v := ?_) (by simp only [List.getElem?_toArray, List.getElem?_cons_zero, List.getElem?_cons_succ]; rfl) (by kernel_rfl) (by kernel_rfl) (by kernel_rfl) (fun _ _ _ h => h) (Or.inl ⟨by rfl, ?_⟩) (by assumption) ?_
      rotate_left 1
      · intro w hSw
        have c1 := hSw.at_ 1
        have c2 := hSw.at_ 2
        have c5 := hSw.at_ 5
        go_simp
        with_reducible rfl
      simp only [Act.put, List.setIfInBounds_toArray, List.set_cons_zero, List.set_cons_succ]
      refine wpAnyH_ready (rs := [11]) (by kernel_rfl) (by simp) ?_
      refine AllReadyH.cons (by simp only [List.getElem?_toArray, List.getElem?_cons_zero, List.getElem?_cons_succ]; rfl) (fun K hK => ?_) AllReadyH.nil
      go_simp
      refine (rDo_any (D0.out.on BD1.out) ⟨d, p, q, D, time⟩ RK.out HP.out HQ.out HLEN.out).mono ?_
      rintro e2 w2 ⟨rfl, hl2⟩
      have P2 := hid (H2.out _ _ (RPost.ahead BD1.out hl2))
      have hz2 := postR_has hl2 HZ1.out NO.out
      refine hK.out _ _ hz2 (fun hS => ?_)
      clear hK K hS
      refine wpAnyH_take (i := 12) (v := ?_) (by simp only [List.getElem?_toArray, List.getElem?_cons_zero, List.getElem?_cons_succ]; rfl) (by kernel_rfl) (by kernel_rfl) (by kernel_rfl) (fun _ _ _ h => h) (Or.inl ⟨by rfl, ?_⟩) (by assumption) ?_
      rotate_left 1
      · intro w hSw
        have c1 := hSw.at_ 1
        have c2 := hSw.at_ 2
        have c5 := hSw.at_ 5
        go_simp
        with_reducible rfl
      simp only [Act.put, List.setIfInBounds_toArray, List.set_cons_zero, List.set_cons_succ]
      refine wpAnyH_done (by kernel_rfl) ?_ _
      refine NoPanic.normal ?_
      go_wp2
      go_ret
      rw [HF.out]
      exact ⟨rfl, P2.out⟩
    · have HF7 := hid (HXE7.out)
      have HF8 := hid (HXE8.out)
      have HF9 := hid (HXE9.out (fun k => n6 k.2))
      clear HXE HXE7 HXE8 HXE9
      have n1' : ¬ (d : Int) < 1 := by omega
      by_cases n7 : d = 7
      · have q7 : (d == 7) = true := by simpa using n7
        have HF := hid (HF7.out n7)
        clear HF7 HF8 HF9
        go_enter Tryz.func13, Tryz.ntmps13
        go_wp2_with fail
        refine (rCrash_any R1.out pA ks pc pg po HPK.out HKL.out).mono ?_; rintro e1 w1 ⟨rfl, hl1⟩
        have P2 := hid (H2.out _ _ (RPost.ahead B1.out hl1))
        clear hl1
        go_wp2
        go_ret
        rw [HF.out]
        exact ⟨rfl, P2.out⟩
      · have q7 : (d == 7) = false := by simpa using n7
        by_cases n8 : d = 8
        · have q8 : (d == 8) = true := by simpa using n8
          have HF := hid (HF8.out n8)
          clear HF7 HF8 HF9
          go_enter Tryz.func13, Tryz.ntmps13
          go_wp2_with fail
          refine (rFuse_any R1.out long HL1.out).mono ?_; rintro e1 w1 ⟨rfl, hl1⟩
          have P2 := hid (H2.out _ _ (RPost.ahead B1.out hl1))
          clear hl1
          go_wp2
          go_ret
          rw [HF.out]
          exact ⟨rfl, P2.out⟩
        · have q8 : (d == 8) = false := by simpa using n8
          have HF := hid (HF9.out n7 n8)
          clear HF7 HF8 HF9
          go_enter Tryz.func13, Tryz.ntmps13
          go_wp2_with fail
          refine (rSync_any R1.out).mono ?_; rintro e1 w1 ⟨rfl, hl1⟩
          have P2 := hid (H2.out _ _ (RPost.ahead B1.out hl1))
          clear hl1
          go_wp2
          go_ret
          rw [HF.out]
          exact ⟨rfl, P2.out⟩
  · have HF7 := hid (HXE7.out)
    have HF8 := hid (HXE8.out)
    have HF9 := hid (HXE9.out (fun k => n1 k.1))
    clear HXE HXE7 HXE8 HXE9
    have n7 : ¬ d = 7 := by omega
    have n8 : ¬ d = 8 := by omega
    have q7 : (d == 7) = false := by simpa using n7
    have q8 : (d == 8) = false := by simpa using n8
    have HF := hid (HF9.out n7 n8)
    clear HF7 HF8 HF9
    go_enter Tryz.func13, Tryz.ntmps13
    go_wp2_with fail
    refine (rSync_any R1.out).mono ?_; rintro e1 w1 ⟨rfl, hl1⟩
    have P2 := hid (H2.out _ _ (RPost.ahead B1.out hl1))
    clear hl1
    go_wp2
    go_ret
    rw [HF.out]
    exact ⟨rfl, P2.out⟩
end Go.Proofs.YtlbeemlnbpchgaaGreat
