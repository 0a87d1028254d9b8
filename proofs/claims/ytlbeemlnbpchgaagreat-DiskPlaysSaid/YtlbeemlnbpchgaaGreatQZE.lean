/- Several texts in one: TW. Conditions: those said at each. -/
import Derived.Test.YtlbeemlnbpchgaaGreatQX
import Derived.Test.YtlbeemlnbpchgaaGreatQZD
/- The walk of DiskCopies. Conditions: acts whose numbers fit. -/
namespace Go.Proofs.YtlbeemlnbpchgaaGreat
open Go.RowKit Go.Maps
theorem eCrashT {w0 w : World} {q : Nat} {M K : Mo} {ds : List Th} (h : Lv w0 w (.d q M :: ds)) (hG : Gd w0) (A : Option Addr) (ks : List UInt8) (n cp g off : Nat) (hn : ks.length = n) (hk : Pk w A ks g off) (hpk : 0 < ks.length → g < w0.heap.size) (hkl : ks.length ≤ maxLen) (he : crashM M (nats ks) = K) :
    Calls Tryz.prog 18 #[.pointer (some ⟨q, 0, none⟩), .slice A n cp] w fun e w' => e = .returned (.int .i64 0) ∧ Lv w0 w' (.d q K :: ds) := by
  subst he; subst hn
  exact lCrash h hG A ks cp g off hk hpk (by unfold maxLen at hkl; omega)
theorem eCrashR {w0 w : World} {q : Nat} {M K : Mo} {ds : List Th} (h : Lv w0 w (.r q M :: ds)) (A : Option Addr) (ks : List UInt8) (n cp g off : Nat) (hn : ks.length = n) (hk : Pk w A ks g off) (hkl : ks.length ≤ maxLen) (he : crashM M (nats ks) = K) :
    Calls Tryz.prog 19 #[.pointer (some ⟨q, 0, none⟩), .slice A n cp] w fun e w' => e = .returned (.tuple #[]) ∧ Lv w0 w' (.r q K :: ds) := by
  subst he; subst hn
  obtain ⟨own, h1, h3, h2⟩ := h.stepR
  exact (rCrash_any h1 A ks cp g off hk (by unfold maxLen at hkl; omega)).mono fun e w' k => ⟨k.1, h2 _ _ k.2⟩
theorem alikeL {w0 w : World} {p q : Nat} {M : Mo} {ds : List Th} (h : Lv w0 w ds) (hG : Gd w0) (hp : .d p M ∈ ds) (hq : .r q M ∈ ds) :
    Calls Tryz.prog 16 #[.pointer (some ⟨p, 0, none⟩), .pointer (some ⟨q, 0, none⟩)] w fun e w' => e = .returned (.bool true) ∧ Lv w0 w' ds := by
  obtain ⟨o1, d1⟩ := h.get hp
  obtain ⟨o2, d2⟩ := h.getR hq
  exact (alike_any d1 d2 (h.gd hG)).mono fun e w' k => ⟨k.1, h.on k.2⟩
theorem play_next {M : Mo} {xs : List ActT} {k : Nat} (hk : k < xs.length) : (actM (playM M (xs.take k)) (xs.getD k act0)).2 = playM M (xs.take (k + 1)) := by
  rw [List.take_succ_eq_append_getElem hk, playM_snoc, List.getD, List.getElem?_eq_getElem hk]; rfl
set_option maxRecDepth 100000 in
set_option maxHeartbeats 16000000 in
theorem copies_any {A0 A1 A2 : Option Addr} {n0' n1' cap0 cap1 cap2 bb0 bb1 off0 off1 g2 off2 : Nat} {xs0 xs1 : List ActT} {ks : List UInt8} (w : World) (hI0 : ActsIn w A0 n0' bb0 off0 xs0) (hI1 : ActsIn w A1 n1' bb1 off1 xs1) (hP : Pk w A2 ks g2 off2) (hG : Gd w) (hn0 : n0' ≤ maxLen) (hn1 : n1' ≤ maxLen) (hkl : ks.length ≤ maxLen) :
    Calls Tryz.prog 4 #[.slice A0 n0' cap0, .slice A1 n1' cap1, .slice A2 ks.length cap2] w fun e w' => e = .returned (.bool true) ∧ Below w.heap.size w w' := by
  have HG := hid hG
  obtain ⟨nk, HNK⟩ : ∃ nk, Hid (ks.length = nk) := ⟨_, rfl⟩
  rw [HNK.out]
  have CL0 := hid (large_any (cap := cap0) 40 (by omega) w hI0 hn0)
  have CL1 : Hid (∀ W, Below w.heap.size w W → Calls Tryz.prog 8 #[.slice A1 n1' cap1, .int .i64 20] W fun e w' => e = .returned (.bool (largeB xs1 20)) ∧ Below W.heap.size W w') := fun W hb => large_any (cap := cap1) 20 (by omega) W (hI1.on hb) hn1
  cases hb0 : largeB xs0 40 with
  | true =>
    rw [hb0] at CL0
    clear hI0 hI1 hP hG hn0 hn1 hkl hb0
    go_enter Tryz.func4, Tryz.ntmps4
    go_wp2_with fail
    refine CL0.out.mono ?_; rintro e1 w1 ⟨rfl, hb1⟩
    have B1 := hid hb1
    clear hb1
    go_wp2_with fail
    refine (awake_any _ (HG.out.kept B1.out)).mono ?_; rintro e2 w2 ⟨rfl, hb2⟩
    have B2 : Hid (Below w.heap.size w w2) := B1.out.trans (hb2.mono B1.out.size)
    clear hb2
    go_wp2
    go_ret
    exact ⟨rfl, B2.out⟩
  | false =>
    rw [hb0] at CL0
    cases hb1' : largeB xs1 20 with
    | true =>
      rw [hb1'] at CL1
      clear hI0 hI1 hP hG hn0 hn1 hkl hb0 hb1'
      go_enter Tryz.func4, Tryz.ntmps4
      go_wp2_with fail
      refine CL0.out.mono ?_; rintro e1 w1 ⟨rfl, hb1⟩
      have B1 := hid hb1
      clear hb1
      go_wp2_with fail
      refine (CL1.out _ B1.out).mono ?_; rintro e2 w2 ⟨rfl, hb2⟩
      have B2 : Hid (Below w.heap.size w w2) := B1.out.trans (hb2.mono B1.out.size)
      clear hb2
      go_wp2_with fail
      refine (awake_any _ (HG.out.kept B2.out)).mono ?_; rintro e3 w3 ⟨rfl, hb3⟩
      have B3 : Hid (Below w.heap.size w w3) := B2.out.trans (hb3.mono B2.out.size)
      clear hb3
      go_wp2
      go_ret
      exact ⟨rfl, B3.out⟩
    | false =>
      rw [hb1'] at CL1
      obtain ⟨hl1, hl2⟩ := large_false hb0
      obtain ⟨hl3, hl4⟩ := large_false hb1'
      have hn0s : n0' ≤ 40 := by have := hI0.len; omega
      have hn1s : n1' ≤ 20 := by have := hI1.len; omega
      have HI0 := hid hI0
      have HI1 := hid hI1
      have HLEN0 := hid hI0.len
      have HLEN1 := hid hI1.len
      have HSM0 := hid hl2
      have HSM1 := hid hl4
      have HP := hid hP
      have HKL := hid hkl
      have HPL : Hid (0 < ks.length → g2 < w.heap.size) := fun k => hP.inside k
      have HN0 : Hid ((newM 16384).since.length = 0) := rfl
      obtain ⟨M0, HM0⟩ : ∃ K, Hid (newM 16384 = K) := ⟨_, rfl⟩
      have CNEW : Hid (∀ W, Calls Tryz.prog 10 #[.int .i64 16384] W fun e w' => ∃ p, e = .returned (.tuple #[.pointer (some ⟨p, 0, none⟩), .int .i64 0]) ∧ Lv W w' [.d p M0]) := fun W => by
        have := lNew (Lv.nil W) 16384 (by omega) (by omega)
        rw [HM0.out] at this; exact this
      have CMADE : Hid (∀ W, Calls Tryz.prog 11 #[.int .i64 16384] W fun e w' => NewR W M0 e w') := fun W => by
        have := rMade_any W 16384 (by omega) (by omega)
        rw [HM0.out] at this; exact this
      rw [HM0.out] at HN0
      clear hI0 hI1 hP hG hn0 hn1 hkl hb0 hb1' hl1 hl2 hl3 hl4
      go_enter Tryz.func4, Tryz.ntmps4
      go_wp2_with fail
      refine CL0.out.mono ?_; rintro e1 w1 ⟨rfl, hb1⟩
      have B1 := hid hb1
      clear hb1
      go_wp2_with fail
      refine (CL1.out _ B1.out).mono ?_; rintro e2 w2 ⟨rfl, hb2⟩
      have B2 : Hid (Below w.heap.size w w2) := B1.out.trans (hb2.mono B1.out.size)
      clear hb2
      go_wp2_with fail
      refine (CNEW.out _).mono ?_; rintro e3 w3 ⟨p, rfl, hl3⟩
      have L3 := hid (hl3.ahead B2.out)
      clear hl3
      go_wp2_with fail
      refine (CMADE.out _).mono ?_; rintro e4 w4 ⟨own4, r, rfl, hr4, ho4, hb4⟩
      have L4 : Hid (Lv w w4 [.r r M0, .d p M0]) := L3.out.push (y := .r r M0) hr4 ho4 hb4
      clear hr4 ho4 hb4 L3
      go_wp2
      go_loopw [10] (fun v10 wr => ∃ k : Nat, v10 = .int .i64 (k : Int) ∧ k ≤ n0' ∧ Hid (Lv w wr [.r r (playM M0 (xs0.take k)), .d p (playM M0 (xs0.take k))])) (fun v10 _ => n0' - (intOf v10).toNat)
      case atStart => exact ⟨0, rfl, by omega, by show Lv _ _ _; rw [List.take_zero]; exact L4.out⟩
      case round =>
        obtain ⟨k, rfl, hk, J1⟩ := hrel
        by_cases hlt : k < n0'
        · have hA := (HI0.out.src (by omega)).1
          subst hA
          have hkl : k < xs0.length := by rw [HLEN0.out]; exact hlt
          have hmem := getD_mem hkl
          have hX := (HI0.out.at_ k hlt).on J1.out.bl
          have HX := hid hX
          have hlen : (playM M0 (xs0.take k)).since.length + 1 ≤ 100000 := by
            have h1 := since_play M0 (xs0.take k)
            have h2 := HN0.out
            rw [List.length_take] at h1; omega
          have C2 := hid (lDo J1.out.swap HG.out (xs0.getD k act0) (HI0.out.ok _ hmem) (HSM0.out _ hmem) hX.pk (HI0.out.low _ hmem) hlen)
          have C3 : Hid (∀ W K, Lv w W [.r r (playM M0 (xs0.take k)), .d p K] → Calls Tryz.prog 13 #[.pointer (some ⟨r, 0, none⟩), .agg (actCells (xs0.getD k act0))] W fun e w' => DnP w r [.d p K] (actM (playM M0 (xs0.take k)) (xs0.getD k act0)) e w') := fun W K hL => lDone hL HG.out (xs0.getD k act0) (HI0.out.ok _ hmem) (HSM0.out _ hmem) ((HI0.out.at_ k hlt).on hL.bl).pk hlen
          have HX3 : Hid (∀ W, Below w.heap.size w W → ActAt W bb0 (off0 + k * 7) (xs0.getD k act0)) := fun W hb => (HI0.out.at_ k hlt).on hb
          have HN := hid (play_next (M := M0) hkl)
          obtain ⟨x, hx⟩ : ∃ x, x = xs0.getD k act0 := ⟨_, rfl⟩
          rw [← hx] at HX C2 C3 HX3 HN
          obtain ⟨Mk, HMk⟩ : ∃ K, Hid (playM M0 (xs0.take k) = K) := ⟨_, rfl⟩
          rw [HMk.out] at C2 C3 HN
          obtain ⟨rr, HRR⟩ : ∃ K, Hid (actM Mk x = K) := ⟨_, rfl⟩
          rw [HRR.out] at C2 C3 HN
          have hlt' : (k : Int) < (n0' : Int) := by omega
          have h0 : (0 : Int) ≤ (k : Int) := by omega
          have w1' : IntKind.i64.wrap ((k : Int) + 1) = (k : Int) + 1 := i64in _ (by omega) (by omega)
          clear hX hmem hlen hx hkl J1
          go_wp2_with (refine wpList_load_g (by rfl) 33 (.tmp 41) rfl bb0 (off0 + k * 7) rfl (actCells x) HX.out.load ?_)
          refine C2.out.mono ?_; rintro e5 w5 ⟨rfl, hl5⟩
          have L5 := hid hl5.swap
          have HX5 := hid (HX3.out _ L5.out.bl)
          clear hl5
          go_wp2_with (refine wpList_load_g (by rfl) 33 (.tmp 47) rfl bb0 (off0 + k * 7) rfl (actCells x) HX5.out.load ?_)
          refine (C3.out _ _ L5.out).mono ?_; rintro e6 w6 ⟨rfl, hl6⟩
          have L6 := hid hl6
          clear hl6
          go_wp2
          go_roundw
          case rel => exact ⟨k + 1, by go_num, by omega, by show Lv _ _ _; rw [← HN.out]; exact L6.out⟩
          case measure => simp [intOf]; omega
        · obtain rfl : k = n0' := by omega
          have HE : Hid (playM M0 (xs0.take k) = playM M0 xs0) := by show _ = _; rw [List.take_of_length_le (by rw [HLEN0.out]; omega)]
          rw [HE.out] at J1
          obtain ⟨M, HM⟩ : ∃ K, Hid (playM M0 xs0 = K) := ⟨_, rfl⟩
          rw [HM.out] at J1
          have HMS : Hid (M.since.length ≤ 40) := by
            show _ ≤ _
            rw [← HM.out]
            have h1 := since_play M0 xs0
            have h2 := HN0.out
            have h3 := HLEN0.out
            omega
          go_wp2_with fail
          refine (lCopy J1.out.swap).mono ?_; rintro e7 w7 ⟨q, rfl, hl7⟩
          have L7 := hid hl7
          clear hl7 J1
          go_wp2_with fail
          refine (alikeL L7.out HG.out (p := q) (q := r) (M := M) (by simp) (by simp)).mono ?_; rintro e8 w8 ⟨rfl, hl8⟩
          have L8 := hid hl8
          clear hl8 L7
          go_wp2
          go_loopw [12] (fun v12 wr => ∃ k : Nat, v12 = .int .i64 (k : Int) ∧ k ≤ n1' ∧ Hid (Lv w wr [.d q (playM M (xs1.take k)), .d p M, .r r M])) (fun v12 _ => n1' - (intOf v12).toNat)
          case atStart => exact ⟨0, rfl, by omega, by show Lv _ _ _; rw [List.take_zero]; exact L8.out⟩
          case round =>
            obtain ⟨j, rfl, hj, J2⟩ := hrel
            by_cases hjt : j < n1'
            · have hA := (HI1.out.src (by omega)).1
              subst hA
              have hjl : j < xs1.length := by rw [HLEN1.out]; exact hjt
              have hmem := getD_mem hjl
              have hX := (HI1.out.at_ j hjt).on J2.out.bl
              have HX := hid hX
              have hlen : (playM M (xs1.take j)).since.length + 1 ≤ 100000 := by
                have h1 := since_play M (xs1.take j)
                have h2 := HMS.out
                rw [List.length_take] at h1; omega
              have C2 := hid (lDo J2.out HG.out (xs1.getD j act0) (HI1.out.ok _ hmem) (HSM1.out _ hmem) hX.pk (HI1.out.low _ hmem) hlen)
              have HN := hid (play_next (M := M) hjl)
              obtain ⟨x, hx⟩ : ∃ x, x = xs1.getD j act0 := ⟨_, rfl⟩
              rw [← hx] at HX C2 HN
              have hjt' : (j : Int) < (n1' : Int) := by omega
              have h0 : (0 : Int) ≤ (j : Int) := by omega
              have w1' : IntKind.i64.wrap ((j : Int) + 1) = (j : Int) + 1 := i64in _ (by omega) (by omega)
              clear hX hmem hlen hx hjl
              go_wp2_with (refine wpList_load_g (by rfl) 33 (.tmp 69) rfl bb1 (off1 + j * 7) rfl (actCells x) HX.out.load ?_)
              refine C2.out.mono ?_; rintro e9 w9 ⟨rfl, hl9⟩
              have L9 := hid hl9
              clear hl9
              go_wp2
              go_roundw
              case rel => exact ⟨j + 1, by go_num, by omega, by show Lv _ _ _; rw [← HN.out]; exact L9.out⟩
              case measure => simp [intOf]; omega
            · obtain ⟨K, HK⟩ : ∃ K, Hid (crashM M (nats ks) = K) := ⟨_, rfl⟩
              go_wp2_with fail
              refine (alikeL J2.out HG.out (p := p) (q := r) (M := M) (by simp) (by simp)).mono ?_; rintro e9 w9 ⟨rfl, hl9⟩
              have L9 := hid hl9.drop
              clear hl9 J2
              go_wp2_with fail
              refine (lCopy L9.out).mono ?_; rintro e10 w10 ⟨x, rfl, hl10⟩
              have L10 := hid hl10.swap
              clear hl10 L9
              go_wp2_with fail
              refine (eCrashT L10.out HG.out A2 ks nk cap2 g2 off2 HNK.out (HP.out.on L10.out.bl) HPL.out HKL.out HK.out).mono ?_; rintro e11 w11 ⟨rfl, hl11⟩
              have L11 := hid hl11.rot
              clear hl11 L10
              go_wp2_with fail
              refine (eCrashR L11.out A2 ks nk cap2 g2 off2 HNK.out (HP.out.on L11.out.bl) HKL.out HK.out).mono ?_; rintro e12 w12 ⟨rfl, hl12⟩
              have L12 := hid hl12.rot
              clear hl12 L11
              go_wp2_with fail
              refine (eCrashT L12.out HG.out A2 ks nk cap2 g2 off2 HNK.out (HP.out.on L12.out.bl) HPL.out HKL.out HK.out).mono ?_; rintro e13 w13 ⟨rfl, hl13⟩
              have L13 := hid hl13
              clear hl13 L12
              go_wp2_with fail
              refine (alikeL L13.out HG.out (p := p) (q := r) (M := K) (by simp) (by simp)).mono ?_; rintro e14 w14 ⟨rfl, hl14⟩
              have L14 := hid hl14
              clear hl14 L13
              go_wp2_with fail
              refine (alikeL L14.out HG.out (p := x) (q := r) (M := K) (by simp) (by simp)).mono ?_; rintro e15 w15 ⟨rfl, hl15⟩
              have L15 := hid hl15
              clear hl15 L14
              go_wp2_with fail
              refine (awake_any _ (L15.out.gd HG.out)).mono ?_; rintro e16 w16 ⟨rfl, hb16⟩
              have B16 : Hid (Below w.heap.size w w16) := L15.out.bl.trans (hb16.mono L15.out.bl.size)
              clear hb16
              go_wp2
              go_ret
              exact ⟨rfl, B16.out⟩
end Go.Proofs.YtlbeemlnbpchgaaGreat
