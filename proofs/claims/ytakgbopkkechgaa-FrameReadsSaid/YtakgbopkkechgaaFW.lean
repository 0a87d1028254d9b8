/- The law FrameReads: what its call does. Conditions: a heap that has a block; parts that come in. -/
import Derived.Test.YtakgbopkkechgaaFVA
import Derived.Deep.RegionHeld3
namespace Go.Proofs.Ytakgbopkkechgaa
open Go.RowKit
theorem tmod_nat (n m k : Nat) (h : m = n % k) : (n : Int).tmod (k : Int) = (m : Int) := by rw [Int.tmod_eq_emod_of_nonneg (by omega), h]; exact (Int.natCast_emod n k).symm
set_option maxRecDepth 100000 in
set_option maxHeartbeats 8000000 in
theorem reads_law (A : Option Addr) (n cap bp off : Nat) (xs : List (ByteArray × UInt8)) (w : World) (hp : 0 < w.heap.size) (hr : PartsIn w A n bp off xs) : Calls Try.prog 5 #[.slice A n cap] w fun e w' => e = .returned (.bool true) ∧ Below w.heap.size w w' := by
  have HP := hid hp
  have HR := hid hr
  have CN := hid (ses_new (w0 := w) (Below.refl _ _) hp)
  clear hp hr
  go_enter Try.func5, Try.ntmps5
  go_wp2_with (fail)
  refine CN.out.mono ?_
  rintro e1 w1 ⟨rfl, h1, _⟩
  have S1 := hid h1
  obtain ⟨q, hq⟩ : ∃ q, w1.heap.size = q := ⟨_, rfl⟩
  have T1 : Hid (Two w (w1.alloc (.cells #[.slice none 0 0, .bool false] 37)) w.heap.size q (false, []) (false, []) none 0) := by
    rw [← hq]
    have := h1.rd.inside
    exact ⟨h1.alloc _, Qr.new w1 (Nat.lt_of_lt_of_le HP.out h1.below.size), Nat.ne_of_lt HP.out, (by intro e; cases e), Nat.ne_of_gt this, (by intro e; cases e), h1.below.size, HP.out⟩
  clear h1 CN
  go_wp2_with (fail)
  clear hq S1
  go_loopw [5] (fun i wr => ∃ (j : Nat) (R : RS) (o : Option Nat) (bb : Nat), j ≤ 60 ∧ i = .int .i64 (j : Int) ∧ Hid (Two w wr w.heap.size q R R o bb)) (fun i _ => 60 - (intOf i).toNat)
  case atStart => exact ⟨0, _, _, _, by omega, rfl, T1⟩
  case round =>
    obtain ⟨j, R, o, bb, hj, rfl, HT⟩ := hrel
    obtain ⟨wo, hwo⟩ : ∃ wo, wo = wr := ⟨_, rfl⟩
    subst hwo
    by_cases hlt : j < n
    · by_cases hlt2 : j < 60
      · have PA := (HR.out.kept HT.out.below (Nat.le_refl _)).2.2 j hlt
        obtain rfl := (HR.out.2.1 (by omega)).1
        obtain ⟨x, hx⟩ : ∃ x, xs.getD j (⟨#[]⟩, 0) = x := ⟨_, rfl⟩
        have HPA : Hid (∀ W, Below w.heap.size w W → PartAt W bp (off + j * 2) x) := fun W hb => by rw [← hx]; exact (HR.out.kept hb (Nat.le_refl _)).2.2 j hlt
        rw [hx] at PA
        obtain ⟨s, a⟩ := x
        obtain ⟨c0, c1⟩ := PA
        simp only at c0 c1
        have g0 : (0 : Int) ≤ (j : Int) := by omega
        have g1 : (j : Int) < (n : Int) := by omega
        have g2 : (j : Int) < 60 := by omega
        obtain ⟨t, ht, hc⟩ := cut_text s 3000
        have KC := conv_string t
        have HTS : Hid (t.size ≤ 3000) := ht
        clear hlt hlt2 hx ht
        rcases hc with ⟨rfl, hs⟩ | ⟨hs, e0⟩
        all_goals
          go_wp2_with (fail)
          go_quiet (fail)
          go_wp2_with (fail)
          have TA := (HT.out.kept ((Below.refl _ _).drewN' nq)).kept (conv_below t (wo.drewN nq))
          have GO : Hid (wo.heap.size ≠ w.heap.size ∧ wo.heap.size ≠ q ∧ wo.heap.size ≠ bb ∧ o ≠ some wo.heap.size ∧ w.heap.size ≤ wo.heap.size) := by
            obtain ⟨h1, h2, _⟩ := HT.out
            have i1 := h1.rd.inside
            have i2 := h2.inside
            have i3 := h2.blk
            exact ⟨by omega, by omega, by omega, fun e => by have := h1.rd.row e; omega, by omega⟩
          have WA := wri_of_text t (wo.drewN nq)
          refine (two_pushA TA (conv_bytes t (wo.drewN nq)) (by rw [tl_length]; have := HTS.out; omega)).mono ?_
          rintro e2 w2 ⟨rfl, o2, T2, N2, C2⟩
          have HT2 := hid T2
          have HW2 : Hid (Wri w2 wo.heap.size t.size) := WA.same (C2.block _ WA.inside GO.out.1 GO.out.2.2.2.1)
          have HO2 : Hid (o2 ≠ some wo.heap.size) := N2.ne GO.out.2.2.2.1 WA.inside
          have HI2 : Hid (wo.heap.size < w2.heap.size) := HW2.out.inside
          obtain ⟨R2, hR2⟩ : ∃ R2, pushR R (tl t) = R2 := ⟨_, rfl⟩
          rw [hR2] at HT2
          obtain ⟨ex, hx2⟩ : ∃ ex, pushE R (tl t) = ex := ⟨_, rfl⟩
          rw [hx2]
          have CQ : Hid (Calls Try.prog 16 #[.pointer (some ⟨q, 0, none⟩), .slice (some ⟨w2.heap.size, 0, none⟩) t.size (grownCap w2 t.size 0 5)] (Lib.bytesWorld w2 5 t) fun e w' => e = .returned (.int .i64 ex) ∧ ∃ bb', Two w w' w.heap.size q R2 R2 o2 bb' ∧ Wri w' wo.heap.size t.size ∧ bb' ≠ wo.heap.size) := by
            refine (two_pushB (HT2.out.kept (conv_below t w2)) (conv_bytes t w2) (by rw [tl_length]; have := HTS.out; omega)).mono ?_
            rintro e w' ⟨rfl, bb', h1, h2, h3⟩
            rw [hR2] at h1
            refine ⟨by rw [hx2], bb', h1, (HW2.out.same ((conv_below t w2).block _ HI2.out)).same (h3.block _ (Nat.lt_of_lt_of_le HI2.out (conv_below t w2).size) (fun e => GO.out.2.1 (Option.some.inj e))), ?_⟩
            have i1 := HI2.out
            have i2 := (conv_below t w2).size
            have i3 := GO.out
            rcases h2 with rfl | rfl | h2
            · exact fun e => i3.2.2.1 e.symm
            · have := HP.out; omega
            · omega
          clear TA WA T2 N2 C2 hR2 hx2 HT2
          go_wp2_with (fail)
          refine CQ.out.mono ?_
          rintro e3 w3 ⟨rfl, bb3, h3, h4, h5⟩
          have HT3 := hid h3
          have HW3 := hid h4
          have HB3 := hid h5
          clear h3 h4 h5 CQ HW2 HI2
          go_wp2_with (fail)
          go_loopw [10] (fun i wr => ∃ (k : Nat), k ≤ t.size ∧ i = .int .i64 (k : Int) ∧ Hid (Wri wr wo.heap.size t.size) ∧ Hid (Two w wr w.heap.size q R2 R2 o2 bb3)) (fun i _ => t.size - (intOf i).toNat)
          case atStart => exact ⟨0, by omega, rfl, HW3, HT3⟩
          case round =>
            obtain ⟨k, hk, rfl, HW, HT4⟩ := hrel
            by_cases hkl : k < t.size
            · obtain ⟨z, d1, f1, z0, z1⟩ := HW.out.cell k hkl
              have wz : IntKind.u8.wrap (255 - z) = 255 - z := by
                simp [IntKind.wrap, IntKind.signed, IntKind.bits]; omega
              have hs9 : t.size ≤ 3000 := HTS.out
              go_wp2
              go_roundw
              case rel => exact ⟨k + 1, by omega, by go_num, HW.out.put k _ (by omega) (by omega), HT4.out.grw (Grw.of_set wo.heap.size k _ _) GO.out.1 GO.out.2.1 (Ne.symm HB3.out) HO2.out GO.out.2.2.2.2⟩
              case measure => simp [intOf]; omega
            · obtain ⟨w5, hw5⟩ : ∃ w5, w5 = wr := ⟨_, rfl⟩
              subst hw5
              have gk : ¬ (k : Int) < (t.size : Int) := by omega
              clear hk hkl
              go_wp2_with (fail)
              go_loopw [11] (fun i wr => ∃ (m : Nat) (R : RS) (o : Option Nat) (bb : Nat), m ≤ 7 ∧ i = .int .u8 (m : Int) ∧ Hid (Two w wr w.heap.size q R R o bb)) (fun i _ => 7 - (intOf i).toNat)
              case atStart => exact ⟨0, R2, o2, bb3, by omega, rfl, HT4⟩
              case round =>
                obtain ⟨m, R5, o5, bb5, hm, rfl, HT5⟩ := hrel
                have d5 := (HPA.out _ HT5.out.below).2
                simp only at d5
                obtain ⟨rr, hrr⟩ : ∃ rr : Nat, rr = a.toNat % 7 := ⟨_, rfl⟩
                have m7 : (b8 a).tmod 7 = (rr : Int) := tmod_nat a.toNat rr 7 hrr
                have hr7 : rr < 7 := by omega
                have w7 : IntKind.u8.wrap (rr : Int) = (rr : Int) := by simp [IntKind.wrap, IntKind.signed, IntKind.bits]; omega
                clear hrr
                by_cases hmr : m < rr
                · have CX := hid (two_next HT5.out)
                  have w8 : IntKind.u8.wrap ((m : Int) + 1) = ((m + 1 : Nat) : Int) := by simp [IntKind.wrap, IntKind.signed, IntKind.bits]; omega
                  have gm : (m : Int) < (rr : Int) := by omega
                  go_wp2_with (fail)
                  refine CX.out.mono ?_
                  rintro e6 w6 ⟨kd, is, er, A6, n6, c6, R6, o6, rfl, hp6⟩
                  have HP6 := hid hp6
                  clear hp6 CX
                  go_wp2_with (fail)
                  refine HP6.out.mono ?_
                  rintro e7 w7 ⟨A7, n7, c7, s7, rfl, q1, q2, bb7, h7⟩
                  have HT7 := hid h7
                  clear h7 HP6
                  go_wp2
                  go_roundw
                  case rel => exact ⟨m + 1, R6, o6, bb7, by omega, by first | rfl | rw [w8], HT7⟩
                  case measure => simp [intOf]; omega
                · obtain ⟨W0, hW0⟩ : ∃ W0, W0 = wr := ⟨_, rfl⟩
                  subst hW0
                  have gm : ¬ (m : Int) < (rr : Int) := by omega
                  obtain ⟨nR, hnR⟩ : ∃ nR, R5.2.length = nR := ⟨_, rfl⟩
                  obtain ⟨bR, hbR⟩ : ∃ bR, R5.1 = bR := ⟨_, rfl⟩
                  have CH : Hid (∀ W, Below W0.heap.size W0 W → Calls Try.prog 19 #[.pointer (some ⟨w.heap.size, 0, none⟩)] W fun e w' => e = .returned (.int .i64 (nR : Int)) ∧ Below W0.heap.size W0 w') := fun W hb => by
                    refine (ses_held (HT5.out.1.kept hb)).mono ?_
                    rintro e w' ⟨rfl, _, hb'⟩
                    exact ⟨by rw [hnR], hb.trans (hb'.mono hb.size)⟩
                  have CB : Hid (∀ W, Below W0.heap.size W0 W → Calls Try.prog 20 #[.pointer (some ⟨w.heap.size, 0, none⟩)] W fun e w' => e = .returned (.bool bR) ∧ W = w') := fun W hb => by
                    have := ses_broken (HT5.out.1.kept hb)
                    rw [hbR] at this
                    exact this
                  obtain ⟨Aq, cq, oq, hhas, _⟩ := HT5.out.2.1
                  rw [hnR, hbR] at hhas
                  have HHAS := hid hhas
                  have HQ0 : Hid (∀ W, Below W0.heap.size W0 W → W.cell? ⟨q, 0, none⟩ = some (.slice Aq nR cq)) := fun W hb => (HHAS.out.kept hb HHAS.out.inside).at_ 0
                  have HQ1 : Hid (∀ W, Below W0.heap.size W0 W → W.cell? ⟨q, 1, none⟩ = some (.bool bR)) := fun W hb => (HHAS.out.kept hb HHAS.out.inside).at_ 1
                  clear hhas hnR hbR hm hmr hr7 HHAS
                  go_wp2_with (fail)
                  have z0 : Below W0.heap.size W0 W0.drew := (Below.refl _ _).drew
                  refine wp_region_noPanic ?_
                  refine wp_region_held_drew (S := Below W0.heap.size W0) (by kernel_rfl) (z0) (fun hS => ?_)
                  refine wpAnyH_take (i := 0) (v := ?_) (by simp only [List.getElem?_toArray, List.getElem?_cons_zero]; rfl) (by kernel_rfl) (by kernel_rfl) (by kernel_rfl) (fun _ _ _ h => h) (Or.inl ⟨by rfl, ?_⟩) (by assumption) ?_
                  rotate_left 1
                  · intro w hSw
                    go_simp
                    with_reducible rfl
                  simp only [Act.put, List.setIfInBounds_toArray, List.set_cons_zero, List.set_cons_succ]
                  refine wpAnyH_take (i := 2) (v := ?_) (by simp only [List.getElem?_toArray, List.getElem?_cons_zero, List.getElem?_cons_succ]; rfl) (by kernel_rfl) (by kernel_rfl) (by kernel_rfl) (fun _ _ _ h => h) (Or.inl ⟨by rfl, ?_⟩) (by assumption) ?_
                  rotate_left 1
                  · intro w hSw
                    go_simp
                    with_reducible rfl
                  simp only [Act.put, List.setIfInBounds_toArray, List.set_cons_zero, List.set_cons_succ]
                  refine wpAnyH_take (i := 3) (v := ?_) (by simp only [List.getElem?_toArray, List.getElem?_cons_zero, List.getElem?_cons_succ]; rfl) (by kernel_rfl) (by kernel_rfl) (by kernel_rfl) (fun _ _ _ h => h) (Or.inl ⟨by rfl, ?_⟩) (by assumption) ?_
                  rotate_left 1
                  · intro w hSw
                    go_simp
                    with_reducible rfl
                  simp only [Act.put, List.setIfInBounds_toArray, List.set_cons_zero, List.set_cons_succ]
                  refine wpAnyH_take (i := 4) (v := ?_) (by simp only [List.getElem?_toArray, List.getElem?_cons_zero, List.getElem?_cons_succ]; rfl) (by kernel_rfl) (by kernel_rfl) (by kernel_rfl) (fun _ _ _ h => h) (Or.inl ⟨by rfl, ?_⟩) (by assumption) ?_
                  rotate_left 1
                  · intro w hSw
                    go_simp
                    with_reducible rfl
                  simp only [Act.put, List.setIfInBounds_toArray, List.set_cons_zero, List.set_cons_succ]
                  refine wpAnyH_take (i := 5) (v := ?_) (by simp only [List.getElem?_toArray, List.getElem?_cons_zero, List.getElem?_cons_succ]; rfl) (by kernel_rfl) (by kernel_rfl) (by kernel_rfl) (fun _ _ _ h => h) (Or.inl ⟨by rfl, ?_⟩) (by assumption) ?_
                  rotate_left 1
                  · intro w hSw
                    have u0 := HQ0.out w hSw
                    go_simp
                    with_reducible rfl
                  simp only [Act.put, List.setIfInBounds_toArray, List.set_cons_zero, List.set_cons_succ]
                  refine wpAnyH_take (i := 6) (v := ?_) (by simp only [List.getElem?_toArray, List.getElem?_cons_zero, List.getElem?_cons_succ]; rfl) (by kernel_rfl) (by kernel_rfl) (by kernel_rfl) (fun _ _ _ h => h) (Or.inl ⟨by rfl, ?_⟩) (by assumption) ?_
                  rotate_left 1
                  · intro w hSw
                    go_simp
                    with_reducible rfl
                  simp only [Act.put, List.setIfInBounds_toArray, List.set_cons_zero, List.set_cons_succ]
                  refine wpAnyH_ready (rs := [1]) (by kernel_rfl) (by simp) ?_
                  refine AllReadyH.cons (by simp only [List.getElem?_toArray, List.getElem?_cons_zero, List.getElem?_cons_succ]; rfl) (fun K hK => ?_) (AllReadyH.nil)
                  go_simp
                  refine (CH.out _ z0).mono ?_
                  rintro e9 y9 ⟨rfl, hb9⟩
                  have hz1 := hb9
                  refine hK.out _ _ hz1 (fun hS => ?_)
                  clear hK K hS
                  refine wpAnyH_take (i := 7) (v := ?_) (by simp only [List.getElem?_toArray, List.getElem?_cons_zero, List.getElem?_cons_succ]; rfl) (by kernel_rfl) (by kernel_rfl) (by kernel_rfl) (fun _ _ _ h => h) (Or.inl ⟨by rfl, ?_⟩) (by assumption) ?_
                  rotate_left 1
                  · intro w hSw
                    go_simp
                    with_reducible rfl
                  simp only [Act.put, List.setIfInBounds_toArray, List.set_cons_zero, List.set_cons_succ]
                  refine wpAnyH_take (i := 8) (v := ?_) (by simp only [List.getElem?_toArray, List.getElem?_cons_zero, List.getElem?_cons_succ]; rfl) (by kernel_rfl) (by kernel_rfl) (by kernel_rfl) (fun _ _ _ h => h) (Or.inl ⟨by rfl, ?_⟩) (by assumption) ?_
                  rotate_left 1
                  · intro w hSw
                    go_simp
                    with_reducible rfl
                  simp only [Act.put, List.setIfInBounds_toArray, List.set_cons_zero, List.set_cons_succ]
                  refine wpAnyH_take (i := 9) (v := ?_) (by simp only [List.getElem?_toArray, List.getElem?_cons_zero, List.getElem?_cons_succ]; rfl) (by kernel_rfl) (by kernel_rfl) (by kernel_rfl) (fun _ _ _ h => h) (Or.inl ⟨by rfl, ?_⟩) (by assumption) ?_
                  rotate_left 1
                  · intro w hSw
                    go_simp
                    with_reducible rfl
                  simp only [Act.put, List.setIfInBounds_toArray, List.set_cons_zero, List.set_cons_succ]
                  refine wpAnyH_take (i := 11) (v := ?_) (by simp only [List.getElem?_toArray, List.getElem?_cons_zero, List.getElem?_cons_succ]; rfl) (by kernel_rfl) (by kernel_rfl) (by kernel_rfl) (fun _ _ _ h => h) (Or.inl ⟨by rfl, ?_⟩) (by assumption) ?_
                  rotate_left 1
                  · intro w hSw
                    go_simp
                    with_reducible rfl
                  simp only [Act.put, List.setIfInBounds_toArray, List.set_cons_zero, List.set_cons_succ]
                  refine wpAnyH_take (i := 12) (v := ?_) (by simp only [List.getElem?_toArray, List.getElem?_cons_zero, List.getElem?_cons_succ]; rfl) (by kernel_rfl) (by kernel_rfl) (by kernel_rfl) (fun _ _ _ h => h) (Or.inl ⟨by rfl, ?_⟩) (by assumption) ?_
                  rotate_left 1
                  · intro w hSw
                    go_simp
                    with_reducible rfl
                  simp only [Act.put, List.setIfInBounds_toArray, List.set_cons_zero, List.set_cons_succ]
                  refine wpAnyH_take (i := 13) (v := ?_) (by simp only [List.getElem?_toArray, List.getElem?_cons_zero, List.getElem?_cons_succ]; rfl) (by kernel_rfl) (by kernel_rfl) (by kernel_rfl) (fun _ _ _ h => h) (Or.inl ⟨by rfl, ?_⟩) (by assumption) ?_
                  rotate_left 1
                  · intro w hSw
                    go_simp
                    with_reducible rfl
                  simp only [Act.put, List.setIfInBounds_toArray, List.set_cons_zero, List.set_cons_succ]
                  refine wpAnyH_take (i := 14) (v := ?_) (by simp only [List.getElem?_toArray, List.getElem?_cons_zero, List.getElem?_cons_succ]; rfl) (by kernel_rfl) (by kernel_rfl) (by kernel_rfl) (fun _ _ _ h => h) (Or.inl ⟨by rfl, ?_⟩) (by assumption) ?_
                  rotate_left 1
                  · intro w hSw
                    have u1 := HQ1.out w hSw
                    go_simp
                    with_reducible rfl
                  simp only [Act.put, List.setIfInBounds_toArray, List.set_cons_zero, List.set_cons_succ]
                  refine wpAnyH_ready (rs := [10]) (by kernel_rfl) (by simp) ?_
                  refine AllReadyH.cons (by simp only [List.getElem?_toArray, List.getElem?_cons_zero, List.getElem?_cons_succ]; rfl) (fun K hK => ?_) (AllReadyH.nil)
                  go_simp
                  refine (CB.out _ hb9).mono ?_
                  rintro e8 y8 ⟨rfl, hy8⟩
                  obtain rfl := hy8
                  have hz2 := hb9
                  refine hK.out _ _ hz2 (fun hS => ?_)
                  clear hK K hS
                  refine wpAnyH_take (i := 15) (v := ?_) (by simp only [List.getElem?_toArray, List.getElem?_cons_zero, List.getElem?_cons_succ]; rfl) (by kernel_rfl) (by kernel_rfl) (by kernel_rfl) (fun _ _ _ h => h) (Or.inl ⟨by rfl, ?_⟩) (by assumption) ?_
                  rotate_left 1
                  · intro w hSw
                    go_simp
                    with_reducible rfl
                  simp only [Act.put, List.setIfInBounds_toArray, List.set_cons_zero, List.set_cons_succ]
                  refine wpAnyH_take (i := 16) (v := ?_) (by simp only [List.getElem?_toArray, List.getElem?_cons_zero, List.getElem?_cons_succ]; rfl) (by kernel_rfl) (by kernel_rfl) (by kernel_rfl) (fun _ _ _ h => h) (Or.inl ⟨by rfl, ?_⟩) (by assumption) ?_
                  rotate_left 1
                  · intro w hSw
                    go_simp
                    with_reducible rfl
                  simp only [Act.put, List.setIfInBounds_toArray, List.set_cons_zero, List.set_cons_succ]
                  refine wpAnyH_done (by kernel_rfl) ?_ _
                  refine NoPanic.normal ?_
                  have HT9 := hid (HT5.out.kept hb9)
                  clear hb9 z0 HT5 CH CB HQ0 HQ1
                  go_wp2_with (fail)
                  go_roundw
                  case rel => exact ⟨j + 1, R5, o5, bb5, by omega, by go_num, HT9⟩
                  case measure => simp [intOf]; omega
      · have g1 : (j : Int) < (n : Int) := by omega
        have g2 : ¬ (j : Int) < 60 := by omega
        have CW := hid (works_any wo (Nat.lt_of_lt_of_le HP.out HT.out.below.size))
        have HBL := hid HT.out.below
        clear hlt hlt2 hj HT
        go_wp2_with (fail)
        refine CW.out.mono ?_
        rintro e8 w8 ⟨rfl, hb8⟩
        have B8 : Hid (Below w.heap.size w w8) := HBL.out.trans (hb8.mono HBL.out.size)
        clear hb8
        go_wp2
        go_ret
        exact ⟨rfl, B8.out⟩
    · have g1 : ¬ (j : Int) < (n : Int) := by omega
      have CW := hid (works_any wo (Nat.lt_of_lt_of_le HP.out HT.out.below.size))
      have HBL := hid HT.out.below
      clear hlt hj HT
      go_wp2_with (fail)
      refine CW.out.mono ?_
      rintro e8 w8 ⟨rfl, hb8⟩
      have B8 : Hid (Below w.heap.size w w8) := HBL.out.trans (hb8.mono HBL.out.size)
      clear hb8
      go_wp2
      go_ret
      exact ⟨rfl, B8.out⟩
end Go.Proofs.Ytakgbopkkechgaa
