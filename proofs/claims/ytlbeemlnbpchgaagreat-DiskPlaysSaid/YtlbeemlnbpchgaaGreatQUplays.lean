/- The law DiskPlays, proved: whatever room, and whatever is done to a disk, each answer is the document's, and what is told of the paths, of their parents and of the root; so is the tree, behind each act. No conditions beyond the row's. -/
import Derived.Test.YtlbeemlnbpchgaaGreatQZE
import Derived.Test.YtlbeemlnbpchgaaGreatQT
/- The walk of DiskPlays. Conditions: acts whose numbers fit. -/
namespace Go.Proofs.YtlbeemlnbpchgaaGreat
open Go.RowKit Go.Maps
theorem looksL {w0 w : World} {p q : Nat} {M : Mo} {ds : List Th} (h : Lv w0 w ds) (hG : Gd w0) (hp : .d p M ∈ ds) (hq : .r q M ∈ ds) (s : By) (hs : s.length ≤ 4000) :
    Calls Tryz.prog 15 #[.pointer (some ⟨p, 0, none⟩), .pointer (some ⟨q, 0, none⟩), kS s] w fun e w' => e = .returned (.bool true) ∧ Lv w0 w' ds := by
  obtain ⟨o1, d1⟩ := h.get hp
  obtain ⟨o2, d2⟩ := h.getR hq
  exact (looks_any d1 d2 (h.gd hG) s hs).mono fun e w' k => ⟨k.1, h.on k.2⟩
theorem find_len (p : By) : (findV p).1.length ≤ p.length := by
  unfold findV
  split
  · exact aheadL_len p
  · exact Nat.zero_le _
set_option maxRecDepth 100000 in
set_option maxHeartbeats 32000000 in
theorem plays_any {A0 : Option Addr} {n0' cap0 bb0 off0 : Nat} {xs0 : List ActT} (room : Int) (w : World) (hI0 : ActsIn w A0 n0' bb0 off0 xs0) (hG : Gd w) (hn0 : n0' ≤ maxLen) :
    Calls Tryz.prog 3 #[.int .i64 room, .slice A0 n0' cap0] w fun e w' => e = .returned (.bool true) ∧ Below w.heap.size w w' := by
  have HG := hid hG
  have CL0 := hid (large_any (cap := cap0) 60 (by omega) w hI0 hn0)
  cases hb0 : largeB xs0 60 with
  | true =>
    rw [hb0] at CL0
    clear hI0 hG hn0 hb0
    go_enter Tryz.func3, Tryz.ntmps3
    go_wp2_with fail
    refine CL0.out.mono ?_; rintro e1 w1 ⟨rfl, hb1⟩
    have B1 := hid hb1
    clear hb1
    go_wp2_with fail
    refine (awake_any _ (HG.out.kept B1.out)).mono ?_; rintro e2 w2 ⟨rfl, hb2⟩
    have B2 : Hid (Below w.heap.size w w2) := B1.out.trans (hb2.mono B1.out.size)
    clear hb2
    go_wp2
    go_ret
    exact ⟨rfl, B2.out⟩
  | false =>
    rw [hb0] at CL0
    obtain ⟨hl1, hl2⟩ := large_false hb0
    have hn0s : n0' ≤ 60 := by have := hI0.len; omega
    by_cases hr : room < 1024 ∨ 1048576 < room
    · have CNEW : Hid (∀ W, Calls Tryz.prog 10 #[.int .i64 room] W fun e w' => e = .returned (.tuple #[.pointer none, .int .i64 2]) ∧ W = w') := fun W => dNew_no room W hr
      clear hI0 hG hn0 hb0 hl1 hl2 hn0s
      by_cases hr1 : room < 1024
      · clear hr
        go_enter Tryz.func3, Tryz.ntmps3
        go_wp2_with fail
        refine CL0.out.mono ?_; rintro e1 w1 ⟨rfl, hb1⟩
        have B1 := hid hb1
        clear hb1
        go_wp2_with fail
        refine (CNEW.out _).mono ?_; rintro e2 w2 ⟨rfl, rfl⟩
        go_wp2_with fail
        refine (awake_any _ (HG.out.kept B1.out)).mono ?_; rintro e3 w3 ⟨rfl, hb3⟩
        have B3 : Hid (Below w.heap.size w w3) := B1.out.trans (hb3.mono B1.out.size)
        clear hb3
        go_wp2
        go_ret
        exact ⟨rfl, B3.out⟩
      · have hr2 : 1048576 < room := by rcases hr with k | k; exact absurd k hr1; exact k
        clear hr
        go_enter Tryz.func3, Tryz.ntmps3
        go_wp2_with fail
        refine CL0.out.mono ?_; rintro e1 w1 ⟨rfl, hb1⟩
        have B1 := hid hb1
        clear hb1
        go_wp2_with fail
        refine (CNEW.out _).mono ?_; rintro e2 w2 ⟨rfl, rfl⟩
        go_wp2_with fail
        refine (awake_any _ (HG.out.kept B1.out)).mono ?_; rintro e3 w3 ⟨rfl, hb3⟩
        have B3 : Hid (Below w.heap.size w w3) := B1.out.trans (hb3.mono B1.out.size)
        clear hb3
        go_wp2
        go_ret
        exact ⟨rfl, B3.out⟩
    · have hr1 : ¬ room < 1024 := fun k => hr (.inl k)
      have hr2 : ¬ 1048576 < room := fun k => hr (.inr k)
      obtain ⟨rm, hrm⟩ : ∃ rm : Nat, (rm : Int) = room := ⟨room.toNat, by omega⟩
      obtain ⟨M0, HM0⟩ : ∃ K, Hid (newM rm = K) := ⟨_, rfl⟩
      have CNEW : Hid (∀ W, Calls Tryz.prog 10 #[.int .i64 room] W fun e w' => ∃ p, e = .returned (.tuple #[.pointer (some ⟨p, 0, none⟩), .int .i64 0]) ∧ Lv W w' [.d p M0]) := fun W => by
        have := lNew (Lv.nil W) rm (by omega) (by omega)
        rw [HM0.out, hrm] at this; exact this
      have CMADE : Hid (∀ W, Calls Tryz.prog 11 #[.int .i64 room] W fun e w' => NewR W M0 e w') := fun W => by
        have := rMade_any W rm (by omega) (by omega)
        rw [HM0.out, hrm] at this; exact this
      have HN0 : Hid (M0.since.length = 0) := by rw [← HM0.out]; rfl
      have HI0 := hid hI0
      have HLEN0 := hid hI0.len
      have HSM0 := hid hl2
      clear hI0 hG hn0 hb0 hl1 hl2 hr hrm HM0
      go_enter Tryz.func3, Tryz.ntmps3
      go_wp2_with fail
      refine CL0.out.mono ?_; rintro e1 w1 ⟨rfl, hb1⟩
      have B1 := hid hb1
      clear hb1
      go_wp2_with fail
      refine (CNEW.out _).mono ?_; rintro e3 w3 ⟨pd, rfl, hl3⟩
      have L3 := hid (hl3.ahead B1.out)
      clear hl3
      go_wp2_with fail
      refine (CMADE.out _).mono ?_; rintro e4 w4 ⟨own4, rd, rfl, hr4, ho4, hb4⟩
      have L4 : Hid (Lv w w4 [.r rd M0, .d pd M0]) := L3.out.push (y := .r rd M0) hr4 ho4 hb4
      clear hr4 ho4 hb4 L3 hr1 hr2
      go_wp2
      go_loopw [8] (fun v8 wr => ∃ k : Nat, v8 = .int .i64 (k : Int) ∧ k ≤ n0' ∧ Hid (Lv w wr [.r rd (playM M0 (xs0.take k)), .d pd (playM M0 (xs0.take k))])) (fun v8 _ => n0' - (intOf v8).toNat)
      case atStart => exact ⟨0, rfl, by omega, by show Lv _ _ _; rw [List.take_zero]; exact L4.out⟩
      case round =>
        obtain ⟨k, rfl, hk, J1⟩ := hrel
        by_cases hlt : k < n0'
        · have hA := (HI0.out.src (by omega)).1
          subst hA
          have hkl : k < xs0.length := by rw [HLEN0.out]; exact hlt
          have hmem := getD_mem hkl
          have HX3 : Hid (∀ W, Below w.heap.size w W → ActAt W bb0 (off0 + k * 7) (xs0.getD k act0)) := fun W hb => (HI0.out.at_ k hlt).on hb
          have hlen : (playM M0 (xs0.take k)).since.length + 1 ≤ 100000 := by
            have h1 := since_play M0 (xs0.take k)
            have h2 := HN0.out
            rw [List.length_take] at h1; omega
          have C2 : Hid (∀ W ds, Lv w W (.d pd (playM M0 (xs0.take k)) :: ds) → Calls Tryz.prog 12 #[.pointer (some ⟨pd, 0, none⟩), .agg (actCells (xs0.getD k act0))] W fun e w' => DoP w pd ds (actM (playM M0 (xs0.take k)) (xs0.getD k act0)) e w') := fun W ds hL => lDo hL HG.out (xs0.getD k act0) (HI0.out.ok _ hmem) (HSM0.out _ hmem) (HX3.out _ hL.bl).pk (HI0.out.low _ hmem) hlen
          have C3 : Hid (∀ W ds, Lv w W (.r rd (playM M0 (xs0.take k)) :: ds) → Calls Tryz.prog 13 #[.pointer (some ⟨rd, 0, none⟩), .agg (actCells (xs0.getD k act0))] W fun e w' => DnP w rd ds (actM (playM M0 (xs0.take k)) (xs0.getD k act0)) e w') := fun W ds hL => lDone hL HG.out (xs0.getD k act0) (HI0.out.ok _ hmem) (HSM0.out _ hmem) (HX3.out _ hL.bl).pk hlen
          have HN := hid (play_next (M := M0) hkl)
          have HSL := hid (small_of (HSM0.out _ hmem))
          obtain ⟨x, hx⟩ : ∃ x, x = xs0.getD k act0 := ⟨_, rfl⟩
          rw [← hx] at C2 C3 HX3 HN HSL
          obtain ⟨Mk, HMk⟩ : ∃ K, Hid (playM M0 (xs0.take k) = K) := ⟨_, rfl⟩
          rw [HMk.out] at C2 C3 HN J1
          obtain ⟨rr, HRR⟩ : ∃ K, Hid (actM Mk x = K) := ⟨_, rfl⟩
          rw [HRR.out] at C2 C3 HN
          obtain ⟨rc, M2⟩ := rr
          have HX := hid (HX3.out _ J1.out.bl).load
          obtain ⟨dO, p, q, text, long, time, pA, pc, ks, pg, po⟩ := x
          have HLD : Hid ((loadVar 33 ⟨bb0, off0 + k * 7, none⟩).run Tryz.prog wr = .ok (.agg #[.int .i64 dO, kS p, kS q, kS text, .int .i64 long, .int .i64 time, .slice pA ks.length pc]) wr) := HX.out
          have HLP : Hid (p.length ≤ 4000) := by have := HSL.out.1; simp only at this; show _ ≤ _; omega
          have HLQ : Hid (q.length ≤ 4000) := by have := HSL.out.1; simp only at this; show _ ≤ _; omega
          have HLU : Hid ((findV p).1.length ≤ 4000) := by have := find_len p; have := HLP.out; show _ ≤ _; omega
          obtain ⟨b, HB⟩ : ∃ b, Hid (wr.heap.size = b) := ⟨_, rfl⟩
          obtain ⟨w2, HW2⟩ : ∃ w2, Hid (wr.alloc (.cells #[.int .i64 dO, kS p, kS q, kS text, .int .i64 long, .int .i64 time, .slice pA ks.length pc] 33) = w2) := ⟨_, rfl⟩
          have L2 : Hid (Lv w w2 [.h b #[.int .i64 dO, kS p, kS q, kS text, .int .i64 long, .int .i64 time, .slice pA ks.length pc], .r rd Mk, .d pd Mk]) := by rw [← HW2.out, ← HB.out]; exact J1.out.box #[.int .i64 dO, kS p, kS q, kS text, .int .i64 long, .int .i64 time, .slice pA ks.length pc]
          have L2d : Hid (Lv w w2.drew [.h b #[.int .i64 dO, kS p, kS q, kS text, .int .i64 long, .int .i64 time, .slice pA ks.length pc], .r rd Mk, .d pd Mk]) := L2.out.on (Below.refl _ _).drew
          have X2d : Hid (Has w2.drew b 33 #[.int .i64 dO, kS p, kS q, kS text, .int .i64 long, .int .i64 time, .slice pA ks.length pc]) := L2d.out.getH (by simp)
          have CD : Hid (Calls Tryz.prog 12 #[.pointer (some ⟨pd, 0, none⟩), .agg #[.int .i64 dO, kS p, kS q, kS text, .int .i64 long, .int .i64 time, .slice pA ks.length pc]] w2.drew fun e w' => e = .returned (.int .i64 rc) ∧ Lv w w' [.d pd M2, .h b #[.int .i64 dO, kS p, kS q, kS text, .int .i64 long, .int .i64 time, .slice pA ks.length pc], .r rd Mk]) := C2.out _ _ L2d.out.rot
          have CN : Hid (∀ W, Lv w W [.d pd M2, .h b #[.int .i64 dO, kS p, kS q, kS text, .int .i64 long, .int .i64 time, .slice pA ks.length pc], .r rd Mk] → Calls Tryz.prog 13 #[.pointer (some ⟨rd, 0, none⟩), .agg #[.int .i64 dO, kS p, kS q, kS text, .int .i64 long, .int .i64 time, .slice pA ks.length pc]] W fun e w' => e = .returned (.int .i64 rc) ∧ Lv w w' [.r rd M2, .d pd M2, .h b #[.int .i64 dO, kS p, kS q, kS text, .int .i64 long, .int .i64 time, .slice pA ks.length pc]]) := fun W hL => C3.out _ _ hL.rot
          have HN2 : Hid (M2 = playM M0 (xs0.take (k + 1))) := HN.out
          have hbs := HB.out
          have hrc : (rc != rc) = false := by simp
          have hlt' : (k : Int) < (n0' : Int) := by omega
          have h0 : (0 : Int) ≤ (k : Int) := by omega
          have w1' : IntKind.i64.wrap ((k : Int) + 1) = (k : Int) + 1 := i64in _ (by omega) (by omega)
          clear hmem hlen hx hkl J1 HX C2 C3 HN HX3 L2
          go_upto_region 13 with (refine wpList_load_g (by rfl) 33 (.tmp 51) rfl bb0 (off0 + k * 7) rfl #[.int .i64 dO, kS p, kS q, kS text, .int .i64 long, .int .i64 time, .slice pA ks.length pc] HLD.out ?_)
          rw [HW2.out]
          clear hbs HW2 HB HLD
          go_wp2
          refine wp_region_noPanic ?_
          refine wp_region_held_drew (S := fun W => Has W b 33 #[.int .i64 dO, kS p, kS q, kS text, .int .i64 long, .int .i64 time, .slice pA ks.length pc]) (by kernel_rfl) (X2d.out) (fun hS => ?_)
          generalize w2.drew = w3 at *
          refine wpAnyH_take (i := 0) (v := ?_) (by simp only [List.getElem?_toArray, List.getElem?_cons_zero]; rfl) (by kernel_rfl) (by kernel_rfl) (by kernel_rfl) (fun _ _ _ h => h) (Or.inl ⟨by rfl, ?_⟩) (by assumption) ?_
          rotate_left 1
          · intro w hSw
            go_simp
            with_reducible rfl
          simp only [Act.put, List.setIfInBounds_toArray, List.set_cons_zero, List.set_cons_succ]
          refine' wpAnyH_take (i := 1) (v := _) (by simp only [List.getElem?_toArray, List.getElem?_cons_zero, List.getElem?_cons_succ]; rfl) (by kernel_rfl) (by kernel_rfl) (by kernel_rfl) (fun _ _ _ h => h) (yields_loadA (by rfl) 33 (.tmp 9) rfl b 0 rfl #[.int .i64 dO, kS p, kS q, kS text, .int .i64 long, .int .i64 time, .slice pA ks.length pc] (fun w hSw => load_act hSw rfl)) (by assumption) ?_
          simp only [Act.put, List.setIfInBounds_toArray, List.set_cons_zero, List.set_cons_succ]
          refine wpAnyH_take (i := 3) (v := ?_) (by simp only [List.getElem?_toArray, List.getElem?_cons_zero, List.getElem?_cons_succ]; rfl) (by kernel_rfl) (by kernel_rfl) (by kernel_rfl) (fun _ _ _ h => h) (Or.inl ⟨by rfl, ?_⟩) (by assumption) ?_
          rotate_left 1
          · intro w hSw
            go_simp
            with_reducible rfl
          simp only [Act.put, List.setIfInBounds_toArray, List.set_cons_zero, List.set_cons_succ]
          refine' wpAnyH_take (i := 4) (v := _) (by simp only [List.getElem?_toArray, List.getElem?_cons_zero, List.getElem?_cons_succ]; rfl) (by kernel_rfl) (by kernel_rfl) (by kernel_rfl) (fun _ _ _ h => h) (yields_loadA (by rfl) 33 (.tmp 9) rfl b 0 rfl #[.int .i64 dO, kS p, kS q, kS text, .int .i64 long, .int .i64 time, .slice pA ks.length pc] (fun w hSw => load_act hSw rfl)) (by assumption) ?_
          simp only [Act.put, List.setIfInBounds_toArray, List.set_cons_zero, List.set_cons_succ]
          refine wpAnyH_ready (rs := [2]) (by kernel_rfl) (by simp) ?_
          refine AllReadyH.cons (by simp only [List.getElem?_toArray, List.getElem?_cons_zero, List.getElem?_cons_succ]; rfl) (fun K hK => ?_) AllReadyH.nil
          go_simp
          refine (CD.out).mono ?_
          rintro e4x w4x ⟨rfl, hl4x⟩
          have L4x := hid hl4x
          have hz1 := (L4x.out.getH (by simp) : Has w4x b 33 #[.int .i64 dO, kS p, kS q, kS text, .int .i64 long, .int .i64 time, .slice pA ks.length pc])
          refine hK.out _ _ hz1 (fun hS => ?_)
          clear hK K hS
          refine wpAnyH_ready (rs := [5]) (by kernel_rfl) (by simp) ?_
          refine AllReadyH.cons (by simp only [List.getElem?_toArray, List.getElem?_cons_zero, List.getElem?_cons_succ]; rfl) (fun K hK => ?_) AllReadyH.nil
          go_simp
          refine (CN.out _ L4x.out).mono ?_
          rintro e5 w5 ⟨rfl, hl5⟩
          have L5 := hid hl5
          clear hl5
          have hz2 := (L5.out.getH (by simp) : Has w5 b 33 #[.int .i64 dO, kS p, kS q, kS text, .int .i64 long, .int .i64 time, .slice pA ks.length pc])
          refine hK.out _ _ hz2 (fun hS => ?_)
          clear hK K hS
          refine wpAnyH_take (i := 6) (v := ?_) (by simp only [List.getElem?_toArray, List.getElem?_cons_zero, List.getElem?_cons_succ]; rfl) (by kernel_rfl) (by kernel_rfl) (by kernel_rfl) (fun _ _ _ h => h) (Or.inl ⟨by rfl, ?_⟩) (by assumption) ?_
          rotate_left 1
          · intro w hSw
            go_simp
            with_reducible rfl
          simp only [Act.put, List.setIfInBounds_toArray, List.set_cons_zero, List.set_cons_succ]
          refine wpAnyH_done (by kernel_rfl) ?_ _
          refine NoPanic.normal ?_
          have HC5 : Hid (Has w5 b 33 #[.int .i64 dO, kS p, kS q, kS text, .int .i64 long, .int .i64 time, .slice pA ks.length pc]) := L5.out.getH (by simp)
          have y1 := HC5.out.at_ 1
          clear hrc
          go_wp2_with fail
          have CPA := hid (Rf.rparent_any (ba p) w5 (by rw [ba_size]; exact HLP.out))
          rw [tl_ba] at CPA
          refine CPA.out.mono ?_; rintro e6 w6 ⟨rfl, hb6⟩
          have L6 := hid (L5.out.on hb6)
          have HC6 : Hid (Has w6 b 33 #[.int .i64 dO, kS p, kS q, kS text, .int .i64 long, .int .i64 time, .slice pA ks.length pc]) := L6.out.getH (by simp)
          obtain ⟨up, HUP⟩ : ∃ up, Hid ((findV p).1 = up) := ⟨_, rfl⟩
          rw [HUP.out] at HLU
          rw [HUP.out]
          clear hb6 y1 CPA
          have y1 := HC6.out.at_ 1
          go_wp2_with fail
          refine (looksL L6.out HG.out (p := pd) (q := rd) (M := M2) (by simp) (by simp) p HLP.out).mono ?_; rintro e7 w7 ⟨rfl, hl7⟩
          have L7 := hid hl7
          have HC7 : Hid (Has w7 b 33 #[.int .i64 dO, kS p, kS q, kS text, .int .i64 long, .int .i64 time, .slice pA ks.length pc]) := L7.out.getH (by simp)
          clear hl7 y1 L6
          have y2 := HC7.out.at_ 2
          go_wp2_with fail
          refine (looksL L7.out HG.out (p := pd) (q := rd) (M := M2) (by simp) (by simp) q HLQ.out).mono ?_; rintro e8 w8 ⟨rfl, hl8⟩
          have L8 := hid hl8
          clear hl8 y2 L7
          go_wp2_with fail
          refine (looksL L8.out HG.out (p := pd) (q := rd) (M := M2) (by simp) (by simp) up HLU.out).mono ?_; rintro e9 w9 ⟨rfl, hl9⟩
          have L9 := hid hl9
          clear hl9 L8
          go_wp2_with fail
          refine (looksL L9.out HG.out (p := pd) (q := rd) (M := M2) (by simp) (by simp) [] (by simp)).mono ?_; rintro e10 w10 ⟨rfl, hl10⟩
          have L10 := hid hl10
          clear hl10 L9
          go_wp2_with fail
          refine (alikeL L10.out HG.out (p := pd) (q := rd) (M := M2) (by simp) (by simp)).mono ?_; rintro e11 w11 ⟨rfl, hl11⟩
          have L11 := hid hl11.rot.drop
          clear hl11 L10
          go_wp2
          go_roundw
          case rel => exact ⟨k + 1, by go_num, by omega, by show Lv _ _ _; rw [← HN2.out]; exact L11.out⟩
          case measure => simp [intOf]; omega
        · go_wp2_with fail
          refine (awake_any _ (J1.out.gd HG.out)).mono ?_; rintro e5 w5 ⟨rfl, hb5⟩
          have B5 : Hid (Below w.heap.size w w5) := J1.out.bl.trans (hb5.mono J1.out.bl.size)
          clear hb5
          go_wp2
          go_ret
          exact ⟨rfl, B5.out⟩
end Go.Proofs.YtlbeemlnbpchgaaGreat
/- The law DiskPlays, proved: whatever room, and whatever is done to a disk, each answer is the document's, and what is told of the paths, of their parents and of the root; so is the tree, behind each act. No conditions beyond the row's. -/
namespace Go.Proofs.YtlbeemlnbpchgaaGreat
open Go.ChangeShapes Go.WideShapes Go.ChangeAt Go.ChangeMaps Go.WideElems Go.RowKit Go.Deep
set_option maxRecDepth 100000 in
theorem dplays_lifted (os : Os) (started : os.Started) (H : Type) (enc : TypeId × Value → H) :
    ReturnsInHanded {} Tryz.checked os 3 .any (Rows.diskPlaysSpec.pre6 enc Tryz.prog Tryz.f3 [] false) (Rows.diskPlaysSpec.post enc Tryz.prog Tryz.f3 false true false false) := by
  refine returnsInHanded_of_change_shaped (C := Tryz.checked) ownK started (by kernel_rfl) Tryz.func3
    (ChangeSpec.witness6 (enc := enc) (C := Tryz.checked) false ⟨#[], #[.int .i64 0, .slice none 0 0], []⟩ 40 (by kernel_rfl) (by kernel_rfl) (by kernel_rfl) (by kernel_rfl)) ?_
  intro W base args ds gs before hval0 hW _ hreach hsh _
  have hval : ∀ (j : Nat) t v, Tryz.f3.params[j]? = some t → args[j]? = some v → Value.okWide Tryz.prog W .any base t v := hval0
  have hW' := hW
  obtain ⟨p, q, hA0, hV, rfl, hfz, hnd⟩ := hW
  have hA : DataW.TrodAll enc Tryz.prog W 0 (fun _ => true) true Tryz.f3.params.toList args.toList ds p := hA0
  rw [Tryz.params3] at hA hval
  obtain ⟨v0, v1, d0, d1, p0, p1, rfl, rfl, rfl, h0, h1⟩ := trodAll_two hA
  obtain ⟨rfl, rfl⟩ := trodVars_none hV
  obtain ⟨i0, rfl, hd0, hp0, hm0⟩ := open_int Tryz.underlying3 (hval 0 3 v0 rfl rfl) h0
  obtain ⟨A1, n1, cap1, bb1, off1, xs1, rfl, hI1, hn1⟩ := open_acts (hval 1 22 v1 rfl rfl) h1 (fun z hz => of_decide_eq_true (List.all_eq_true.1 hreach z (DataW.weights_mem_each (j := 1) (t := 22) (d := d1) (by rw [Tryz.params3]; rfl) (by rfl) z hz)))
  have hlt : ∀ x ∈ (p0 ++ p1) ++ [], x.block < W.heap.size := fun x hx => hW'.lt x hx
  refine (plays_any i0 W hI1 (Gd.shaped hsh) hn1).mono fun e W' ⟨he, hb⟩ => ?_
  subst he
  refine ⟨_, rfl, post_law (pa := p0 ++ p1) rfl rfl hW' rfl hb ?_⟩
  rw [Tryz.params3]
  exact trodAll_mk2 (Below.trod laidOut (by kernel_rfl) (of_decide_eq_true (by kernel_rfl)) h0 hb (fun x hx => hlt x (by simp [hx]))) (Below.trod laidOut (by kernel_rfl) (of_decide_eq_true (by kernel_rfl)) h1 hb (fun x hx => hlt x (by simp [hx])))
/-- THE STATEMENT. -/
theorem dplays_holds : Rows.DiskPlaysSaid :=
  OpenClaim.holds_of_wide 3 Tryz.f3 rfl rfl rfl rfl rfl rfl rfl ⟨rfl, rfl, rfl, rfl, rfl⟩ rfl rfl rfl rfl rfl (by kernel_rfl) Tryz.func3 (by kernel_rfl)
    (of_decide_eq_true (by kernel_rfl)) (by unfold Func.isWrapper; first | (rw [if_pos (by decide +kernel)]; kernel_rfl) | (rw [if_neg (by decide +kernel)]; exact ⟨rfl, rfl⟩))
    (fun os started H enc _ => dplays_lifted os started H enc)
#print axioms dplays_holds
end Go.Proofs.YtlbeemlnbpchgaaGreat
