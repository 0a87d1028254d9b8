/- The walk of DiskLasts. Conditions: acts whose numbers fit. -/
import Derived.Test.YtlbeemlnbpchgaaGreatXJ
namespace Go.Proofs.YtlbeemlnbpchgaaGreat
open Go.RowKit Go.Maps
theorem AllD.perm {w : World} {ds ds' : List (Nat × Mo)} (hp : ds.Perm ds') : ∀ {T : Nat → Prop}, AllD w T ds → AllD w T ds' := by
  induction hp with
  | nil => exact fun h => h
  | cons x _ ih => exact fun ⟨own, h1, h2, h3⟩ => ⟨own, h1, h2, ih h3⟩
  | swap x y l => exact fun ⟨own, h1, h2, own', h3, h4, h5⟩ => ⟨own', h3, fun g hg => (h4 g hg).1, own, h1, fun g hg => ⟨h2 g hg, fun e => (h4 g e).2 hg⟩, h5.mono fun g _ k => ⟨⟨k.1.1, k.2⟩, k.1.2⟩⟩
  | trans _ _ ih1 ih2 => exact fun h => ih2 (ih1 h)
theorem Lv.perm {w0 w : World} {ds ds' : List (Nat × Mo)} (h : Lv w0 w ds) (hp : ds.Perm ds') : Lv w0 w ds' := ⟨h.bl, h.all.perm hp⟩
theorem eSync {w0 w : World} {q : Nat} {M : Mo} {ds : List (Nat × Mo)} (h : Lv w0 w ((q, M) :: ds)) {c : Int} {K : Mo} (he : syncM M = (c, K)) : Calls Tryz.prog 29 #[.pointer (some ⟨q, 0, none⟩)] w fun e w' => DoneP w0 q ds c K e w' := by
  have := lSync h
  rw [he] at this
  exact this
theorem eCrash {w0 w : World} {q : Nat} {M K : Mo} {ds : List (Nat × Mo)} (h : Lv w0 w ((q, M) :: ds)) (hG : Gd w0) (A : Option Addr) (ks : List UInt8) (n cp g off : Nat) (hn : ks.length = n) (hk : Pk w A ks g off) (hpk : 0 < ks.length → g < w0.heap.size) (hkl : ks.length ≤ maxLen) (he : crashM M (nats ks) = K) :
    Calls Tryz.prog 18 #[.pointer (some ⟨q, 0, none⟩), .slice A n cp] w fun e w' => DoneP w0 q ds 0 K e w' := by
  subst he; subst hn
  exact lCrash h hG A ks cp g off hk hpk (by unfold maxLen at hkl; omega)
theorem Pk.none (w : World) : Pk w none [] 0 0 := ⟨fun k => absurd k (by simp), fun i k => absurd k (by simp), fun k => absurd k (by simp)⟩
/-- A crash of picks that lie in a block that came later. -/
theorem eCrash2 {w0 w w2 : World} {q : Nat} {M K : Mo} {ds : List (Nat × Mo)} (h : Lv w0 w ((q, M) :: ds)) (hb : Below w.heap.size w w2) (hG : Gd w0) (A : Option Addr) (ks : List UInt8) (n cp g off : Nat) (hn : ks.length = n) (hk : Pk w2 A ks g off) (hpk : 0 < ks.length → w.heap.size ≤ g) (hkl : ks.length ≤ maxLen) (he : crashM M (nats ks) = K) :
    Calls Tryz.prog 18 #[.pointer (some ⟨q, 0, none⟩), .slice A n cp] w2 fun e w' => DoneP w0 q ds 0 K e w' := by
  subst he; subst hn
  obtain ⟨own, h1, h3, h2⟩ := h.step
  have hp := hG.pos
  refine (dCrash_any (h1.on hb) ((h.gd hG).kept hb) (fun g hg => by have := h3 g hg; omega) A ks cp g off hk (fun k e => by have := hpk k; have := h1.low g e; omega) (by unfold maxLen at hkl; omega)).mono ?_
  rintro e w' ⟨rfl, k⟩
  exact ⟨rfl, h2 _ _ (DPost.ahead hb k)⟩
/-- Which acts are done behind Sync. -/
def effB (x : ActT) : Bool := decide (1 ≤ doK x) && decide (doK x ≤ 6)
def moreM (M : Mo) (xs : List ActT) : Mo := xs.foldl (fun M x => if effB x then (actM M x).2 else M) M
theorem moreM_snoc (M : Mo) (xs : List ActT) (x : ActT) : moreM M (xs ++ [x]) = if effB x then (actM (moreM M xs) x).2 else moreM M xs := by simp [moreM, List.foldl_append]
theorem eff_some {x : ActT} (h : effB x = true) : ∃ y, effOf x = some y := by
  unfold effB at h
  simp only [Bool.and_eq_true, decide_eq_true_eq] at h
  have : doK x = 1 ∨ doK x = 2 ∨ doK x = 3 ∨ doK x = 4 ∨ doK x = 5 ∨ doK x = 6 := by omega
  rcases this with k | k | k | k | k | k
  · exact ⟨_, eff_1 k⟩
  · exact ⟨_, eff_2 k⟩
  · exact ⟨_, eff_3 k⟩
  · exact ⟨_, eff_4 k⟩
  · exact ⟨_, eff_5 k⟩
  · exact ⟨_, eff_6 k⟩
theorem last_do (M : Mo) (y : Eff) : (doM M y).2.last = M.last := by unfold doM; split; rfl; split <;> rfl
theorem more_facts (M : Mo) (h : Good M) (xs : List ActT) : (moreM M xs).last = M.last ∧ (moreM M xs).since.length ≤ M.since.length + xs.length ∧ Good (moreM M xs) := by
  induction xs generalizing M with
  | nil => exact ⟨rfl, Nat.le_refl _, h⟩
  | cons x xs ih =>
    show (moreM (if effB x then (actM M x).2 else M) xs).last = M.last ∧ (moreM (if effB x then (actM M x).2 else M) xs).since.length ≤ M.since.length + (x :: xs).length ∧ Good (moreM (if effB x then (actM M x).2 else M) xs)
    rw [List.length_cons]
    cases he : effB x with
    | false =>
      obtain ⟨h1, h2, h3⟩ := ih M h
      exact ⟨h1, by simp only [Bool.false_eq_true, if_false]; omega, h3⟩
    | true =>
      obtain ⟨y, hy⟩ := eff_some he
      simp only [if_true]
      rw [act_eff M x y hy]
      obtain ⟨h1, h2, h3⟩ := ih (doM M y).2 (h.do y)
      have := since_do M y
      exact ⟨h1.trans (last_do M y), by omega, h3⟩
theorem crash_back {M : Mo} (h : Good M) (ks : List UInt8) (hk : ks = List.replicate M.since.length 1) : (crashM M (nats ks)).now = M.now := by
  subst hk
  show crashL M.room M.last M.since (nats (List.replicate M.since.length 1)) = M.now
  have : nats (List.replicate M.since.length 1) = List.replicate M.since.length 1 := by simp [nats]
  rw [this, crash_ones, h.re]
set_option maxRecDepth 100000 in
set_option maxHeartbeats 16000000 in
theorem lasts_any {A0 A1 A2 : Option Addr} {n0' n1' cap0 cap1 cap2 bb0 bb1 off0 off1 g2 off2 : Nat} {xs0 xs1 : List ActT} {ks : List UInt8} (w : World) (hI0 : ActsIn w A0 n0' bb0 off0 xs0) (hI1 : ActsIn w A1 n1' bb1 off1 xs1) (hP : Pk w A2 ks g2 off2) (hG : Gd w) (hn0 : n0' ≤ maxLen) (hn1 : n1' ≤ maxLen) (hkl : ks.length ≤ maxLen) :
    Calls Tryz.prog 6 #[.slice A0 n0' cap0, .slice A1 n1' cap1, .slice A2 ks.length cap2] w fun e w' => e = .returned (.bool true) ∧ Below w.heap.size w w' := by
  have HG := hid hG
  obtain ⟨nk, HNK⟩ : ∃ nk, Hid (ks.length = nk) := ⟨_, rfl⟩
  rw [HNK.out]
  have CL0 := hid (large_any (cap := cap0) 40 (by omega) w hI0 hn0)
  have CL1 : Hid (∀ W, Below w.heap.size w W → Calls Tryz.prog 8 #[.slice A1 n1' cap1, .int .i64 40] W fun e w' => e = .returned (.bool (largeB xs1 40)) ∧ Below W.heap.size W w') := fun W hb => large_any (cap := cap1) 40 (by omega) W (hI1.on hb) hn1
  cases hb0 : largeB xs0 40 with
  | true =>
    rw [hb0] at CL0
    clear hI0 hI1 hP hG hn0 hn1 hkl hb0
    go_enter Tryz.func6, Tryz.ntmps6
    go_wp2_with fail
    refine CL0.out.mono ?_; rintro e1 w1 ⟨rfl, hb1⟩
    have B1 := hid hb1
    clear hb1
    go_wp2_with fail
    refine (awake_any _ (HG.out.kept B1.out)).mono ?_; rintro e2 w2 ⟨rfl, hb2⟩
    have B2 : Hid (Below w.heap.size w w2) := B1.out.trans (hb2.mono B1.out.size)
    clear hb2
    go_wp2
    go_ret
    exact ⟨rfl, B2.out⟩
  | false =>
    rw [hb0] at CL0
    cases hb1' : largeB xs1 40 with
    | true =>
      rw [hb1'] at CL1
      clear hI0 hI1 hP hG hn0 hn1 hkl hb0 hb1'
      go_enter Tryz.func6, Tryz.ntmps6
      go_wp2_with fail
      refine CL0.out.mono ?_; rintro e1 w1 ⟨rfl, hb1⟩
      have B1 := hid hb1
      clear hb1
      go_wp2_with fail
      refine (CL1.out _ B1.out).mono ?_; rintro e2 w2 ⟨rfl, hb2⟩
      have B2 : Hid (Below w.heap.size w w2) := B1.out.trans (hb2.mono B1.out.size)
      clear hb2
      go_wp2_with fail
      refine (awake_any _ (HG.out.kept B2.out)).mono ?_; rintro e3 w3 ⟨rfl, hb3⟩
      have B3 : Hid (Below w.heap.size w w3) := B2.out.trans (hb3.mono B2.out.size)
      clear hb3
      go_wp2
      go_ret
      exact ⟨rfl, B3.out⟩
    | false =>
      rw [hb1'] at CL1
      obtain ⟨hl1, hl2⟩ := large_false hb0
      obtain ⟨hl3, hl4⟩ := large_false hb1'
      have hn0s : n0' ≤ 1000 := by have := hI0.len; omega
      have hn1s : n1' ≤ 40 := by have := hI1.len; omega
      have HL3 : Hid (xs1.length ≤ 40) := hl3
      have CP : Hid (∀ W, Below w.heap.size w W → Calls Tryz.prog 39 #[.slice A0 n0' cap0] W fun e w' => PlayP W (playM (newM 16384) xs0) e w') := fun W hb => play_any W (hI0.on hb) (hG.kept hb) hn0s hl2
      obtain ⟨M, HM⟩ : ∃ M, Hid (playM (newM 16384) xs0 = M) := ⟨_, rfl⟩
      rw [HM.out] at CP
      have HI1 := hid hI1
      have HLEN1 := hid hI1.len
      have HSM1 := hid hl4
      have HP := hid hP
      have HKL := hid hkl
      have HPL : Hid (0 < ks.length → g2 < w.heap.size) := fun k => hP.inside k
      by_cases hf : M.fuse = 0
      · have HF : Hid ((M.fuse == 0) = true) := by show _ = _; simpa using hf
        obtain ⟨M1, HM1⟩ : ∃ K, Hid (crashM M (nats []) = K) := ⟨_, rfl⟩
        have HF1 : Hid (M1.fuse ≠ 0) := by rw [← HM1.out]; show (-1 : Int) ≠ 0; omega
        clear hI0 hI1 hP hG hn0 hn1 hkl hb0 hb1' hl1 hl2 hl3 hl4 hn0s hf
        go_enter Tryz.func6, Tryz.ntmps6
        go_wp2_with fail
        refine CL0.out.mono ?_; rintro e1 w1 ⟨rfl, hb1⟩
        have B1 := hid hb1
        clear hb1
        go_wp2_with fail
        refine (CL1.out _ B1.out).mono ?_; rintro e2 w2 ⟨rfl, hb2⟩
        have B2 : Hid (Below w.heap.size w w2) := B1.out.trans (hb2.mono B1.out.size)
        clear hb2
        go_wp2_with fail
        refine (CP.out _ B2.out).mono ?_; rintro e3 w3 ⟨p, rfl, hl3⟩
        have L3 := hid (hl3.ahead B2.out)
        clear hl3
        go_wp2_with fail
        refine (lOff L3.out).mono ?_; rintro e4 w4' ⟨rfl, rfl⟩
        rw [HF.out]
        go_wp2_with fail
        refine (eCrash L3.out HG.out none [] 0 0 0 0 rfl (Pk.none _) (fun k => absurd k (by simp)) (by simp) HM1.out).mono ?_; rintro e4' w4 ⟨rfl, hl4⟩
        have L4 := hid hl4
        clear hl4 L3
        obtain ⟨M2, HM2⟩ : ∃ K, Hid (syncM M1 = (0, K)) := ⟨_, by show _ = _; unfold syncM; rw [if_neg HF1.out]⟩
        have HS2 : Hid (M2.since.length = 0) := by
          have := HM2.out
          unfold syncM at this; rw [if_neg HF1.out] at this; injection this with _ this; show _ = _; rw [← this]; rfl
        have HN2 : Hid (M2.last = M2.now) := by
          have := HM2.out
          unfold syncM at this; rw [if_neg HF1.out] at this; injection this with _ this; show _ = _; rw [← this]
        go_wp2_with fail
        refine (eSync L4.out HM2.out).mono ?_; rintro e5 w5 ⟨rfl, hl5⟩
        have L5 := hid hl5
        clear hl5 L4
        go_wp2_with fail
        refine (lPending L5.out).mono ?_; rintro e6 w6' ⟨rfl, rfl⟩
        rw [HS2.out]
        go_wp2_with fail
        refine (lCopy L5.out).mono ?_; rintro e6 w6 ⟨q, rfl, hl6⟩
        have L6 := hid hl6.swap
        clear hl6 L5
        obtain ⟨M3, HM3⟩ : ∃ K, Hid (crashM M2 (nats ks) = K) := ⟨_, rfl⟩
        have HN3 : Hid (M3.now = M2.now ∧ M3.last = M2.now ∧ M3.since.length = 0) := by
          have h0 : M2.since = [] := List.length_eq_zero_iff.1 HS2.out
          rw [← HM3.out]
          refine ⟨?_, ?_, rfl⟩
          · show crashL M2.room M2.last M2.since (nats ks) = _; rw [h0, HN2.out]; rfl
          · show crashL M2.room M2.last M2.since (nats ks) = _; rw [h0, HN2.out]; rfl
        go_wp2_with fail
        refine (eCrash L6.out HG.out A2 ks nk cap2 g2 off2 HNK.out (HP.out.on L6.out.bl) HPL.out HKL.out HM3.out).mono ?_; rintro e7 w7 ⟨rfl, hl7⟩
        have L7 := hid hl7
        clear hl7 L6
        obtain ⟨own1, d1⟩ := L7.out.get (q := p) (M := M3) (by simp)
        obtain ⟨own2, d2⟩ := L7.out.get (q := q) (M := M2) (by simp)
        have CS := hid (same_any d1 d2 (L7.out.gd HG.out) HN3.out.1)
        clear d1 d2
        go_wp2_with fail
        refine CS.out.mono ?_; rintro e8 w8 ⟨rfl, hb8⟩
        have L8 := hid (L7.out.on hb8)
        have G3 : Hid (Good M3) := L8.out.good
        clear hb8 L7 CS
        go_wp2
        go_loopw [9] (fun v9 wr => ∃ k : Nat, v9 = .int .i64 (k : Int) ∧ k ≤ n1' ∧ Hid (Lv w wr [(p, moreM M3 (xs1.take k)), (q, M2)])) (fun v9 _ => n1' - (intOf v9).toNat)
        case atStart => exact ⟨0, rfl, by omega, by show Lv _ _ _; rw [List.take_zero]; exact L8.out⟩
        case round =>
          obtain ⟨k, rfl, hk, J1⟩ := hrel
          by_cases hlt : k < n1'
          · have hA := (HI1.out.src (by omega)).1
            subst hA
            have hkl1 : k < xs1.length := by rw [HLEN1.out]; exact hlt
            have hmem := getD_mem hkl1
            have hX := (HI1.out.at_ k hlt).on J1.out.bl
            have HX := hid hX
            have hmf := more_facts M3 G3.out (xs1.take k)
            have hlen : (moreM M3 (xs1.take k)).since.length + 1 ≤ 100000 := by
              have h1 := hmf.2.1
              have h2 := HN3.out.2.2
              rw [List.length_take] at h1; omega
            have C2 := hid (lDo J1.out HG.out (xs1.getD k act0) (HI1.out.ok _ hmem) (HSM1.out _ hmem) hX.pk (HI1.out.low _ hmem) hlen)
            have HN : Hid (moreM M3 (xs1.take (k + 1)) = if effB (xs1.getD k act0) then (actM (moreM M3 (xs1.take k)) (xs1.getD k act0)).2 else moreM M3 (xs1.take k)) := by
              show _ = _
              rw [List.take_succ_eq_append_getElem hkl1, moreM_snoc, List.getD, List.getElem?_eq_getElem hkl1]; rfl
            obtain ⟨x, hx⟩ : ∃ x, x = xs1.getD k act0 := ⟨_, rfl⟩
            rw [← hx] at HX C2 HN
            obtain ⟨d, hd⟩ : ∃ d, doK x = d := ⟨_, rfl⟩
            have HE : Hid (effB x = (decide (1 ≤ d) && decide (d ≤ 6))) := by show _ = _; unfold effB; rw [hd]
            replace hd : bits BinOp.and IntKind.i64 x.dO 15 = d := hd
            have c0 := HX.out.c0
            have hlt' : (k : Int) < (n1' : Int) := by omega
            have h0 : (0 : Int) ≤ (k : Int) := by omega
            have w1 : IntKind.i64.wrap ((k : Int) + 1) = (k : Int) + 1 := i64in _ (by omega) (by omega)
            clear hX hmem hlen hx hkl1 hmf
            by_cases d1 : 1 ≤ d
            · by_cases d2 : d ≤ 6
              · have HE1 : Hid (effB x = true) := by show _ = _; rw [HE.out, decide_eq_true d1, decide_eq_true d2]; rfl
                go_wp2_with (refine wpList_load_g (by rfl) 33 (.tmp 71) rfl bb1 (off1 + k * 7) rfl (actCells x) HX.out.load ?_)
                refine C2.out.mono ?_; rintro e9 w9 ⟨rfl, hl9⟩
                have L9 := hid hl9
                clear hl9
                go_wp2
                go_roundw
                case rel => exact ⟨k + 1, by go_num, by omega, by show Lv _ _ _; rw [HN.out, HE1.out]; exact L9.out⟩
                case measure => simp [intOf]; omega
              · have HE1 : Hid (effB x = false) := by show _ = _; rw [HE.out, decide_eq_false d2]; simp
                go_wp2
                go_roundw
                case rel => exact ⟨k + 1, by go_num, by omega, by show Lv _ _ _; rw [HN.out, HE1.out]; exact J1.out⟩
                case measure => simp [intOf]; omega
            · have HE1 : Hid (effB x = false) := by show _ = _; rw [HE.out, decide_eq_false d1]; rfl
              go_wp2
              go_roundw
              case rel => exact ⟨k + 1, by go_num, by omega, by show Lv _ _ _; rw [HN.out, HE1.out]; exact J1.out⟩
              case measure => simp [intOf]; omega
          · have hkn : k = n1' := by omega
            subst hkn
            obtain ⟨M4, HM4⟩ : ∃ K, Hid (moreM M3 (xs1.take k) = K) := ⟨_, rfl⟩
            have hmf := more_facts M3 G3.out (xs1.take k)
            rw [HM4.out] at J1 hmf
            have HL4 : Hid (M4.last = M2.now) := hmf.1.trans HN3.out.2.1
            have HG4 : Hid (Good M4) := hmf.2.2
            obtain ⟨m, HMM⟩ : ∃ m, Hid (M4.since.length = m) := ⟨_, rfl⟩
            have hm : m ≤ 40 := by have h1 := hmf.2.1; have h2 := HN3.out.2.2; have h3 := HMM.out; rw [List.length_take] at h1; omega
            clear hmf
            go_wp2_with fail
            refine (lCopy J1.out).mono ?_; rintro e9 w9 ⟨q4, rfl, hl9⟩
            have L9 := hid hl9.swap
            clear hl9
            go_wp2_with fail
            refine (lCopy L9.out).mono ?_; rintro e10 w10 ⟨q5, rfl, hl10⟩
            have LA : Hid (Lv w w10 [(p, M4), (q4, M4), (q5, M4), (q, M2)]) := hl10.perm (((List.Perm.swap _ _ _).trans ((List.Perm.swap _ _ _).cons _)))
            clear hl10 L9
            go_wp2
            go_loopw [13, 14] (fun v13 v14 wr => ∃ j : Nat, v14 = .int .i64 (j : Int) ∧ j ≤ m ∧ Hid (Fresh w10.heap.size wr v13 (List.replicate j 1)) ∧ Hid (Below w10.heap.size w10 wr)) (fun _ v14 _ => m - (intOf v14).toNat)
            case atStart => exact ⟨0, rfl, by omega, fresh_nil _ _, Below.refl _ _⟩
            case round =>
              obtain ⟨j, rfl, hj, K1, K2⟩ := hrel
              have CPD : Hid (Calls Tryz.prog 28 #[.pointer (some ⟨p, 0, none⟩)] wr fun e w' => e = .returned (.int .i64 (m : Int)) ∧ wr = w') := by
                have := lPending (LA.out.on K2.out)
                rw [HMM.out] at this; exact this
              by_cases hjm : j < m
              · obtain ⟨v5, w5', hr5, hf5, hb5⟩ := append_byte wr w10.heap.size u13 (List.replicate j 1) K1.out (by rw [List.length_replicate]; omega) K2.out.size 1
                rw [← List.replicate_succ'] at hf5
                have R5 : Hid ((Builtin.append_ #[31, 31] 31 #[u13, .slice (some ⟨wr.heap.size, 0, none⟩) 1 1]).run Tryz.prog (wr.alloc (.cells #[.int .u8 1] 5)) = .ok v5 w5') := hr5
                have F5 := hid hf5
                have B5 := hid hb5
                have hjm' : (j : Int) < (m : Int) := by omega
                have w1 : IntKind.i64.wrap ((j : Int) + 1) = (j : Int) + 1 := i64in _ (by omega) (by omega)
                clear hr5 hf5 hb5
                go_wp2_with fail
                refine CPD.out.mono ?_; rintro e11 w11 ⟨rfl, rfl⟩
                go_wp2_with (at_builtin; refine wpList_append_run rfl (.tmp 84) (.tmp 85) 31 31 rfl ⟨_, _, R5.out, ?_⟩)
                go_roundw
                case rel => exact ⟨j + 1, by go_num, by omega, F5.out, K2.out.trans B5.out⟩
                case measure => simp [intOf]; omega
              · have hjn : j = m := by omega
                subst hjn
                obtain ⟨Ao, co, bo, hyo, hbo, _⟩ := own_bytes rfl (Nat.lt_of_lt_of_le (LA.out.gd HG.out).pos K2.out.size) K1.out
                have hfo := hyo.form
                rw [List.length_replicate] at hfo
                subst hfo
                have hPO : Pk wr Ao (List.replicate j 1) bo 0 := ⟨fun k0 => hyo.src k0, fun i hi => by
                  have h1 := hyo.at_ _ (hyo.src (by omega)) i hi
                  rw [add_at] at h1; exact h1, fun _ => hyo.blk⟩
                have HPO := hid hPO
                have HBO : Hid (0 < (List.replicate j (1 : UInt8)).length → w10.heap.size ≤ bo) := hbo
                obtain ⟨M6, HM6⟩ : ∃ K, Hid (crashM M4 (nats (List.replicate j 1)) = K) := ⟨_, rfl⟩
                have HN6 : Hid (M6.now = M4.now) := by rw [← HM6.out]; exact crash_back HG4.out _ (by rw [HMM.out])
                have HS6 : Hid (M6.since.length = 0) := by rw [← HM6.out]; rfl
                obtain ⟨M7, HM7⟩ : ∃ K, Hid (crashM M4 (nats []) = K) := ⟨_, rfl⟩
                have HN7 : Hid (M7.now = M2.now) := by
                  rw [← HM7.out]
                  show crashL M4.room M4.last M4.since [] = _
                  rw [crash_none, HL4.out]
                have LB : Hid (Lv w w10 [(q4, M4), (p, M4), (q5, M4), (q, M2)]) := LA.out.swap
                have hjs : (j : Int) ≤ (j : Int) := Int.le_refl _
                clear hyo hPO hbo
                go_wp2_with fail
                refine CPD.out.mono ?_; rintro e11 w11 ⟨rfl, rfl⟩
                go_wp2_with fail
                refine (eCrash2 LB.out K2.out HG.out Ao (List.replicate j 1) j co bo 0 (List.length_replicate ..) HPO.out HBO.out (by rw [List.length_replicate]; unfold maxLen; omega) HM6.out).mono ?_; rintro e12 w12 ⟨rfl, hl12⟩
                have LC : Hid (Lv w w12 [(q5, M4), (q4, M6), (p, M4), (q, M2)]) := hl12.perm (((List.Perm.swap _ _ _).cons _).trans (List.Perm.swap _ _ _))
                clear hl12
                go_wp2_with fail
                refine (eCrash LC.out HG.out none [] 0 0 0 0 rfl (Pk.none _) (fun k => absurd k (by simp)) (by simp) HM7.out).mono ?_; rintro e13 w13 ⟨rfl, hl13⟩
                have LD := hid hl13
                clear hl13
                obtain ⟨own4, d4⟩ := LD.out.get (q := q4) (M := M6) (by simp)
                obtain ⟨ownp, dp⟩ := LD.out.get (q := p) (M := M4) (by simp)
                have CS1 := hid (same_any d4 dp (LD.out.gd HG.out) HN6.out)
                clear d4 dp
                go_wp2_with fail
                refine CS1.out.mono ?_; rintro e14 w14 ⟨rfl, hb14⟩
                have LE := hid (LD.out.on hb14)
                clear hb14
                obtain ⟨own5, d5⟩ := LE.out.get (q := q5) (M := M7) (by simp)
                obtain ⟨ownq, dq⟩ := LE.out.get (q := q) (M := M2) (by simp)
                have CS2 := hid (same_any d5 dq (LE.out.gd HG.out) HN7.out)
                clear d5 dq
                go_wp2_with fail
                refine CS2.out.mono ?_; rintro e15 w15 ⟨rfl, hb15⟩
                have LF := hid ((LE.out.on hb15).swap)
                clear hb15
                go_wp2_with fail
                refine (lPending LF.out).mono ?_; rintro e16 w16 ⟨rfl, rfl⟩
                rw [HS6.out]
                go_wp2_with fail
                refine (awake_any _ (LF.out.gd HG.out)).mono ?_; rintro e17 w17 ⟨rfl, hb17⟩
                have BF := hid (LF.out.bl.trans (hb17.mono LF.out.bl.size))
                clear hb17
                go_wp2
                go_ret
                exact ⟨rfl, BF.out⟩
      · have HF : Hid ((M.fuse == 0) = false) := by show _ = _; simpa using hf
        obtain ⟨M1, HM1⟩ : ∃ K, Hid (M = K) := ⟨_, rfl⟩
        have HF1 : Hid (M1.fuse ≠ 0) := by rw [← HM1.out]; exact hf
        clear hI0 hI1 hP hG hn0 hn1 hkl hb0 hb1' hl1 hl2 hl3 hl4 hn0s hf
        go_enter Tryz.func6, Tryz.ntmps6
        go_wp2_with fail
        refine CL0.out.mono ?_; rintro e1 w1 ⟨rfl, hb1⟩
        have B1 := hid hb1
        clear hb1
        go_wp2_with fail
        refine (CL1.out _ B1.out).mono ?_; rintro e2 w2 ⟨rfl, hb2⟩
        have B2 : Hid (Below w.heap.size w w2) := B1.out.trans (hb2.mono B1.out.size)
        clear hb2
        go_wp2_with fail
        refine (CP.out _ B2.out).mono ?_; rintro e3 w3 ⟨p, rfl, hl3⟩
        have L3 := hid (hl3.ahead B2.out)
        clear hl3
        go_wp2_with fail
        refine (lOff L3.out).mono ?_; rintro e4 w4' ⟨rfl, rfl⟩
        rw [HF.out]
        have L4 : Hid (Lv w w3 [(p, M1)]) := by rw [← HM1.out]; exact L3.out
        clear L3
        obtain ⟨M2, HM2⟩ : ∃ K, Hid (syncM M1 = (0, K)) := ⟨_, by show _ = _; unfold syncM; rw [if_neg HF1.out]⟩
        have HS2 : Hid (M2.since.length = 0) := by
          have := HM2.out
          unfold syncM at this; rw [if_neg HF1.out] at this; injection this with _ this; show _ = _; rw [← this]; rfl
        have HN2 : Hid (M2.last = M2.now) := by
          have := HM2.out
          unfold syncM at this; rw [if_neg HF1.out] at this; injection this with _ this; show _ = _; rw [← this]
        go_wp2_with fail
        refine (eSync L4.out HM2.out).mono ?_; rintro e5 w5 ⟨rfl, hl5⟩
        have L5 := hid hl5
        clear hl5 L4
        go_wp2_with fail
        refine (lPending L5.out).mono ?_; rintro e6 w6' ⟨rfl, rfl⟩
        rw [HS2.out]
        go_wp2_with fail
        refine (lCopy L5.out).mono ?_; rintro e6 w6 ⟨q, rfl, hl6⟩
        have L6 := hid hl6.swap
        clear hl6 L5
        obtain ⟨M3, HM3⟩ : ∃ K, Hid (crashM M2 (nats ks) = K) := ⟨_, rfl⟩
        have HN3 : Hid (M3.now = M2.now ∧ M3.last = M2.now ∧ M3.since.length = 0) := by
          have h0 : M2.since = [] := List.length_eq_zero_iff.1 HS2.out
          rw [← HM3.out]
          refine ⟨?_, ?_, rfl⟩
          · show crashL M2.room M2.last M2.since (nats ks) = _; rw [h0, HN2.out]; rfl
          · show crashL M2.room M2.last M2.since (nats ks) = _; rw [h0, HN2.out]; rfl
        go_wp2_with fail
        refine (eCrash L6.out HG.out A2 ks nk cap2 g2 off2 HNK.out (HP.out.on L6.out.bl) HPL.out HKL.out HM3.out).mono ?_; rintro e7 w7 ⟨rfl, hl7⟩
        have L7 := hid hl7
        clear hl7 L6
        obtain ⟨own1, d1⟩ := L7.out.get (q := p) (M := M3) (by simp)
        obtain ⟨own2, d2⟩ := L7.out.get (q := q) (M := M2) (by simp)
        have CS := hid (same_any d1 d2 (L7.out.gd HG.out) HN3.out.1)
        clear d1 d2
        go_wp2_with fail
        refine CS.out.mono ?_; rintro e8 w8 ⟨rfl, hb8⟩
        have L8 := hid (L7.out.on hb8)
        have G3 : Hid (Good M3) := L8.out.good
        clear hb8 L7 CS
        go_wp2
        go_loopw [9] (fun v9 wr => ∃ k : Nat, v9 = .int .i64 (k : Int) ∧ k ≤ n1' ∧ Hid (Lv w wr [(p, moreM M3 (xs1.take k)), (q, M2)])) (fun v9 _ => n1' - (intOf v9).toNat)
        case atStart => exact ⟨0, rfl, by omega, by show Lv _ _ _; rw [List.take_zero]; exact L8.out⟩
        case round =>
          obtain ⟨k, rfl, hk, J1⟩ := hrel
          by_cases hlt : k < n1'
          · have hA := (HI1.out.src (by omega)).1
            subst hA
            have hkl1 : k < xs1.length := by rw [HLEN1.out]; exact hlt
            have hmem := getD_mem hkl1
            have hX := (HI1.out.at_ k hlt).on J1.out.bl
            have HX := hid hX
            have hmf := more_facts M3 G3.out (xs1.take k)
            have hlen : (moreM M3 (xs1.take k)).since.length + 1 ≤ 100000 := by
              have h1 := hmf.2.1
              have h2 := HN3.out.2.2
              rw [List.length_take] at h1; omega
            have C2 := hid (lDo J1.out HG.out (xs1.getD k act0) (HI1.out.ok _ hmem) (HSM1.out _ hmem) hX.pk (HI1.out.low _ hmem) hlen)
            have HN : Hid (moreM M3 (xs1.take (k + 1)) = if effB (xs1.getD k act0) then (actM (moreM M3 (xs1.take k)) (xs1.getD k act0)).2 else moreM M3 (xs1.take k)) := by
              show _ = _
              rw [List.take_succ_eq_append_getElem hkl1, moreM_snoc, List.getD, List.getElem?_eq_getElem hkl1]; rfl
            obtain ⟨x, hx⟩ : ∃ x, x = xs1.getD k act0 := ⟨_, rfl⟩
            rw [← hx] at HX C2 HN
            obtain ⟨d, hd⟩ : ∃ d, doK x = d := ⟨_, rfl⟩
            have HE : Hid (effB x = (decide (1 ≤ d) && decide (d ≤ 6))) := by show _ = _; unfold effB; rw [hd]
            replace hd : bits BinOp.and IntKind.i64 x.dO 15 = d := hd
            have c0 := HX.out.c0
            have hlt' : (k : Int) < (n1' : Int) := by omega
            have h0 : (0 : Int) ≤ (k : Int) := by omega
            have w1 : IntKind.i64.wrap ((k : Int) + 1) = (k : Int) + 1 := i64in _ (by omega) (by omega)
            clear hX hmem hlen hx hkl1 hmf
            by_cases d1 : 1 ≤ d
            · by_cases d2 : d ≤ 6
              · have HE1 : Hid (effB x = true) := by show _ = _; rw [HE.out, decide_eq_true d1, decide_eq_true d2]; rfl
                go_wp2_with (refine wpList_load_g (by rfl) 33 (.tmp 71) rfl bb1 (off1 + k * 7) rfl (actCells x) HX.out.load ?_)
                refine C2.out.mono ?_; rintro e9 w9 ⟨rfl, hl9⟩
                have L9 := hid hl9
                clear hl9
                go_wp2
                go_roundw
                case rel => exact ⟨k + 1, by go_num, by omega, by show Lv _ _ _; rw [HN.out, HE1.out]; exact L9.out⟩
                case measure => simp [intOf]; omega
              · have HE1 : Hid (effB x = false) := by show _ = _; rw [HE.out, decide_eq_false d2]; simp
                go_wp2
                go_roundw
                case rel => exact ⟨k + 1, by go_num, by omega, by show Lv _ _ _; rw [HN.out, HE1.out]; exact J1.out⟩
                case measure => simp [intOf]; omega
            · have HE1 : Hid (effB x = false) := by show _ = _; rw [HE.out, decide_eq_false d1]; rfl
              go_wp2
              go_roundw
              case rel => exact ⟨k + 1, by go_num, by omega, by show Lv _ _ _; rw [HN.out, HE1.out]; exact J1.out⟩
              case measure => simp [intOf]; omega
          · have hkn : k = n1' := by omega
            subst hkn
            obtain ⟨M4, HM4⟩ : ∃ K, Hid (moreM M3 (xs1.take k) = K) := ⟨_, rfl⟩
            have hmf := more_facts M3 G3.out (xs1.take k)
            rw [HM4.out] at J1 hmf
            have HL4 : Hid (M4.last = M2.now) := hmf.1.trans HN3.out.2.1
            have HG4 : Hid (Good M4) := hmf.2.2
            obtain ⟨m, HMM⟩ : ∃ m, Hid (M4.since.length = m) := ⟨_, rfl⟩
            have hm : m ≤ 40 := by have h1 := hmf.2.1; have h2 := HN3.out.2.2; have h3 := HMM.out; rw [List.length_take] at h1; omega
            clear hmf
            go_wp2_with fail
            refine (lCopy J1.out).mono ?_; rintro e9 w9 ⟨q4, rfl, hl9⟩
            have L9 := hid hl9.swap
            clear hl9
            go_wp2_with fail
            refine (lCopy L9.out).mono ?_; rintro e10 w10 ⟨q5, rfl, hl10⟩
            have LA : Hid (Lv w w10 [(p, M4), (q4, M4), (q5, M4), (q, M2)]) := hl10.perm (((List.Perm.swap _ _ _).trans ((List.Perm.swap _ _ _).cons _)))
            clear hl10 L9
            go_wp2
            go_loopw [13, 14] (fun v13 v14 wr => ∃ j : Nat, v14 = .int .i64 (j : Int) ∧ j ≤ m ∧ Hid (Fresh w10.heap.size wr v13 (List.replicate j 1)) ∧ Hid (Below w10.heap.size w10 wr)) (fun _ v14 _ => m - (intOf v14).toNat)
            case atStart => exact ⟨0, rfl, by omega, fresh_nil _ _, Below.refl _ _⟩
            case round =>
              obtain ⟨j, rfl, hj, K1, K2⟩ := hrel
              have CPD : Hid (Calls Tryz.prog 28 #[.pointer (some ⟨p, 0, none⟩)] wr fun e w' => e = .returned (.int .i64 (m : Int)) ∧ wr = w') := by
                have := lPending (LA.out.on K2.out)
                rw [HMM.out] at this; exact this
              by_cases hjm : j < m
              · obtain ⟨v5, w5', hr5, hf5, hb5⟩ := append_byte wr w10.heap.size u13 (List.replicate j 1) K1.out (by rw [List.length_replicate]; omega) K2.out.size 1
                rw [← List.replicate_succ'] at hf5
                have R5 : Hid ((Builtin.append_ #[31, 31] 31 #[u13, .slice (some ⟨wr.heap.size, 0, none⟩) 1 1]).run Tryz.prog (wr.alloc (.cells #[.int .u8 1] 5)) = .ok v5 w5') := hr5
                have F5 := hid hf5
                have B5 := hid hb5
                have hjm' : (j : Int) < (m : Int) := by omega
                have w1 : IntKind.i64.wrap ((j : Int) + 1) = (j : Int) + 1 := i64in _ (by omega) (by omega)
                clear hr5 hf5 hb5
                go_wp2_with fail
                refine CPD.out.mono ?_; rintro e11 w11 ⟨rfl, rfl⟩
                go_wp2_with (at_builtin; refine wpList_append_run rfl (.tmp 84) (.tmp 85) 31 31 rfl ⟨_, _, R5.out, ?_⟩)
                go_roundw
                case rel => exact ⟨j + 1, by go_num, by omega, F5.out, K2.out.trans B5.out⟩
                case measure => simp [intOf]; omega
              · have hjn : j = m := by omega
                subst hjn
                obtain ⟨Ao, co, bo, hyo, hbo, _⟩ := own_bytes rfl (Nat.lt_of_lt_of_le (LA.out.gd HG.out).pos K2.out.size) K1.out
                have hfo := hyo.form
                rw [List.length_replicate] at hfo
                subst hfo
                have hPO : Pk wr Ao (List.replicate j 1) bo 0 := ⟨fun k0 => hyo.src k0, fun i hi => by
                  have h1 := hyo.at_ _ (hyo.src (by omega)) i hi
                  rw [add_at] at h1; exact h1, fun _ => hyo.blk⟩
                have HPO := hid hPO
                have HBO : Hid (0 < (List.replicate j (1 : UInt8)).length → w10.heap.size ≤ bo) := hbo
                obtain ⟨M6, HM6⟩ : ∃ K, Hid (crashM M4 (nats (List.replicate j 1)) = K) := ⟨_, rfl⟩
                have HN6 : Hid (M6.now = M4.now) := by rw [← HM6.out]; exact crash_back HG4.out _ (by rw [HMM.out])
                have HS6 : Hid (M6.since.length = 0) := by rw [← HM6.out]; rfl
                obtain ⟨M7, HM7⟩ : ∃ K, Hid (crashM M4 (nats []) = K) := ⟨_, rfl⟩
                have HN7 : Hid (M7.now = M2.now) := by
                  rw [← HM7.out]
                  show crashL M4.room M4.last M4.since [] = _
                  rw [crash_none, HL4.out]
                have LB : Hid (Lv w w10 [(q4, M4), (p, M4), (q5, M4), (q, M2)]) := LA.out.swap
                have hjs : (j : Int) ≤ (j : Int) := Int.le_refl _
                clear hyo hPO hbo
                go_wp2_with fail
                refine CPD.out.mono ?_; rintro e11 w11 ⟨rfl, rfl⟩
                go_wp2_with fail
                refine (eCrash2 LB.out K2.out HG.out Ao (List.replicate j 1) j co bo 0 (List.length_replicate ..) HPO.out HBO.out (by rw [List.length_replicate]; unfold maxLen; omega) HM6.out).mono ?_; rintro e12 w12 ⟨rfl, hl12⟩
                have LC : Hid (Lv w w12 [(q5, M4), (q4, M6), (p, M4), (q, M2)]) := hl12.perm (((List.Perm.swap _ _ _).cons _).trans (List.Perm.swap _ _ _))
                clear hl12
                go_wp2_with fail
                refine (eCrash LC.out HG.out none [] 0 0 0 0 rfl (Pk.none _) (fun k => absurd k (by simp)) (by simp) HM7.out).mono ?_; rintro e13 w13 ⟨rfl, hl13⟩
                have LD := hid hl13
                clear hl13
                obtain ⟨own4, d4⟩ := LD.out.get (q := q4) (M := M6) (by simp)
                obtain ⟨ownp, dp⟩ := LD.out.get (q := p) (M := M4) (by simp)
                have CS1 := hid (same_any d4 dp (LD.out.gd HG.out) HN6.out)
                clear d4 dp
                go_wp2_with fail
                refine CS1.out.mono ?_; rintro e14 w14 ⟨rfl, hb14⟩
                have LE := hid (LD.out.on hb14)
                clear hb14
                obtain ⟨own5, d5⟩ := LE.out.get (q := q5) (M := M7) (by simp)
                obtain ⟨ownq, dq⟩ := LE.out.get (q := q) (M := M2) (by simp)
                have CS2 := hid (same_any d5 dq (LE.out.gd HG.out) HN7.out)
                clear d5 dq
                go_wp2_with fail
                refine CS2.out.mono ?_; rintro e15 w15 ⟨rfl, hb15⟩
                have LF := hid ((LE.out.on hb15).swap)
                clear hb15
                go_wp2_with fail
                refine (lPending LF.out).mono ?_; rintro e16 w16 ⟨rfl, rfl⟩
                rw [HS6.out]
                go_wp2_with fail
                refine (awake_any _ (LF.out.gd HG.out)).mono ?_; rintro e17 w17 ⟨rfl, hb17⟩
                have BF := hid (LF.out.bl.trans (hb17.mono LF.out.bl.size))
                clear hb17
                go_wp2
                go_ret
                exact ⟨rfl, BF.out⟩
end Go.Proofs.YtlbeemlnbpchgaaGreat
