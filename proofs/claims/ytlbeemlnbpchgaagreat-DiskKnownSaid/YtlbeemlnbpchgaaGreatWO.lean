/- Disk.Crash: as the plain model says. Conditions: as at the disk; at most a billion picks. -/
import Derived.Test.YtlbeemlnbpchgaaGreatWN
namespace Go.Proofs.YtlbeemlnbpchgaaGreat
open Go.RowKit Go.Maps
/-- Picks lie there. -/
structure Pk (w : World) (A : Option Addr) (ks : List UInt8) (g off : Nat) : Prop where
  src : 0 < ks.length → A = some ⟨g, off, none⟩
  at_ : ∀ i, i < ks.length → w.cell? ⟨g, off + i, none⟩ = some (.int .u8 (b8 (ks.getD i 0)))
  inside : 0 < ks.length → g < w.heap.size
theorem Pk.turn {own : Nat → Prop} {w w' : World} {A : Option Addr} {ks : List UInt8} {g off : Nat} (h : Pk w A ks g off) (hu : Turn own w w') (hn : 0 < ks.length → ¬ own g) : Pk w' A ks g off :=
  ⟨h.src, fun i hi => by
    rw [← h.at_ i hi]
    have := hu.block g (h.inside (by omega)) (hn (by omega))
    simp only [World.cell?, this], fun h0 => Nat.lt_of_lt_of_le (h.inside h0) hu.size⟩
def nats (ks : List UInt8) : List Nat := ks.map (·.toNat)
/-- What Crash's loop keeps. -/
structure Cr (own : Nat → Prop) (w wr : World) (p m1 m2 : Nat) (sv : Value) (vs : List Value) (M : Mo) (L : Tr) (A : Option Addr) (ks : List UInt8) (g off : Nat) : Prop where
  tr : TreeS wr p 3 m2 62 (cellsD m1 m2 sv ⟨M.now, L, M.since, M.fuse, M.room⟩) L (usedL L) M.room
  wf : WFT M.room L
  tu : Turn own w wr
  ef : AllEff wr vs M.since
  row : wr.ownsRow 0 97 1 sv vs.length vs
  pk : Pk wr A ks g off
theorem Cr.step {own : Nat → Prop} {w wr w2 : World} {p m1 m2 : Nat} {sv : Value} {vs : List Value} {M : Mo} {L L' : Tr} {A : Option Addr} {ks : List UInt8} {g off : Nat} (h : Cr own w wr p m1 m2 sv vs M L A ks g off)
    (op : own p) (o2 : own m2) (hpk : 0 < ks.length → ¬ own g) (hu : Turn (Two p m2) wr w2) (ht : TreeS w2 p 3 m2 62 ((cellsD m1 m2 sv ⟨M.now, L, M.since, M.fuse, M.room⟩).setIfInBounds (3 + 1) (.int .i64 ((usedL L' : Nat) : Int))) L' (usedL L') M.room) (hw : WFT M.room L') :
    Cr own w w2 p m1 m2 sv vs M L' A ks g off where
  tr := ht
  wf := hw
  tu := h.tu.then (hu.mono (fun k hk => by rcases hk with e | e <;> rw [e]; exact op; exact o2))
  ef := h.ef.gx (h.tr.gx hu)
  row := row_of h.row (fun b hb => hu.block b (by obtain ⟨cur, hc⟩ := row_kind h.row hb; exact (Array.getElem?_eq_some_iff.1 hc).1) (fun k => by
    obtain ⟨cur, hc⟩ := row_kind h.row hb
    rcases k with e | e
    · have := h.tr.has
      unfold Has at this
      rw [← e, hc] at this
      injection this with this; injection this with _ this; revert this; decide
    · obtain ⟨es, ck, hh, _⟩ := h.tr.mp
      rw [← e, hc] at hh; cases hh))
  pk := h.pk.turn (hu.mono (fun k hk => by rcases hk with e | e <;> rw [e]; exact op; exact o2)) hpk
theorem row_cell {w : World} {B : Nat} {e : TypeId} {v : Value} {xs : List Value} (h : w.ownsRow B e 1 v xs.length xs) (i : Nat) (hi : i < xs.length) : ∃ g c, v = .slice (some ⟨g, 0, none⟩) xs.length c ∧ w.cell? ⟨g, i, none⟩ = some xs[i] := by
  rcases h.2 with ⟨k1, k2⟩ | ⟨g', c, cur, k1, _, k3, _, _, _, k6⟩
  · omega
  · refine ⟨g', c, k1, ?_⟩
    rw [cell_of_row w g' i cur e (0, 0) k3]
    have e2 : cur.toList[i]? = xs[i]? := by rw [← k6, List.getElem?_take, if_pos (by omega)]
    rw [← Array.getElem?_toList, e2, List.getElem?_eq_getElem hi]
theorem crash_next (room : Nat) (L : Tr) (xs : List Eff) (ks : List UInt8) (k : Nat) (h1 : k < xs.length) (h2 : k < ks.length) :
    crashL room L (xs.take (k + 1)) ((nats ks).take (k + 1)) = pickE room (crashL room L (xs.take k) ((nats ks).take k)) xs[k] (ks.getD k 0).toNat := by
  have e1 : xs.take (k + 1) = xs.take k ++ [xs[k]] := List.take_succ_eq_append_getElem h1
  have e2 : (nats ks).take (k + 1) = (nats ks).take k ++ [(ks.getD k 0).toNat] := by
    rw [List.take_succ_eq_append_getElem (by unfold nats; simpa using h2)]
    simp [nats, List.getD, List.getElem?_eq_getElem h2]
  rw [e1, e2, crash_snoc]
  rw [List.length_take, List.length_take]
  unfold nats
  rw [List.length_map]; omega
set_option maxRecDepth 100000 in
set_option maxHeartbeats 8000000 in
theorem dCrash_any {own : Nat → Prop} {w : World} {p : Nat} {M : Mo} (h : Dsk own w p M) (hG : Gd w) (hlow : ∀ g, own g → 0 < g) (A : Option Addr) (ks : List UInt8) (cp g off : Nat) (hk : Pk w A ks g off) (hpk : 0 < ks.length → ¬ own g) (hkl : ks.length ≤ 9223372036854775807) :
    Calls Tryz.prog 18 #[.pointer (some ⟨p, 0, none⟩), .slice A ks.length cp] w fun e w' => e = .returned (.int .i64 0) ∧ DPost own w p (crashM M (nats ks)) w' := by
  obtain ⟨m1, m2, sv, vs, h⟩ := h
  have H := hid h
  have C1 := hid (dmade_any (m1 := m1) (h.has.at_ 0))
  have c6 : w.cell? ⟨p, 6, none⟩ = some sv := h.has.at_ 6
  obtain ⟨A6, n6, hsv⟩ := row_form h.row
  obtain ⟨nv, HNV⟩ : ∃ n, Hid (vs.length = n) := ⟨_, rfl⟩
  obtain ⟨nk, HNK⟩ : ∃ n, Hid (ks.length = n) := ⟨_, rfl⟩
  rw [HNV.out] at hsv
  rw [hsv] at c6
  rw [HNK.out]
  have HSV := hid hsv
  have hcap : nv ≤ n6 := by
    rcases h.row.2 with ⟨k1, k2⟩ | ⟨g', c, cur, k1, _, k3, k4, k5, k6⟩
    · rw [hsv] at k1; injection k1 with _ k1 k7; omega
    · rw [hsv] at k1; injection k1 with _ k1 k7; omega
  obtain ⟨n, HN⟩ : ∃ n, Hid (min nv nk = n) := ⟨_, rfl⟩
  have hmin : min (nv : Int) (nk : Int) = (n : Int) := by have := HN.out; omega
  have hn1 : n ≤ n6 := by have := HN.out; omega
  have hn2 : n ≤ 100000 := by have := HN.out; have := h.effs.1; have := h.len; have := HNV.out; omega
  have hnv : nv ≤ 100000 := by have := h.effs.1; have := h.len; have := HNV.out; omega
  have hnk : (nk : Int) ≤ 9223372036854775807 := by have := HNK.out; omega
  have HNKL := hid hkl
  have HG := hid hG
  have HK := hid hk
  have HPK := hid hpk
  clear h hG hk hpk hsv hkl
  go_enter Tryz.func18, Tryz.ntmps18
  go_wp2_with (go_at_call 55; refine C1.out.mono ?_; rintro e1 w1 ⟨rfl, rfl⟩)
  go_quiet (fail)
  have S0 : Hid (Cr own w (w.drewN nq) p m1 m2 sv vs M M.last A ks g off) := ⟨H.out.tr2.kept rfl rfl, H.out.good.w2, ⟨rfl, rfl, rfl, Nat.le_refl _, fun _ _ _ => rfl⟩, H.out.effs.gx ⟨Nat.le_refl _, fun _ _ _ _ k _ => k⟩, row_of H.out.row (fun _ _ => rfl), ⟨HK.out.src, HK.out.at_, HK.out.inside⟩⟩
  clear c6 hmin hcap hn1 hnk
  go_wp2
  go_loopw [25] (fun i wr => ∃ k : Nat, i = .int .i64 (k : Int) ∧ k ≤ n ∧ Hid (Cr own w wr p m1 m2 sv vs M (crashL M.room M.last (M.since.take k) ((nats ks).take k)) A ks g off))
    (fun i _ => n - (intOf i).toNat)
  case atStart => exact ⟨0, rfl, Nat.zero_le _, S0⟩
  case round =>
    obtain ⟨k, rfl, hk, HC⟩ := hrel
    by_cases hlt : k < n
    · have hkv : k < vs.length := by have := HN.out; have := HNV.out; omega
      have hks : k < M.since.length := by have := H.out.effs.1; omega
      have hkk : k < ks.length := by have := HN.out; have := HNK.out; omega
      have hkn : k < nk := by have := HN.out; omega
      obtain ⟨g6, c6, e6, hcell⟩ := row_cell HC.out.row k hkv
      have e7 := HSV.out.symm.trans e6
      injection e7 with e7 e8 e9
      clear e8 e9
      subst e7
      have hA := HC.out.pk.src (by omega)
      subst hA
      have hcp := HC.out.pk.at_ k hkk
      have hef := HC.out.ef.2 k hkv hks
      have HNX := hid (crash_next M.room M.last M.since ks k hks hkk)
      obtain ⟨x, hx9⟩ : ∃ x, x = M.since[k] := ⟨_, rfl⟩
      rw [← hx9] at hef HNX
      clear hx9
      obtain ⟨c, HCC⟩ : ∃ c, Hid (ks.getD k 0 = c) := ⟨_, rfl⟩
      rw [HCC.out] at hcp HNX
      obtain ⟨hd, fk, lb, ev, ek, hcall⟩ := hef
      rw [ev] at hcell
      have HCALL := hid (fun most hm => hcall wr p 3 m2 _ _ M.room most (Gx.refl _) HC.out.tr HC.out.wf H.out.r1 (HG.out.below (HC.out.tu.below (B := 1) (fun g hg => hlow g hg) HG.out.pos) (by omega)) hm)
      obtain ⟨L, HLL⟩ : ∃ L, Hid (crashL M.room M.last (M.since.take k) ((nats ks).take k) = L) := ⟨_, rfl⟩
      rw [HLL.out] at HC HCALL HNX
      have b0 := b8_nonneg c
      have b1 := b8_lt c
      have HBN : Hid (b8 c = (c.toNat : Int)) := rfl
      have HDD := hid hd
      clear ev e6 hkv hks hkk hcall hd
      by_cases z0 : b8 c = 0
      · have q0 : (b8 c == 0) = true := by simpa using z0
        have HZ : Hid (pickE M.room L x c.toNat = L) := by show _ = _; unfold pickE; rw [if_pos (by have := HBN.out; omega)]
        clear z0
        go_wp2
        go_roundw
        case rel => exact ⟨k + 1, by go_num, by omega, by show Cr _ _ _ _ _ _ _ _ _ _ _ _ _ _; rw [HNX.out, HZ.out]; exact HC.out⟩
        case measure => simp [intOf]; omega
      · have q0 : (b8 c == 0) = false := by simpa using z0
        by_cases z1 : b8 c = 1
        · have q1 : (b8 c == 1) = true := by simpa using z1
          have HZ : Hid (pickE M.room L x c.toNat = (stepE M.room L x).2) := by show _ = _; unfold pickE; rw [if_neg (by have := HBN.out; omega), if_pos (by have := HBN.out; omega)]
          have CK : Hid (Calls Tryz.prog fk (#[.pointer (some ⟨p, 3, none⟩), .int .i64 9223372036854775807] ++ lb) wr fun e w' => SP wr p 3 m2 62 (cellsD m1 m2 sv ⟨M.now, L, M.since, M.fuse, M.room⟩) M.room (stepE M.room L x) e w') := by
            have := HCALL.out 9223372036854775807 (by omega)
            rw [cutE_all x _ (by have := HDD.out; omega)] at this
            exact this
          clear z0 z1
          go_wp2_with fail
          refine CK.out.mono ?_; rintro e2 w2 ⟨rfl, hu2, ht2⟩
          have HC2 := hid (HC.out.step H.out.op H.out.o2 HPK.out hu2 ht2 (step_wft HC.out.wf x))
          clear hu2 ht2
          go_wp2
          go_roundw
          case rel =>
            have HCF : Hid (Cr own w w2 p m1 m2 sv vs M (crashL M.room M.last (M.since.take (k + 1)) ((nats ks).take (k + 1))) (some ⟨g, off, none⟩) ks g off) := by
              show Cr _ _ _ _ _ _ _ _ _ _ _ _ _ _; rw [HNX.out, HZ.out]; exact HC2.out
            exact ⟨k + 1, by go_num, by omega, HCF⟩
          case measure => simp [intOf]; omega
        · have q1 : (b8 c == 1) = false := by simpa using z1
          have h2 : 2 ≤ b8 c := by omega
          have HZ : Hid (pickE M.room L x c.toNat = (stepE M.room L (cutE x (c.toNat - 2))).2) := by show _ = _; unfold pickE; rw [if_neg (by have := HBN.out; omega), if_neg (by have := HBN.out; omega)]
          have CK : Hid (Calls Tryz.prog fk (#[.pointer (some ⟨p, 3, none⟩), .int .i64 (b8 c - 2)] ++ lb) wr fun e w' => SP wr p 3 m2 62 (cellsD m1 m2 sv ⟨M.now, L, M.since, M.fuse, M.room⟩) M.room (stepE M.room L (cutE x (c.toNat - 2))) e w') := by
            have := HCALL.out (c.toNat - 2) (by have := HBN.out; omega)
            rw [show ((c.toNat - 2 : Nat) : Int) = b8 c - 2 by have := HBN.out; omega] at this
            exact this
          clear z0 z1
          go_wp2_with fail
          refine CK.out.mono ?_; rintro e2 w2 ⟨rfl, hu2, ht2⟩
          have HC2 := hid (HC.out.step H.out.op H.out.o2 HPK.out hu2 ht2 (step_wft HC.out.wf _))
          clear hu2 ht2
          go_wp2
          go_roundw
          case rel =>
            have HCF : Hid (Cr own w w2 p m1 m2 sv vs M (crashL M.room M.last (M.since.take (k + 1)) ((nats ks).take (k + 1))) (some ⟨g, off, none⟩) ks g off) := by
              show Cr _ _ _ _ _ _ _ _ _ _ _ _ _ _; rw [HNX.out, HZ.out]; exact HC2.out
            exact ⟨k + 1, by go_num, by omega, HCF⟩
          case measure => simp [intOf]; omega
    · have HKN : Hid (k = n) := by show _ = _; omega
      have HLN : Hid (crashL M.room M.last (M.since.take k) ((nats ks).take k) = crashL M.room M.last M.since (nats ks)) := by
        show _ = _
        refine (crash_take M.room M.since (nats ks) M.last k ?_).symm
        have e1 := HN.out; have e2 := HNV.out; have e3 := HNK.out; have e4 := H.out.effs.1; have e5 := HKN.out
        unfold nats; rw [List.length_map]; omega
      rw [HLN.out] at HC
      obtain ⟨L, HLL⟩ : ∃ L, Hid (crashL M.room M.last M.since (nats ks) = L) := ⟨_, rfl⟩
      rw [HLL.out] at HC
      have HGD : Hid (Good ⟨L, L, [], -1, M.room⟩) := by have := H.out.good.crash (nats ks); unfold crashM at this; rw [HLL.out] at this; exact this
      have HM : Hid (crashM M (nats ks) = ⟨L, L, [], -1, M.room⟩) := by show _ = _; unfold crashM; rw [HLL.out]
      have CC := hid (tcopy_any HC.out.tr)
      go_wp2_with fail
      refine CC.out.mono ?_; rintro e2 w2 ⟨m', rfl, hm', hl', hb2⟩
      have M2 := hid hm'
      have L2 := hid hl'
      have B2 := hid hb2
      have P2 : Hid (Has w2 p 62 (cellsD m1 m2 sv ⟨M.now, L, M.since, M.fuse, M.room⟩)) := HC.out.tr.has.kept hb2 HC.out.tr.has.inside
      clear hm' hl' hb2
      obtain ⟨w3, HW3⟩ : ∃ w3, Hid (w2.setCells p 0 [.map (some m'), .int .i64 ((usedL L : Nat) : Int), .int .i64 (M.room : Int)] = w3) := ⟨_, rfl⟩
      have P3 : Hid (Has w3 p 62 (cellsD m' m2 sv ⟨L, L, M.since, M.fuse, M.room⟩)) := by rw [← HW3.out]; exact P2.out.put3 0 _ _ _
      have U3 : Hid (Turn (One p) w2 w3) := by rw [← HW3.out]; exact Turn.set3 _ _ _ _ _ _
      have c6 := P3.out.at_ 6
      have f6 := P3.out.free 6
      have c7 := P3.out.at_ 7
      have f7 := P3.out.free 7
      have TH := hid (P2.out.there 0 3 (by show 0 + 3 ≤ 8; omega))
      go_wp2_with (refine wpList_store_mid rfl 59 (.tmp 61) (.tmp 59) rfl p 0 #[.map (some m'), .int .i64 ((usedL L : Nat) : Int), .int .i64 (M.room : Int)] rfl rfl TH.out (by kernel_rfl) (by simp [Value.oneCell']) ?_; change wpList _ _ _ _ _ (World.setCells w2 p 0 [.map (some m'), .int .i64 ((usedL L : Nat) : Int), .int .i64 (M.room : Int)]); rw [HW3.out])
      go_ret
      rw [HM.out]
      have h4 : Has ((w3.setCell ⟨p, 6, none⟩ (.slice none 0 0)).setCell ⟨p, 7, none⟩ (.int .i64 (-1))) p 62 (cellsD m' m2 (.slice none 0 0) ⟨L, L, [], -1, M.room⟩) := (P3.out.put 6 _).put 7 _
      have hm2 := HC.out.tr.mp.inside
      have hpw := HC.out.tr.has.inside
      have hsz := HC.out.tu.size
      exact ⟨rfl, DPost.swap (HC.out.tu.then (Turn.of_below B2.out)) H.out.op M2.out (HC.out.tr.mp.kept (B2.out.block m2 hm2)) (by have := L2.out; omega) (by have := L2.out; omega) HC.out.tr.ne (.inr (by have := L2.out; omega)) (.inl H.out.o2) ((U3.out.then (Turn.set w3 p 6 _ rfl)).then (Turn.set _ p 7 _ rfl)) h4 rfl HGD.out H.out.r0 H.out.r1⟩
end Go.Proofs.YtlbeemlnbpchgaaGreat
