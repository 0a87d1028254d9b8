/- The walk of DiskWhole. Conditions: acts whose numbers fit. -/
import Derived.Test.YtlbeemlnbpchgaaGreatXI
namespace Go.Proofs.YtlbeemlnbpchgaaGreat
open Go.RowKit Go.Maps
theorem used_take {L : Tr} {k : Nat} (hk : k < L.length) : usedL (L.take (k + 1)) = usedL (L.take k) + useN L[k].2 := by
  induction L generalizing k with
  | nil => simp at hk
  | cons x L ih =>
    obtain ⟨p, n⟩ := x
    cases k with
    | zero => simp [usedL]
    | succ k =>
      have := ih (k := k) (by simpa using hk)
      simp only [List.take_succ_cons, usedL, List.getElem_cons_succ, this]; omega
theorem used_take_le (L : Tr) (k : Nat) : usedL (L.take k) ≤ usedL L := by
  induction L generalizing k with
  | nil => simp [usedL]
  | cons x L ih =>
    obtain ⟨p, n⟩ := x
    cases k with
    | zero => simp [usedL]
    | succ k => have := ih k; simp only [List.take_succ_cons, usedL]; omega
/-- What a round of the walk meets. -/
structure RoundW (L : Tr) (room k : Nat) (x up : By) (nd md : Nd) (c : Int) : Prop where
  rd : readM L x = (nd, 0)
  may : mayB x = true
  xs : x.length ≤ 4000
  upe : up = aheadL x
  us : up.length ≤ 4000
  ru : readM L up = (md, c)
  ok : up = [] ∨ c = 0 ∧ md.kind = 2
  us' : usedL (L.take (k + 1)) = usedL (L.take k) + 64 + nd.data.length
  le : usedL (L.take (k + 1)) ≤ room
theorem round_w {room : Nat} {L : Tr} (h : WFT room L) (k : Nat) (hk : k < (pathsL L).length) : ∃ up nd md c, RoundW L room k (pathsL L)[k] up nd md c := by
  have hl : k < L.length := by unfold pathsL at hk; simpa using hk
  have e : (pathsL L)[k] = L[k].1 := List.getElem_map _
  have h1 : look L L[k].1 = some L[k].2 := mem_look h.srt (List.getElem_mem hl)
  have hs : (look L L[k].1).isSome := by rw [h1]; rfl
  have hm := h.may L[k].1 hs
  have hp := h.par L[k].1 hs
  rw [e]
  have hle : usedL (L.take (k + 1)) ≤ room := Nat.le_trans (used_take_le L _) h.used
  have hu : usedL (L.take (k + 1)) = usedL (L.take k) + 64 + L[k].2.data.length := by rw [used_take hl]; unfold useN; omega
  have hx : L[k].1.length ≤ 4000 := by have := (may_parts hm).1; omega
  have hr : readM L L[k].1 = (L[k].2, 0) := by unfold readM; rw [hm, h1]; rfl
  have hul : (aheadL L[k].1).length ≤ 4000 := by have := aheadL_len L[k].1; omega
  by_cases hu0 : aheadL L[k].1 = []
  · refine ⟨[], L[k].2, n0, 10, hr, hm, hx, hu0.symm, by simp, ?_, .inl rfl, hu, hle⟩
    unfold readM; rw [mayB_nil]; rfl
  · have hsm := kindP_some hu0 hp
    obtain ⟨m, hmm⟩ := Option.isSome_iff_exists.1 hsm
    have hk2 : m.kind = 2 := by unfold kindP at hp; rw [if_neg hu0, hmm] at hp; exact hp
    refine ⟨aheadL L[k].1, L[k].2, m, 0, hr, hm, hx, rfl, hul, ?_, .inr ⟨rfl, hk2⟩, hu, hle⟩
    unfold readM; rw [h.may _ hsm, hmm]; rfl
theorem paths_cmp {L : Tr} (h : Srt L) {j k : Nat} (hj : j < k) (hk : k < (pathsL L).length) : cmpL ((pathsL L)[j]'(by omega)) (pathsL L)[k] = -1 :=
  List.pairwise_iff_getElem.1 (paths_srt h) j k (by omega) hk hj
theorem parentk_any (x up : By) (hm : mayB x = true) (hu : up = aheadL x) (w : World) (hG : Gd w) (hs : x.length ≤ 4000) :
    Calls Tryz.prog 41 #[kS x] w fun e w' => e = .returned (.tuple #[kS up, .bool true]) ∧ Below w.heap.size w w' := by
  subst hu
  have := parent_any (ba x) w hG (by rw [ba_size]; exact hs)
  rw [tl_ba, hm, findV_yes hm] at this
  exact this
structure TwoC (g j k : Nat) (x y : By) (W : World) : Prop where
  c1 : W.cell? ⟨g, j, none⟩ = some (kS y)
  c2 : W.cell? ⟨g, k, none⟩ = some (kS x)
set_option maxRecDepth 100000 in
set_option maxHeartbeats 16000000 in
theorem whole_any {A : Option Addr} {n0' cap bb off : Nat} {xs : List ActT} (w : World) (hI : ActsIn w A n0' bb off xs) (hG : Gd w) (hn0 : n0' ≤ maxLen) :
    Calls Tryz.prog 7 #[.slice A n0' cap] w fun e w' => e = .returned (.bool true) ∧ Below w.heap.size w w' := by
  have HI := hid hI
  have HG := hid hG
  have CL := hid (large_any (cap := cap) 60 (by omega) w hI hn0)
  cases hb : largeB xs 60 with
  | true =>
    rw [hb] at CL
    clear hI hG hn0 hb
    go_enter Tryz.func7, Tryz.ntmps7
    go_wp2_with fail
    refine CL.out.mono ?_; rintro e1 w1 ⟨rfl, hb1⟩
    have B1 := hid hb1
    clear hb1
    go_wp2_with fail
    refine (awake_any _ (HG.out.kept B1.out)).mono ?_; rintro e2 w2 ⟨rfl, hb2⟩
    have B2 : Hid (Below w.heap.size w w2) := B1.out.trans (hb2.mono B1.out.size)
    clear hb2
    go_wp2
    go_ret
    exact ⟨rfl, B2.out⟩
  | false =>
    rw [hb] at CL
    obtain ⟨hl1, hl2⟩ := large_false hb
    have hn1 : n0' ≤ 1000 := by have := hI.len; omega
    have CP : Hid (∀ W, Below w.heap.size w W → Calls Tryz.prog 39 #[.slice A n0' cap] W fun e w' => PlayP W (playM (newM 16384) xs) e w') := fun W hb => play_any W (hI.on hb) (hG.kept hb) hn1 hl2
    obtain ⟨M, HM⟩ : ∃ M, Hid (playM (newM 16384) xs = M) := ⟨_, rfl⟩
    rw [HM.out] at CP
    have HRM : Hid (M.room = 16384) := by rw [← HM.out]; exact room_play _ _
    clear hI hG hn0 hb hl1 hl2 hn1
    go_enter Tryz.func7, Tryz.ntmps7
    go_wp2_with fail
    refine CL.out.mono ?_; rintro e1 w1 ⟨rfl, hb1⟩
    have B1 := hid hb1
    clear hb1
    go_wp2_with fail
    refine (CP.out _ B1.out).mono ?_; rintro e2 w2 ⟨p, rfl, hl2⟩
    have L2 := hid hl2
    have B2 : Hid (Below w.heap.size w w2) := B1.out.trans (hl2.bl.mono B1.out.size)
    have G2 : Hid (Gd w1) := HG.out.kept B1.out
    have HWF : Hid (WFT 16384 M.now) := by have := hl2.good.w1; rw [HRM.out] at this; exact this
    clear hl2
    go_wp2_with fail
    refine (lPaths L2.out).mono ?_; rintro e3 w3 ⟨A3, c3, g, rfl, hn3, hb3⟩
    obtain ⟨L, HL⟩ : ∃ L, Hid (M.now = L) := ⟨_, rfl⟩
    rw [HL.out] at hn3 HWF ⊢
    have N3 := hid hn3
    have L3 := hid (L2.out.on hb3)
    have B3 : Hid (Below w.heap.size w w3) := B2.out.trans (hb3.mono B2.out.size)
    obtain ⟨n, HN⟩ : ∃ n, Hid ((pathsL L).length = n) := ⟨_, rfl⟩
    rw [HN.out]
    have hln : n ≤ 100000 := by
      rw [← HN.out]; unfold pathsL; rw [List.length_map]
      exact len_room HWF.out (by omega)
    clear hn3 hb3
    go_wp2
    go_loopw [5, 6] (fun v5 v6 wr => ∃ k : Nat, v5 = .int .i64 ((usedL (L.take k) : Nat) : Int) ∧ v6 = .int .i64 (k : Int) ∧ k ≤ n ∧ Hid (Below w3.heap.size w3 wr)) (fun _ v6 _ => n - (intOf v6).toNat)
    case atStart => exact ⟨0, rfl, rfl, by omega, Below.refl _ _⟩
    case round =>
      obtain ⟨k, rfl, rfl, hk, J1⟩ := hrel
      by_cases hlt : k < n
      · have hkl : k < (pathsL L).length := by rw [HN.out]; exact hlt
        obtain ⟨up, nd, md, c, hR⟩ := round_w HWF.out k hkl
        have n1 := N3.out.on J1.out
        have a1 := n1.ad (by omega)
        subst a1
        have HGB := hid (n1.low (by omega))
        have CJ : Hid (∀ j, (h : j < k) → ∃ y : By, y.length ≤ 4000 ∧ wr.cell? ⟨g, j, none⟩ = some (kS y) ∧ cmpL y (pathsL L)[k] = -1) := fun j hj => by
          have hjl : j < (pathsL L).length := by omega
          obtain ⟨_, _, _, _, hRj⟩ := round_w HWF.out j hjl
          exact ⟨(pathsL L)[j], hRj.xs, n1.cell j hjl, paths_cmp HWF.out.srt hj hkl⟩
        have c1 := n1.cell k hkl
        obtain ⟨x, hx⟩ : ∃ x, x = (pathsL L)[k] := ⟨_, rfl⟩
        rw [← hx] at hR c1 CJ
        obtain ⟨kd, d, t, tm⟩ := nd
        obtain ⟨kd2, d2, t2, tm2⟩ := md
        have HR := hid hR
        obtain ⟨u, HU⟩ : ∃ u, Hid (usedL (L.take k) = u) := ⟨_, rfl⟩
        have HU2 : Hid (usedL (L.take (k + 1)) = u + 64 + d.length) := by rw [← HU.out]; exact hR.us'
        have hub : u + 64 + d.length ≤ 16384 := by rw [← HU2.out]; exact hR.le
        rw [HU.out]
        have LR := hid (L3.out.on J1.out)
        have GR : Hid (Gd wr) := LR.out.gd G2.out
        have C1 := hid (lReadC LR.out G2.out x hR.xs kd d t tm 0 (by rw [HL.out]; exact hR.rd))
        have C2 : Hid (∀ W, Below wr.heap.size wr W → Calls Tryz.prog 41 #[kS x] W fun e w' => e = .returned (.tuple #[kS up, .bool true]) ∧ Below W.heap.size W w') := fun W hb => parentk_any x up hR.may hR.upe W (GR.out.kept hb) hR.xs
        have C3 : Hid (∀ W, Below wr.heap.size wr W → Calls Tryz.prog 34 #[.pointer (some ⟨p, 0, none⟩), kS up] W fun e w' => e = .returned (.tuple #[.agg (ndA kd2 d2 t2 tm2), .int .i64 c]) ∧ Below W.heap.size W w') := fun W hb => lReadC (LR.out.on hb) G2.out up hR.us kd2 d2 t2 tm2 c (by rw [HL.out]; exact hR.ru)
        have hlt' : (k : Int) < (n : Int) := by omega
        have h0 : (0 : Int) ≤ (k : Int) := by omega
        have w1 : IntKind.i64.wrap ((k : Int) + 1) = (k : Int) + 1 := i64in _ (by omega) (by omega)
        have w2 : IntKind.i64.wrap ((u : Int) + 64) = (u : Int) + 64 := i64in _ (by omega) (by omega)
        have w3' : IntKind.i64.wrap ((u : Int) + 64 + (d.length : Int)) = (u : Int) + 64 + (d.length : Int) := i64in _ (by omega) (by omega)
        have zd : (ba d).size = d.length := ba_size d
        have HC1 := hid c1
        clear n1 hx hR hkl
        go_wp2_with fail
        refine C1.out.mono ?_; rintro e5 w5 ⟨rfl, hb5⟩
        have Y1 : Hid (Below wr.heap.size wr (w5.alloc (.cells (ndA kd d t tm) 64))) := hb5.alloc hb5.size _
        have X1 : Hid (Has (w5.alloc (.cells (ndA kd d t tm) 64)) w5.heap.size 64 (ndA kd d t tm)) := Has.fresh _ _ _
        have k2 : (w5.alloc (.cells (ndA kd d t tm) 64)).cell? ⟨g, k, none⟩ = some (kS x) := (Y1.out.cell (p := ⟨g, k, none⟩) HGB.out).trans HC1.out
        clear hb5 c1
        go_wp2_with fail
        refine (C2.out _ Y1.out).mono ?_; rintro e6 w6 ⟨rfl, hb6⟩
        have Y2 : Hid (Below wr.heap.size wr w6) := Y1.out.trans (hb6.mono Y1.out.size)
        have X2 : Hid (Has w6 w5.heap.size 64 (ndA kd d t tm)) := X1.out.kept hb6 X1.out.inside
        clear hb6 k2
        have HLE := hid hub
        rcases Nat.eq_zero_or_pos k with hk0 | hk0
        · have Q0 := hid hk0
          have S0 : Hid (w6.drew.cell? ⟨g, k, none⟩ = some (kS x)) := (Y2.out.cell (p := ⟨g, k, none⟩) HGB.out).trans HC1.out
          have Y3 : Hid (Below wr.heap.size wr w6.drew) := Y2.out.drew
          have X3 : Hid (Has w6.drew w5.heap.size 64 (ndA kd d t tm)) := X2.out
          clear hk0
          go_wp2
          refine wp_region_noPanic ?_
          refine wp_region_held_drew (S := fun W => W.cell? ⟨g, k, none⟩ = some (kS x)) (by kernel_rfl) (S0.out) (fun hS => ?_)
          refine wpAnyH_take (i := 0) (v := ?_) (by simp only [List.getElem?_toArray, List.getElem?_cons_zero]; rfl) (by kernel_rfl) (by kernel_rfl) (by kernel_rfl) (fun _ _ _ h => h) (Or.inl ⟨by rfl, ?_⟩) (by assumption) ?_
          rotate_left 1
          · intro w hSw
            go_simp
            with_reducible rfl
          simp only [Act.put, List.setIfInBounds_toArray, List.set_cons_zero, List.set_cons_succ]
          refine wpAnyH_take (i := 1) (v := ?_) (by simp only [List.getElem?_toArray, List.getElem?_cons_zero, List.getElem?_cons_succ]; rfl) (by kernel_rfl) (by kernel_rfl) (by kernel_rfl) (fun _ _ _ h => h) (Or.inl ⟨by rfl, ?_⟩) (by assumption) ?_
          rotate_left 1
          · intro w hSw
            go_simp
            with_reducible rfl
          simp only [Act.put, List.setIfInBounds_toArray, List.set_cons_zero, List.set_cons_succ]
          refine wpAnyH_take (i := 2) (v := ?_) (by simp only [List.getElem?_toArray, List.getElem?_cons_zero, List.getElem?_cons_succ]; rfl) (by kernel_rfl) (by kernel_rfl) (by kernel_rfl) (fun _ _ _ h => h) (Or.inl ⟨by rfl, ?_⟩) (by assumption) ?_
          rotate_left 1
          · intro w hSw
            go_simp
            with_reducible rfl
          simp only [Act.put, List.setIfInBounds_toArray, List.set_cons_zero, List.set_cons_succ]
          refine wpAnyH_take (i := 3) (v := ?_) (by simp only [List.getElem?_toArray, List.getElem?_cons_zero, List.getElem?_cons_succ]; rfl) (by kernel_rfl) (by kernel_rfl) (by kernel_rfl) (fun _ _ _ h => h) (Or.inl ⟨by rfl, ?_⟩) (by assumption) ?_
          rotate_left 1
          · intro w hSw
            go_simp
            with_reducible rfl
          simp only [Act.put, List.setIfInBounds_toArray, List.set_cons_zero, List.set_cons_succ]
          refine wpAnyH_take (i := 4) (v := ?_) (by simp only [List.getElem?_toArray, List.getElem?_cons_zero, List.getElem?_cons_succ]; rfl) (by kernel_rfl) (by kernel_rfl) (by kernel_rfl) (fun _ _ _ h => h) (Or.inl ⟨by rfl, ?_⟩) (by assumption) ?_
          rotate_left 1
          · intro w hSw
            go_simp
            with_reducible rfl
          simp only [Act.put, List.setIfInBounds_toArray, List.set_cons_zero, List.set_cons_succ]
          refine wpAnyH_take (i := 5) (v := ?_) (by simp only [List.getElem?_toArray, List.getElem?_cons_zero, List.getElem?_cons_succ]; rfl) (by kernel_rfl) (by kernel_rfl) (by kernel_rfl) (fun _ _ _ h => h) (Or.inl ⟨by rfl, ?_⟩) (by assumption) ?_
          rotate_left 1
          · intro w hSw
            go_simp
            with_reducible rfl
          simp only [Act.put, List.setIfInBounds_toArray, List.set_cons_zero, List.set_cons_succ]
          refine wpAnyH_take (i := 6) (v := ?_) (by simp only [List.getElem?_toArray, List.getElem?_cons_zero, List.getElem?_cons_succ]; rfl) (by kernel_rfl) (by kernel_rfl) (by kernel_rfl) (fun _ _ _ h => h) (Or.inl ⟨by rfl, ?_⟩) (by assumption) ?_
          rotate_left 1
          · intro w hSw
            go_simp
            with_reducible rfl
          simp only [Act.put, List.setIfInBounds_toArray, List.set_cons_zero, List.set_cons_succ]
          refine wpAnyH_take (i := 7) (v := ?_) (by simp only [List.getElem?_toArray, List.getElem?_cons_zero, List.getElem?_cons_succ]; rfl) (by kernel_rfl) (by kernel_rfl) (by kernel_rfl) (fun _ _ _ h => h) (Or.inl ⟨by rfl, ?_⟩) (by assumption) ?_
          rotate_left 1
          · intro w hSw
            go_simp
            with_reducible rfl
          simp only [Act.put, List.setIfInBounds_toArray, List.set_cons_zero, List.set_cons_succ]
          refine wpAnyH_take (i := 8) (v := .bool false) (by simp only [List.getElem?_toArray, List.getElem?_cons_zero, List.getElem?_cons_succ]; rfl) (by kernel_rfl) (by kernel_rfl) (by kernel_rfl) (fun _ _ _ h => h) (Or.inl ⟨by rfl, ?_⟩) (by assumption) ?_
          · intro w hSw
            go_simp
            simp [Q0.out]
          simp only [Act.put, List.setIfInBounds_toArray, List.set_cons_zero, List.set_cons_succ]
          refine wpAnyH_take (i := 9) (v := ?_) (by simp only [List.getElem?_toArray, List.getElem?_cons_zero, List.getElem?_cons_succ]; rfl) (by kernel_rfl) (by kernel_rfl) (by kernel_rfl) (fun _ _ _ h => h) (Or.inl ⟨by rfl, ?_⟩) (by assumption) ?_
          rotate_left 1
          · intro w hSw
            go_simp
            with_reducible rfl
          simp only [Act.put, List.setIfInBounds_toArray, List.set_cons_zero, List.set_cons_succ]
          refine wpAnyH_take (i := 10) (v := undef) (by simp only [List.getElem?_toArray, List.getElem?_cons_zero, List.getElem?_cons_succ]; rfl) (by kernel_rfl) (by kernel_rfl) (by kernel_rfl) (fun _ _ _ h => h) (Or.inr ⟨by rfl, rfl⟩) (by assumption) ?_
          simp only [Act.put, List.setIfInBounds_toArray, List.set_cons_zero, List.set_cons_succ]
          refine wpAnyH_take (i := 11) (v := undef) (by simp only [List.getElem?_toArray, List.getElem?_cons_zero, List.getElem?_cons_succ]; rfl) (by kernel_rfl) (by kernel_rfl) (by kernel_rfl) (fun _ _ _ h => h) (Or.inr ⟨by rfl, rfl⟩) (by assumption) ?_
          simp only [Act.put, List.setIfInBounds_toArray, List.set_cons_zero, List.set_cons_succ]
          refine wpAnyH_take (i := 12) (v := undef) (by simp only [List.getElem?_toArray, List.getElem?_cons_zero, List.getElem?_cons_succ]; rfl) (by kernel_rfl) (by kernel_rfl) (by kernel_rfl) (fun _ _ _ h => h) (Or.inr ⟨by rfl, rfl⟩) (by assumption) ?_
          simp only [Act.put, List.setIfInBounds_toArray, List.set_cons_zero, List.set_cons_succ]
          refine wpAnyH_take (i := 13) (v := undef) (by simp only [List.getElem?_toArray, List.getElem?_cons_zero, List.getElem?_cons_succ]; rfl) (by kernel_rfl) (by kernel_rfl) (by kernel_rfl) (fun _ _ _ h => h) (Or.inr ⟨by rfl, rfl⟩) (by assumption) ?_
          simp only [Act.put, List.setIfInBounds_toArray, List.set_cons_zero, List.set_cons_succ]
          refine wpAnyH_take (i := 14) (v := undef) (by simp only [List.getElem?_toArray, List.getElem?_cons_zero, List.getElem?_cons_succ]; rfl) (by kernel_rfl) (by kernel_rfl) (by kernel_rfl) (fun _ _ _ h => h) (Or.inr ⟨by rfl, rfl⟩) (by assumption) ?_
          simp only [Act.put, List.setIfInBounds_toArray, List.set_cons_zero, List.set_cons_succ]
          refine wpAnyH_take (i := 15) (v := undef) (by simp only [List.getElem?_toArray, List.getElem?_cons_zero, List.getElem?_cons_succ]; rfl) (by kernel_rfl) (by kernel_rfl) (by kernel_rfl) (fun _ _ _ h => h) (Or.inr ⟨by rfl, rfl⟩) (by assumption) ?_
          simp only [Act.put, List.setIfInBounds_toArray, List.set_cons_zero, List.set_cons_succ]
          refine wpAnyH_take (i := 16) (v := undef) (by simp only [List.getElem?_toArray, List.getElem?_cons_zero, List.getElem?_cons_succ]; rfl) (by kernel_rfl) (by kernel_rfl) (by kernel_rfl) (fun _ _ _ h => h) (Or.inr ⟨by rfl, rfl⟩) (by assumption) ?_
          simp only [Act.put, List.setIfInBounds_toArray, List.set_cons_zero, List.set_cons_succ]
          refine wpAnyH_take (i := 17) (v := undef) (by simp only [List.getElem?_toArray, List.getElem?_cons_zero, List.getElem?_cons_succ]; rfl) (by kernel_rfl) (by kernel_rfl) (by kernel_rfl) (fun _ _ _ h => h) (Or.inr ⟨by rfl, rfl⟩) (by assumption) ?_
          simp only [Act.put, List.setIfInBounds_toArray, List.set_cons_zero, List.set_cons_succ]
          refine wpAnyH_take (i := 18) (v := undef) (by simp only [List.getElem?_toArray, List.getElem?_cons_zero, List.getElem?_cons_succ]; rfl) (by kernel_rfl) (by kernel_rfl) (by kernel_rfl) (fun _ _ _ h => h) (Or.inr ⟨by rfl, rfl⟩) (by assumption) ?_
          simp only [Act.put, List.setIfInBounds_toArray, List.set_cons_zero, List.set_cons_succ]
          refine wpAnyH_take (i := 19) (v := undef) (by simp only [List.getElem?_toArray, List.getElem?_cons_zero, List.getElem?_cons_succ]; rfl) (by kernel_rfl) (by kernel_rfl) (by kernel_rfl) (fun _ _ _ h => h) (Or.inr ⟨by rfl, rfl⟩) (by assumption) ?_
          simp only [Act.put, List.setIfInBounds_toArray, List.set_cons_zero, List.set_cons_succ]
          refine wpAnyH_take (i := 20) (v := undef) (by simp only [List.getElem?_toArray, List.getElem?_cons_zero, List.getElem?_cons_succ]; rfl) (by kernel_rfl) (by kernel_rfl) (by kernel_rfl) (fun _ _ _ h => h) (Or.inr ⟨by rfl, rfl⟩) (by assumption) ?_
          simp only [Act.put, List.setIfInBounds_toArray, List.set_cons_zero, List.set_cons_succ]
          refine wpAnyH_take (i := 21) (v := ?_) (by simp only [List.getElem?_toArray, List.getElem?_cons_zero, List.getElem?_cons_succ]; rfl) (by kernel_rfl) (by kernel_rfl) (by kernel_rfl) (fun _ _ _ h => h) (Or.inl ⟨by rfl, ?_⟩) (by assumption) ?_
          rotate_left 1
          · intro w hSw
            go_simp
            with_reducible rfl
          simp only [Act.put, List.setIfInBounds_toArray, List.set_cons_zero, List.set_cons_succ]
          refine wpAnyH_take (i := 22) (v := ?_) (by simp only [List.getElem?_toArray, List.getElem?_cons_zero, List.getElem?_cons_succ]; rfl) (by kernel_rfl) (by kernel_rfl) (by kernel_rfl) (fun _ _ _ h => h) (Or.inl ⟨by rfl, ?_⟩) (by assumption) ?_
          rotate_left 1
          · intro w hSw
            go_simp
            with_reducible rfl
          simp only [Act.put, List.setIfInBounds_toArray, List.set_cons_zero, List.set_cons_succ]
          refine wpAnyH_done (by kernel_rfl) ?_ _
          refine NoPanic.normal ?_
          obtain ⟨w7, HW7⟩ : ∃ w7, w7 = w6.drew := ⟨_, rfl⟩
          rw [← HW7] at Y3 X3 ⊢
          clear HW7 hS S0
          go_wp2_with fail
          refine (C3.out _ Y3.out).mono ?_; rintro e8 w8 ⟨rfl, hb8⟩
          have Y4 : Hid (Below wr.heap.size wr (w8.alloc (.cells (ndA kd2 d2 t2 tm2) 64))) := (Y3.out.trans (hb8.mono Y3.out.size)).alloc (Nat.le_trans Y3.out.size hb8.size) _
          have X4 : Hid (Has (w8.alloc (.cells (ndA kd2 d2 t2 tm2) 64)) w5.heap.size 64 (ndA kd d t tm)) := X3.out.kept (hb8.alloc hb8.size _) X3.out.inside
          have k5 : (w8.alloc (.cells (ndA kd2 d2 t2 tm2) 64)).cell? ⟨w5.heap.size, 1, none⟩ = some (kS d) := X4.out.at_ 1
          have k6 : (w8.alloc (.cells (ndA kd2 d2 t2 tm2) 64)).cell? ⟨w8.heap.size, 0, none⟩ = some (.int .i64 kd2) := (Has.fresh w8 64 (ndA kd2 d2 t2 tm2)).at_ 0
          clear hb8
          rcases HR.out.ok with hu0 | ⟨hc0, hk2⟩
          · have z1 : (ba up).toList = [] := by rw [toList_tl, tl_ba, hu0]
            clear hu0
            go_wp2
            go_roundw
            case rel => exact ⟨k + 1, by rw [HU2.out]; go_num, by go_num, by omega, J1.out.trans (Y4.out.mono J1.out.size)⟩
            case measure => simp [intOf]; omega
          · have hk2 : kd2 = 2 := hk2
            subst hc0
            subst hk2
            by_cases hu0 : up = []
            · have z1 : (ba up).toList = [] := by rw [toList_tl, tl_ba, hu0]
              clear hu0
              go_wp2
              go_roundw
              case rel => exact ⟨k + 1, by rw [HU2.out]; go_num, by go_num, by omega, J1.out.trans (Y4.out.mono J1.out.size)⟩
              case measure => simp [intOf]; omega
            · have z1 : ¬ (ba up).toList = [] := by rw [toList_tl, tl_ba]; exact hu0
              have z2 : (ba up).toList.isEmpty = false := by simpa using z1
              clear hu0
              go_wp2
              go_roundw
              case rel => exact ⟨k + 1, by rw [HU2.out]; go_num, by go_num, by omega, J1.out.trans (Y4.out.mono J1.out.size)⟩
              case measure => simp [intOf]; omega
        · obtain ⟨j, hj⟩ : ∃ j, k = j + 1 := ⟨k - 1, by omega⟩
          obtain ⟨y, hy1, hy2, hy3⟩ := CJ.out j (by omega)
          have Q0 := hid hk0
          have wj : IntKind.i64.wrap ((k : Int) - 1) = (j : Int) := by rw [i64in _ (by omega) (by omega)]; omega
          have hj0 : (0 : Int) ≤ (j : Int) := by omega
          have hjn : (j : Int) < (n : Int) := by omega
          have S0 : Hid (TwoC g j k x y w6.drew) := ⟨(Y2.out.cell (p := ⟨g, j, none⟩) HGB.out).trans hy2, (Y2.out.cell (p := ⟨g, k, none⟩) HGB.out).trans HC1.out⟩
          have CC : Hid (∀ W, Calls Tryz.prog 42 #[kS y, kS x] W fun e w' => e = .returned (.int .i64 (-1)) ∧ ∃ n, w' = W.drewN n) := fun W => by
            have := cmp_any (ba y) (ba x) W (by rw [ba_size]; omega) (by rw [ba_size]; have := HR.out.xs; omega)
            rw [tl_ba, tl_ba, hy3] at this; exact this
          clear hk0 hj hy1 hy2 hy3
          go_wp2
          refine wp_region_noPanic ?_
          refine wp_region_held_drew (S := TwoC g j k x y) (by kernel_rfl) (S0.out) (fun hS => ?_)
          refine wpAnyH_take (i := 0) (v := ?_) (by simp only [List.getElem?_toArray, List.getElem?_cons_zero]; rfl) (by kernel_rfl) (by kernel_rfl) (by kernel_rfl) (fun _ _ _ h => h) (Or.inl ⟨by rfl, ?_⟩) (by assumption) ?_
          rotate_left 1
          · intro w hSw
            go_simp
            with_reducible rfl
          simp only [Act.put, List.setIfInBounds_toArray, List.set_cons_zero, List.set_cons_succ]
          refine wpAnyH_take (i := 1) (v := ?_) (by simp only [List.getElem?_toArray, List.getElem?_cons_zero, List.getElem?_cons_succ]; rfl) (by kernel_rfl) (by kernel_rfl) (by kernel_rfl) (fun _ _ _ h => h) (Or.inl ⟨by rfl, ?_⟩) (by assumption) ?_
          rotate_left 1
          · intro w hSw
            go_simp
            with_reducible rfl
          simp only [Act.put, List.setIfInBounds_toArray, List.set_cons_zero, List.set_cons_succ]
          refine wpAnyH_take (i := 2) (v := ?_) (by simp only [List.getElem?_toArray, List.getElem?_cons_zero, List.getElem?_cons_succ]; rfl) (by kernel_rfl) (by kernel_rfl) (by kernel_rfl) (fun _ _ _ h => h) (Or.inl ⟨by rfl, ?_⟩) (by assumption) ?_
          rotate_left 1
          · intro w hSw
            go_simp
            with_reducible rfl
          simp only [Act.put, List.setIfInBounds_toArray, List.set_cons_zero, List.set_cons_succ]
          refine wpAnyH_take (i := 3) (v := ?_) (by simp only [List.getElem?_toArray, List.getElem?_cons_zero, List.getElem?_cons_succ]; rfl) (by kernel_rfl) (by kernel_rfl) (by kernel_rfl) (fun _ _ _ h => h) (Or.inl ⟨by rfl, ?_⟩) (by assumption) ?_
          rotate_left 1
          · intro w hSw
            go_simp
            with_reducible rfl
          simp only [Act.put, List.setIfInBounds_toArray, List.set_cons_zero, List.set_cons_succ]
          refine wpAnyH_take (i := 4) (v := ?_) (by simp only [List.getElem?_toArray, List.getElem?_cons_zero, List.getElem?_cons_succ]; rfl) (by kernel_rfl) (by kernel_rfl) (by kernel_rfl) (fun _ _ _ h => h) (Or.inl ⟨by rfl, ?_⟩) (by assumption) ?_
          rotate_left 1
          · intro w hSw
            go_simp
            with_reducible rfl
          simp only [Act.put, List.setIfInBounds_toArray, List.set_cons_zero, List.set_cons_succ]
          refine wpAnyH_take (i := 5) (v := ?_) (by simp only [List.getElem?_toArray, List.getElem?_cons_zero, List.getElem?_cons_succ]; rfl) (by kernel_rfl) (by kernel_rfl) (by kernel_rfl) (fun _ _ _ h => h) (Or.inl ⟨by rfl, ?_⟩) (by assumption) ?_
          rotate_left 1
          · intro w hSw
            go_simp
            with_reducible rfl
          simp only [Act.put, List.setIfInBounds_toArray, List.set_cons_zero, List.set_cons_succ]
          refine wpAnyH_take (i := 6) (v := ?_) (by simp only [List.getElem?_toArray, List.getElem?_cons_zero, List.getElem?_cons_succ]; rfl) (by kernel_rfl) (by kernel_rfl) (by kernel_rfl) (fun _ _ _ h => h) (Or.inl ⟨by rfl, ?_⟩) (by assumption) ?_
          rotate_left 1
          · intro w hSw
            go_simp
            with_reducible rfl
          simp only [Act.put, List.setIfInBounds_toArray, List.set_cons_zero, List.set_cons_succ]
          refine wpAnyH_take (i := 7) (v := ?_) (by simp only [List.getElem?_toArray, List.getElem?_cons_zero, List.getElem?_cons_succ]; rfl) (by kernel_rfl) (by kernel_rfl) (by kernel_rfl) (fun _ _ _ h => h) (Or.inl ⟨by rfl, ?_⟩) (by assumption) ?_
          rotate_left 1
          · intro w hSw
            go_simp
            with_reducible rfl
          simp only [Act.put, List.setIfInBounds_toArray, List.set_cons_zero, List.set_cons_succ]
          refine wpAnyH_take (i := 8) (v := .bool true) (by simp only [List.getElem?_toArray, List.getElem?_cons_zero, List.getElem?_cons_succ]; rfl) (by kernel_rfl) (by kernel_rfl) (by kernel_rfl) (fun _ _ _ h => h) (Or.inl ⟨by rfl, ?_⟩) (by assumption) ?_
          · intro w hSw
            go_simp
            simp [Q0.out]
          simp only [Act.put, List.setIfInBounds_toArray, List.set_cons_zero, List.set_cons_succ]
          refine wpAnyH_take (i := 9) (v := ?_) (by simp only [List.getElem?_toArray, List.getElem?_cons_zero, List.getElem?_cons_succ]; rfl) (by kernel_rfl) (by kernel_rfl) (by kernel_rfl) (fun _ _ _ h => h) (Or.inl ⟨by rfl, ?_⟩) (by assumption) ?_
          rotate_left 1
          · intro w hSw
            have c1 := hSw.c1
            have c2 := hSw.c2
            go_simp
            with_reducible rfl
          simp only [Act.put, List.setIfInBounds_toArray, List.set_cons_zero, List.set_cons_succ]
          refine wpAnyH_take (i := 10) (v := ?_) (by simp only [List.getElem?_toArray, List.getElem?_cons_zero, List.getElem?_cons_succ]; rfl) (by kernel_rfl) (by kernel_rfl) (by kernel_rfl) (fun _ _ _ h => h) (Or.inl ⟨by rfl, ?_⟩) (by assumption) ?_
          rotate_left 1
          · intro w hSw
            have c1 := hSw.c1
            have c2 := hSw.c2
            go_simp
            with_reducible rfl
          simp only [Act.put, List.setIfInBounds_toArray, List.set_cons_zero, List.set_cons_succ]
          refine wpAnyH_take (i := 11) (v := ?_) (by simp only [List.getElem?_toArray, List.getElem?_cons_zero, List.getElem?_cons_succ]; rfl) (by kernel_rfl) (by kernel_rfl) (by kernel_rfl) (fun _ _ _ h => h) (Or.inl ⟨by rfl, ?_⟩) (by assumption) ?_
          rotate_left 1
          · intro w hSw
            have c1 := hSw.c1
            have c2 := hSw.c2
            go_simp
            with_reducible rfl
          simp only [Act.put, List.setIfInBounds_toArray, List.set_cons_zero, List.set_cons_succ]
          refine wpAnyH_take (i := 12) (v := ?_) (by simp only [List.getElem?_toArray, List.getElem?_cons_zero, List.getElem?_cons_succ]; rfl) (by kernel_rfl) (by kernel_rfl) (by kernel_rfl) (fun _ _ _ h => h) (Or.inl ⟨by rfl, ?_⟩) (by assumption) ?_
          rotate_left 1
          · intro w hSw
            have c1 := hSw.c1
            have c2 := hSw.c2
            go_simp
            with_reducible rfl
          simp only [Act.put, List.setIfInBounds_toArray, List.set_cons_zero, List.set_cons_succ]
          refine wpAnyH_take (i := 13) (v := ?_) (by simp only [List.getElem?_toArray, List.getElem?_cons_zero, List.getElem?_cons_succ]; rfl) (by kernel_rfl) (by kernel_rfl) (by kernel_rfl) (fun _ _ _ h => h) (Or.inl ⟨by rfl, ?_⟩) (by assumption) ?_
          rotate_left 1
          · intro w hSw
            have c1 := hSw.c1
            have c2 := hSw.c2
            go_simp
            with_reducible rfl
          simp only [Act.put, List.setIfInBounds_toArray, List.set_cons_zero, List.set_cons_succ]
          refine wpAnyH_take (i := 14) (v := ?_) (by simp only [List.getElem?_toArray, List.getElem?_cons_zero, List.getElem?_cons_succ]; rfl) (by kernel_rfl) (by kernel_rfl) (by kernel_rfl) (fun _ _ _ h => h) (Or.inl ⟨by rfl, ?_⟩) (by assumption) ?_
          rotate_left 1
          · intro w hSw
            have c1 := hSw.c1
            have c2 := hSw.c2
            go_simp
            with_reducible rfl
          simp only [Act.put, List.setIfInBounds_toArray, List.set_cons_zero, List.set_cons_succ]
          refine wpAnyH_take (i := 15) (v := ?_) (by simp only [List.getElem?_toArray, List.getElem?_cons_zero, List.getElem?_cons_succ]; rfl) (by kernel_rfl) (by kernel_rfl) (by kernel_rfl) (fun _ _ _ h => h) (Or.inl ⟨by rfl, ?_⟩) (by assumption) ?_
          rotate_left 1
          · intro w hSw
            have c1 := hSw.c1
            have c2 := hSw.c2
            go_simp
            with_reducible rfl
          simp only [Act.put, List.setIfInBounds_toArray, List.set_cons_zero, List.set_cons_succ]
          refine wpAnyH_take (i := 16) (v := ?_) (by simp only [List.getElem?_toArray, List.getElem?_cons_zero, List.getElem?_cons_succ]; rfl) (by kernel_rfl) (by kernel_rfl) (by kernel_rfl) (fun _ _ _ h => h) (Or.inl ⟨by rfl, ?_⟩) (by assumption) ?_
          rotate_left 1
          · intro w hSw
            have c1 := hSw.c1
            have c2 := hSw.c2
            go_simp
            with_reducible rfl
          simp only [Act.put, List.setIfInBounds_toArray, List.set_cons_zero, List.set_cons_succ]
          refine wpAnyH_take (i := 17) (v := ?_) (by simp only [List.getElem?_toArray, List.getElem?_cons_zero, List.getElem?_cons_succ]; rfl) (by kernel_rfl) (by kernel_rfl) (by kernel_rfl) (fun _ _ _ h => h) (Or.inl ⟨by rfl, ?_⟩) (by assumption) ?_
          rotate_left 1
          · intro w hSw
            have c1 := hSw.c1
            have c2 := hSw.c2
            go_simp
            with_reducible rfl
          simp only [Act.put, List.setIfInBounds_toArray, List.set_cons_zero, List.set_cons_succ]
          refine wpAnyH_take (i := 18) (v := ?_) (by simp only [List.getElem?_toArray, List.getElem?_cons_zero, List.getElem?_cons_succ]; rfl) (by kernel_rfl) (by kernel_rfl) (by kernel_rfl) (fun _ _ _ h => h) (Or.inl ⟨by rfl, ?_⟩) (by assumption) ?_
          rotate_left 1
          · intro w hSw
            have c1 := hSw.c1
            have c2 := hSw.c2
            go_simp
            with_reducible rfl
          simp only [Act.put, List.setIfInBounds_toArray, List.set_cons_zero, List.set_cons_succ]
          refine wpAnyH_ready (rs := [19]) (by kernel_rfl) (by simp) ?_
          refine AllReadyH.cons (by simp only [List.getElem?_toArray, List.getElem?_cons_zero, List.getElem?_cons_succ]; rfl) (fun K hK => ?_) AllReadyH.nil
          go_simp
          refine (CC.out _).mono ?_
          rintro e7 w7 ⟨rfl, nq, rfl⟩
          have hz1 := (⟨S0.out.c1, S0.out.c2⟩ : TwoC g j k x y (w6.drew.drewN nq))
          refine hK.out _ _ hz1 (fun hS => ?_)
          clear hK K hS
          refine wpAnyH_take (i := 20) (v := ?_) (by simp only [List.getElem?_toArray, List.getElem?_cons_zero, List.getElem?_cons_succ]; rfl) (by kernel_rfl) (by kernel_rfl) (by kernel_rfl) (fun _ _ _ h => h) (Or.inl ⟨by rfl, ?_⟩) (by assumption) ?_
          rotate_left 1
          · intro w hSw
            go_simp
            with_reducible rfl
          simp only [Act.put, List.setIfInBounds_toArray, List.set_cons_zero, List.set_cons_succ]
          refine wpAnyH_take (i := 21) (v := ?_) (by simp only [List.getElem?_toArray, List.getElem?_cons_zero, List.getElem?_cons_succ]; rfl) (by kernel_rfl) (by kernel_rfl) (by kernel_rfl) (fun _ _ _ h => h) (Or.inl ⟨by rfl, ?_⟩) (by assumption) ?_
          rotate_left 1
          · intro w hSw
            go_simp
            with_reducible rfl
          simp only [Act.put, List.setIfInBounds_toArray, List.set_cons_zero, List.set_cons_succ]
          refine wpAnyH_take (i := 22) (v := ?_) (by simp only [List.getElem?_toArray, List.getElem?_cons_zero, List.getElem?_cons_succ]; rfl) (by kernel_rfl) (by kernel_rfl) (by kernel_rfl) (fun _ _ _ h => h) (Or.inl ⟨by rfl, ?_⟩) (by assumption) ?_
          rotate_left 1
          · intro w hSw
            go_simp
            with_reducible rfl
          simp only [Act.put, List.setIfInBounds_toArray, List.set_cons_zero, List.set_cons_succ]
          refine wpAnyH_done (by kernel_rfl) ?_ _
          refine NoPanic.normal ?_
          have Y3 : Hid (Below wr.heap.size wr (w6.drew.drewN nq)) := Y2.out.drew.drewN' nq
          have X3 : Hid (Has (w6.drew.drewN nq) w5.heap.size 64 (ndA kd d t tm)) := X2.out
          obtain ⟨w7, HW7⟩ : ∃ w7, w7 = w6.drew.drewN nq := ⟨_, rfl⟩
          rw [← HW7] at Y3 X3 ⊢
          clear HW7 hS S0 hz1
          go_wp2_with fail
          refine (C3.out _ Y3.out).mono ?_; rintro e8 w8 ⟨rfl, hb8⟩
          have Y4 : Hid (Below wr.heap.size wr (w8.alloc (.cells (ndA kd2 d2 t2 tm2) 64))) := (Y3.out.trans (hb8.mono Y3.out.size)).alloc (Nat.le_trans Y3.out.size hb8.size) _
          have X4 : Hid (Has (w8.alloc (.cells (ndA kd2 d2 t2 tm2) 64)) w5.heap.size 64 (ndA kd d t tm)) := X3.out.kept (hb8.alloc hb8.size _) X3.out.inside
          have k5 : (w8.alloc (.cells (ndA kd2 d2 t2 tm2) 64)).cell? ⟨w5.heap.size, 1, none⟩ = some (kS d) := X4.out.at_ 1
          have k6 : (w8.alloc (.cells (ndA kd2 d2 t2 tm2) 64)).cell? ⟨w8.heap.size, 0, none⟩ = some (.int .i64 kd2) := (Has.fresh w8 64 (ndA kd2 d2 t2 tm2)).at_ 0
          clear hb8
          rcases HR.out.ok with hu0 | ⟨hc0, hk2⟩
          · have z1 : (ba up).toList = [] := by rw [toList_tl, tl_ba, hu0]
            clear hu0
            go_wp2
            go_roundw
            case rel => exact ⟨k + 1, by rw [HU2.out]; go_num, by go_num, by omega, J1.out.trans (Y4.out.mono J1.out.size)⟩
            case measure => simp [intOf]; omega
          · have hk2 : kd2 = 2 := hk2
            subst hc0
            subst hk2
            by_cases hu0 : up = []
            · have z1 : (ba up).toList = [] := by rw [toList_tl, tl_ba, hu0]
              clear hu0
              go_wp2
              go_roundw
              case rel => exact ⟨k + 1, by rw [HU2.out]; go_num, by go_num, by omega, J1.out.trans (Y4.out.mono J1.out.size)⟩
              case measure => simp [intOf]; omega
            · have z1 : ¬ (ba up).toList = [] := by rw [toList_tl, tl_ba]; exact hu0
              have z2 : (ba up).toList.isEmpty = false := by simpa using z1
              clear hu0
              go_wp2
              go_roundw
              case rel => exact ⟨k + 1, by rw [HU2.out]; go_num, by go_num, by omega, J1.out.trans (Y4.out.mono J1.out.size)⟩
              case measure => simp [intOf]; omega
      · have HE : Hid (usedL (L.take k) = usedL L) := by
          show _ = _
          rw [List.take_of_length_le]
          have := HN.out; unfold pathsL at this; rw [List.length_map] at this; omega
        have HUL : Hid ((usedL L : Int) ≤ 16384) := by have := HWF.out.used; show _ ≤ _; omega
        have LR := hid (L3.out.on J1.out)
        have CU : Hid (Calls Tryz.prog 27 #[.pointer (some ⟨p, 0, none⟩)] wr fun e w' => e = .returned (.int .i64 ((usedL L : Nat) : Int)) ∧ wr = w') := by have := lUsed LR.out; rw [HL.out] at this; exact this
        have CR : Hid (Calls Tryz.prog 35 #[.pointer (some ⟨p, 0, none⟩)] wr fun e w' => e = .returned (.int .i64 16384) ∧ wr = w') := by have := lRoom LR.out; rw [HRM.out] at this; exact this
        have GR : Hid (Gd wr) := LR.out.gd G2.out
        rw [HE.out]
        have BE : Hid (Below w.heap.size w wr) := B3.out.trans (J1.out.mono B3.out.size)
        obtain ⟨ul, HUU⟩ : ∃ ul, Hid (usedL L = ul) := ⟨_, rfl⟩
        rw [HUU.out] at CU HUL ⊢
        have hul : (ul : Int) ≤ 16384 := HUL.out
        go_wp2_with fail
        refine CU.out.mono ?_; rintro e5 w5 ⟨rfl, rfl⟩
        go_wp2_with fail
        refine CR.out.mono ?_; rintro e6 w6 ⟨rfl, rfl⟩
        go_wp2_with fail
        refine (awake_any _ GR.out).mono ?_; rintro e7 w7 ⟨rfl, hb7⟩
        have B7 : Hid (Below w.heap.size w w7) := BE.out.trans (hb7.mono BE.out.size)
        clear hb7
        go_wp2
        go_ret
        exact ⟨rfl, B7.out⟩
end Go.Proofs.YtlbeemlnbpchgaaGreat
