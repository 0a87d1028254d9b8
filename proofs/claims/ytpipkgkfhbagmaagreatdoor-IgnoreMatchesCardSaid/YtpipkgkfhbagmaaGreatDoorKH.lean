/- The document's patterns: Match: what the call does. Conditions: a pattern of the document's of at most 128 elements. -/
import Derived.Test.YtpipkgkfhbagmaaGreatDoorKG
namespace Go.Proofs.YtpipkgkfhbagmaaGreatDoor.Glob
open Go.RowKit
theorem ba_seg (s : By) (a b : Nat) : (ba s).extract a b = ba (seg s a b) := by
  apply ByteArray.ext; apply Array.ext'; simp [ba, seg, List.extract]
def cellR (hs : H) (path : By) (a b : Nat) : Bool := decide (a ≤ b) && endB path b && wh hs (seg path a b)
def colR (rooted : Bool) (hs : H) (path : By) (a : Nat) : Bool := startB rooted path a && (List.range (path.length + 1)).any (cellR hs path a)
theorem matchP_eq (rooted : Bool) (hs : H) (path : By) : matchP rooted hs path = (decide (path.length ≤ 160) && (List.range (path.length + 1)).any (colR rooted hs path)) := rfl
theorem cells_none (hs : H) (path : By) (a : Nat) : (List.range a).any (cellR hs path a) = false := by
  rw [List.any_eq_false]
  intro b hb
  have : ¬ a ≤ b := by have := List.mem_range.1 hb; omega
  unfold cellR
  rw [decide_eq_false this]; simp
set_option maxRecDepth 100000 in
set_option maxHeartbeats 4000000 in
theorem rmatch_long (n f d r : Bool) (A : Option Addr) (l c : Nat) (hs : H) (path : By) (w : World) (hl : 160 < path.length) :
    Calls Tryz.prog 27 #[.agg #[.bool n, .bool f, .bool d, .bool r, .slice A l c], .string (ba path)] w fun e w' => e = .returned (.bool (mB r hs path)) ∧ Below w.heap.size w w' := by
  have HM : Hid (mB r hs path = false) := by show _ = _; rw [mB_eq, decide_eq_false (by omega)]; rfl
  have z := ba_size path
  have hi : (160 : Int) < (path.length : Int) := by omega
  clear hl
  go_enter Tryz.func27, Tryz.ntmps27
  go_wp2
  go_ret
  exact ⟨ret_bool HM.out.symm, (Below.refl _ _).alloc (Nat.le_refl _) _⟩
set_option maxRecDepth 100000 in
set_option maxHeartbeats 8000000 in
theorem rmatch_short (n f d r : Bool) (A : Option Addr) (l c : Nat) (els : List El) (path : By) (w : World) (hr : RLs 0 w (.slice A l c) els) (hl : l = els.length) (hL : l ≤ 128) (hn : ∀ neg rs, El.set neg rs ∈ els → rs.length ≤ 1000) (hlen : path.length ≤ 160) :
    Calls Tryz.prog 27 #[.agg #[.bool n, .bool f, .bool d, .bool r, .slice A l c], .string (ba path)] w fun e w' => e = .returned (.bool (mB r (hsOf f els) path)) ∧ Below w.heap.size w w' := by
  have HM : Hid (mB r (hsOf f els) path = (List.range (path.length + 1)).any (colR r (hsOf f els) path)) := by show _ = _; rw [mB_match, matchP_eq, decide_eq_true hlen]; rfl
  have z := ba_size path
  have hi : ¬ ((160 : Int) < (path.length : Int)) := by omega
  obtain ⟨W0, hW0⟩ : ∃ W0, w.alloc (.cells #[.bool n, .bool f, .bool d, .bool r, .slice A l c] 62) = W0 := ⟨_, rfl⟩
  have P0 : Hid (Has W0 w.heap.size 62 #[.bool n, .bool f, .bool d, .bool r, .slice A l c]) := hW0 ▸ Has.fresh _ _ _
  have B0 : Hid (Below w.heap.size w W0) := hW0 ▸ (Below.refl _ _).alloc (Nat.le_refl _) _
  have CW : Hid (∀ a b W, b ≤ path.length → Below W0.heap.size W0 W → Calls Tryz.prog 49 #[.agg #[.bool n, .bool f, .bool d, .bool r, .slice A l c], .string (ba (seg path a b))] W fun e w' => e = .returned (.bool (wh (hsOf f els) (seg path a b))) ∧ Below W.heap.size W w') := fun a b W hb hW =>
    rwhole_any n f d r A l c els (seg path a b) W ((hr.stays B0.out).stays hW) hl hL hn (by rw [seg_len path a b hb]; omega)
  rw [HM.out]
  generalize hsOf f els = hs at *
  clear HM hr hl hn
  obtain ⟨ans, HANS⟩ : ∃ ans, Hid ((List.range (path.length + 1)).any (colR r hs path) = ans) := ⟨_, rfl⟩
  rw [HANS.out]
  obtain ⟨pb, hpb⟩ : ∃ pb, w.heap.size = pb := ⟨_, rfl⟩
  have HPB := hid hpb
  rw [hpb] at P0 B0
  have HS0 : Hid (pb ≤ W0.heap.size) := by have := B0.out.size; show _ ≤ _; omega
  go_enter Tryz.func27, Tryz.ntmps27
  go_wp2
  clear hW0 hi
  go_loopw [5, 6] (fun v _ wr => ∃ k : Nat, v = .int .i64 (k : Int) ∧ k ≤ path.length + 1 ∧ Hid ((List.range k).any (colR r hs path) = false) ∧ Hid (Below W0.heap.size W0 wr))
    (fun v _ _ => path.length + 1 - (intOf v).toNat)
  case atStart => exact ⟨0, rfl, Nat.zero_le _, rfl, Below.refl _ _⟩
  case round =>
    obtain ⟨k, rfl, hk, HN, HB⟩ := hrel
    by_cases hlt : k < path.length + 1
    · have hkk : k ≤ path.length := by omega
      have k3 := (P0.out.stays HB.out).at_ 3
      go_upto_region 6 with (fail)
      go_cut [28] from 10 to 53 (fun t w' => t = .bool (!startB r path k) ∧ wr = w')
      case first => as_aux_lemma =>
        by_cases h0 : k = 0
        · have HT : Hid (startB r path k = true) := by show _ = _; unfold startB; rw [h0]; rfl
          subst h0
          go_wp2
          go_meet
          case rel => exact ⟨by rw [HT.out]; rfl, rfl⟩
        · have h0i : (0 : Int) < (k : Int) := by omega
          obtain ⟨j, hj⟩ : ∃ j, k - 1 = j := ⟨_, rfl⟩
          have ej : (k : Int) - 1 = (j : Int) := by omega
          have ij := index_str path j (by omega)
          have HT : Hid (startB r path k = ((at8 path j == 47) && !r)) := by
            show _ = _; unfold startB; rw [hj, show (k == 0) = false by simp [h0]]; rfl
          have q7 := ne8 (at8 path j) 47
          rw [show b8 47 = 47 from rfl] at q7
          generalize at8 path j = x at ij HT q7
          obtain ⟨bq, hbq⟩ : ∃ bq, (x == 47) = bq := ⟨_, rfl⟩
          rw [hbq] at q7 HT
          clear h0 hj hbq CW
          cases r with
          | true =>
            go_wp2
            go_meet
            case rel => exact ⟨by rw [HT.out]; cases bq <;> rfl, rfl⟩
          | false =>
            cases bq with
            | true =>
              simp only [Bool.not_true] at q7
              go_wp2
              go_meet
              case rel => exact ⟨by rw [HT.out]; rfl, rfl⟩
            | false =>
              simp only [Bool.not_false] at q7
              go_wp2
              go_meet
              case rel => exact ⟨by rw [HT.out]; rfl, rfl⟩
      case rest =>
        obtain ⟨rfl, rfl⟩ := hcut
        have HSU := hid (range_any_succ (colR r hs path) k)
        have HC0 : Hid (colR r hs path k = (startB r path k && (List.range (path.length + 1)).any (cellR hs path k))) := rfl
        clear k3
        obtain ⟨sb, hsb⟩ : ∃ sb, startB r path k = sb := ⟨_, rfl⟩
        rw [hsb] at HC0
        rw [hsb]
        clear hsb
        cases sb with
        | false =>
          have HN1 : Hid ((List.range (k + 1)).any (colR r hs path) = false) := by show _ = _; rw [HSU.out, HN.out, HC0.out]; rfl
          clear CW HSU HC0
          go_wp2
          exact ⟨⟨k + 1, by go_num, by omega, HN1.out, HB.out⟩, by simp [intOf]; omega⟩
        | true =>
          obtain ⟨w1, rfl⟩ : ∃ w1, w1 = wr := ⟨_, rfl⟩
          go_wp2
          go_loopw [6] (fun v wr => ∃ b : Nat, v = .int .i64 (b : Int) ∧ k ≤ b ∧ b ≤ path.length + 1 ∧ Hid ((List.range b).any (cellR hs path k) = false) ∧ Hid (Below W0.heap.size W0 wr))
            (fun v _ => path.length + 1 - (intOf v).toNat)
          case atStart => exact ⟨k, rfl, Nat.le_refl _, by omega, cells_none hs path k, HB.out⟩
          case round =>
            obtain ⟨b, rfl, hkb, hb, HNB, HB2⟩ := hrel
            by_cases hbt : b < path.length + 1
            · have hbb : b ≤ path.length := by omega
              have sg := ba_seg path k b
              have CWS : Hid (∀ W, Below W0.heap.size W0 W → Calls Tryz.prog 49 #[.agg #[.bool n, .bool f, .bool d, .bool r, .slice A l c], .string (ba (seg path k b))] W fun e w' => e = .returned (.bool (wh hs (seg path k b))) ∧ Below W.heap.size W w') := fun W hW => CW.out k b W hbb hW
              have LP : Hid (∀ W, Below W0.heap.size W0 W → (loadVar 62 ⟨pb, 0, none⟩).run Tryz.prog W = .ok (.agg #[.bool n, .bool f, .bool d, .bool r, .slice A l c]) W) := fun W h => load_rp (P0.out.stays h)
              have HCE : Hid (cellR hs path k b = (endB path b && wh hs (seg path k b))) := by show _ = _; unfold cellR; rw [decide_eq_true hkb]; rfl
              have HEN : Hid (endB path b = (b == path.length || (at8 path b == 47))) := rfl
              go_upto_region 10 with (fail)
              go_cut [53] from 30 to 53 (fun t w' => t = .bool (cellR hs path k b) ∧ Hid (Below W0.heap.size W0 w'))
              case first => as_aux_lemma =>
                have i0 : (0 : Int) ≤ (k : Int) := by omega
                have i1 : (k : Int) ≤ (b : Int) := by omega
                have i2 : (b : Int) ≤ (path.length : Int) := by omega
                have i3 : (0 : Int) ≤ (b : Int) := by omega
                have z0 : Below W0.heap.size W0 wr.drew := HB2.out.drew
                clear CW HSU HC0 HN HNB
                by_cases hbe : b = path.length
                · have e7 : ((b : Int) == (path.length : Int)) = true := by simp [hbe]
                  have HV : Hid (cellR hs path k b = wh hs (seg path k b)) := by
                    show _ = _; rw [HCE.out, HEN.out, show (b == path.length) = true by simp [hbe], Bool.true_or, Bool.true_and]
                  clear HCE HEN hbe
                  generalize wh hs (seg path k b) = ww at CWS HV
                  refine wp_region_noPanic ?_
                  refine wp_region_held_drew (S := Below W0.heap.size W0) (by kernel_rfl) (z0) (fun hS => ?_)
                  refine wpAnyH_take (i := 0) (v := ?_) (by simp only [List.getElem?_toArray, List.getElem?_cons_zero]; rfl) (by kernel_rfl) (by kernel_rfl) (by kernel_rfl) (fun _ _ _ h => h) (Or.inl ⟨by rfl, ?_⟩) (by assumption) ?_
                  rotate_left 1
                  · intro w hSw
                    go_simp
                    with_reducible rfl
                  simp only [Act.put, List.setIfInBounds_toArray, List.set_cons_zero, List.set_cons_succ]
                  refine wpAnyH_take (i := 1) (v := ?_) (by simp only [List.getElem?_toArray, List.getElem?_cons_zero, List.getElem?_cons_succ]; rfl) (by kernel_rfl) (by kernel_rfl) (by kernel_rfl) (fun _ _ _ h => h) (Or.inl ⟨by rfl, ?_⟩) (by assumption) ?_
                  rotate_left 1
                  · intro w hSw
                    go_simp
                    with_reducible rfl
                  simp only [Act.put, List.setIfInBounds_toArray, List.set_cons_zero, List.set_cons_succ]
                  refine wpAnyH_take (i := 2) (v := ?_) (by simp only [List.getElem?_toArray, List.getElem?_cons_zero, List.getElem?_cons_succ]; rfl) (by kernel_rfl) (by kernel_rfl) (by kernel_rfl) (fun _ _ _ h => h) (Or.inl ⟨by rfl, ?_⟩) (by assumption) ?_
                  rotate_left 1
                  · intro w hSw
                    go_simp
                    with_reducible rfl
                  simp only [Act.put, List.setIfInBounds_toArray, List.set_cons_zero, List.set_cons_succ]
                  refine wpAnyH_take (i := 3) (v := ?_) (by simp only [List.getElem?_toArray, List.getElem?_cons_zero, List.getElem?_cons_succ]; rfl) (by kernel_rfl) (by kernel_rfl) (by kernel_rfl) (fun _ _ _ h => h) (Or.inl ⟨by rfl, ?_⟩) (by assumption) ?_
                  rotate_left 1
                  · intro w hSw
                    go_simp
                    with_reducible rfl
                  simp only [Act.put, List.setIfInBounds_toArray, List.set_cons_zero, List.set_cons_succ]
                  refine wpAnyH_take (i := 4) (v := ?_) (by simp only [List.getElem?_toArray, List.getElem?_cons_zero, List.getElem?_cons_succ]; rfl) (by kernel_rfl) (by kernel_rfl) (by kernel_rfl) (fun _ _ _ h => h) (Or.inl ⟨by rfl, ?_⟩) (by assumption) ?_
                  rotate_left 1
                  · intro w hSw
                    go_simp
                    with_reducible rfl
                  simp only [Act.put, List.setIfInBounds_toArray, List.set_cons_zero, List.set_cons_succ]
                  refine wpAnyH_take (i := 5) (v := undef) (by simp only [List.getElem?_toArray, List.getElem?_cons_zero, List.getElem?_cons_succ]; rfl) (by kernel_rfl) (by kernel_rfl) (by kernel_rfl) (fun _ _ _ h => h) (Or.inr ⟨by rfl, rfl⟩) (by assumption) ?_
                  simp only [Act.put, List.setIfInBounds_toArray, List.set_cons_zero, List.set_cons_succ]
                  refine wpAnyH_take (i := 6) (v := undef) (by simp only [List.getElem?_toArray, List.getElem?_cons_zero, List.getElem?_cons_succ]; rfl) (by kernel_rfl) (by kernel_rfl) (by kernel_rfl) (fun _ _ _ h => h) (Or.inr ⟨by rfl, rfl⟩) (by assumption) ?_
                  simp only [Act.put, List.setIfInBounds_toArray, List.set_cons_zero, List.set_cons_succ]
                  refine wpAnyH_take (i := 7) (v := undef) (by simp only [List.getElem?_toArray, List.getElem?_cons_zero, List.getElem?_cons_succ]; rfl) (by kernel_rfl) (by kernel_rfl) (by kernel_rfl) (fun _ _ _ h => h) (Or.inr ⟨by rfl, rfl⟩) (by assumption) ?_
                  simp only [Act.put, List.setIfInBounds_toArray, List.set_cons_zero, List.set_cons_succ]
                  refine wpAnyH_take (i := 8) (v := undef) (by simp only [List.getElem?_toArray, List.getElem?_cons_zero, List.getElem?_cons_succ]; rfl) (by kernel_rfl) (by kernel_rfl) (by kernel_rfl) (fun _ _ _ h => h) (Or.inr ⟨by rfl, rfl⟩) (by assumption) ?_
                  simp only [Act.put, List.setIfInBounds_toArray, List.set_cons_zero, List.set_cons_succ]
                  refine wpAnyH_take (i := 9) (v := ?_) (by simp only [List.getElem?_toArray, List.getElem?_cons_zero, List.getElem?_cons_succ]; rfl) (by kernel_rfl) (by kernel_rfl) (by kernel_rfl) (fun _ _ _ h => h) (Or.inl ⟨by rfl, ?_⟩) (by assumption) ?_
                  rotate_left 1
                  · intro w hSw
                    go_simp
                    with_reducible rfl
                  simp only [Act.put, List.setIfInBounds_toArray, List.set_cons_zero, List.set_cons_succ]
                  refine wpAnyH_take (i := 10) (v := ?_) (by simp only [List.getElem?_toArray, List.getElem?_cons_zero, List.getElem?_cons_succ]; rfl) (by kernel_rfl) (by kernel_rfl) (by kernel_rfl) (fun _ _ _ h => h) (Or.inl ⟨by rfl, ?_⟩) (by assumption) ?_
                  rotate_left 1
                  · intro w hSw
                    go_simp
                    with_reducible rfl
                  simp only [Act.put, List.setIfInBounds_toArray, List.set_cons_zero, List.set_cons_succ]
                  refine' wpAnyH_take (i := 11) (v := _) (by simp only [List.getElem?_toArray, List.getElem?_cons_zero, List.getElem?_cons_succ]; rfl) (by kernel_rfl) (by kernel_rfl) (by kernel_rfl) (fun _ _ _ h => h) (yields_load (by rfl) 62 (.tmp 2) rfl pb 0 rfl #[.bool n, .bool f, .bool d, .bool r, .slice A l c] (LP.out)) (by assumption) ?_
                  simp only [Act.put, List.setIfInBounds_toArray, List.set_cons_zero, List.set_cons_succ]
                  refine wpAnyH_take (i := 12) (v := ?_) (by simp only [List.getElem?_toArray, List.getElem?_cons_zero, List.getElem?_cons_succ]; rfl) (by kernel_rfl) (by kernel_rfl) (by kernel_rfl) (fun _ _ _ h => h) (Or.inl ⟨by rfl, ?_⟩) (by assumption) ?_
                  rotate_left 1
                  · intro w hSw
                    go_simp
                    with_reducible rfl
                  simp only [Act.put, List.setIfInBounds_toArray, List.set_cons_zero, List.set_cons_succ]
                  refine wpAnyH_take (i := 13) (v := ?_) (by simp only [List.getElem?_toArray, List.getElem?_cons_zero, List.getElem?_cons_succ]; rfl) (by kernel_rfl) (by kernel_rfl) (by kernel_rfl) (fun _ _ _ h => h) (Or.inl ⟨by rfl, ?_⟩) (by assumption) ?_
                  rotate_left 1
                  · intro w hSw
                    go_simp
                    with_reducible rfl
                  simp only [Act.put, List.setIfInBounds_toArray, List.set_cons_zero, List.set_cons_succ]
                  refine wpAnyH_take (i := 14) (v := ?_) (by simp only [List.getElem?_toArray, List.getElem?_cons_zero, List.getElem?_cons_succ]; rfl) (by kernel_rfl) (by kernel_rfl) (by kernel_rfl) (fun _ _ _ h => h) (Or.inl ⟨by rfl, ?_⟩) (by assumption) ?_
                  rotate_left 1
                  · intro w hSw
                    go_simp
                    with_reducible rfl
                  simp only [Act.put, List.setIfInBounds_toArray, List.set_cons_zero, List.set_cons_succ]
                  refine wpAnyH_take (i := 15) (v := ?_) (by simp only [List.getElem?_toArray, List.getElem?_cons_zero, List.getElem?_cons_succ]; rfl) (by kernel_rfl) (by kernel_rfl) (by kernel_rfl) (fun _ _ _ h => h) (Or.inl ⟨by rfl, ?_⟩) (by assumption) ?_
                  rotate_left 1
                  · intro w hSw
                    go_simp
                    with_reducible rfl
                  simp only [Act.put, List.setIfInBounds_toArray, List.set_cons_zero, List.set_cons_succ]
                  refine wpAnyH_ready (rs := [16]) (by kernel_rfl) (by simp) ?_
                  refine AllReadyH.cons (by simp only [List.getElem?_toArray, List.getElem?_cons_zero, List.getElem?_cons_succ]; rfl) (fun K hK => ?_) (AllReadyH.nil)
                  go_simp
                  refine (CWS.out _ z0).mono ?_
                  rintro e16 y16 ⟨rfl, hb16⟩
                  have hz1 := z0.trans (hb16.mono z0.size)
                  refine hK.out _ _ hz1 (fun hS => ?_)
                  clear hK K hS
                  refine wpAnyH_take (i := 17) (v := ?_) (by simp only [List.getElem?_toArray, List.getElem?_cons_zero, List.getElem?_cons_succ]; rfl) (by kernel_rfl) (by kernel_rfl) (by kernel_rfl) (fun _ _ _ h => h) (Or.inl ⟨by rfl, ?_⟩) (by assumption) ?_
                  rotate_left 1
                  · intro w hSw
                    go_simp
                    with_reducible rfl
                  simp only [Act.put, List.setIfInBounds_toArray, List.set_cons_zero, List.set_cons_succ]
                  refine wpAnyH_done (by kernel_rfl) ?_ _
                  refine NoPanic.normal ?_
                  go_wp2
                  go_meet
                  case rel => exact ⟨by rw [HV.out] <;> first | rfl | simp, z0.trans (hb16.mono z0.size)⟩
                · have e7 : ((b : Int) == (path.length : Int)) = false := by simp; omega
                  have QI : Hid (∀ W, (Instr.index 9 (.string (ba path)) (.int .i64 (b : Int))).run Tryz.prog W = .ok (.int .u8 (b8 (at8 path b))) W) := index_str path b (by omega)
                  have q7 := b8_eq (at8 path b) 47
                  rw [show b8 47 = 47 from rfl] at q7
                  have HV : Hid (cellR hs path k b = ((at8 path b == 47) && wh hs (seg path k b))) := by
                    show _ = _; rw [HCE.out, HEN.out, show (b == path.length) = false by simp [hbe], Bool.false_or]
                  clear HCE HEN
                  generalize at8 path b = x at QI q7 HV
                  obtain ⟨bq, hbq⟩ : ∃ bq, (x == 47) = bq := ⟨_, rfl⟩
                  rw [hbq] at q7 HV
                  clear hbq
                  generalize wh hs (seg path k b) = ww at CWS HV
                  cases bq with
                  | true =>
                    refine wp_region_noPanic ?_
                    refine wp_region_held_drew (S := Below W0.heap.size W0) (by kernel_rfl) (z0) (fun hS => ?_)
                    refine wpAnyH_take (i := 0) (v := ?_) (by simp only [List.getElem?_toArray, List.getElem?_cons_zero]; rfl) (by kernel_rfl) (by kernel_rfl) (by kernel_rfl) (fun _ _ _ h => h) (Or.inl ⟨by rfl, ?_⟩) (by assumption) ?_
                    rotate_left 1
                    · intro w hSw
                      go_simp
                      with_reducible rfl
                    simp only [Act.put, List.setIfInBounds_toArray, List.set_cons_zero, List.set_cons_succ]
                    refine wpAnyH_take (i := 1) (v := ?_) (by simp only [List.getElem?_toArray, List.getElem?_cons_zero, List.getElem?_cons_succ]; rfl) (by kernel_rfl) (by kernel_rfl) (by kernel_rfl) (fun _ _ _ h => h) (Or.inl ⟨by rfl, ?_⟩) (by assumption) ?_
                    rotate_left 1
                    · intro w hSw
                      go_simp
                      with_reducible rfl
                    simp only [Act.put, List.setIfInBounds_toArray, List.set_cons_zero, List.set_cons_succ]
                    refine wpAnyH_take (i := 2) (v := ?_) (by simp only [List.getElem?_toArray, List.getElem?_cons_zero, List.getElem?_cons_succ]; rfl) (by kernel_rfl) (by kernel_rfl) (by kernel_rfl) (fun _ _ _ h => h) (Or.inl ⟨by rfl, ?_⟩) (by assumption) ?_
                    rotate_left 1
                    · intro w hSw
                      go_simp
                      with_reducible rfl
                    simp only [Act.put, List.setIfInBounds_toArray, List.set_cons_zero, List.set_cons_succ]
                    refine wpAnyH_take (i := 3) (v := ?_) (by simp only [List.getElem?_toArray, List.getElem?_cons_zero, List.getElem?_cons_succ]; rfl) (by kernel_rfl) (by kernel_rfl) (by kernel_rfl) (fun _ _ _ h => h) (Or.inl ⟨by rfl, ?_⟩) (by assumption) ?_
                    rotate_left 1
                    · intro w hSw
                      go_simp
                      with_reducible rfl
                    simp only [Act.put, List.setIfInBounds_toArray, List.set_cons_zero, List.set_cons_succ]
                    refine wpAnyH_take (i := 4) (v := ?_) (by simp only [List.getElem?_toArray, List.getElem?_cons_zero, List.getElem?_cons_succ]; rfl) (by kernel_rfl) (by kernel_rfl) (by kernel_rfl) (fun _ _ _ h => h) (Or.inl ⟨by rfl, ?_⟩) (by assumption) ?_
                    rotate_left 1
                    · intro w hSw
                      go_simp
                      with_reducible rfl
                    simp only [Act.put, List.setIfInBounds_toArray, List.set_cons_zero, List.set_cons_succ]
                    refine wpAnyH_take (i := 5) (v := ?_) (by simp only [List.getElem?_toArray, List.getElem?_cons_zero, List.getElem?_cons_succ]; rfl) (by kernel_rfl) (by kernel_rfl) (by kernel_rfl) (fun _ _ _ h => h) (Or.inl ⟨by rfl, ?_⟩) (by assumption) ?_
                    rotate_left 1
                    · intro w hSw
                      go_simp
                      with_reducible rfl
                    simp only [Act.put, List.setIfInBounds_toArray, List.set_cons_zero, List.set_cons_succ]
                    refine wpAnyH_take (i := 6) (v := ?_) (by simp only [List.getElem?_toArray, List.getElem?_cons_zero, List.getElem?_cons_succ]; rfl) (by kernel_rfl) (by kernel_rfl) (by kernel_rfl) (fun _ _ _ h => h) (Or.inl ⟨by rfl, ?_⟩) (by assumption) ?_
                    rotate_left 1
                    · intro w hSw
                      go_simp
                      with_reducible rfl
                    simp only [Act.put, List.setIfInBounds_toArray, List.set_cons_zero, List.set_cons_succ]
                    refine wpAnyH_take (i := 7) (v := ?_) (by simp only [List.getElem?_toArray, List.getElem?_cons_zero, List.getElem?_cons_succ]; rfl) (by kernel_rfl) (by kernel_rfl) (by kernel_rfl) (fun _ _ _ h => h) (Or.inl ⟨by rfl, ?_⟩) (by assumption) ?_
                    rotate_left 1
                    · intro w hSw
                      have qi := QI.out w
                      go_simp
                      with_reducible rfl
                    simp only [Act.put, List.setIfInBounds_toArray, List.set_cons_zero, List.set_cons_succ]
                    refine wpAnyH_take (i := 8) (v := ?_) (by simp only [List.getElem?_toArray, List.getElem?_cons_zero, List.getElem?_cons_succ]; rfl) (by kernel_rfl) (by kernel_rfl) (by kernel_rfl) (fun _ _ _ h => h) (Or.inl ⟨by rfl, ?_⟩) (by assumption) ?_
                    rotate_left 1
                    · intro w hSw
                      go_simp
                      with_reducible rfl
                    simp only [Act.put, List.setIfInBounds_toArray, List.set_cons_zero, List.set_cons_succ]
                    refine wpAnyH_take (i := 9) (v := ?_) (by simp only [List.getElem?_toArray, List.getElem?_cons_zero, List.getElem?_cons_succ]; rfl) (by kernel_rfl) (by kernel_rfl) (by kernel_rfl) (fun _ _ _ h => h) (Or.inl ⟨by rfl, ?_⟩) (by assumption) ?_
                    rotate_left 1
                    · intro w hSw
                      go_simp
                      with_reducible rfl
                    simp only [Act.put, List.setIfInBounds_toArray, List.set_cons_zero, List.set_cons_succ]
                    refine wpAnyH_take (i := 10) (v := ?_) (by simp only [List.getElem?_toArray, List.getElem?_cons_zero, List.getElem?_cons_succ]; rfl) (by kernel_rfl) (by kernel_rfl) (by kernel_rfl) (fun _ _ _ h => h) (Or.inl ⟨by rfl, ?_⟩) (by assumption) ?_
                    rotate_left 1
                    · intro w hSw
                      go_simp
                      with_reducible rfl
                    simp only [Act.put, List.setIfInBounds_toArray, List.set_cons_zero, List.set_cons_succ]
                    refine' wpAnyH_take (i := 11) (v := _) (by simp only [List.getElem?_toArray, List.getElem?_cons_zero, List.getElem?_cons_succ]; rfl) (by kernel_rfl) (by kernel_rfl) (by kernel_rfl) (fun _ _ _ h => h) (yields_load (by rfl) 62 (.tmp 2) rfl pb 0 rfl #[.bool n, .bool f, .bool d, .bool r, .slice A l c] (LP.out)) (by assumption) ?_
                    simp only [Act.put, List.setIfInBounds_toArray, List.set_cons_zero, List.set_cons_succ]
                    refine wpAnyH_take (i := 12) (v := ?_) (by simp only [List.getElem?_toArray, List.getElem?_cons_zero, List.getElem?_cons_succ]; rfl) (by kernel_rfl) (by kernel_rfl) (by kernel_rfl) (fun _ _ _ h => h) (Or.inl ⟨by rfl, ?_⟩) (by assumption) ?_
                    rotate_left 1
                    · intro w hSw
                      go_simp
                      with_reducible rfl
                    simp only [Act.put, List.setIfInBounds_toArray, List.set_cons_zero, List.set_cons_succ]
                    refine wpAnyH_take (i := 13) (v := ?_) (by simp only [List.getElem?_toArray, List.getElem?_cons_zero, List.getElem?_cons_succ]; rfl) (by kernel_rfl) (by kernel_rfl) (by kernel_rfl) (fun _ _ _ h => h) (Or.inl ⟨by rfl, ?_⟩) (by assumption) ?_
                    rotate_left 1
                    · intro w hSw
                      go_simp
                      with_reducible rfl
                    simp only [Act.put, List.setIfInBounds_toArray, List.set_cons_zero, List.set_cons_succ]
                    refine wpAnyH_take (i := 14) (v := ?_) (by simp only [List.getElem?_toArray, List.getElem?_cons_zero, List.getElem?_cons_succ]; rfl) (by kernel_rfl) (by kernel_rfl) (by kernel_rfl) (fun _ _ _ h => h) (Or.inl ⟨by rfl, ?_⟩) (by assumption) ?_
                    rotate_left 1
                    · intro w hSw
                      go_simp
                      with_reducible rfl
                    simp only [Act.put, List.setIfInBounds_toArray, List.set_cons_zero, List.set_cons_succ]
                    refine wpAnyH_take (i := 15) (v := ?_) (by simp only [List.getElem?_toArray, List.getElem?_cons_zero, List.getElem?_cons_succ]; rfl) (by kernel_rfl) (by kernel_rfl) (by kernel_rfl) (fun _ _ _ h => h) (Or.inl ⟨by rfl, ?_⟩) (by assumption) ?_
                    rotate_left 1
                    · intro w hSw
                      go_simp
                      with_reducible rfl
                    simp only [Act.put, List.setIfInBounds_toArray, List.set_cons_zero, List.set_cons_succ]
                    refine wpAnyH_ready (rs := [16]) (by kernel_rfl) (by simp) ?_
                    refine AllReadyH.cons (by simp only [List.getElem?_toArray, List.getElem?_cons_zero, List.getElem?_cons_succ]; rfl) (fun K hK => ?_) (AllReadyH.nil)
                    go_simp
                    refine (CWS.out _ z0).mono ?_
                    rintro e16 y16 ⟨rfl, hb16⟩
                    have hz1 := z0.trans (hb16.mono z0.size)
                    refine hK.out _ _ hz1 (fun hS => ?_)
                    clear hK K hS
                    refine wpAnyH_take (i := 17) (v := ?_) (by simp only [List.getElem?_toArray, List.getElem?_cons_zero, List.getElem?_cons_succ]; rfl) (by kernel_rfl) (by kernel_rfl) (by kernel_rfl) (fun _ _ _ h => h) (Or.inl ⟨by rfl, ?_⟩) (by assumption) ?_
                    rotate_left 1
                    · intro w hSw
                      go_simp
                      with_reducible rfl
                    simp only [Act.put, List.setIfInBounds_toArray, List.set_cons_zero, List.set_cons_succ]
                    refine wpAnyH_done (by kernel_rfl) ?_ _
                    refine NoPanic.normal ?_
                    go_wp2
                    go_meet
                    case rel => exact ⟨by rw [HV.out] <;> first | rfl | simp, z0.trans (hb16.mono z0.size)⟩
                  | false =>
                    refine wp_region_noPanic ?_
                    refine wp_region_held_drew (S := Below W0.heap.size W0) (by kernel_rfl) (z0) (fun hS => ?_)
                    refine wpAnyH_take (i := 0) (v := ?_) (by simp only [List.getElem?_toArray, List.getElem?_cons_zero]; rfl) (by kernel_rfl) (by kernel_rfl) (by kernel_rfl) (fun _ _ _ h => h) (Or.inl ⟨by rfl, ?_⟩) (by assumption) ?_
                    rotate_left 1
                    · intro w hSw
                      go_simp
                      with_reducible rfl
                    simp only [Act.put, List.setIfInBounds_toArray, List.set_cons_zero, List.set_cons_succ]
                    refine wpAnyH_take (i := 1) (v := ?_) (by simp only [List.getElem?_toArray, List.getElem?_cons_zero, List.getElem?_cons_succ]; rfl) (by kernel_rfl) (by kernel_rfl) (by kernel_rfl) (fun _ _ _ h => h) (Or.inl ⟨by rfl, ?_⟩) (by assumption) ?_
                    rotate_left 1
                    · intro w hSw
                      go_simp
                      with_reducible rfl
                    simp only [Act.put, List.setIfInBounds_toArray, List.set_cons_zero, List.set_cons_succ]
                    refine wpAnyH_take (i := 2) (v := ?_) (by simp only [List.getElem?_toArray, List.getElem?_cons_zero, List.getElem?_cons_succ]; rfl) (by kernel_rfl) (by kernel_rfl) (by kernel_rfl) (fun _ _ _ h => h) (Or.inl ⟨by rfl, ?_⟩) (by assumption) ?_
                    rotate_left 1
                    · intro w hSw
                      go_simp
                      with_reducible rfl
                    simp only [Act.put, List.setIfInBounds_toArray, List.set_cons_zero, List.set_cons_succ]
                    refine wpAnyH_take (i := 3) (v := ?_) (by simp only [List.getElem?_toArray, List.getElem?_cons_zero, List.getElem?_cons_succ]; rfl) (by kernel_rfl) (by kernel_rfl) (by kernel_rfl) (fun _ _ _ h => h) (Or.inl ⟨by rfl, ?_⟩) (by assumption) ?_
                    rotate_left 1
                    · intro w hSw
                      go_simp
                      with_reducible rfl
                    simp only [Act.put, List.setIfInBounds_toArray, List.set_cons_zero, List.set_cons_succ]
                    refine wpAnyH_take (i := 4) (v := ?_) (by simp only [List.getElem?_toArray, List.getElem?_cons_zero, List.getElem?_cons_succ]; rfl) (by kernel_rfl) (by kernel_rfl) (by kernel_rfl) (fun _ _ _ h => h) (Or.inl ⟨by rfl, ?_⟩) (by assumption) ?_
                    rotate_left 1
                    · intro w hSw
                      go_simp
                      with_reducible rfl
                    simp only [Act.put, List.setIfInBounds_toArray, List.set_cons_zero, List.set_cons_succ]
                    refine wpAnyH_take (i := 5) (v := ?_) (by simp only [List.getElem?_toArray, List.getElem?_cons_zero, List.getElem?_cons_succ]; rfl) (by kernel_rfl) (by kernel_rfl) (by kernel_rfl) (fun _ _ _ h => h) (Or.inl ⟨by rfl, ?_⟩) (by assumption) ?_
                    rotate_left 1
                    · intro w hSw
                      go_simp
                      with_reducible rfl
                    simp only [Act.put, List.setIfInBounds_toArray, List.set_cons_zero, List.set_cons_succ]
                    refine wpAnyH_take (i := 6) (v := ?_) (by simp only [List.getElem?_toArray, List.getElem?_cons_zero, List.getElem?_cons_succ]; rfl) (by kernel_rfl) (by kernel_rfl) (by kernel_rfl) (fun _ _ _ h => h) (Or.inl ⟨by rfl, ?_⟩) (by assumption) ?_
                    rotate_left 1
                    · intro w hSw
                      go_simp
                      with_reducible rfl
                    simp only [Act.put, List.setIfInBounds_toArray, List.set_cons_zero, List.set_cons_succ]
                    refine wpAnyH_take (i := 7) (v := ?_) (by simp only [List.getElem?_toArray, List.getElem?_cons_zero, List.getElem?_cons_succ]; rfl) (by kernel_rfl) (by kernel_rfl) (by kernel_rfl) (fun _ _ _ h => h) (Or.inl ⟨by rfl, ?_⟩) (by assumption) ?_
                    rotate_left 1
                    · intro w hSw
                      have qi := QI.out w
                      go_simp
                      with_reducible rfl
                    simp only [Act.put, List.setIfInBounds_toArray, List.set_cons_zero, List.set_cons_succ]
                    refine wpAnyH_take (i := 8) (v := ?_) (by simp only [List.getElem?_toArray, List.getElem?_cons_zero, List.getElem?_cons_succ]; rfl) (by kernel_rfl) (by kernel_rfl) (by kernel_rfl) (fun _ _ _ h => h) (Or.inl ⟨by rfl, ?_⟩) (by assumption) ?_
                    rotate_left 1
                    · intro w hSw
                      go_simp
                      with_reducible rfl
                    simp only [Act.put, List.setIfInBounds_toArray, List.set_cons_zero, List.set_cons_succ]
                    refine wpAnyH_take (i := 9) (v := ?_) (by simp only [List.getElem?_toArray, List.getElem?_cons_zero, List.getElem?_cons_succ]; rfl) (by kernel_rfl) (by kernel_rfl) (by kernel_rfl) (fun _ _ _ h => h) (Or.inl ⟨by rfl, ?_⟩) (by assumption) ?_
                    rotate_left 1
                    · intro w hSw
                      go_simp
                      with_reducible rfl
                    simp only [Act.put, List.setIfInBounds_toArray, List.set_cons_zero, List.set_cons_succ]
                    refine wpAnyH_take (i := 10) (v := ?_) (by simp only [List.getElem?_toArray, List.getElem?_cons_zero, List.getElem?_cons_succ]; rfl) (by kernel_rfl) (by kernel_rfl) (by kernel_rfl) (fun _ _ _ h => h) (Or.inl ⟨by rfl, ?_⟩) (by assumption) ?_
                    rotate_left 1
                    · intro w hSw
                      go_simp
                      with_reducible rfl
                    simp only [Act.put, List.setIfInBounds_toArray, List.set_cons_zero, List.set_cons_succ]
                    refine wpAnyH_take (i := 11) (v := undef) (by simp only [List.getElem?_toArray, List.getElem?_cons_zero, List.getElem?_cons_succ]; rfl) (by kernel_rfl) (by kernel_rfl) (by kernel_rfl) (fun _ _ _ h => h) (Or.inr ⟨by rfl, rfl⟩) (by assumption) ?_
                    simp only [Act.put, List.setIfInBounds_toArray, List.set_cons_zero, List.set_cons_succ]
                    refine wpAnyH_take (i := 12) (v := undef) (by simp only [List.getElem?_toArray, List.getElem?_cons_zero, List.getElem?_cons_succ]; rfl) (by kernel_rfl) (by kernel_rfl) (by kernel_rfl) (fun _ _ _ h => h) (Or.inr ⟨by rfl, rfl⟩) (by assumption) ?_
                    simp only [Act.put, List.setIfInBounds_toArray, List.set_cons_zero, List.set_cons_succ]
                    refine wpAnyH_take (i := 13) (v := undef) (by simp only [List.getElem?_toArray, List.getElem?_cons_zero, List.getElem?_cons_succ]; rfl) (by kernel_rfl) (by kernel_rfl) (by kernel_rfl) (fun _ _ _ h => h) (Or.inr ⟨by rfl, rfl⟩) (by assumption) ?_
                    simp only [Act.put, List.setIfInBounds_toArray, List.set_cons_zero, List.set_cons_succ]
                    refine wpAnyH_take (i := 14) (v := undef) (by simp only [List.getElem?_toArray, List.getElem?_cons_zero, List.getElem?_cons_succ]; rfl) (by kernel_rfl) (by kernel_rfl) (by kernel_rfl) (fun _ _ _ h => h) (Or.inr ⟨by rfl, rfl⟩) (by assumption) ?_
                    simp only [Act.put, List.setIfInBounds_toArray, List.set_cons_zero, List.set_cons_succ]
                    refine wpAnyH_take (i := 15) (v := undef) (by simp only [List.getElem?_toArray, List.getElem?_cons_zero, List.getElem?_cons_succ]; rfl) (by kernel_rfl) (by kernel_rfl) (by kernel_rfl) (fun _ _ _ h => h) (Or.inr ⟨by rfl, rfl⟩) (by assumption) ?_
                    simp only [Act.put, List.setIfInBounds_toArray, List.set_cons_zero, List.set_cons_succ]
                    refine wpAnyH_take (i := 16) (v := undef) (by simp only [List.getElem?_toArray, List.getElem?_cons_zero, List.getElem?_cons_succ]; rfl) (by kernel_rfl) (by kernel_rfl) (by kernel_rfl) (fun _ _ _ h => h) (Or.inr ⟨by rfl, rfl⟩) (by assumption) ?_
                    simp only [Act.put, List.setIfInBounds_toArray, List.set_cons_zero, List.set_cons_succ]
                    refine wpAnyH_take (i := 17) (v := ?_) (by simp only [List.getElem?_toArray, List.getElem?_cons_zero, List.getElem?_cons_succ]; rfl) (by kernel_rfl) (by kernel_rfl) (by kernel_rfl) (fun _ _ _ h => h) (Or.inl ⟨by rfl, ?_⟩) (by assumption) ?_
                    rotate_left 1
                    · intro w hSw
                      go_simp
                      with_reducible rfl
                    simp only [Act.put, List.setIfInBounds_toArray, List.set_cons_zero, List.set_cons_succ]
                    refine wpAnyH_done (by kernel_rfl) ?_ _
                    refine NoPanic.normal ?_
                    go_wp2
                    go_meet
                    case rel => exact ⟨by rw [HV.out]; rfl, z0⟩
              case rest =>
                obtain ⟨rfl, HB3⟩ := hcut
                have HSB := hid (range_any_succ (cellR hs path k) b)
                have HYES : Hid (cellR hs path k b = true → ans = true) := fun h => by
                  rw [← HANS.out]
                  exact range_any_yes _ _ k (by omega) (by rw [HC0.out, Bool.true_and]; exact range_any_yes _ _ b (by omega) h)
                obtain ⟨hit, hhit⟩ : ∃ hit, cellR hs path k b = hit := ⟨_, rfl⟩
                rw [hhit] at HSB HYES
                rw [hhit]
                clear HCE HEN CWS CW LP sg hhit
                cases hit with
                | true =>
                  go_wp2
                  go_ret
                  exact ⟨ret_bool (HYES.out (by first | rfl | trivial)).symm, by have := B0.out.trans (HB3.out.mono HS0.out); first | exact this | (rw [HPB.out]; exact this)⟩
                | false =>
                  have HN1 : Hid ((List.range (b + 1)).any (cellR hs path k) = false) := by show _ = _; rw [HSB.out, HNB.out]; rfl
                  clear HSB HYES
                  go_wp2
                  exact ⟨⟨b + 1, by go_num, by omega, by omega, HN1.out, HB3.out⟩, by simp [intOf]; omega⟩
            · obtain rfl : b = path.length + 1 := by omega
              have HN1 : Hid ((List.range (k + 1)).any (colR r hs path) = false) := by show _ = _; rw [HSU.out, HN.out, HC0.out, HNB.out]; rfl
              have hk2 : ¬ ((path.length : Int) + 1 ≤ (path.length : Int)) := by omega
              clear CW HSU HC0 HNB hbt
              go_wp2
              exact ⟨⟨k + 1, by go_num, by omega, HN1.out, HB2.out⟩, by simp [intOf]; omega⟩
    · have HF : Hid (ans = false) := by have := HN.out; rw [show k = path.length + 1 by omega, HANS.out] at this; exact this
      have hk2 : ¬ ((k : Int) ≤ (path.length : Int)) := by omega
      clear hlt CW
      go_wp2
      go_ret
      exact ⟨ret_bool HF.out.symm, by have := B0.out.trans (HB.out.mono HS0.out); first | exact this | (rw [HPB.out]; exact this)⟩
theorem rmatch_any (n f d r : Bool) (A : Option Addr) (l c : Nat) (els : List El) (path : By) (w : World) (hr : RLs 0 w (.slice A l c) els) (hl : l = els.length) (hL : l ≤ 128) (hn : ∀ neg rs, El.set neg rs ∈ els → rs.length ≤ 1000) :
    Calls Tryz.prog 27 #[.agg #[.bool n, .bool f, .bool d, .bool r, .slice A l c], .string (ba path)] w fun e w' => e = .returned (.bool (mB r (hsOf f els) path)) ∧ Below w.heap.size w w' := by
  by_cases hlen : 160 < path.length
  · exact rmatch_long n f d r A l c (hsOf f els) path w hlen
  · exact rmatch_short n f d r A l c els path w hr hl hL hn (by omega)
end Go.Proofs.YtpipkgkfhbagmaaGreatDoor.Glob
