/- The law BytesCut: what its call does. Conditions: a heap that has a block. -/
import Derived.Test.YtdmdddmfiankhaaBV
namespace Go.Proofs.Ytdmdddmfiankhaa
open Go.RowKit
theorem pre_suf (xss : List (List UInt8)) (m : Nat) (h : xss.length = m) : pre xss m = suf xss 0 := by rw [← h, pre_all]; rfl
set_option maxRecDepth 100000 in
set_option maxHeartbeats 2000000 in
theorem cut_few_zero (at_ : Int) (A : Option Addr) (n cap bb off : Nat) (l : List (Int × Nat × ByteArray)) (hm : n ≤ 20) (hpos : (pre (xssOf l n) n).length = 0) (w : World) (hp : 0 < w.heap.size) (hl : ThingsIn w A n bb off l) :
    Calls Try.prog 8 #[.slice A n cap, .int .i64 at_] w fun e w' => e = .returned (.bool true) ∧ Below w.heap.size w w' := by
  have HP := hid hp
  have HA := hid hl
  have hm0 : n ≤ n ∧ n ≤ 30 := by omega
  have hmin : ¬ (20 : Int) < (n : Int) := by omega
  obtain ⟨xss, HXS⟩ : ∃ xss, Hid (xssOf l n = xss) := ⟨_, rfl⟩
  have HXL : Hid (xss.length = n) := by show _ = _; rw [← HXS.out]; exact xssOf_len _ _ (by rw [HA.out.1]; exact hm0.1)
  have HXB : Hid (xss.flatten.length ≤ 9300) := by show _ ≤ _; rw [← HXS.out]; exact xss_small l _ hm0.2
  have HXE : Hid (∀ j, j < n → ∀ x, l.getD j (0, 0, ⟨#[]⟩) = x → xss.getD j [] = thL x.1 x.2.1 x.2.2) := fun j hj x hx => by rw [← HXS.out]; exact xssOf_at l _ j (by rw [HA.out.1]; exact hm0.1) hj hx
  rw [HXS.out] at hpos 
  obtain ⟨L, HL⟩ : ∃ L, Hid ((pre xss n).length = L) := ⟨_, rfl⟩
  have HLB : Hid (L ≤ 9300) := by show _ ≤ _; rw [← HL.out]; exact Nat.le_trans (pre_le _ _) HXB.out
  rw [HL.out] at hpos 
  subst hpos
  clear hp hl hm0
  go_enter Try.func8, Try.ntmps8
  go_wp2
  go_loopw [5, 7] (fun v i wr => ∃ j : Nat, j ≤ n ∧ i = .int .i64 (j : Int) ∧ Hid (wr.ownsRow w.heap.size 5 1 v (pre xss j).length ((pre xss j).map V8)) ∧ Hid (Below w.heap.size w wr)) (fun _ i _ => n - (intOf i).toNat)
  case atStart => exact ⟨0, by omega, rfl, World.ownsRow_nil _ _ _ _, Below.refl _ _⟩
  case round =>
    obtain ⟨j, hj, rfl, HO, HB⟩ := hrel
    by_cases hlt : j < n
    · obtain ⟨hAe, _⟩ := HA.out.2.1 (by omega)
      subst hAe
      have h30 : (j : Int) < n := by omega
      obtain ⟨x0, n0, s0, HXJ⟩ : ∃ x0 n0 s0, Hid (l.getD j (0, 0, ⟨#[]⟩) = (x0, n0, s0)) := ⟨_, _, _, rfl⟩
      have HAT : Hid (ThingAt wr bb (off + j * 3) (x0, n0, s0)) := HA.out.at_ HB.out j (by omega) HXJ.out
      have HLD := hid (load_thing_at HAT.out)
      obtain ⟨Av, cv, bv, yv, _, _⟩ := own_bytes rfl (Nat.lt_of_lt_of_le HP.out HB.out.size) HO.out
      have CL := hid (lay_any _ _ _ _ _ _ x0 n0 HAT.out.2.2.2.2 s0 (by have h1 := pre_le xss j; have h2 := HXB.out; omega) wr yv)
      have HN : Hid (pre xss (j + 1) = pre xss j ++ thL x0 n0 s0) := by
        show _ = _
        rw [pre_next _ _ (by rw [HXL.out]; exact hlt), HXE.out j hlt _ HXJ.out]
      have hjn : j < n := by omega
      have hjn2 : (j : Int) < (n : Int) := by omega
      clear yv
      go_wp2_with (first
        | (refine wpList_load_g (by rfl) 62 (.tmp 22) rfl bb (off + j * 3) rfl (thing x0 n0 s0) HLD.out ?_)
        | (go_at_call 30; refine CL.out.mono ?_; rintro e1 w1 ⟨v1, rfl, ho, hb1⟩
           have O1 := hid (Fresh.mono ho HB.out.size)
           rw [← HN.out] at O1
           have B1 : Hid (Below w.heap.size w w1) := HB.out.trans (hb1.mono HB.out.size)
           clear ho hb1))
      go_roundw
      case rel => exact ⟨j + 1, by omega, by go_num, O1, B1⟩
      case measure => simp [intOf]; omega
    · obtain rfl : n = j := by omega
      obtain ⟨Av, cv, bv, yv, _, _⟩ := own_bytes rfl (Nat.lt_of_lt_of_le HP.out HB.out.size) HO.out
      obtain rfl := yv.formL HL.out
      have CW := hid (works_any wr (Nat.lt_of_lt_of_le HP.out HB.out.size))
      clear yv hlt
      go_wp2_with (first
        | (go_at_call 17; refine CW.out.mono ?_; rintro e8 w8 ⟨rfl, hb8⟩))
      go_ret
      exact ⟨rfl, HB.out.trans (hb8.mono HB.out.size)⟩
set_option maxRecDepth 100000 in
set_option maxHeartbeats 2000000 in
theorem cut_few_neg (at_ : Int) (A : Option Addr) (n cap bb off : Nat) (l : List (Int × Nat × ByteArray)) (hm : n ≤ 20) (hpos : 0 < (pre (xssOf l n) n).length) (hat : at_ < 0) (w : World) (hp : 0 < w.heap.size) (hl : ThingsIn w A n bb off l) :
    Calls Try.prog 8 #[.slice A n cap, .int .i64 at_] w fun e w' => e = .returned (.bool true) ∧ Below w.heap.size w w' := by
  have HP := hid hp
  have HA := hid hl
  have hm0 : n ≤ n ∧ n ≤ 30 := by omega
  have hmin : ¬ (20 : Int) < (n : Int) := by omega
  obtain ⟨xss, HXS⟩ : ∃ xss, Hid (xssOf l n = xss) := ⟨_, rfl⟩
  have HXL : Hid (xss.length = n) := by show _ = _; rw [← HXS.out]; exact xssOf_len _ _ (by rw [HA.out.1]; exact hm0.1)
  have HXB : Hid (xss.flatten.length ≤ 9300) := by show _ ≤ _; rw [← HXS.out]; exact xss_small l _ hm0.2
  have HXE : Hid (∀ j, j < n → ∀ x, l.getD j (0, 0, ⟨#[]⟩) = x → xss.getD j [] = thL x.1 x.2.1 x.2.2) := fun j hj x hx => by rw [← HXS.out]; exact xssOf_at l _ j (by rw [HA.out.1]; exact hm0.1) hj hx
  rw [HXS.out] at hpos 
  obtain ⟨L, HL⟩ : ∃ L, Hid ((pre xss n).length = L) := ⟨_, rfl⟩
  have HLB : Hid (L ≤ 9300) := by show _ ≤ _; rw [← HL.out]; exact Nat.le_trans (pre_le _ _) HXB.out
  rw [HL.out] at hpos 
  have hL0 : ((L : Int) == 0) = false := by simp; omega
  obtain ⟨a, ha⟩ : ∃ a : Nat, a = L - 1 := ⟨_, rfl⟩
  have haI : (L : Int) - 1 = (a : Int) := by omega
  have HAL : Hid (a < L) := by show _ < _; omega
  have w1 : IntKind.i64.wrap ((L : Int) - 1) = (L : Int) - 1 := i64in _ (by omega) (by have := HLB.out; omega)
  clear hp hl hm0
  go_enter Try.func8, Try.ntmps8
  go_wp2
  go_loopw [5, 7] (fun v i wr => ∃ j : Nat, j ≤ n ∧ i = .int .i64 (j : Int) ∧ Hid (wr.ownsRow w.heap.size 5 1 v (pre xss j).length ((pre xss j).map V8)) ∧ Hid (Below w.heap.size w wr)) (fun _ i _ => n - (intOf i).toNat)
  case atStart => exact ⟨0, by omega, rfl, World.ownsRow_nil _ _ _ _, Below.refl _ _⟩
  case round =>
    obtain ⟨j, hj, rfl, HO, HB⟩ := hrel
    by_cases hlt : j < n
    · obtain ⟨hAe, _⟩ := HA.out.2.1 (by omega)
      subst hAe
      have h30 : (j : Int) < n := by omega
      obtain ⟨x0, n0, s0, HXJ⟩ : ∃ x0 n0 s0, Hid (l.getD j (0, 0, ⟨#[]⟩) = (x0, n0, s0)) := ⟨_, _, _, rfl⟩
      have HAT : Hid (ThingAt wr bb (off + j * 3) (x0, n0, s0)) := HA.out.at_ HB.out j (by omega) HXJ.out
      have HLD := hid (load_thing_at HAT.out)
      obtain ⟨Av, cv, bv, yv, _, _⟩ := own_bytes rfl (Nat.lt_of_lt_of_le HP.out HB.out.size) HO.out
      have CL := hid (lay_any _ _ _ _ _ _ x0 n0 HAT.out.2.2.2.2 s0 (by have h1 := pre_le xss j; have h2 := HXB.out; omega) wr yv)
      have HN : Hid (pre xss (j + 1) = pre xss j ++ thL x0 n0 s0) := by
        show _ = _
        rw [pre_next _ _ (by rw [HXL.out]; exact hlt), HXE.out j hlt _ HXJ.out]
      have hjn : j < n := by omega
      have hjn2 : (j : Int) < (n : Int) := by omega
      clear yv
      go_wp2_with (first
        | (refine wpList_load_g (by rfl) 62 (.tmp 22) rfl bb (off + j * 3) rfl (thing x0 n0 s0) HLD.out ?_)
        | (go_at_call 30; refine CL.out.mono ?_; rintro e1 w1 ⟨v1, rfl, ho, hb1⟩
           have O1 := hid (Fresh.mono ho HB.out.size)
           rw [← HN.out] at O1
           have B1 : Hid (Below w.heap.size w w1) := HB.out.trans (hb1.mono HB.out.size)
           clear ho hb1))
      go_roundw
      case rel => exact ⟨j + 1, by omega, by go_num, O1, B1⟩
      case measure => simp [intOf]; omega
    · obtain rfl : n = j := by omega
      obtain ⟨Av, cv, bv, yv, _, _⟩ := own_bytes rfl (Nat.lt_of_lt_of_le HP.out HB.out.size) HO.out
      obtain rfl := yv.formL HL.out
      have kp := yv.preRun a (by have := HL.out; have := HAL.out; omega)
      have yp := yv.pre a (by have := HL.out; have := HAL.out; omega)
      have kp2 : ∀ w', (Instr.slice 24 (.slice Av L cv) none (some (.int .i64 ((L : Int) - 1))) none).run Try.prog w' = .ok (.slice Av a cv) w' := fun w' => by rw [haI]; exact kp w'
      have CT := newTape_any _ _ _ _ _ _ (by have := pre_le xss n; have := HXB.out; rw [List.length_take]; omega) wr yp
      rw [pre_suf xss n HXL.out] at CT
      have HCT := hid CT
      have HS0 : Hid (a < (suf xss 0).length) := by show _ < _; rw [← pre_suf xss n HXL.out, HL.out]; exact HAL.out
      clear ha haI
      clear CT yp yv kp hlt
      go_wp2_with (first
        | (go_at_call 20; refine HCT.out.mono ?_; rintro e2 w2 ⟨g, rfl, hg, ht, hb2⟩
           have G2 : Hid (w.heap.size ≤ g) := Nat.le_trans HB.out.size hg
           have T2 := hid ht
           have B2 : Hid (Below w.heap.size w w2) := HB.out.trans (hb2.mono HB.out.size)
           clear hg ht hb2))
      clear kp2
      go_loopw [9] (fun i w3 => ∃ j2 c : Nat, j2 ≤ n ∧ i = .int .i64 (j2 : Int) ∧ Hid (c < (suf xss j2).length) ∧ Hid (Tp w3 g (false, (suf xss j2).take c)) ∧ Hid (Below w.heap.size w w3)) (fun i _ => n - (intOf i).toNat)
      case atStart => exact ⟨0, a, by omega, rfl, HS0, T2, B2⟩
      case round =>
        obtain ⟨j2, c, hj2, rfl, HC, HT, HB3⟩ := hrel
        by_cases hlt : j2 < n
        · obtain ⟨hAe, _⟩ := HA.out.2.1 (by omega)
          subst hAe
          have h30 : (j2 : Int) < n := by omega
          have hjn : j2 < n := by omega
          have hjn2 : (j2 : Int) < (n : Int) := by omega
          obtain ⟨x0, n0, s0, HXJ⟩ : ∃ x0 n0 s0, Hid (l.getD j2 (0, 0, ⟨#[]⟩) = (x0, n0, s0)) := ⟨_, _, _, rfl⟩
          have HAT := hid (HA.out.at_ HB3.out j2 (by omega) HXJ.out)
          have HLD := hid (load_thing_at HAT.out)
          have HN : Hid (suf xss j2 = thL x0 n0 s0 ++ suf xss (j2 + 1)) := by
            show _ = _
            rw [suf_next _ _ (by rw [HXL.out]; exact hlt), HXE.out j2 hlt _ HXJ.out]
          by_cases hc : c < (thL x0 n0 s0).length
          · have HT2 := HT.out
            rw [HN.out, List.take_append, Nat.sub_eq_zero_of_le (Nat.le_of_lt hc), List.take_zero, List.append_nil] at HT2
            have CB := back_any g _ x0 n0 s0 _ HT2
            have ht0 := cut_pure x0 n0 s0 c hc
            generalize backS x0 n0 s0 (false, (thL x0 n0 s0).take c) = q at CB ht0
            obtain ⟨b, t, zs⟩ := q
            obtain rfl : t = true := ht0
            have HCB := hid CB
            have CE : Hid (∀ w1, Tp w1 g (true, zs) → Calls Try.prog 27 #[.pointer (some ⟨g, 0, none⟩)] w1 fun e w' => e = .returned (.int .i64 4) ∧ w1 = w') := fun w1 h => err_any g _ w1 h
            clear HT2 CB hc
            go_wp2_with (first
              | (refine wpList_load_g (by rfl) 62 (.tmp 52) rfl bb (off + j2 * 3) rfl (thing x0 n0 s0) HLD.out ?_)
              | (go_at_call 31; refine HCB.out.mono ?_; rintro e4 w4 ⟨rfl, ht, hg⟩
                 have T4 := hid ht
                 have B4 : Hid (Below w.heap.size w w4) := Grw.below HB3.out hg G2.out HB3.out.size
                 have CW := hid (works_any w4 (Nat.lt_of_lt_of_le HP.out B4.out.size))
                 clear ht hg)
              | (go_at_call 27; refine (CE.out _ T4.out).mono ?_; rintro e5 w5 ⟨rfl, rfl⟩)
              | (go_at_call 17; refine CW.out.mono ?_; rintro e8 w8 ⟨rfl, hb8⟩))
            go_ret
            exact ⟨rfl, B4.out.trans (hb8.mono B4.out.size)⟩
          · have HT2 := HT.out
            rw [HN.out, List.take_append, List.take_of_length_le (Nat.le_of_not_lt hc)] at HT2
            have CB := back_any g _ x0 n0 s0 _ HT2
            rw [back_pure x0 n0 HAT.out.2.2.2.2 s0] at CB
            have HC2 : Hid (c - (thL x0 n0 s0).length < (suf xss (j2 + 1)).length) := by
              show _ < _
              have := HC.out
              rw [HN.out, List.length_append] at this; omega
            generalize c - (thL x0 n0 s0).length = c2 at CB HC2
            have HCB := hid CB
            have CE : Hid (∀ w1, Tp w1 g (false, (suf xss (j2 + 1)).take c2) → Calls Try.prog 27 #[.pointer (some ⟨g, 0, none⟩)] w1 fun e w' => e = .returned (.int .i64 0) ∧ w1 = w') := fun w1 h => err_any g _ w1 h
            clear HT2 CB hc
            go_wp2_with (first
              | (refine wpList_load_g (by rfl) 62 (.tmp 52) rfl bb (off + j2 * 3) rfl (thing x0 n0 s0) HLD.out ?_)
              | (go_at_call 31; refine HCB.out.mono ?_; rintro e4 w4 ⟨rfl, ht, hg⟩
                 have T4 := hid ht
                 have B4 : Hid (Below w.heap.size w w4) := Grw.below HB3.out hg G2.out HB3.out.size
                 clear ht hg)
              | (go_at_call 27; refine (CE.out _ T4.out).mono ?_; rintro e5 w5 ⟨rfl, rfl⟩))
            go_roundw
            case rel => exact ⟨j2 + 1, c2, by omega, by go_num, HC2, T4, B4⟩
            case measure => simp [intOf]; omega
        · exfalso
          have h1 := HC.out
          rw [suf_end _ _ (by rw [HXL.out]; omega)] at h1
          simp at h1
set_option maxRecDepth 100000 in
set_option maxHeartbeats 2000000 in
theorem cut_few_big (at_ : Int) (A : Option Addr) (n cap bb off : Nat) (l : List (Int × Nat × ByteArray)) (hm : n ≤ 20) (hpos : 0 < (pre (xssOf l n) n).length) (h0 : ¬ at_ < 0) (hat : ((pre (xssOf l n) n).length : Int) ≤ at_) (w : World) (hp : 0 < w.heap.size) (hl : ThingsIn w A n bb off l) :
    Calls Try.prog 8 #[.slice A n cap, .int .i64 at_] w fun e w' => e = .returned (.bool true) ∧ Below w.heap.size w w' := by
  have HP := hid hp
  have HA := hid hl
  have hm0 : n ≤ n ∧ n ≤ 30 := by omega
  have hmin : ¬ (20 : Int) < (n : Int) := by omega
  obtain ⟨xss, HXS⟩ : ∃ xss, Hid (xssOf l n = xss) := ⟨_, rfl⟩
  have HXL : Hid (xss.length = n) := by show _ = _; rw [← HXS.out]; exact xssOf_len _ _ (by rw [HA.out.1]; exact hm0.1)
  have HXB : Hid (xss.flatten.length ≤ 9300) := by show _ ≤ _; rw [← HXS.out]; exact xss_small l _ hm0.2
  have HXE : Hid (∀ j, j < n → ∀ x, l.getD j (0, 0, ⟨#[]⟩) = x → xss.getD j [] = thL x.1 x.2.1 x.2.2) := fun j hj x hx => by rw [← HXS.out]; exact xssOf_at l _ j (by rw [HA.out.1]; exact hm0.1) hj hx
  rw [HXS.out] at hpos hat
  obtain ⟨L, HL⟩ : ∃ L, Hid ((pre xss n).length = L) := ⟨_, rfl⟩
  have HLB : Hid (L ≤ 9300) := by show _ ≤ _; rw [← HL.out]; exact Nat.le_trans (pre_le _ _) HXB.out
  rw [HL.out] at hpos hat
  have hL0 : ((L : Int) == 0) = false := by simp; omega
  obtain ⟨a, ha⟩ : ∃ a : Nat, a = L - 1 := ⟨_, rfl⟩
  have haI : (L : Int) - 1 = (a : Int) := by omega
  have hge : (L : Int) ≤ at_ := hat
  have HAL : Hid (a < L) := by show _ < _; omega
  have w1 : IntKind.i64.wrap ((L : Int) - 1) = (L : Int) - 1 := i64in _ (by omega) (by have := HLB.out; omega)
  clear hp hl hm0
  go_enter Try.func8, Try.ntmps8
  go_wp2
  go_loopw [5, 7] (fun v i wr => ∃ j : Nat, j ≤ n ∧ i = .int .i64 (j : Int) ∧ Hid (wr.ownsRow w.heap.size 5 1 v (pre xss j).length ((pre xss j).map V8)) ∧ Hid (Below w.heap.size w wr)) (fun _ i _ => n - (intOf i).toNat)
  case atStart => exact ⟨0, by omega, rfl, World.ownsRow_nil _ _ _ _, Below.refl _ _⟩
  case round =>
    obtain ⟨j, hj, rfl, HO, HB⟩ := hrel
    by_cases hlt : j < n
    · obtain ⟨hAe, _⟩ := HA.out.2.1 (by omega)
      subst hAe
      have h30 : (j : Int) < n := by omega
      obtain ⟨x0, n0, s0, HXJ⟩ : ∃ x0 n0 s0, Hid (l.getD j (0, 0, ⟨#[]⟩) = (x0, n0, s0)) := ⟨_, _, _, rfl⟩
      have HAT : Hid (ThingAt wr bb (off + j * 3) (x0, n0, s0)) := HA.out.at_ HB.out j (by omega) HXJ.out
      have HLD := hid (load_thing_at HAT.out)
      obtain ⟨Av, cv, bv, yv, _, _⟩ := own_bytes rfl (Nat.lt_of_lt_of_le HP.out HB.out.size) HO.out
      have CL := hid (lay_any _ _ _ _ _ _ x0 n0 HAT.out.2.2.2.2 s0 (by have h1 := pre_le xss j; have h2 := HXB.out; omega) wr yv)
      have HN : Hid (pre xss (j + 1) = pre xss j ++ thL x0 n0 s0) := by
        show _ = _
        rw [pre_next _ _ (by rw [HXL.out]; exact hlt), HXE.out j hlt _ HXJ.out]
      have hjn : j < n := by omega
      have hjn2 : (j : Int) < (n : Int) := by omega
      clear yv
      go_wp2_with (first
        | (refine wpList_load_g (by rfl) 62 (.tmp 22) rfl bb (off + j * 3) rfl (thing x0 n0 s0) HLD.out ?_)
        | (go_at_call 30; refine CL.out.mono ?_; rintro e1 w1 ⟨v1, rfl, ho, hb1⟩
           have O1 := hid (Fresh.mono ho HB.out.size)
           rw [← HN.out] at O1
           have B1 : Hid (Below w.heap.size w w1) := HB.out.trans (hb1.mono HB.out.size)
           clear ho hb1))
      go_roundw
      case rel => exact ⟨j + 1, by omega, by go_num, O1, B1⟩
      case measure => simp [intOf]; omega
    · obtain rfl : n = j := by omega
      obtain ⟨Av, cv, bv, yv, _, _⟩ := own_bytes rfl (Nat.lt_of_lt_of_le HP.out HB.out.size) HO.out
      obtain rfl := yv.formL HL.out
      have kp := yv.preRun a (by have := HL.out; have := HAL.out; omega)
      have yp := yv.pre a (by have := HL.out; have := HAL.out; omega)
      have kp2 : ∀ w', (Instr.slice 24 (.slice Av L cv) none (some (.int .i64 ((L : Int) - 1))) none).run Try.prog w' = .ok (.slice Av a cv) w' := fun w' => by rw [haI]; exact kp w'
      have CT := newTape_any _ _ _ _ _ _ (by have := pre_le xss n; have := HXB.out; rw [List.length_take]; omega) wr yp
      rw [pre_suf xss n HXL.out] at CT
      have HCT := hid CT
      have HS0 : Hid (a < (suf xss 0).length) := by show _ < _; rw [← pre_suf xss n HXL.out, HL.out]; exact HAL.out
      clear ha haI
      clear CT yp yv kp hlt
      go_wp2_with (first
        | (go_at_call 20; refine HCT.out.mono ?_; rintro e2 w2 ⟨g, rfl, hg, ht, hb2⟩
           have G2 : Hid (w.heap.size ≤ g) := Nat.le_trans HB.out.size hg
           have T2 := hid ht
           have B2 : Hid (Below w.heap.size w w2) := HB.out.trans (hb2.mono HB.out.size)
           clear hg ht hb2))
      clear kp2
      go_loopw [9] (fun i w3 => ∃ j2 c : Nat, j2 ≤ n ∧ i = .int .i64 (j2 : Int) ∧ Hid (c < (suf xss j2).length) ∧ Hid (Tp w3 g (false, (suf xss j2).take c)) ∧ Hid (Below w.heap.size w w3)) (fun i _ => n - (intOf i).toNat)
      case atStart => exact ⟨0, a, by omega, rfl, HS0, T2, B2⟩
      case round =>
        obtain ⟨j2, c, hj2, rfl, HC, HT, HB3⟩ := hrel
        by_cases hlt : j2 < n
        · obtain ⟨hAe, _⟩ := HA.out.2.1 (by omega)
          subst hAe
          have h30 : (j2 : Int) < n := by omega
          have hjn : j2 < n := by omega
          have hjn2 : (j2 : Int) < (n : Int) := by omega
          obtain ⟨x0, n0, s0, HXJ⟩ : ∃ x0 n0 s0, Hid (l.getD j2 (0, 0, ⟨#[]⟩) = (x0, n0, s0)) := ⟨_, _, _, rfl⟩
          have HAT := hid (HA.out.at_ HB3.out j2 (by omega) HXJ.out)
          have HLD := hid (load_thing_at HAT.out)
          have HN : Hid (suf xss j2 = thL x0 n0 s0 ++ suf xss (j2 + 1)) := by
            show _ = _
            rw [suf_next _ _ (by rw [HXL.out]; exact hlt), HXE.out j2 hlt _ HXJ.out]
          by_cases hc : c < (thL x0 n0 s0).length
          · have HT2 := HT.out
            rw [HN.out, List.take_append, Nat.sub_eq_zero_of_le (Nat.le_of_lt hc), List.take_zero, List.append_nil] at HT2
            have CB := back_any g _ x0 n0 s0 _ HT2
            have ht0 := cut_pure x0 n0 s0 c hc
            generalize backS x0 n0 s0 (false, (thL x0 n0 s0).take c) = q at CB ht0
            obtain ⟨b, t, zs⟩ := q
            obtain rfl : t = true := ht0
            have HCB := hid CB
            have CE : Hid (∀ w1, Tp w1 g (true, zs) → Calls Try.prog 27 #[.pointer (some ⟨g, 0, none⟩)] w1 fun e w' => e = .returned (.int .i64 4) ∧ w1 = w') := fun w1 h => err_any g _ w1 h
            clear HT2 CB hc
            go_wp2_with (first
              | (refine wpList_load_g (by rfl) 62 (.tmp 52) rfl bb (off + j2 * 3) rfl (thing x0 n0 s0) HLD.out ?_)
              | (go_at_call 31; refine HCB.out.mono ?_; rintro e4 w4 ⟨rfl, ht, hg⟩
                 have T4 := hid ht
                 have B4 : Hid (Below w.heap.size w w4) := Grw.below HB3.out hg G2.out HB3.out.size
                 have CW := hid (works_any w4 (Nat.lt_of_lt_of_le HP.out B4.out.size))
                 clear ht hg)
              | (go_at_call 27; refine (CE.out _ T4.out).mono ?_; rintro e5 w5 ⟨rfl, rfl⟩)
              | (go_at_call 17; refine CW.out.mono ?_; rintro e8 w8 ⟨rfl, hb8⟩))
            go_ret
            exact ⟨rfl, B4.out.trans (hb8.mono B4.out.size)⟩
          · have HT2 := HT.out
            rw [HN.out, List.take_append, List.take_of_length_le (Nat.le_of_not_lt hc)] at HT2
            have CB := back_any g _ x0 n0 s0 _ HT2
            rw [back_pure x0 n0 HAT.out.2.2.2.2 s0] at CB
            have HC2 : Hid (c - (thL x0 n0 s0).length < (suf xss (j2 + 1)).length) := by
              show _ < _
              have := HC.out
              rw [HN.out, List.length_append] at this; omega
            generalize c - (thL x0 n0 s0).length = c2 at CB HC2
            have HCB := hid CB
            have CE : Hid (∀ w1, Tp w1 g (false, (suf xss (j2 + 1)).take c2) → Calls Try.prog 27 #[.pointer (some ⟨g, 0, none⟩)] w1 fun e w' => e = .returned (.int .i64 0) ∧ w1 = w') := fun w1 h => err_any g _ w1 h
            clear HT2 CB hc
            go_wp2_with (first
              | (refine wpList_load_g (by rfl) 62 (.tmp 52) rfl bb (off + j2 * 3) rfl (thing x0 n0 s0) HLD.out ?_)
              | (go_at_call 31; refine HCB.out.mono ?_; rintro e4 w4 ⟨rfl, ht, hg⟩
                 have T4 := hid ht
                 have B4 : Hid (Below w.heap.size w w4) := Grw.below HB3.out hg G2.out HB3.out.size
                 clear ht hg)
              | (go_at_call 27; refine (CE.out _ T4.out).mono ?_; rintro e5 w5 ⟨rfl, rfl⟩))
            go_roundw
            case rel => exact ⟨j2 + 1, c2, by omega, by go_num, HC2, T4, B4⟩
            case measure => simp [intOf]; omega
        · exfalso
          have h1 := HC.out
          rw [suf_end _ _ (by rw [HXL.out]; omega)] at h1
          simp at h1
set_option maxRecDepth 100000 in
set_option maxHeartbeats 2000000 in
theorem cut_few_mid (at_ : Int) (A : Option Addr) (n cap bb off : Nat) (l : List (Int × Nat × ByteArray)) (hm : n ≤ 20) (hpos : 0 < (pre (xssOf l n) n).length) (h0 : ¬ at_ < 0) (hat : at_ < ((pre (xssOf l n) n).length : Int)) (w : World) (hp : 0 < w.heap.size) (hl : ThingsIn w A n bb off l) :
    Calls Try.prog 8 #[.slice A n cap, .int .i64 at_] w fun e w' => e = .returned (.bool true) ∧ Below w.heap.size w w' := by
  have HP := hid hp
  have HA := hid hl
  have hm0 : n ≤ n ∧ n ≤ 30 := by omega
  have hmin : ¬ (20 : Int) < (n : Int) := by omega
  obtain ⟨xss, HXS⟩ : ∃ xss, Hid (xssOf l n = xss) := ⟨_, rfl⟩
  have HXL : Hid (xss.length = n) := by show _ = _; rw [← HXS.out]; exact xssOf_len _ _ (by rw [HA.out.1]; exact hm0.1)
  have HXB : Hid (xss.flatten.length ≤ 9300) := by show _ ≤ _; rw [← HXS.out]; exact xss_small l _ hm0.2
  have HXE : Hid (∀ j, j < n → ∀ x, l.getD j (0, 0, ⟨#[]⟩) = x → xss.getD j [] = thL x.1 x.2.1 x.2.2) := fun j hj x hx => by rw [← HXS.out]; exact xssOf_at l _ j (by rw [HA.out.1]; exact hm0.1) hj hx
  rw [HXS.out] at hpos hat
  obtain ⟨L, HL⟩ : ∃ L, Hid ((pre xss n).length = L) := ⟨_, rfl⟩
  have HLB : Hid (L ≤ 9300) := by show _ ≤ _; rw [← HL.out]; exact Nat.le_trans (pre_le _ _) HXB.out
  rw [HL.out] at hpos hat
  have hL0 : ((L : Int) == 0) = false := by simp; omega
  obtain ⟨a, rfl⟩ : ∃ a : Nat, at_ = (a : Int) := ⟨at_.toNat, by omega⟩
  have hge : ¬ (L : Int) ≤ (a : Int) := by omega
  have HAL : Hid (a < L) := by show _ < _; omega
  have w1 : IntKind.i64.wrap ((L : Int) - 1) = (L : Int) - 1 := i64in _ (by omega) (by have := HLB.out; omega)
  clear hp hl hm0
  go_enter Try.func8, Try.ntmps8
  go_wp2
  go_loopw [5, 7] (fun v i wr => ∃ j : Nat, j ≤ n ∧ i = .int .i64 (j : Int) ∧ Hid (wr.ownsRow w.heap.size 5 1 v (pre xss j).length ((pre xss j).map V8)) ∧ Hid (Below w.heap.size w wr)) (fun _ i _ => n - (intOf i).toNat)
  case atStart => exact ⟨0, by omega, rfl, World.ownsRow_nil _ _ _ _, Below.refl _ _⟩
  case round =>
    obtain ⟨j, hj, rfl, HO, HB⟩ := hrel
    by_cases hlt : j < n
    · obtain ⟨hAe, _⟩ := HA.out.2.1 (by omega)
      subst hAe
      have h30 : (j : Int) < n := by omega
      obtain ⟨x0, n0, s0, HXJ⟩ : ∃ x0 n0 s0, Hid (l.getD j (0, 0, ⟨#[]⟩) = (x0, n0, s0)) := ⟨_, _, _, rfl⟩
      have HAT : Hid (ThingAt wr bb (off + j * 3) (x0, n0, s0)) := HA.out.at_ HB.out j (by omega) HXJ.out
      have HLD := hid (load_thing_at HAT.out)
      obtain ⟨Av, cv, bv, yv, _, _⟩ := own_bytes rfl (Nat.lt_of_lt_of_le HP.out HB.out.size) HO.out
      have CL := hid (lay_any _ _ _ _ _ _ x0 n0 HAT.out.2.2.2.2 s0 (by have h1 := pre_le xss j; have h2 := HXB.out; omega) wr yv)
      have HN : Hid (pre xss (j + 1) = pre xss j ++ thL x0 n0 s0) := by
        show _ = _
        rw [pre_next _ _ (by rw [HXL.out]; exact hlt), HXE.out j hlt _ HXJ.out]
      have hjn : j < n := by omega
      have hjn2 : (j : Int) < (n : Int) := by omega
      clear yv
      go_wp2_with (first
        | (refine wpList_load_g (by rfl) 62 (.tmp 22) rfl bb (off + j * 3) rfl (thing x0 n0 s0) HLD.out ?_)
        | (go_at_call 30; refine CL.out.mono ?_; rintro e1 w1 ⟨v1, rfl, ho, hb1⟩
           have O1 := hid (Fresh.mono ho HB.out.size)
           rw [← HN.out] at O1
           have B1 : Hid (Below w.heap.size w w1) := HB.out.trans (hb1.mono HB.out.size)
           clear ho hb1))
      go_roundw
      case rel => exact ⟨j + 1, by omega, by go_num, O1, B1⟩
      case measure => simp [intOf]; omega
    · obtain rfl : n = j := by omega
      obtain ⟨Av, cv, bv, yv, _, _⟩ := own_bytes rfl (Nat.lt_of_lt_of_le HP.out HB.out.size) HO.out
      obtain rfl := yv.formL HL.out
      have kp := yv.preRun a (by have := HL.out; have := HAL.out; omega)
      have yp := yv.pre a (by have := HL.out; have := HAL.out; omega)
      have kp2 : ∀ w', (Instr.slice 24 (.slice Av L cv) none (some (.int .i64 (a : Int))) none).run Try.prog w' = .ok (.slice Av a cv) w' := fun w' => by exact kp w'
      have CT := newTape_any _ _ _ _ _ _ (by have := pre_le xss n; have := HXB.out; rw [List.length_take]; omega) wr yp
      rw [pre_suf xss n HXL.out] at CT
      have HCT := hid CT
      have HS0 : Hid (a < (suf xss 0).length) := by show _ < _; rw [← pre_suf xss n HXL.out, HL.out]; exact HAL.out
      clear CT yp yv kp hlt
      go_wp2_with (first
        | (go_at_call 20; refine HCT.out.mono ?_; rintro e2 w2 ⟨g, rfl, hg, ht, hb2⟩
           have G2 : Hid (w.heap.size ≤ g) := Nat.le_trans HB.out.size hg
           have T2 := hid ht
           have B2 : Hid (Below w.heap.size w w2) := HB.out.trans (hb2.mono HB.out.size)
           clear hg ht hb2))
      clear kp2
      go_loopw [9] (fun i w3 => ∃ j2 c : Nat, j2 ≤ n ∧ i = .int .i64 (j2 : Int) ∧ Hid (c < (suf xss j2).length) ∧ Hid (Tp w3 g (false, (suf xss j2).take c)) ∧ Hid (Below w.heap.size w w3)) (fun i _ => n - (intOf i).toNat)
      case atStart => exact ⟨0, a, by omega, rfl, HS0, T2, B2⟩
      case round =>
        obtain ⟨j2, c, hj2, rfl, HC, HT, HB3⟩ := hrel
        by_cases hlt : j2 < n
        · obtain ⟨hAe, _⟩ := HA.out.2.1 (by omega)
          subst hAe
          have h30 : (j2 : Int) < n := by omega
          have hjn : j2 < n := by omega
          have hjn2 : (j2 : Int) < (n : Int) := by omega
          obtain ⟨x0, n0, s0, HXJ⟩ : ∃ x0 n0 s0, Hid (l.getD j2 (0, 0, ⟨#[]⟩) = (x0, n0, s0)) := ⟨_, _, _, rfl⟩
          have HAT := hid (HA.out.at_ HB3.out j2 (by omega) HXJ.out)
          have HLD := hid (load_thing_at HAT.out)
          have HN : Hid (suf xss j2 = thL x0 n0 s0 ++ suf xss (j2 + 1)) := by
            show _ = _
            rw [suf_next _ _ (by rw [HXL.out]; exact hlt), HXE.out j2 hlt _ HXJ.out]
          by_cases hc : c < (thL x0 n0 s0).length
          · have HT2 := HT.out
            rw [HN.out, List.take_append, Nat.sub_eq_zero_of_le (Nat.le_of_lt hc), List.take_zero, List.append_nil] at HT2
            have CB := back_any g _ x0 n0 s0 _ HT2
            have ht0 := cut_pure x0 n0 s0 c hc
            generalize backS x0 n0 s0 (false, (thL x0 n0 s0).take c) = q at CB ht0
            obtain ⟨b, t, zs⟩ := q
            obtain rfl : t = true := ht0
            have HCB := hid CB
            have CE : Hid (∀ w1, Tp w1 g (true, zs) → Calls Try.prog 27 #[.pointer (some ⟨g, 0, none⟩)] w1 fun e w' => e = .returned (.int .i64 4) ∧ w1 = w') := fun w1 h => err_any g _ w1 h
            clear HT2 CB hc
            go_wp2_with (first
              | (refine wpList_load_g (by rfl) 62 (.tmp 52) rfl bb (off + j2 * 3) rfl (thing x0 n0 s0) HLD.out ?_)
              | (go_at_call 31; refine HCB.out.mono ?_; rintro e4 w4 ⟨rfl, ht, hg⟩
                 have T4 := hid ht
                 have B4 : Hid (Below w.heap.size w w4) := Grw.below HB3.out hg G2.out HB3.out.size
                 have CW := hid (works_any w4 (Nat.lt_of_lt_of_le HP.out B4.out.size))
                 clear ht hg)
              | (go_at_call 27; refine (CE.out _ T4.out).mono ?_; rintro e5 w5 ⟨rfl, rfl⟩)
              | (go_at_call 17; refine CW.out.mono ?_; rintro e8 w8 ⟨rfl, hb8⟩))
            go_ret
            exact ⟨rfl, B4.out.trans (hb8.mono B4.out.size)⟩
          · have HT2 := HT.out
            rw [HN.out, List.take_append, List.take_of_length_le (Nat.le_of_not_lt hc)] at HT2
            have CB := back_any g _ x0 n0 s0 _ HT2
            rw [back_pure x0 n0 HAT.out.2.2.2.2 s0] at CB
            have HC2 : Hid (c - (thL x0 n0 s0).length < (suf xss (j2 + 1)).length) := by
              show _ < _
              have := HC.out
              rw [HN.out, List.length_append] at this; omega
            generalize c - (thL x0 n0 s0).length = c2 at CB HC2
            have HCB := hid CB
            have CE : Hid (∀ w1, Tp w1 g (false, (suf xss (j2 + 1)).take c2) → Calls Try.prog 27 #[.pointer (some ⟨g, 0, none⟩)] w1 fun e w' => e = .returned (.int .i64 0) ∧ w1 = w') := fun w1 h => err_any g _ w1 h
            clear HT2 CB hc
            go_wp2_with (first
              | (refine wpList_load_g (by rfl) 62 (.tmp 52) rfl bb (off + j2 * 3) rfl (thing x0 n0 s0) HLD.out ?_)
              | (go_at_call 31; refine HCB.out.mono ?_; rintro e4 w4 ⟨rfl, ht, hg⟩
                 have T4 := hid ht
                 have B4 : Hid (Below w.heap.size w w4) := Grw.below HB3.out hg G2.out HB3.out.size
                 clear ht hg)
              | (go_at_call 27; refine (CE.out _ T4.out).mono ?_; rintro e5 w5 ⟨rfl, rfl⟩))
            go_roundw
            case rel => exact ⟨j2 + 1, c2, by omega, by go_num, HC2, T4, B4⟩
            case measure => simp [intOf]; omega
        · exfalso
          have h1 := HC.out
          rw [suf_end _ _ (by rw [HXL.out]; omega)] at h1
          simp at h1
set_option maxRecDepth 100000 in
set_option maxHeartbeats 2000000 in
theorem cut_many_zero (at_ : Int) (A : Option Addr) (n cap bb off : Nat) (l : List (Int × Nat × ByteArray)) (hm : 20 < n) (hpos : (pre (xssOf l 20) 20).length = 0) (w : World) (hp : 0 < w.heap.size) (hl : ThingsIn w A n bb off l) :
    Calls Try.prog 8 #[.slice A n cap, .int .i64 at_] w fun e w' => e = .returned (.bool true) ∧ Below w.heap.size w w' := by
  have HP := hid hp
  have HA := hid hl
  have hm0 : 20 ≤ n ∧ 20 ≤ 30 := by omega
  have hmin : (20 : Int) < (n : Int) := by omega
  obtain ⟨xss, HXS⟩ : ∃ xss, Hid (xssOf l 20 = xss) := ⟨_, rfl⟩
  have HXL : Hid (xss.length = 20) := by show _ = _; rw [← HXS.out]; exact xssOf_len _ _ (by rw [HA.out.1]; exact hm0.1)
  have HXB : Hid (xss.flatten.length ≤ 9300) := by show _ ≤ _; rw [← HXS.out]; exact xss_small l _ hm0.2
  have HXE : Hid (∀ j, j < 20 → ∀ x, l.getD j (0, 0, ⟨#[]⟩) = x → xss.getD j [] = thL x.1 x.2.1 x.2.2) := fun j hj x hx => by rw [← HXS.out]; exact xssOf_at l _ j (by rw [HA.out.1]; exact hm0.1) hj hx
  rw [HXS.out] at hpos 
  obtain ⟨L, HL⟩ : ∃ L, Hid ((pre xss 20).length = L) := ⟨_, rfl⟩
  have HLB : Hid (L ≤ 9300) := by show _ ≤ _; rw [← HL.out]; exact Nat.le_trans (pre_le _ _) HXB.out
  rw [HL.out] at hpos 
  subst hpos
  clear hp hl hm0
  go_enter Try.func8, Try.ntmps8
  go_wp2
  go_loopw [5, 7] (fun v i wr => ∃ j : Nat, j ≤ 20 ∧ i = .int .i64 (j : Int) ∧ Hid (wr.ownsRow w.heap.size 5 1 v (pre xss j).length ((pre xss j).map V8)) ∧ Hid (Below w.heap.size w wr)) (fun _ i _ => 20 - (intOf i).toNat)
  case atStart => exact ⟨0, by omega, rfl, World.ownsRow_nil _ _ _ _, Below.refl _ _⟩
  case round =>
    obtain ⟨j, hj, rfl, HO, HB⟩ := hrel
    by_cases hlt : j < 20
    · obtain ⟨hAe, _⟩ := HA.out.2.1 (by omega)
      subst hAe
      have h30 : (j : Int) < 20 := by omega
      obtain ⟨x0, n0, s0, HXJ⟩ : ∃ x0 n0 s0, Hid (l.getD j (0, 0, ⟨#[]⟩) = (x0, n0, s0)) := ⟨_, _, _, rfl⟩
      have HAT : Hid (ThingAt wr bb (off + j * 3) (x0, n0, s0)) := HA.out.at_ HB.out j (by omega) HXJ.out
      have HLD := hid (load_thing_at HAT.out)
      obtain ⟨Av, cv, bv, yv, _, _⟩ := own_bytes rfl (Nat.lt_of_lt_of_le HP.out HB.out.size) HO.out
      have CL := hid (lay_any _ _ _ _ _ _ x0 n0 HAT.out.2.2.2.2 s0 (by have h1 := pre_le xss j; have h2 := HXB.out; omega) wr yv)
      have HN : Hid (pre xss (j + 1) = pre xss j ++ thL x0 n0 s0) := by
        show _ = _
        rw [pre_next _ _ (by rw [HXL.out]; exact hlt), HXE.out j hlt _ HXJ.out]
      have hjn : j < n := by omega
      have hjn2 : (j : Int) < (n : Int) := by omega
      clear yv
      go_wp2_with (first
        | (refine wpList_load_g (by rfl) 62 (.tmp 22) rfl bb (off + j * 3) rfl (thing x0 n0 s0) HLD.out ?_)
        | (go_at_call 30; refine CL.out.mono ?_; rintro e1 w1 ⟨v1, rfl, ho, hb1⟩
           have O1 := hid (Fresh.mono ho HB.out.size)
           rw [← HN.out] at O1
           have B1 : Hid (Below w.heap.size w w1) := HB.out.trans (hb1.mono HB.out.size)
           clear ho hb1))
      go_roundw
      case rel => exact ⟨j + 1, by omega, by go_num, O1, B1⟩
      case measure => simp [intOf]; omega
    · obtain rfl : j = 20 := by omega
      obtain ⟨Av, cv, bv, yv, _, _⟩ := own_bytes rfl (Nat.lt_of_lt_of_le HP.out HB.out.size) HO.out
      obtain rfl := yv.formL HL.out
      have CW := hid (works_any wr (Nat.lt_of_lt_of_le HP.out HB.out.size))
      clear yv hlt
      go_wp2_with (first
        | (go_at_call 17; refine CW.out.mono ?_; rintro e8 w8 ⟨rfl, hb8⟩))
      go_ret
      exact ⟨rfl, HB.out.trans (hb8.mono HB.out.size)⟩
set_option maxRecDepth 100000 in
set_option maxHeartbeats 2000000 in
theorem cut_many_neg (at_ : Int) (A : Option Addr) (n cap bb off : Nat) (l : List (Int × Nat × ByteArray)) (hm : 20 < n) (hpos : 0 < (pre (xssOf l 20) 20).length) (hat : at_ < 0) (w : World) (hp : 0 < w.heap.size) (hl : ThingsIn w A n bb off l) :
    Calls Try.prog 8 #[.slice A n cap, .int .i64 at_] w fun e w' => e = .returned (.bool true) ∧ Below w.heap.size w w' := by
  have HP := hid hp
  have HA := hid hl
  have hm0 : 20 ≤ n ∧ 20 ≤ 30 := by omega
  have hmin : (20 : Int) < (n : Int) := by omega
  obtain ⟨xss, HXS⟩ : ∃ xss, Hid (xssOf l 20 = xss) := ⟨_, rfl⟩
  have HXL : Hid (xss.length = 20) := by show _ = _; rw [← HXS.out]; exact xssOf_len _ _ (by rw [HA.out.1]; exact hm0.1)
  have HXB : Hid (xss.flatten.length ≤ 9300) := by show _ ≤ _; rw [← HXS.out]; exact xss_small l _ hm0.2
  have HXE : Hid (∀ j, j < 20 → ∀ x, l.getD j (0, 0, ⟨#[]⟩) = x → xss.getD j [] = thL x.1 x.2.1 x.2.2) := fun j hj x hx => by rw [← HXS.out]; exact xssOf_at l _ j (by rw [HA.out.1]; exact hm0.1) hj hx
  rw [HXS.out] at hpos 
  obtain ⟨L, HL⟩ : ∃ L, Hid ((pre xss 20).length = L) := ⟨_, rfl⟩
  have HLB : Hid (L ≤ 9300) := by show _ ≤ _; rw [← HL.out]; exact Nat.le_trans (pre_le _ _) HXB.out
  rw [HL.out] at hpos 
  have hL0 : ((L : Int) == 0) = false := by simp; omega
  obtain ⟨a, ha⟩ : ∃ a : Nat, a = L - 1 := ⟨_, rfl⟩
  have haI : (L : Int) - 1 = (a : Int) := by omega
  have HAL : Hid (a < L) := by show _ < _; omega
  have w1 : IntKind.i64.wrap ((L : Int) - 1) = (L : Int) - 1 := i64in _ (by omega) (by have := HLB.out; omega)
  clear hp hl hm0
  go_enter Try.func8, Try.ntmps8
  go_wp2
  go_loopw [5, 7] (fun v i wr => ∃ j : Nat, j ≤ 20 ∧ i = .int .i64 (j : Int) ∧ Hid (wr.ownsRow w.heap.size 5 1 v (pre xss j).length ((pre xss j).map V8)) ∧ Hid (Below w.heap.size w wr)) (fun _ i _ => 20 - (intOf i).toNat)
  case atStart => exact ⟨0, by omega, rfl, World.ownsRow_nil _ _ _ _, Below.refl _ _⟩
  case round =>
    obtain ⟨j, hj, rfl, HO, HB⟩ := hrel
    by_cases hlt : j < 20
    · obtain ⟨hAe, _⟩ := HA.out.2.1 (by omega)
      subst hAe
      have h30 : (j : Int) < 20 := by omega
      obtain ⟨x0, n0, s0, HXJ⟩ : ∃ x0 n0 s0, Hid (l.getD j (0, 0, ⟨#[]⟩) = (x0, n0, s0)) := ⟨_, _, _, rfl⟩
      have HAT : Hid (ThingAt wr bb (off + j * 3) (x0, n0, s0)) := HA.out.at_ HB.out j (by omega) HXJ.out
      have HLD := hid (load_thing_at HAT.out)
      obtain ⟨Av, cv, bv, yv, _, _⟩ := own_bytes rfl (Nat.lt_of_lt_of_le HP.out HB.out.size) HO.out
      have CL := hid (lay_any _ _ _ _ _ _ x0 n0 HAT.out.2.2.2.2 s0 (by have h1 := pre_le xss j; have h2 := HXB.out; omega) wr yv)
      have HN : Hid (pre xss (j + 1) = pre xss j ++ thL x0 n0 s0) := by
        show _ = _
        rw [pre_next _ _ (by rw [HXL.out]; exact hlt), HXE.out j hlt _ HXJ.out]
      have hjn : j < n := by omega
      have hjn2 : (j : Int) < (n : Int) := by omega
      clear yv
      go_wp2_with (first
        | (refine wpList_load_g (by rfl) 62 (.tmp 22) rfl bb (off + j * 3) rfl (thing x0 n0 s0) HLD.out ?_)
        | (go_at_call 30; refine CL.out.mono ?_; rintro e1 w1 ⟨v1, rfl, ho, hb1⟩
           have O1 := hid (Fresh.mono ho HB.out.size)
           rw [← HN.out] at O1
           have B1 : Hid (Below w.heap.size w w1) := HB.out.trans (hb1.mono HB.out.size)
           clear ho hb1))
      go_roundw
      case rel => exact ⟨j + 1, by omega, by go_num, O1, B1⟩
      case measure => simp [intOf]; omega
    · obtain rfl : j = 20 := by omega
      obtain ⟨Av, cv, bv, yv, _, _⟩ := own_bytes rfl (Nat.lt_of_lt_of_le HP.out HB.out.size) HO.out
      obtain rfl := yv.formL HL.out
      have kp := yv.preRun a (by have := HL.out; have := HAL.out; omega)
      have yp := yv.pre a (by have := HL.out; have := HAL.out; omega)
      have kp2 : ∀ w', (Instr.slice 24 (.slice Av L cv) none (some (.int .i64 ((L : Int) - 1))) none).run Try.prog w' = .ok (.slice Av a cv) w' := fun w' => by rw [haI]; exact kp w'
      have CT := newTape_any _ _ _ _ _ _ (by have := pre_le xss 20; have := HXB.out; rw [List.length_take]; omega) wr yp
      rw [pre_suf xss 20 HXL.out] at CT
      have HCT := hid CT
      have HS0 : Hid (a < (suf xss 0).length) := by show _ < _; rw [← pre_suf xss 20 HXL.out, HL.out]; exact HAL.out
      clear ha haI
      clear CT yp yv kp hlt
      go_wp2_with (first
        | (go_at_call 20; refine HCT.out.mono ?_; rintro e2 w2 ⟨g, rfl, hg, ht, hb2⟩
           have G2 : Hid (w.heap.size ≤ g) := Nat.le_trans HB.out.size hg
           have T2 := hid ht
           have B2 : Hid (Below w.heap.size w w2) := HB.out.trans (hb2.mono HB.out.size)
           clear hg ht hb2))
      clear kp2
      go_loopw [9] (fun i w3 => ∃ j2 c : Nat, j2 ≤ 20 ∧ i = .int .i64 (j2 : Int) ∧ Hid (c < (suf xss j2).length) ∧ Hid (Tp w3 g (false, (suf xss j2).take c)) ∧ Hid (Below w.heap.size w w3)) (fun i _ => 20 - (intOf i).toNat)
      case atStart => exact ⟨0, a, by omega, rfl, HS0, T2, B2⟩
      case round =>
        obtain ⟨j2, c, hj2, rfl, HC, HT, HB3⟩ := hrel
        by_cases hlt : j2 < 20
        · obtain ⟨hAe, _⟩ := HA.out.2.1 (by omega)
          subst hAe
          have h30 : (j2 : Int) < 20 := by omega
          have hjn : j2 < n := by omega
          have hjn2 : (j2 : Int) < (n : Int) := by omega
          obtain ⟨x0, n0, s0, HXJ⟩ : ∃ x0 n0 s0, Hid (l.getD j2 (0, 0, ⟨#[]⟩) = (x0, n0, s0)) := ⟨_, _, _, rfl⟩
          have HAT := hid (HA.out.at_ HB3.out j2 (by omega) HXJ.out)
          have HLD := hid (load_thing_at HAT.out)
          have HN : Hid (suf xss j2 = thL x0 n0 s0 ++ suf xss (j2 + 1)) := by
            show _ = _
            rw [suf_next _ _ (by rw [HXL.out]; exact hlt), HXE.out j2 hlt _ HXJ.out]
          by_cases hc : c < (thL x0 n0 s0).length
          · have HT2 := HT.out
            rw [HN.out, List.take_append, Nat.sub_eq_zero_of_le (Nat.le_of_lt hc), List.take_zero, List.append_nil] at HT2
            have CB := back_any g _ x0 n0 s0 _ HT2
            have ht0 := cut_pure x0 n0 s0 c hc
            generalize backS x0 n0 s0 (false, (thL x0 n0 s0).take c) = q at CB ht0
            obtain ⟨b, t, zs⟩ := q
            obtain rfl : t = true := ht0
            have HCB := hid CB
            have CE : Hid (∀ w1, Tp w1 g (true, zs) → Calls Try.prog 27 #[.pointer (some ⟨g, 0, none⟩)] w1 fun e w' => e = .returned (.int .i64 4) ∧ w1 = w') := fun w1 h => err_any g _ w1 h
            clear HT2 CB hc
            go_wp2_with (first
              | (refine wpList_load_g (by rfl) 62 (.tmp 52) rfl bb (off + j2 * 3) rfl (thing x0 n0 s0) HLD.out ?_)
              | (go_at_call 31; refine HCB.out.mono ?_; rintro e4 w4 ⟨rfl, ht, hg⟩
                 have T4 := hid ht
                 have B4 : Hid (Below w.heap.size w w4) := Grw.below HB3.out hg G2.out HB3.out.size
                 have CW := hid (works_any w4 (Nat.lt_of_lt_of_le HP.out B4.out.size))
                 clear ht hg)
              | (go_at_call 27; refine (CE.out _ T4.out).mono ?_; rintro e5 w5 ⟨rfl, rfl⟩)
              | (go_at_call 17; refine CW.out.mono ?_; rintro e8 w8 ⟨rfl, hb8⟩))
            go_ret
            exact ⟨rfl, B4.out.trans (hb8.mono B4.out.size)⟩
          · have HT2 := HT.out
            rw [HN.out, List.take_append, List.take_of_length_le (Nat.le_of_not_lt hc)] at HT2
            have CB := back_any g _ x0 n0 s0 _ HT2
            rw [back_pure x0 n0 HAT.out.2.2.2.2 s0] at CB
            have HC2 : Hid (c - (thL x0 n0 s0).length < (suf xss (j2 + 1)).length) := by
              show _ < _
              have := HC.out
              rw [HN.out, List.length_append] at this; omega
            generalize c - (thL x0 n0 s0).length = c2 at CB HC2
            have HCB := hid CB
            have CE : Hid (∀ w1, Tp w1 g (false, (suf xss (j2 + 1)).take c2) → Calls Try.prog 27 #[.pointer (some ⟨g, 0, none⟩)] w1 fun e w' => e = .returned (.int .i64 0) ∧ w1 = w') := fun w1 h => err_any g _ w1 h
            clear HT2 CB hc
            go_wp2_with (first
              | (refine wpList_load_g (by rfl) 62 (.tmp 52) rfl bb (off + j2 * 3) rfl (thing x0 n0 s0) HLD.out ?_)
              | (go_at_call 31; refine HCB.out.mono ?_; rintro e4 w4 ⟨rfl, ht, hg⟩
                 have T4 := hid ht
                 have B4 : Hid (Below w.heap.size w w4) := Grw.below HB3.out hg G2.out HB3.out.size
                 clear ht hg)
              | (go_at_call 27; refine (CE.out _ T4.out).mono ?_; rintro e5 w5 ⟨rfl, rfl⟩))
            go_roundw
            case rel => exact ⟨j2 + 1, c2, by omega, by go_num, HC2, T4, B4⟩
            case measure => simp [intOf]; omega
        · exfalso
          have h1 := HC.out
          rw [suf_end _ _ (by rw [HXL.out]; omega)] at h1
          simp at h1
set_option maxRecDepth 100000 in
set_option maxHeartbeats 2000000 in
theorem cut_many_big (at_ : Int) (A : Option Addr) (n cap bb off : Nat) (l : List (Int × Nat × ByteArray)) (hm : 20 < n) (hpos : 0 < (pre (xssOf l 20) 20).length) (h0 : ¬ at_ < 0) (hat : ((pre (xssOf l 20) 20).length : Int) ≤ at_) (w : World) (hp : 0 < w.heap.size) (hl : ThingsIn w A n bb off l) :
    Calls Try.prog 8 #[.slice A n cap, .int .i64 at_] w fun e w' => e = .returned (.bool true) ∧ Below w.heap.size w w' := by
  have HP := hid hp
  have HA := hid hl
  have hm0 : 20 ≤ n ∧ 20 ≤ 30 := by omega
  have hmin : (20 : Int) < (n : Int) := by omega
  obtain ⟨xss, HXS⟩ : ∃ xss, Hid (xssOf l 20 = xss) := ⟨_, rfl⟩
  have HXL : Hid (xss.length = 20) := by show _ = _; rw [← HXS.out]; exact xssOf_len _ _ (by rw [HA.out.1]; exact hm0.1)
  have HXB : Hid (xss.flatten.length ≤ 9300) := by show _ ≤ _; rw [← HXS.out]; exact xss_small l _ hm0.2
  have HXE : Hid (∀ j, j < 20 → ∀ x, l.getD j (0, 0, ⟨#[]⟩) = x → xss.getD j [] = thL x.1 x.2.1 x.2.2) := fun j hj x hx => by rw [← HXS.out]; exact xssOf_at l _ j (by rw [HA.out.1]; exact hm0.1) hj hx
  rw [HXS.out] at hpos hat
  obtain ⟨L, HL⟩ : ∃ L, Hid ((pre xss 20).length = L) := ⟨_, rfl⟩
  have HLB : Hid (L ≤ 9300) := by show _ ≤ _; rw [← HL.out]; exact Nat.le_trans (pre_le _ _) HXB.out
  rw [HL.out] at hpos hat
  have hL0 : ((L : Int) == 0) = false := by simp; omega
  obtain ⟨a, ha⟩ : ∃ a : Nat, a = L - 1 := ⟨_, rfl⟩
  have haI : (L : Int) - 1 = (a : Int) := by omega
  have hge : (L : Int) ≤ at_ := hat
  have HAL : Hid (a < L) := by show _ < _; omega
  have w1 : IntKind.i64.wrap ((L : Int) - 1) = (L : Int) - 1 := i64in _ (by omega) (by have := HLB.out; omega)
  clear hp hl hm0
  go_enter Try.func8, Try.ntmps8
  go_wp2
  go_loopw [5, 7] (fun v i wr => ∃ j : Nat, j ≤ 20 ∧ i = .int .i64 (j : Int) ∧ Hid (wr.ownsRow w.heap.size 5 1 v (pre xss j).length ((pre xss j).map V8)) ∧ Hid (Below w.heap.size w wr)) (fun _ i _ => 20 - (intOf i).toNat)
  case atStart => exact ⟨0, by omega, rfl, World.ownsRow_nil _ _ _ _, Below.refl _ _⟩
  case round =>
    obtain ⟨j, hj, rfl, HO, HB⟩ := hrel
    by_cases hlt : j < 20
    · obtain ⟨hAe, _⟩ := HA.out.2.1 (by omega)
      subst hAe
      have h30 : (j : Int) < 20 := by omega
      obtain ⟨x0, n0, s0, HXJ⟩ : ∃ x0 n0 s0, Hid (l.getD j (0, 0, ⟨#[]⟩) = (x0, n0, s0)) := ⟨_, _, _, rfl⟩
      have HAT : Hid (ThingAt wr bb (off + j * 3) (x0, n0, s0)) := HA.out.at_ HB.out j (by omega) HXJ.out
      have HLD := hid (load_thing_at HAT.out)
      obtain ⟨Av, cv, bv, yv, _, _⟩ := own_bytes rfl (Nat.lt_of_lt_of_le HP.out HB.out.size) HO.out
      have CL := hid (lay_any _ _ _ _ _ _ x0 n0 HAT.out.2.2.2.2 s0 (by have h1 := pre_le xss j; have h2 := HXB.out; omega) wr yv)
      have HN : Hid (pre xss (j + 1) = pre xss j ++ thL x0 n0 s0) := by
        show _ = _
        rw [pre_next _ _ (by rw [HXL.out]; exact hlt), HXE.out j hlt _ HXJ.out]
      have hjn : j < n := by omega
      have hjn2 : (j : Int) < (n : Int) := by omega
      clear yv
      go_wp2_with (first
        | (refine wpList_load_g (by rfl) 62 (.tmp 22) rfl bb (off + j * 3) rfl (thing x0 n0 s0) HLD.out ?_)
        | (go_at_call 30; refine CL.out.mono ?_; rintro e1 w1 ⟨v1, rfl, ho, hb1⟩
           have O1 := hid (Fresh.mono ho HB.out.size)
           rw [← HN.out] at O1
           have B1 : Hid (Below w.heap.size w w1) := HB.out.trans (hb1.mono HB.out.size)
           clear ho hb1))
      go_roundw
      case rel => exact ⟨j + 1, by omega, by go_num, O1, B1⟩
      case measure => simp [intOf]; omega
    · obtain rfl : j = 20 := by omega
      obtain ⟨Av, cv, bv, yv, _, _⟩ := own_bytes rfl (Nat.lt_of_lt_of_le HP.out HB.out.size) HO.out
      obtain rfl := yv.formL HL.out
      have kp := yv.preRun a (by have := HL.out; have := HAL.out; omega)
      have yp := yv.pre a (by have := HL.out; have := HAL.out; omega)
      have kp2 : ∀ w', (Instr.slice 24 (.slice Av L cv) none (some (.int .i64 ((L : Int) - 1))) none).run Try.prog w' = .ok (.slice Av a cv) w' := fun w' => by rw [haI]; exact kp w'
      have CT := newTape_any _ _ _ _ _ _ (by have := pre_le xss 20; have := HXB.out; rw [List.length_take]; omega) wr yp
      rw [pre_suf xss 20 HXL.out] at CT
      have HCT := hid CT
      have HS0 : Hid (a < (suf xss 0).length) := by show _ < _; rw [← pre_suf xss 20 HXL.out, HL.out]; exact HAL.out
      clear ha haI
      clear CT yp yv kp hlt
      go_wp2_with (first
        | (go_at_call 20; refine HCT.out.mono ?_; rintro e2 w2 ⟨g, rfl, hg, ht, hb2⟩
           have G2 : Hid (w.heap.size ≤ g) := Nat.le_trans HB.out.size hg
           have T2 := hid ht
           have B2 : Hid (Below w.heap.size w w2) := HB.out.trans (hb2.mono HB.out.size)
           clear hg ht hb2))
      clear kp2
      go_loopw [9] (fun i w3 => ∃ j2 c : Nat, j2 ≤ 20 ∧ i = .int .i64 (j2 : Int) ∧ Hid (c < (suf xss j2).length) ∧ Hid (Tp w3 g (false, (suf xss j2).take c)) ∧ Hid (Below w.heap.size w w3)) (fun i _ => 20 - (intOf i).toNat)
      case atStart => exact ⟨0, a, by omega, rfl, HS0, T2, B2⟩
      case round =>
        obtain ⟨j2, c, hj2, rfl, HC, HT, HB3⟩ := hrel
        by_cases hlt : j2 < 20
        · obtain ⟨hAe, _⟩ := HA.out.2.1 (by omega)
          subst hAe
          have h30 : (j2 : Int) < 20 := by omega
          have hjn : j2 < n := by omega
          have hjn2 : (j2 : Int) < (n : Int) := by omega
          obtain ⟨x0, n0, s0, HXJ⟩ : ∃ x0 n0 s0, Hid (l.getD j2 (0, 0, ⟨#[]⟩) = (x0, n0, s0)) := ⟨_, _, _, rfl⟩
          have HAT := hid (HA.out.at_ HB3.out j2 (by omega) HXJ.out)
          have HLD := hid (load_thing_at HAT.out)
          have HN : Hid (suf xss j2 = thL x0 n0 s0 ++ suf xss (j2 + 1)) := by
            show _ = _
            rw [suf_next _ _ (by rw [HXL.out]; exact hlt), HXE.out j2 hlt _ HXJ.out]
          by_cases hc : c < (thL x0 n0 s0).length
          · have HT2 := HT.out
            rw [HN.out, List.take_append, Nat.sub_eq_zero_of_le (Nat.le_of_lt hc), List.take_zero, List.append_nil] at HT2
            have CB := back_any g _ x0 n0 s0 _ HT2
            have ht0 := cut_pure x0 n0 s0 c hc
            generalize backS x0 n0 s0 (false, (thL x0 n0 s0).take c) = q at CB ht0
            obtain ⟨b, t, zs⟩ := q
            obtain rfl : t = true := ht0
            have HCB := hid CB
            have CE : Hid (∀ w1, Tp w1 g (true, zs) → Calls Try.prog 27 #[.pointer (some ⟨g, 0, none⟩)] w1 fun e w' => e = .returned (.int .i64 4) ∧ w1 = w') := fun w1 h => err_any g _ w1 h
            clear HT2 CB hc
            go_wp2_with (first
              | (refine wpList_load_g (by rfl) 62 (.tmp 52) rfl bb (off + j2 * 3) rfl (thing x0 n0 s0) HLD.out ?_)
              | (go_at_call 31; refine HCB.out.mono ?_; rintro e4 w4 ⟨rfl, ht, hg⟩
                 have T4 := hid ht
                 have B4 : Hid (Below w.heap.size w w4) := Grw.below HB3.out hg G2.out HB3.out.size
                 have CW := hid (works_any w4 (Nat.lt_of_lt_of_le HP.out B4.out.size))
                 clear ht hg)
              | (go_at_call 27; refine (CE.out _ T4.out).mono ?_; rintro e5 w5 ⟨rfl, rfl⟩)
              | (go_at_call 17; refine CW.out.mono ?_; rintro e8 w8 ⟨rfl, hb8⟩))
            go_ret
            exact ⟨rfl, B4.out.trans (hb8.mono B4.out.size)⟩
          · have HT2 := HT.out
            rw [HN.out, List.take_append, List.take_of_length_le (Nat.le_of_not_lt hc)] at HT2
            have CB := back_any g _ x0 n0 s0 _ HT2
            rw [back_pure x0 n0 HAT.out.2.2.2.2 s0] at CB
            have HC2 : Hid (c - (thL x0 n0 s0).length < (suf xss (j2 + 1)).length) := by
              show _ < _
              have := HC.out
              rw [HN.out, List.length_append] at this; omega
            generalize c - (thL x0 n0 s0).length = c2 at CB HC2
            have HCB := hid CB
            have CE : Hid (∀ w1, Tp w1 g (false, (suf xss (j2 + 1)).take c2) → Calls Try.prog 27 #[.pointer (some ⟨g, 0, none⟩)] w1 fun e w' => e = .returned (.int .i64 0) ∧ w1 = w') := fun w1 h => err_any g _ w1 h
            clear HT2 CB hc
            go_wp2_with (first
              | (refine wpList_load_g (by rfl) 62 (.tmp 52) rfl bb (off + j2 * 3) rfl (thing x0 n0 s0) HLD.out ?_)
              | (go_at_call 31; refine HCB.out.mono ?_; rintro e4 w4 ⟨rfl, ht, hg⟩
                 have T4 := hid ht
                 have B4 : Hid (Below w.heap.size w w4) := Grw.below HB3.out hg G2.out HB3.out.size
                 clear ht hg)
              | (go_at_call 27; refine (CE.out _ T4.out).mono ?_; rintro e5 w5 ⟨rfl, rfl⟩))
            go_roundw
            case rel => exact ⟨j2 + 1, c2, by omega, by go_num, HC2, T4, B4⟩
            case measure => simp [intOf]; omega
        · exfalso
          have h1 := HC.out
          rw [suf_end _ _ (by rw [HXL.out]; omega)] at h1
          simp at h1
set_option maxRecDepth 100000 in
set_option maxHeartbeats 2000000 in
theorem cut_many_mid (at_ : Int) (A : Option Addr) (n cap bb off : Nat) (l : List (Int × Nat × ByteArray)) (hm : 20 < n) (hpos : 0 < (pre (xssOf l 20) 20).length) (h0 : ¬ at_ < 0) (hat : at_ < ((pre (xssOf l 20) 20).length : Int)) (w : World) (hp : 0 < w.heap.size) (hl : ThingsIn w A n bb off l) :
    Calls Try.prog 8 #[.slice A n cap, .int .i64 at_] w fun e w' => e = .returned (.bool true) ∧ Below w.heap.size w w' := by
  have HP := hid hp
  have HA := hid hl
  have hm0 : 20 ≤ n ∧ 20 ≤ 30 := by omega
  have hmin : (20 : Int) < (n : Int) := by omega
  obtain ⟨xss, HXS⟩ : ∃ xss, Hid (xssOf l 20 = xss) := ⟨_, rfl⟩
  have HXL : Hid (xss.length = 20) := by show _ = _; rw [← HXS.out]; exact xssOf_len _ _ (by rw [HA.out.1]; exact hm0.1)
  have HXB : Hid (xss.flatten.length ≤ 9300) := by show _ ≤ _; rw [← HXS.out]; exact xss_small l _ hm0.2
  have HXE : Hid (∀ j, j < 20 → ∀ x, l.getD j (0, 0, ⟨#[]⟩) = x → xss.getD j [] = thL x.1 x.2.1 x.2.2) := fun j hj x hx => by rw [← HXS.out]; exact xssOf_at l _ j (by rw [HA.out.1]; exact hm0.1) hj hx
  rw [HXS.out] at hpos hat
  obtain ⟨L, HL⟩ : ∃ L, Hid ((pre xss 20).length = L) := ⟨_, rfl⟩
  have HLB : Hid (L ≤ 9300) := by show _ ≤ _; rw [← HL.out]; exact Nat.le_trans (pre_le _ _) HXB.out
  rw [HL.out] at hpos hat
  have hL0 : ((L : Int) == 0) = false := by simp; omega
  obtain ⟨a, rfl⟩ : ∃ a : Nat, at_ = (a : Int) := ⟨at_.toNat, by omega⟩
  have hge : ¬ (L : Int) ≤ (a : Int) := by omega
  have HAL : Hid (a < L) := by show _ < _; omega
  have w1 : IntKind.i64.wrap ((L : Int) - 1) = (L : Int) - 1 := i64in _ (by omega) (by have := HLB.out; omega)
  clear hp hl hm0
  go_enter Try.func8, Try.ntmps8
  go_wp2
  go_loopw [5, 7] (fun v i wr => ∃ j : Nat, j ≤ 20 ∧ i = .int .i64 (j : Int) ∧ Hid (wr.ownsRow w.heap.size 5 1 v (pre xss j).length ((pre xss j).map V8)) ∧ Hid (Below w.heap.size w wr)) (fun _ i _ => 20 - (intOf i).toNat)
  case atStart => exact ⟨0, by omega, rfl, World.ownsRow_nil _ _ _ _, Below.refl _ _⟩
  case round =>
    obtain ⟨j, hj, rfl, HO, HB⟩ := hrel
    by_cases hlt : j < 20
    · obtain ⟨hAe, _⟩ := HA.out.2.1 (by omega)
      subst hAe
      have h30 : (j : Int) < 20 := by omega
      obtain ⟨x0, n0, s0, HXJ⟩ : ∃ x0 n0 s0, Hid (l.getD j (0, 0, ⟨#[]⟩) = (x0, n0, s0)) := ⟨_, _, _, rfl⟩
      have HAT : Hid (ThingAt wr bb (off + j * 3) (x0, n0, s0)) := HA.out.at_ HB.out j (by omega) HXJ.out
      have HLD := hid (load_thing_at HAT.out)
      obtain ⟨Av, cv, bv, yv, _, _⟩ := own_bytes rfl (Nat.lt_of_lt_of_le HP.out HB.out.size) HO.out
      have CL := hid (lay_any _ _ _ _ _ _ x0 n0 HAT.out.2.2.2.2 s0 (by have h1 := pre_le xss j; have h2 := HXB.out; omega) wr yv)
      have HN : Hid (pre xss (j + 1) = pre xss j ++ thL x0 n0 s0) := by
        show _ = _
        rw [pre_next _ _ (by rw [HXL.out]; exact hlt), HXE.out j hlt _ HXJ.out]
      have hjn : j < n := by omega
      have hjn2 : (j : Int) < (n : Int) := by omega
      clear yv
      go_wp2_with (first
        | (refine wpList_load_g (by rfl) 62 (.tmp 22) rfl bb (off + j * 3) rfl (thing x0 n0 s0) HLD.out ?_)
        | (go_at_call 30; refine CL.out.mono ?_; rintro e1 w1 ⟨v1, rfl, ho, hb1⟩
           have O1 := hid (Fresh.mono ho HB.out.size)
           rw [← HN.out] at O1
           have B1 : Hid (Below w.heap.size w w1) := HB.out.trans (hb1.mono HB.out.size)
           clear ho hb1))
      go_roundw
      case rel => exact ⟨j + 1, by omega, by go_num, O1, B1⟩
      case measure => simp [intOf]; omega
    · obtain rfl : j = 20 := by omega
      obtain ⟨Av, cv, bv, yv, _, _⟩ := own_bytes rfl (Nat.lt_of_lt_of_le HP.out HB.out.size) HO.out
      obtain rfl := yv.formL HL.out
      have kp := yv.preRun a (by have := HL.out; have := HAL.out; omega)
      have yp := yv.pre a (by have := HL.out; have := HAL.out; omega)
      have kp2 : ∀ w', (Instr.slice 24 (.slice Av L cv) none (some (.int .i64 (a : Int))) none).run Try.prog w' = .ok (.slice Av a cv) w' := fun w' => by exact kp w'
      have CT := newTape_any _ _ _ _ _ _ (by have := pre_le xss 20; have := HXB.out; rw [List.length_take]; omega) wr yp
      rw [pre_suf xss 20 HXL.out] at CT
      have HCT := hid CT
      have HS0 : Hid (a < (suf xss 0).length) := by show _ < _; rw [← pre_suf xss 20 HXL.out, HL.out]; exact HAL.out
      clear CT yp yv kp hlt
      go_wp2_with (first
        | (go_at_call 20; refine HCT.out.mono ?_; rintro e2 w2 ⟨g, rfl, hg, ht, hb2⟩
           have G2 : Hid (w.heap.size ≤ g) := Nat.le_trans HB.out.size hg
           have T2 := hid ht
           have B2 : Hid (Below w.heap.size w w2) := HB.out.trans (hb2.mono HB.out.size)
           clear hg ht hb2))
      clear kp2
      go_loopw [9] (fun i w3 => ∃ j2 c : Nat, j2 ≤ 20 ∧ i = .int .i64 (j2 : Int) ∧ Hid (c < (suf xss j2).length) ∧ Hid (Tp w3 g (false, (suf xss j2).take c)) ∧ Hid (Below w.heap.size w w3)) (fun i _ => 20 - (intOf i).toNat)
      case atStart => exact ⟨0, a, by omega, rfl, HS0, T2, B2⟩
      case round =>
        obtain ⟨j2, c, hj2, rfl, HC, HT, HB3⟩ := hrel
        by_cases hlt : j2 < 20
        · obtain ⟨hAe, _⟩ := HA.out.2.1 (by omega)
          subst hAe
          have h30 : (j2 : Int) < 20 := by omega
          have hjn : j2 < n := by omega
          have hjn2 : (j2 : Int) < (n : Int) := by omega
          obtain ⟨x0, n0, s0, HXJ⟩ : ∃ x0 n0 s0, Hid (l.getD j2 (0, 0, ⟨#[]⟩) = (x0, n0, s0)) := ⟨_, _, _, rfl⟩
          have HAT := hid (HA.out.at_ HB3.out j2 (by omega) HXJ.out)
          have HLD := hid (load_thing_at HAT.out)
          have HN : Hid (suf xss j2 = thL x0 n0 s0 ++ suf xss (j2 + 1)) := by
            show _ = _
            rw [suf_next _ _ (by rw [HXL.out]; exact hlt), HXE.out j2 hlt _ HXJ.out]
          by_cases hc : c < (thL x0 n0 s0).length
          · have HT2 := HT.out
            rw [HN.out, List.take_append, Nat.sub_eq_zero_of_le (Nat.le_of_lt hc), List.take_zero, List.append_nil] at HT2
            have CB := back_any g _ x0 n0 s0 _ HT2
            have ht0 := cut_pure x0 n0 s0 c hc
            generalize backS x0 n0 s0 (false, (thL x0 n0 s0).take c) = q at CB ht0
            obtain ⟨b, t, zs⟩ := q
            obtain rfl : t = true := ht0
            have HCB := hid CB
            have CE : Hid (∀ w1, Tp w1 g (true, zs) → Calls Try.prog 27 #[.pointer (some ⟨g, 0, none⟩)] w1 fun e w' => e = .returned (.int .i64 4) ∧ w1 = w') := fun w1 h => err_any g _ w1 h
            clear HT2 CB hc
            go_wp2_with (first
              | (refine wpList_load_g (by rfl) 62 (.tmp 52) rfl bb (off + j2 * 3) rfl (thing x0 n0 s0) HLD.out ?_)
              | (go_at_call 31; refine HCB.out.mono ?_; rintro e4 w4 ⟨rfl, ht, hg⟩
                 have T4 := hid ht
                 have B4 : Hid (Below w.heap.size w w4) := Grw.below HB3.out hg G2.out HB3.out.size
                 have CW := hid (works_any w4 (Nat.lt_of_lt_of_le HP.out B4.out.size))
                 clear ht hg)
              | (go_at_call 27; refine (CE.out _ T4.out).mono ?_; rintro e5 w5 ⟨rfl, rfl⟩)
              | (go_at_call 17; refine CW.out.mono ?_; rintro e8 w8 ⟨rfl, hb8⟩))
            go_ret
            exact ⟨rfl, B4.out.trans (hb8.mono B4.out.size)⟩
          · have HT2 := HT.out
            rw [HN.out, List.take_append, List.take_of_length_le (Nat.le_of_not_lt hc)] at HT2
            have CB := back_any g _ x0 n0 s0 _ HT2
            rw [back_pure x0 n0 HAT.out.2.2.2.2 s0] at CB
            have HC2 : Hid (c - (thL x0 n0 s0).length < (suf xss (j2 + 1)).length) := by
              show _ < _
              have := HC.out
              rw [HN.out, List.length_append] at this; omega
            generalize c - (thL x0 n0 s0).length = c2 at CB HC2
            have HCB := hid CB
            have CE : Hid (∀ w1, Tp w1 g (false, (suf xss (j2 + 1)).take c2) → Calls Try.prog 27 #[.pointer (some ⟨g, 0, none⟩)] w1 fun e w' => e = .returned (.int .i64 0) ∧ w1 = w') := fun w1 h => err_any g _ w1 h
            clear HT2 CB hc
            go_wp2_with (first
              | (refine wpList_load_g (by rfl) 62 (.tmp 52) rfl bb (off + j2 * 3) rfl (thing x0 n0 s0) HLD.out ?_)
              | (go_at_call 31; refine HCB.out.mono ?_; rintro e4 w4 ⟨rfl, ht, hg⟩
                 have T4 := hid ht
                 have B4 : Hid (Below w.heap.size w w4) := Grw.below HB3.out hg G2.out HB3.out.size
                 clear ht hg)
              | (go_at_call 27; refine (CE.out _ T4.out).mono ?_; rintro e5 w5 ⟨rfl, rfl⟩))
            go_roundw
            case rel => exact ⟨j2 + 1, c2, by omega, by go_num, HC2, T4, B4⟩
            case measure => simp [intOf]; omega
        · exfalso
          have h1 := HC.out
          rw [suf_end _ _ (by rw [HXL.out]; omega)] at h1
          simp at h1
theorem cutLaw_any (A : Option Addr) (n cap bb off : Nat) (l : List (Int × Nat × ByteArray)) (at_ : Int) (w : World) (hp : 0 < w.heap.size) (hl : ThingsIn w A n bb off l) :
    Calls Try.prog 8 #[.slice A n cap, .int .i64 at_] w fun e w' => e = .returned (.bool true) ∧ Below w.heap.size w w' := by
  rcases Nat.lt_or_ge 20 n with h | h
  · rcases Nat.eq_zero_or_pos (pre (xssOf l 20) 20).length with h0 | h0
    · exact cut_many_zero at_ A n cap bb off l h h0 w hp hl
    · by_cases h1 : at_ < 0
      · exact cut_many_neg at_ A n cap bb off l h h0 h1 w hp hl
      · by_cases h2 : at_ < ((pre (xssOf l 20) 20).length : Int)
        · exact cut_many_mid at_ A n cap bb off l h h0 h1 h2 w hp hl
        · exact cut_many_big at_ A n cap bb off l h h0 h1 (by omega) w hp hl
  · rcases Nat.eq_zero_or_pos (pre (xssOf l n) n).length with h0 | h0
    · exact cut_few_zero at_ A n cap bb off l h h0 w hp hl
    · by_cases h1 : at_ < 0
      · exact cut_few_neg at_ A n cap bb off l h h0 h1 w hp hl
      · by_cases h2 : at_ < ((pre (xssOf l n) n).length : Int)
        · exact cut_few_mid at_ A n cap bb off l h h0 h1 h2 w hp hl
        · exact cut_few_big at_ A n cap bb off l h h0 h1 (by omega) w hp hl
end Go.Proofs.Ytdmdddmfiankhaa
