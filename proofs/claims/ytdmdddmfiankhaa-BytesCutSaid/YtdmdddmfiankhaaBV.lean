/- The law BytesBack: what its call does. Conditions: a heap that has a block. -/
import Derived.Test.YtdmdddmfiankhaaBS
import Derived.Lib.AppendStr
namespace Go.Proofs.Ytdmdddmfiankhaa
open Go.RowKit
/-- The bytes of the first m things, one by one. -/
def xssOf (l : List (Int × Nat × ByteArray)) (m : Nat) : List (List UInt8) := (l.take m).map fun x => thL x.1 x.2.1 x.2.2
theorem xssOf_len (l : List (Int × Nat × ByteArray)) (m : Nat) (h : m ≤ l.length) : (xssOf l m).length = m := by simp [xssOf]; omega
theorem xssOf_at (l : List (Int × Nat × ByteArray)) (m j : Nat) (h : m ≤ l.length) (hj : j < m) {x : Int × Nat × ByteArray} (hx : l.getD j (0, 0, ⟨#[]⟩) = x) : (xssOf l m).getD j [] = thL x.1 x.2.1 x.2.2 := by
  have h1 : j < l.length := by omega
  rw [List.getD, List.getElem?_eq_getElem h1] at hx
  simp only [Option.getD_some] at hx
  subst hx
  rw [List.getD, List.getElem?_eq_getElem (by rw [xssOf_len _ _ h]; exact hj)]
  simp [xssOf]
theorem flat_len (xss : List (List UInt8)) (B : Nat) (h : ∀ x ∈ xss, x.length ≤ B) : xss.flatten.length ≤ xss.length * B := by
  induction xss with
  | nil => simp
  | cons x xss ih =>
    rw [List.flatten_cons, List.length_append, List.length_cons, Nat.add_mul]
    have := ih (fun y hy => h y (List.mem_cons_of_mem _ hy))
    have := h x List.mem_cons_self
    omega
theorem xss_small (l : List (Int × Nat × ByteArray)) (m : Nat) (h : m ≤ 30) : (xssOf l m).flatten.length ≤ 9300 := by
  refine Nat.le_trans (flat_len _ 310 ?_) ?_
  · intro x hx
    simp only [xssOf, List.mem_map] at hx
    obtain ⟨y, _, rfl⟩ := hx
    exact thL_len _ _ _
  · have : (xssOf l m).length ≤ m := by simp [xssOf]; omega
    omega
def suf (xss : List (List UInt8)) (j : Nat) : List UInt8 := (xss.drop j).flatten
theorem suf_next (xss : List (List UInt8)) (j : Nat) (h : j < xss.length) : suf xss j = xss.getD j [] ++ suf xss (j + 1) := by
  rw [suf, suf, List.drop_eq_getElem_cons h, List.flatten_cons, List.getD, List.getElem?_eq_getElem h]; rfl
theorem suf_end (xss : List (List UInt8)) (j : Nat) (h : xss.length ≤ j) : suf xss j = [] := by rw [suf, List.drop_of_length_le h]; rfl
theorem append_str (w : World) (B : Nat) (v : Value) (n : Nat) (ys : List UInt8) (hown : w.ownsRow B 5 1 v n (ys.map V8)) (s : ByteArray) (hn : n + s.size ≤ 100000) (hB : B ≤ w.heap.size) :
    ∃ v' w', (Builtin.append_ #[24, 9] 24 #[v, .string s]).run Try.prog w = .ok v' w' ∧ w'.ownsRow B 5 1 v' (n + s.size) ((ys ++ tl s).map V8) ∧ w.grownBy w' v.ownBlock := by
  obtain ⟨i0, hi, hz0, hz1, hz2⟩ := info_parts info5
  obtain ⟨v', w', h1, h2, h3, _⟩ := Lib.run_append_own_string (P := Try.prog) w B 24 9 24 5 i0 Try.underlying24 Try.underlying9 hi hz0 hz1 hz2 v n (ys.map V8) hown s (by unfold maxLen; omega) (by omega) hB
  refine ⟨v', w', h1, ?_, h3⟩
  rw [List.map_append]
  exact h2
theorem ThingsIn.at_ {w w' : World} {A : Option Addr} {n bb off : Nat} {xs : List (Int × Nat × ByteArray)} (h : ThingsIn w A n bb off xs) (hb : Below w.heap.size w w') (j : Nat) (hj : j < n) {x : Int × Nat × ByteArray} (hx : xs.getD j (0, 0, ⟨#[]⟩) = x) : ThingAt w' bb (off + j * 3) x := by
  rw [← hx]; exact (h.2.2 j hj).kept hb (Nat.le_refl _)
set_option maxRecDepth 100000 in
set_option maxHeartbeats 2000000 in
theorem back_few (b0 : ByteArray) (A : Option Addr) (n cap bb off : Nat) (l : List (Int × Nat × ByteArray)) (hm : n ≤ 30) (w : World) (hp : 0 < w.heap.size) (hl : ThingsIn w A n bb off l) :
    Calls Try.prog 7 #[.slice A n cap, .string b0] w fun e w' => e = .returned (.bool true) ∧ Below w.heap.size w w' := by
  have HP := hid hp
  have HA := hid hl
  have hm0 : n ≤ n ∧ n ≤ 30 := by omega
  obtain ⟨xss, HXS⟩ : ∃ xss, Hid (xssOf l n = xss) := ⟨_, rfl⟩
  have HXL : Hid (xss.length = n) := by show _ = _; rw [← HXS.out]; exact xssOf_len _ _ (by rw [HA.out.1]; exact hm0.1)
  have HXB : Hid (xss.flatten.length ≤ 9300) := by show _ ≤ _; rw [← HXS.out]; exact xss_small l _ hm0.2
  have HXE : Hid (∀ j, j < n → ∀ x, l.getD j (0, 0, ⟨#[]⟩) = x → xss.getD j [] = thL x.1 x.2.1 x.2.2) := fun j hj x hx => by rw [← HXS.out]; exact xssOf_at l _ j (by rw [HA.out.1]; exact hm0.1) hj hx
  obtain ⟨s, HS⟩ : ∃ s, Hid (ba ((tl b0).take 500) = s) := ⟨_, rfl⟩
  have CA := hid (cut_any b0 500 (by omega) w)
  rw [HS.out] at CA
  have HSZ : Hid (s.size ≤ 500) := by show _ ≤ _; rw [← HS.out, ba_size, List.length_take]; omega
  have HSE : Hid (suf xss n ++ tl s = tl s) := by show _ = _; rw [suf_end _ _ (Nat.le_of_eq HXL.out)]; rfl
  clear hp hl hm0
  go_enter Try.func7, Try.ntmps7
  go_wp2_with (first
    | (go_at_call 12; refine CA.out.mono ?_; rintro e1 w1 ⟨rfl, rfl⟩))
  go_loopw [5, 6] (fun v i wr => ∃ j : Nat, j ≤ n ∧ i = .int .i64 (j : Int) ∧ Hid (wr.ownsRow w.heap.size 5 1 v (pre xss j).length ((pre xss j).map V8)) ∧ Hid (Below w.heap.size w wr)) (fun _ i _ => n - (intOf i).toNat)
  case atStart => exact ⟨0, by omega, rfl, World.ownsRow_nil _ _ _ _, Below.refl _ _⟩
  case round =>
    obtain ⟨j, hj, rfl, HO, HB⟩ := hrel
    by_cases hlt : j < n
    · obtain ⟨hAe, _⟩ := HA.out.2.1 (by omega)
      subst hAe
      have h30 : (j : Int) < 30 := by omega
      obtain ⟨x0, n0, s0, HXJ⟩ : ∃ x0 n0 s0, Hid (l.getD j (0, 0, ⟨#[]⟩) = (x0, n0, s0)) := ⟨_, _, _, rfl⟩
      have HAT : Hid (ThingAt wr bb (off + j * 3) (x0, n0, s0)) := HA.out.at_ HB.out j (by omega) HXJ.out
      have HLD := hid (load_thing_at HAT.out)
      obtain ⟨Av, cv, bv, yv, _, _⟩ := own_bytes rfl (Nat.lt_of_lt_of_le HP.out HB.out.size) HO.out
      have CL := hid (lay_any _ _ _ _ _ _ x0 n0 HAT.out.2.2.2.2 s0 (by have h1 := pre_le xss j; have h2 := HXB.out; omega) wr yv)
      have HN : Hid (pre xss (j + 1) = pre xss j ++ thL x0 n0 s0) := by
        show _ = _
        rw [pre_next _ _ (by rw [HXL.out]; exact hlt), HXE.out j hlt _ HXJ.out]
      clear yv
      go_wp2_with (first
        | (refine wpList_load_g (by rfl) 62 (.tmp 25) rfl bb (off + j * 3) rfl (thing x0 n0 s0) HLD.out ?_)
        | (go_at_call 30; refine CL.out.mono ?_; rintro e1 w1 ⟨v1, rfl, ho, hb1⟩
           have O1 := hid (Fresh.mono ho HB.out.size)
           rw [← HN.out] at O1
           have B1 : Hid (Below w.heap.size w w1) := HB.out.trans (hb1.mono HB.out.size)
           clear ho hb1))
      go_roundw
      case rel => exact ⟨j + 1, by omega, by go_num, O1, B1⟩
      case measure => simp [intOf]; omega
    · obtain rfl : n = j := by omega
      obtain ⟨v1, w1, HR, ho1, hg1⟩ := append_str wr w.heap.size _ _ _ HO.out s (by have h1 := pre_le xss n; have h2 := HXB.out; have h3 := HSZ.out; omega) HB.out.size
      have B1 : Hid (Below w.heap.size w w1) := HB.out.grown hg1 HB.out.size (fun x hx => (HO.out.lt x hx).1)
      have HPE : Hid (pre xss n ++ tl s = suf xss 0 ++ tl s) := by
        show _ = _
        rw [show pre xss n = xss.flatten by rw [← HXL.out, pre_all]]; rfl
      obtain ⟨Av, cv, bv, yv, _, _⟩ := own_bytes (ys := pre xss n ++ tl s) (by rw [List.length_append, tl_length]) (Nat.lt_of_lt_of_le HP.out B1.out.size) ho1
      rw [HPE.out] at yv
      have CT := hid (newTape_any _ _ _ _ _ _ (by rw [← HPE.out, List.length_append, tl_length]; have h1 := pre_le xss n; have h2 := HXB.out; have h3 := HSZ.out; omega) w1 yv)
      have HRR := hid HR
      clear HR ho1 hg1 yv hlt
      go_wp2_with (first
        | (refine wpList_append_run rfl (.tmp 28) (.tmp 29) 24 9 rfl ⟨v1, w1, HRR.out, ?_⟩)
        | (go_at_call 20; refine CT.out.mono ?_; rintro e2 w2 ⟨g, rfl, hg, ht, hb2⟩
           have G2 : Hid (w.heap.size ≤ g) := Nat.le_trans B1.out.size hg
           have T2 := hid ht
           have B2 : Hid (Below w.heap.size w w2) := B1.out.trans (hb2.mono B1.out.size)
           clear hg ht hb2))
      go_loopw [8] (fun i w3 => ∃ j2 : Nat, j2 ≤ n ∧ i = .int .i64 (j2 : Int) ∧ Hid (Tp w3 g (false, suf xss j2 ++ tl s)) ∧ Hid (Below w.heap.size w w3)) (fun i _ => n - (intOf i).toNat)
      case atStart => exact ⟨0, by omega, rfl, T2, B2⟩
      case round =>
        obtain ⟨j2, hj2, rfl, HT, HB3⟩ := hrel
        by_cases hlt : j2 < n
        · obtain ⟨hAe, _⟩ := HA.out.2.1 (by omega)
          subst hAe
          have h30 : (j2 : Int) < 30 := by omega
          obtain ⟨x0, n0, s0, HXJ⟩ : ∃ x0 n0 s0, Hid (l.getD j2 (0, 0, ⟨#[]⟩) = (x0, n0, s0)) := ⟨_, _, _, rfl⟩
          have HAT := hid (HA.out.at_ HB3.out j2 (by omega) HXJ.out)
          have HLD := hid (load_thing_at HAT.out)
          have HN : Hid (suf xss j2 ++ tl s = thL x0 n0 s0 ++ (suf xss (j2 + 1) ++ tl s)) := by
            show _ = _
            rw [suf_next _ _ (by rw [HXL.out]; exact hlt), HXE.out j2 hlt _ HXJ.out, List.append_assoc]
          have HT2 := HT.out
          rw [HN.out] at HT2
          have CB := back_any g _ x0 n0 s0 _ HT2
          rw [back_pure x0 n0 HAT.out.2.2.2.2 s0] at CB
          have HCB := hid CB
          have CE : Hid (∀ w1, Tp w1 g (false, suf xss (j2 + 1) ++ tl s) → Calls Try.prog 27 #[.pointer (some ⟨g, 0, none⟩)] w1 fun e w' => e = .returned (.int .i64 0) ∧ w1 = w') := fun w1 h => err_any g _ w1 h
          clear HT2 CB
          go_wp2_with (first
            | (refine wpList_load_g (by rfl) 62 (.tmp 45) rfl bb (off + j2 * 3) rfl (thing x0 n0 s0) HLD.out ?_)
            | (go_at_call 31; refine HCB.out.mono ?_; rintro e4 w4 ⟨rfl, ht, hg⟩
               have T4 := hid ht
               have B4 : Hid (Below w.heap.size w w4) := Grw.below HB3.out hg G2.out HB3.out.size
               clear ht hg)
            | (go_at_call 27; refine (CE.out _ T4.out).mono ?_; rintro e5 w5 ⟨rfl, rfl⟩))
          go_roundw
          case rel => exact ⟨j2 + 1, by omega, by go_num, T4, B4⟩
          case measure => simp [intOf]; omega
        · obtain rfl : n = j2 := by omega
          rw [HSE.out] at HT
          have CL : Hid (∀ w1, Tp w1 g (false, tl s) → Calls Try.prog 25 #[.pointer (some ⟨g, 0, none⟩)] w1 fun e w' => e = .returned (.int .i64 (s.size : Int)) ∧ w1 = w') := fun w1 h => by
            have := left_any g _ w1 h
            rw [show (false, tl s).2.length = s.size from tl_length s] at this; exact this
          have CB : Hid (∀ w1, Tp w1 g (false, tl s) → Calls Try.prog 32 #[.pointer (some ⟨g, 0, none⟩), .int .i64 (s.size : Int)] w1 fun e w' => ∃ v A cap bb, e = .returned v ∧ Bytes w' v (tl s) A cap bb 0 ∧ Apart w1.heap.size bb ∧ Tp w' g (false, []) ∧ Grw g w1 w') := fun w1 h => by
            have := bytes_any g _ (s.size : Int) w1 h
            have e1 : bytesS (false, tl s) (s.size : Int) = (tl s, (false, [])) := by
              rw [bytesS, if_pos ⟨rfl, by omega, by rw [show (false, tl s).2.length = s.size from tl_length s]; omega⟩]
              simp only [Int.toNat_natCast]
              rw [← tl_length s, List.take_length, List.drop_length]
            rw [e1] at this; exact this
          have CE : Hid (∀ w1, Tp w1 g (false, []) → Calls Try.prog 33 #[.pointer (some ⟨g, 0, none⟩)] w1 fun e w' => e = .returned (.int .i64 0) ∧ Tp w' g (false, []) ∧ Grw g w1 w') := fun w1 h => end_any g _ w1 h
          have ESB : Hid (ba (tl s) = s) := ba_tl s
          clear hlt
          go_wp2_with (first
            | (go_at_call 25; refine (CL.out _ HT.out).mono ?_; rintro e5 w5 ⟨rfl, rfl⟩)
            | (go_at_call 32; refine (CB.out _ HT.out).mono ?_; rintro e6 w6 ⟨v6, A6, c6, b6, rfl, hy, _, ht, hg⟩
               have T6 := hid ht
               have B6 : Hid (Below w.heap.size w w6) := Grw.below HB3.out hg G2.out HB3.out.size
               have k6 := conv_is hy ESB.out
               clear ht hg hy)
            | (go_at_call 33; refine (CE.out _ T6.out).mono ?_; rintro e7 w7 ⟨rfl, ht, hg⟩
               have B7 : Hid (Below w.heap.size w w7) := Grw.below B6.out hg G2.out B6.out.size
               have CW := hid (works_any w7 (Nat.lt_of_lt_of_le HP.out B7.out.size))
               clear ht hg)
            | (go_at_call 17; refine CW.out.mono ?_; rintro e8 w8 ⟨rfl, hb8⟩))
          go_ret
          exact ⟨rfl, B7.out.trans (hb8.mono B7.out.size)⟩
set_option maxRecDepth 100000 in
set_option maxHeartbeats 2000000 in
theorem back_many (b0 : ByteArray) (A : Option Addr) (n cap bb off : Nat) (l : List (Int × Nat × ByteArray)) (hm : 30 < n) (w : World) (hp : 0 < w.heap.size) (hl : ThingsIn w A n bb off l) :
    Calls Try.prog 7 #[.slice A n cap, .string b0] w fun e w' => e = .returned (.bool true) ∧ Below w.heap.size w w' := by
  have HP := hid hp
  have HA := hid hl
  have hm0 : 30 ≤ n ∧ 30 ≤ 30 := by omega
  obtain ⟨xss, HXS⟩ : ∃ xss, Hid (xssOf l 30 = xss) := ⟨_, rfl⟩
  have HXL : Hid (xss.length = 30) := by show _ = _; rw [← HXS.out]; exact xssOf_len _ _ (by rw [HA.out.1]; exact hm0.1)
  have HXB : Hid (xss.flatten.length ≤ 9300) := by show _ ≤ _; rw [← HXS.out]; exact xss_small l _ hm0.2
  have HXE : Hid (∀ j, j < 30 → ∀ x, l.getD j (0, 0, ⟨#[]⟩) = x → xss.getD j [] = thL x.1 x.2.1 x.2.2) := fun j hj x hx => by rw [← HXS.out]; exact xssOf_at l _ j (by rw [HA.out.1]; exact hm0.1) hj hx
  obtain ⟨s, HS⟩ : ∃ s, Hid (ba ((tl b0).take 500) = s) := ⟨_, rfl⟩
  have CA := hid (cut_any b0 500 (by omega) w)
  rw [HS.out] at CA
  have HSZ : Hid (s.size ≤ 500) := by show _ ≤ _; rw [← HS.out, ba_size, List.length_take]; omega
  have HSE : Hid (suf xss 30 ++ tl s = tl s) := by show _ = _; rw [suf_end _ _ (Nat.le_of_eq HXL.out)]; rfl
  clear hp hl hm0
  go_enter Try.func7, Try.ntmps7
  go_wp2_with (first
    | (go_at_call 12; refine CA.out.mono ?_; rintro e1 w1 ⟨rfl, rfl⟩))
  go_loopw [5, 6] (fun v i wr => ∃ j : Nat, j ≤ 30 ∧ i = .int .i64 (j : Int) ∧ Hid (wr.ownsRow w.heap.size 5 1 v (pre xss j).length ((pre xss j).map V8)) ∧ Hid (Below w.heap.size w wr)) (fun _ i _ => 30 - (intOf i).toNat)
  case atStart => exact ⟨0, by omega, rfl, World.ownsRow_nil _ _ _ _, Below.refl _ _⟩
  case round =>
    obtain ⟨j, hj, rfl, HO, HB⟩ := hrel
    by_cases hlt : j < 30
    · obtain ⟨hAe, _⟩ := HA.out.2.1 (by omega)
      subst hAe
      have h30 : (j : Int) < 30 := by omega
      have h31 : (j : Int) < (n : Int) := by omega
      obtain ⟨x0, n0, s0, HXJ⟩ : ∃ x0 n0 s0, Hid (l.getD j (0, 0, ⟨#[]⟩) = (x0, n0, s0)) := ⟨_, _, _, rfl⟩
      have HAT : Hid (ThingAt wr bb (off + j * 3) (x0, n0, s0)) := HA.out.at_ HB.out j (by omega) HXJ.out
      have HLD := hid (load_thing_at HAT.out)
      obtain ⟨Av, cv, bv, yv, _, _⟩ := own_bytes rfl (Nat.lt_of_lt_of_le HP.out HB.out.size) HO.out
      have CL := hid (lay_any _ _ _ _ _ _ x0 n0 HAT.out.2.2.2.2 s0 (by have h1 := pre_le xss j; have h2 := HXB.out; omega) wr yv)
      have HN : Hid (pre xss (j + 1) = pre xss j ++ thL x0 n0 s0) := by
        show _ = _
        rw [pre_next _ _ (by rw [HXL.out]; exact hlt), HXE.out j hlt _ HXJ.out]
      clear yv
      go_wp2_with (first
        | (refine wpList_load_g (by rfl) 62 (.tmp 25) rfl bb (off + j * 3) rfl (thing x0 n0 s0) HLD.out ?_)
        | (go_at_call 30; refine CL.out.mono ?_; rintro e1 w1 ⟨v1, rfl, ho, hb1⟩
           have O1 := hid (Fresh.mono ho HB.out.size)
           rw [← HN.out] at O1
           have B1 : Hid (Below w.heap.size w w1) := HB.out.trans (hb1.mono HB.out.size)
           clear ho hb1))
      go_roundw
      case rel => exact ⟨j + 1, by omega, by go_num, O1, B1⟩
      case measure => simp [intOf]; omega
    · obtain rfl : j = 30 := by omega
      have h30 : (30 : Int) < (n : Int) := by omega
      obtain ⟨v1, w1, HR, ho1, hg1⟩ := append_str wr w.heap.size _ _ _ HO.out s (by have h1 := pre_le xss 30; have h2 := HXB.out; have h3 := HSZ.out; omega) HB.out.size
      have B1 : Hid (Below w.heap.size w w1) := HB.out.grown hg1 HB.out.size (fun x hx => (HO.out.lt x hx).1)
      have HPE : Hid (pre xss 30 ++ tl s = suf xss 0 ++ tl s) := by
        show _ = _
        rw [show pre xss 30 = xss.flatten by rw [← HXL.out, pre_all]]; rfl
      obtain ⟨Av, cv, bv, yv, _, _⟩ := own_bytes (ys := pre xss 30 ++ tl s) (by rw [List.length_append, tl_length]) (Nat.lt_of_lt_of_le HP.out B1.out.size) ho1
      rw [HPE.out] at yv
      have CT := hid (newTape_any _ _ _ _ _ _ (by rw [← HPE.out, List.length_append, tl_length]; have h1 := pre_le xss 30; have h2 := HXB.out; have h3 := HSZ.out; omega) w1 yv)
      have HRR := hid HR
      clear HR ho1 hg1 yv hlt
      go_wp2_with (first
        | (refine wpList_append_run rfl (.tmp 28) (.tmp 29) 24 9 rfl ⟨v1, w1, HRR.out, ?_⟩)
        | (go_at_call 20; refine CT.out.mono ?_; rintro e2 w2 ⟨g, rfl, hg, ht, hb2⟩
           have G2 : Hid (w.heap.size ≤ g) := Nat.le_trans B1.out.size hg
           have T2 := hid ht
           have B2 : Hid (Below w.heap.size w w2) := B1.out.trans (hb2.mono B1.out.size)
           clear hg ht hb2))
      go_loopw [8] (fun i w3 => ∃ j2 : Nat, j2 ≤ 30 ∧ i = .int .i64 (j2 : Int) ∧ Hid (Tp w3 g (false, suf xss j2 ++ tl s)) ∧ Hid (Below w.heap.size w w3)) (fun i _ => 30 - (intOf i).toNat)
      case atStart => exact ⟨0, by omega, rfl, T2, B2⟩
      case round =>
        obtain ⟨j2, hj2, rfl, HT, HB3⟩ := hrel
        by_cases hlt : j2 < 30
        · obtain ⟨hAe, _⟩ := HA.out.2.1 (by omega)
          subst hAe
          have h30 : (j2 : Int) < 30 := by omega
          have h31 : (j2 : Int) < (n : Int) := by omega
          obtain ⟨x0, n0, s0, HXJ⟩ : ∃ x0 n0 s0, Hid (l.getD j2 (0, 0, ⟨#[]⟩) = (x0, n0, s0)) := ⟨_, _, _, rfl⟩
          have HAT := hid (HA.out.at_ HB3.out j2 (by omega) HXJ.out)
          have HLD := hid (load_thing_at HAT.out)
          have HN : Hid (suf xss j2 ++ tl s = thL x0 n0 s0 ++ (suf xss (j2 + 1) ++ tl s)) := by
            show _ = _
            rw [suf_next _ _ (by rw [HXL.out]; exact hlt), HXE.out j2 hlt _ HXJ.out, List.append_assoc]
          have HT2 := HT.out
          rw [HN.out] at HT2
          have CB := back_any g _ x0 n0 s0 _ HT2
          rw [back_pure x0 n0 HAT.out.2.2.2.2 s0] at CB
          have HCB := hid CB
          have CE : Hid (∀ w1, Tp w1 g (false, suf xss (j2 + 1) ++ tl s) → Calls Try.prog 27 #[.pointer (some ⟨g, 0, none⟩)] w1 fun e w' => e = .returned (.int .i64 0) ∧ w1 = w') := fun w1 h => err_any g _ w1 h
          clear HT2 CB
          go_wp2_with (first
            | (refine wpList_load_g (by rfl) 62 (.tmp 45) rfl bb (off + j2 * 3) rfl (thing x0 n0 s0) HLD.out ?_)
            | (go_at_call 31; refine HCB.out.mono ?_; rintro e4 w4 ⟨rfl, ht, hg⟩
               have T4 := hid ht
               have B4 : Hid (Below w.heap.size w w4) := Grw.below HB3.out hg G2.out HB3.out.size
               clear ht hg)
            | (go_at_call 27; refine (CE.out _ T4.out).mono ?_; rintro e5 w5 ⟨rfl, rfl⟩))
          go_roundw
          case rel => exact ⟨j2 + 1, by omega, by go_num, T4, B4⟩
          case measure => simp [intOf]; omega
        · obtain rfl : j2 = 30 := by omega
          have h30 : (30 : Int) < (n : Int) := by omega
          rw [HSE.out] at HT
          have CL : Hid (∀ w1, Tp w1 g (false, tl s) → Calls Try.prog 25 #[.pointer (some ⟨g, 0, none⟩)] w1 fun e w' => e = .returned (.int .i64 (s.size : Int)) ∧ w1 = w') := fun w1 h => by
            have := left_any g _ w1 h
            rw [show (false, tl s).2.length = s.size from tl_length s] at this; exact this
          have CB : Hid (∀ w1, Tp w1 g (false, tl s) → Calls Try.prog 32 #[.pointer (some ⟨g, 0, none⟩), .int .i64 (s.size : Int)] w1 fun e w' => ∃ v A cap bb, e = .returned v ∧ Bytes w' v (tl s) A cap bb 0 ∧ Apart w1.heap.size bb ∧ Tp w' g (false, []) ∧ Grw g w1 w') := fun w1 h => by
            have := bytes_any g _ (s.size : Int) w1 h
            have e1 : bytesS (false, tl s) (s.size : Int) = (tl s, (false, [])) := by
              rw [bytesS, if_pos ⟨rfl, by omega, by rw [show (false, tl s).2.length = s.size from tl_length s]; omega⟩]
              simp only [Int.toNat_natCast]
              rw [← tl_length s, List.take_length, List.drop_length]
            rw [e1] at this; exact this
          have CE : Hid (∀ w1, Tp w1 g (false, []) → Calls Try.prog 33 #[.pointer (some ⟨g, 0, none⟩)] w1 fun e w' => e = .returned (.int .i64 0) ∧ Tp w' g (false, []) ∧ Grw g w1 w') := fun w1 h => end_any g _ w1 h
          have ESB : Hid (ba (tl s) = s) := ba_tl s
          clear hlt
          go_wp2_with (first
            | (go_at_call 25; refine (CL.out _ HT.out).mono ?_; rintro e5 w5 ⟨rfl, rfl⟩)
            | (go_at_call 32; refine (CB.out _ HT.out).mono ?_; rintro e6 w6 ⟨v6, A6, c6, b6, rfl, hy, _, ht, hg⟩
               have T6 := hid ht
               have B6 : Hid (Below w.heap.size w w6) := Grw.below HB3.out hg G2.out HB3.out.size
               have k6 := conv_is hy ESB.out
               clear ht hg hy)
            | (go_at_call 33; refine (CE.out _ T6.out).mono ?_; rintro e7 w7 ⟨rfl, ht, hg⟩
               have B7 : Hid (Below w.heap.size w w7) := Grw.below B6.out hg G2.out B6.out.size
               have CW := hid (works_any w7 (Nat.lt_of_lt_of_le HP.out B7.out.size))
               clear ht hg)
            | (go_at_call 17; refine CW.out.mono ?_; rintro e8 w8 ⟨rfl, hb8⟩))
          go_ret
          exact ⟨rfl, B7.out.trans (hb8.mono B7.out.size)⟩
theorem backLaw_any (A : Option Addr) (n cap bb off : Nat) (l : List (Int × Nat × ByteArray)) (b0 : ByteArray) (w : World) (hp : 0 < w.heap.size) (hl : ThingsIn w A n bb off l) :
    Calls Try.prog 7 #[.slice A n cap, .string b0] w fun e w' => e = .returned (.bool true) ∧ Below w.heap.size w w' := by
  rcases Nat.lt_or_ge 30 n with h | h
  · exact back_many b0 A n cap bb off l h w hp hl
  · exact back_few b0 A n cap bb off l h w hp hl
end Go.Proofs.Ytdmdddmfiankhaa
