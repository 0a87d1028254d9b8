/- strconv.Itoa of one digit; the law IgnoreDeep: its files, its walk. Conditions: a world in shape. -/
import Derived.Test.YtpipkgkfhbagmaaDoorLQ
namespace Go.Proofs.YtpipkgkfhbagmaaDoor.Glob
open Go.RowKit Go.Maps
/-- A digit. -/
def dig (i : Nat) : By := [UInt8.ofNat (48 + i)]
theorem itoa_any (i : Nat) (h : i < 10) (w : World) : Calls Tryd.prog 19 #[.int .i64 (i : Int)] w fun e w' => e = .returned (.string (ba (dig i))) ∧ w = w' := by
  have hd : Lib.decDigits i = dig i := by unfold Lib.decDigits; rw [dif_pos h]; rfl
  have HS : Hid (Calls Tryd.prog 70 #[.int .i64 (i : Int)] w fun e w' => e = .returned (.string (ba (dig i))) ∧ w = w') := (Tryd.internal_strconv_small i (by omega) w).mono fun e w' ⟨h1, h2⟩ => ⟨by rw [h1, hd]; rfl, h2.symm⟩
  have h0 : (0 : Int) ≤ (i : Int) := by omega
  have h100 : (i : Int) < 100 := by omega
  have HF : Hid (Calls Tryd.prog 55 #[.int .i64 (i : Int), .int .i64 10] w fun e w' => e = .returned (.string (ba (dig i))) ∧ w = w') := by
    show Calls _ _ _ _ _
    generalize ba (dig i) = X at HS
    clear hd
    go_enter Tryd.func55, Tryd.ntmps55
    go_wp2_with (go_at_call 70; refine HS.out.mono ?_; rintro e1 w1 ⟨rfl, rfl⟩)
    go_ret
    exact ⟨rfl, rfl⟩
  have HI : Hid (Calls Tryd.prog 36 #[.int .i64 (i : Int)] w fun e w' => e = .returned (.string (ba (dig i))) ∧ w = w') := by
    show Calls _ _ _ _ _
    generalize ba (dig i) = X at HF
    clear hd HS
    go_enter Tryd.func36, Tryd.ntmps36
    go_wp2_with (go_at_call 55; refine HF.out.mono ?_; rintro e1 w1 ⟨rfl, rfl⟩)
    go_ret
    exact ⟨rfl, rfl⟩
  generalize ba (dig i) = X at HI
  clear hd HS HF
  go_enter Tryd.func19, Tryd.ntmps19
  go_wp2_with (go_at_call 36; refine HI.out.mono ?_; rintro e1 w1 ⟨rfl, rfl⟩)
  go_ret
  exact ⟨rfl, rfl⟩
def incF : By := [35, 105, 110, 99, 108, 117, 100, 101, 32, 102]
def sD (mn tt k : Nat) : By := [112] ++ dig k ++ [10] ++ (if k + 1 < mn then incF ++ dig (k + 1) ++ [10] else if tt < mn then incF ++ dig tt ++ [10] else [])
def fD (mn tt k : Nat) : By × By := ([102] ++ dig k, sD mn tt k)
def DL (mn tt : Nat) : Fl := (List.range mn).map (fD mn tt)
def pD (mn : Nat) : List By := (List.range mn).map fun i => [112] ++ dig i
theorem DL_len (mn tt : Nat) : (DL mn tt).length = mn := by simp [DL]
theorem dig_len (i : Nat) : (dig i).length = 1 := rfl
theorem sD_len (mn tt k : Nat) : (sD mn tt k).length ≤ 100 := by
  unfold sD
  simp only [List.length_append, List.length_singleton, dig_len]
  split
  · simp only [List.length_append, dig_len, incF]; simp
  · split
    · simp only [List.length_append, dig_len, incF]; simp
    · simp
theorem DL_snoc {mn tt k : Nat} (hk : k < mn) : (DL mn tt).take (k + 1) = (DL mn tt).take k ++ [fD mn tt k] := by
  have h : k < (DL mn tt).length := by rw [DL_len]; exact hk
  rw [List.take_succ_eq_append_getElem h]
  simp [DL]
def okD (mn tt : Nat) : Bool := if 4 < mn then isErr (readL (DL mn tt) 4 [] [102, 48] []) 3 else if tt < mn then isErr (readL (DL mn tt) 4 [] [102, 48] []) 22 else isOk (readL (DL mn tt) 4 [] [102, 48] []) (pD mn)
set_option maxRecDepth 100000 in
theorem okD_all : ∀ (m : Fin 8) (t : Fin 10), okD (m.val + 1) t.val = true := by decide +kernel
set_option maxRecDepth 100000 in
theorem matD_all : ∀ (m i : Fin 4), i.val ≤ m.val → (matL (pD (m.val + 1)) ([120, 47, 112] ++ dig i.val)).1 = true := by decide +kernel
theorem rem_nat (n m : Nat) : (n : Int).tmod (m : Int) = ((n % m : Nat) : Int) := by
  rw [Int.tmod_eq_emod_of_nonneg (by omega)]; norm_cast
set_option maxRecDepth 100000 in
set_option maxHeartbeats 8000000 in
theorem deep_any (a b : Nat) (ha : a < 256) (hb : b < 256) (w : World) (hG : Gd w) : Calls Tryd.prog 7 #[.int .u8 (a : Int), .int .u8 (b : Int)] w fun e w' => e = .returned (.bool true) ∧ Below w.heap.size w w' := by
  have HG := hid hG
  have HWK := hid (fun W (h : Below w.heap.size w W) => works_any W (hG.kept h))
  obtain ⟨m8, hm8⟩ : ∃ m, a % 8 = m := ⟨_, rfl⟩
  obtain ⟨tt, hto⟩ : ∃ m, b % 10 = m := ⟨_, rfl⟩
  have r1 : (a : Int).tmod 8 = (m8 : Int) := by have := rem_nat a 8; rw [hm8] at this; exact this
  have r2 : (b : Int).tmod 10 = (tt : Int) := by have := rem_nat b 10; rw [hto] at this; exact this
  have l1 : m8 < 8 := by omega
  have l2 : tt < 10 := by omega
  obtain ⟨mn, hmn⟩ : ∃ mn, m8 + 1 = mn := ⟨_, rfl⟩
  have r3 : (1 : Int) + (m8 : Int) = (mn : Int) := by omega
  have hok : okD mn tt = true := by rw [← hmn]; exact okD_all ⟨m8, l1⟩ ⟨tt, l2⟩
  have HOK := hid hok
  have HMN : Hid (mn ≤ 8 ∧ 0 < mn) := ⟨by omega, by omega⟩
  have HTO := hid l2
  have w1 : IntKind.i64.wrap (m8 : Int) = (m8 : Int) := i64in _ (by omega) (by omega)
  have w2 : IntKind.i64.wrap (tt : Int) = (tt : Int) := i64in _ (by omega) (by omega)
  have l1' : (m8 : Int) < 8 := by omega
  have l2' : (tt : Int) < 10 := by omega
  clear hG hok hm8 hto hmn
  go_enter Tryd.func7, Tryd.ntmps7
  go_wp2
  go_loopw [7, 8] (fun l i wr => ∃ (k : Nat) (A : Option Addr) (c : Nat), i = .int .i64 (k : Int) ∧ l = .slice A k c ∧ k ≤ mn ∧ Hid (wr.ownsRow w.heap.size 38 2 (.slice A k c) ((DL mn tt).take k).length (fcells ((DL mn tt).take k))) ∧ Hid (Below w.heap.size w wr))
    (fun _ i _ => mn - (intOf i).toNat)
  case atStart => exact ⟨0, none, 0, rfl, rfl, Nat.zero_le _, World.ownsRow_nil _ _ _ _, Below.refl _ _⟩
  case round =>
    obtain ⟨k, A, c, rfl, rfl, hk, HA, HB⟩ := hrel
    by_cases hlt : k < mn
    · have hkn : (k : Int) < (mn : Int) := by omega
      obtain ⟨k1, hk1e⟩ : ∃ k1, k + 1 = k1 := ⟨_, rfl⟩
      have hk1 : (k : Int) + 1 = (k1 : Int) := by omega
      have HK1 := hid hk1e
      have hk9 : k < 10 := by have := HMN.out; omega
      have HI0 := hid (itoa_any k hk9)
      have HI1 := hid (itoa_any k1 (by have := HMN.out; omega))
      have HIT := hid (itoa_any tt HTO.out)
      have HFD : Hid (fD mn tt k = ([102] ++ dig k, sD mn tt k)) := rfl
      have HSD : Hid (sD mn tt k = [112] ++ dig k ++ [10] ++ (if k1 < mn then incF ++ dig k1 ++ [10] else if tt < mn then incF ++ dig tt ++ [10] else [])) := by rw [← hk1e]; exact rfl
      have HSL := hid (sD_len mn tt k)
      have HSN := hid (DL_snoc (tt := tt) hlt)
      generalize hs : sD mn tt k = s at HSD HSL HFD
      have HAP := hid (fun (Wb : World) (hbb : Below wr.heap.size wr Wb) (hg : Has Wb wr.heap.size 38 #[.string (ba ([102] ++ dig k)), .string (ba s)]) => append_file (f := ([102] ++ dig k, s)) (own_below HA.out hbb) hg (by rw [List.length_take, DL_len]; omega) (Nat.le_trans HB.out.size hbb.size) 22)
      obtain ⟨Wb, hWb⟩ : ∃ Wb, wr.alloc (.cells #[.string (ba ([102] ++ dig k)), .string (ba s)] 38) = Wb := ⟨_, rfl⟩
      have hbb : Below wr.heap.size wr Wb := hWb ▸ (Below.refl _ _).alloc (Nat.le_refl _) _
      obtain ⟨v5, w5, hr5, ha5, hg5⟩ := HAP.out Wb hbb (hWb ▸ Has.fresh _ _ _)
      rw [← HFD.out, ← HSN.out] at ha5
      have HR5 := hid hr5
      have HA5 := hid ha5
      have HB5 : Hid (Below w.heap.size w w5) := grown_below hg5 (HB.out.thenG hbb) (fun j hj => (own_inside HA.out j hj).1) (Nat.le_trans HB.out.size hbb.size)
      have hlk : ((DL mn tt).take (k + 1)).length = k + 1 := by rw [List.length_take, DL_len]; omega
      obtain ⟨A5, c5, hv5⟩ := own_form ha5
      rw [hlk] at hv5
      subst hv5
      have z0 := ba_size (dig k)
      have z1 := ba_size (dig k1)
      have zt := ba_size (dig tt)
      rw [dig_len] at z0 z1 zt
      have p0 : (⟨#[112]⟩ : ByteArray) ++ ba (dig k) = ba ([112] ++ dig k) := ba_app [112] (dig k)
      have p1 : ba ([112] ++ dig k) ++ (⟨#[10]⟩ : ByteArray) = ba ([112] ++ dig k ++ [10]) := ba_app ([112] ++ dig k) [10]
      have p2 : ba ([112] ++ dig k ++ [10]) ++ (⟨#[35, 105, 110, 99, 108, 117, 100, 101, 32, 102]⟩ : ByteArray) = ba ([112] ++ dig k ++ [10] ++ incF) := ba_app ([112] ++ dig k ++ [10]) incF
      have p3 : ba ([112] ++ dig k ++ [10] ++ incF) ++ ba (dig k1) = ba ([112] ++ dig k ++ [10] ++ incF ++ dig k1) := ba_app _ _
      have p4 : ba ([112] ++ dig k ++ [10] ++ incF ++ dig k1) ++ (⟨#[10]⟩ : ByteArray) = ba ([112] ++ dig k ++ [10] ++ incF ++ dig k1 ++ [10]) := ba_app _ [10]
      have p5 : ba ([112] ++ dig k ++ [10] ++ incF) ++ ba (dig tt) = ba ([112] ++ dig k ++ [10] ++ incF ++ dig tt) := ba_app _ _
      have p6 : ba ([112] ++ dig k ++ [10] ++ incF ++ dig tt) ++ (⟨#[10]⟩ : ByteArray) = ba ([112] ++ dig k ++ [10] ++ incF ++ dig tt ++ [10]) := ba_app _ [10]
      have p7 : (⟨#[102]⟩ : ByteArray) ++ ba (dig k) = ba ([102] ++ dig k) := ba_app [102] (dig k)
      have y0 : (ba ([112] ++ dig k)).size = 2 := by rw [ba_size]; rfl
      have y1 : (ba ([112] ++ dig k ++ [10])).size = 3 := by rw [ba_size]; rfl
      have y2 : (ba ([112] ++ dig k ++ [10] ++ incF)).size = 13 := by rw [ba_size]; rfl
      have y3 : (ba ([112] ++ dig k ++ [10] ++ incF ++ dig k1)).size = 14 := by rw [ba_size]; rfl
      have y4 : (ba ([112] ++ dig k ++ [10] ++ incF ++ dig tt)).size = 14 := by rw [ba_size]; rfl
      have y5 : (ba ([102] ++ dig k)).size = 2 := by rw [ba_size]; rfl
      have e4 : [112] ++ dig k ++ [10] ++ incF ++ dig k1 ++ [10] = [112] ++ dig k ++ [10] ++ (incF ++ dig k1 ++ [10]) := by simp only [List.append_assoc]
      have e6 : [112] ++ dig k ++ [10] ++ incF ++ dig tt ++ [10] = [112] ++ dig k ++ [10] ++ (incF ++ dig tt ++ [10]) := by simp only [List.append_assoc]
      have HE4 := hid e4
      have HE6 := hid e6
      clear hk1e e4 e6 hbb hr5 ha5 hg5 hlk hs
      obtain ⟨D0, hD0⟩ : ∃ X, ba (dig k) = X := ⟨_, rfl⟩
      obtain ⟨D1, hD1⟩ : ∃ X, ba (dig k1) = X := ⟨_, rfl⟩
      obtain ⟨DT, hDT⟩ : ∃ X, ba (dig tt) = X := ⟨_, rfl⟩
      obtain ⟨X0, hX0⟩ : ∃ X, ba ([112] ++ dig k) = X := ⟨_, rfl⟩
      obtain ⟨X1, hX1⟩ : ∃ X, ba ([112] ++ dig k ++ [10]) = X := ⟨_, rfl⟩
      obtain ⟨X2, hX2⟩ : ∃ X, ba ([112] ++ dig k ++ [10] ++ incF) = X := ⟨_, rfl⟩
      obtain ⟨X3, hX3⟩ : ∃ X, ba ([112] ++ dig k ++ [10] ++ incF ++ dig k1) = X := ⟨_, rfl⟩
      obtain ⟨X4, hX4⟩ : ∃ X, ba ([112] ++ dig k ++ [10] ++ incF ++ dig k1 ++ [10]) = X := ⟨_, rfl⟩
      obtain ⟨X5, hX5⟩ : ∃ X, ba ([112] ++ dig k ++ [10] ++ incF ++ dig tt) = X := ⟨_, rfl⟩
      obtain ⟨X6, hX6⟩ : ∃ X, ba ([112] ++ dig k ++ [10] ++ incF ++ dig tt ++ [10]) = X := ⟨_, rfl⟩
      obtain ⟨X7, hX7⟩ : ∃ X, ba ([102] ++ dig k) = X := ⟨_, rfl⟩
      obtain ⟨XS, hXS⟩ : ∃ X, ba s = X := ⟨_, rfl⟩
      rw [hD0] at HI0 p0 p7 z0
      rw [hD1] at HI1 p3 z1
      rw [hDT] at HIT p5 zt
      rw [hX0] at p0 p1 y0
      rw [hX1] at p1 p2 y1
      rw [hX2] at p2 p3 p5 y2
      rw [hX3] at p3 p4 y3
      rw [hX4] at p4
      rw [hX5] at p5 p6 y4
      rw [hX6] at p6
      rw [hX7] at p7 hWb y5
      rw [hXS] at hWb
      clear hD0 hD1 hDT hX0 hX2 hX3 hX5 hX7
      by_cases h1 : k1 < mn
      · have h1i : (k1 : Int) < (mn : Int) := by omega
        have hxs : X4 = XS := by rw [← hX4, ← hXS, HSD.out, if_pos h1, HE4.out]
        subst hxs
        clear h1 hX4 hX6 hXS hX1
        go_wp2_with (fail)
        refine (HI0.out wr).mono ?_
        rintro e1 q1 ⟨rfl, rfl⟩
        go_wp2_with (fail)
        refine (HI1.out wr).mono ?_
        rintro e2 q2 ⟨rfl, rfl⟩
        go_wp2_with (fail)
        refine (HI0.out wr).mono ?_
        rintro e3 q3 ⟨rfl, rfl⟩
        go_wp2_with (at_builtin; refine wpList_append_run rfl (.tmp 51) (.tmp 57) 22 22 rfl ⟨_, w5, HR5.out, ?_⟩)
        exact ⟨⟨k + 1, A5, c5, by go_num, rfl, by omega, HA5.out, HB5.out⟩, by simp [intOf]; omega⟩
      · have h1i : ¬ ((k1 : Int) < (mn : Int)) := by omega
        by_cases h2 : tt < mn
        · have h2i : (tt : Int) < (mn : Int) := by omega
          have hxs : X6 = XS := by rw [← hX6, ← hXS, HSD.out, if_neg h1, if_pos h2, HE6.out]
          subst hxs
          clear h1 h2 hX4 hX6 hXS hX1
          go_wp2_with (fail)
          refine (HI0.out wr).mono ?_
          rintro e1 q1 ⟨rfl, rfl⟩
          go_wp2_with (fail)
          refine (HIT.out wr).mono ?_
          rintro e2 q2 ⟨rfl, rfl⟩
          go_wp2_with (fail)
          refine (HI0.out wr).mono ?_
          rintro e3 q3 ⟨rfl, rfl⟩
          go_wp2_with (at_builtin; refine wpList_append_run rfl (.tmp 51) (.tmp 57) 22 22 rfl ⟨_, w5, HR5.out, ?_⟩)
          exact ⟨⟨k + 1, A5, c5, by go_num, rfl, by omega, HA5.out, HB5.out⟩, by simp [intOf]; omega⟩
        · have h2i : ¬ ((tt : Int) < (mn : Int)) := by omega
          have hxs : X1 = XS := by rw [← hX1, ← hXS, HSD.out, if_neg h1, if_neg h2, List.append_nil]
          subst hxs
          clear h1 h2 hX4 hX6 hXS hX1
          go_wp2_with (fail)
          refine (HI0.out wr).mono ?_
          rintro e1 q1 ⟨rfl, rfl⟩
          go_wp2_with (fail)
          refine (HI0.out wr).mono ?_
          rintro e3 q3 ⟨rfl, rfl⟩
          go_wp2_with (at_builtin; refine wpList_append_run rfl (.tmp 51) (.tmp 57) 22 22 rfl ⟨_, w5, HR5.out, ?_⟩)
          exact ⟨⟨k + 1, A5, c5, by go_num, rfl, by omega, HA5.out, HB5.out⟩, by simp [intOf]; omega⟩
    · have hkm : k = mn := by omega
      have hki : ¬ ((k : Int) < (mn : Int)) := by omega
      have hfl : FilesIs wr (.slice A k c) (DL mn tt) := by
        unfold FilesIs
        have := HA.out
        rw [List.take_of_length_le (by rw [DL_len]; omega)] at this
        exact own_mono this (Nat.zero_le _)
      have HP : Hid (Calls Tryd.prog 9 #[.slice A k c, .string ⟨#[102, 48]⟩] wr fun e W => ParseOut wr.heap.size (DL mn tt) [102, 48] e W ∧ Below wr.heap.size wr W) := iparse_any (DL mn tt) [102, 48] _ wr (HG.out.kept HB.out) hfl (by rw [DL_len]; have := HMN.out; omega) (fun i hi => by simp [DL, fD, dig]) (fun i hi => by have := sD_len mn tt i; simp [DL, fD]; omega) (by decide)
      clear hfl HA hkm hlt
      go_wp2_with (fail)
      refine HP.out.mono ?_
      rintro e1 w1 ⟨h1, hb1⟩
      have HB1 := hid (HB.out.thenG hb1)
      have HW1 := hid (HWK.out w1 HB1.out)
      unfold ParseOut at h1
      have hokv := HOK.out
      unfold okD at hokv
      by_cases h4 : 4 < mn
      · rw [if_pos h4] at hokv
        rw [isErr_eq hokv] at h1
        obtain ⟨rfl, _⟩ := h1
        have h4i : (4 : Int) < (mn : Int) := by omega
        clear hokv hb1
        go_wp2_with (go_at_call 12; refine HW1.out.mono ?_; rintro e2 w2 ⟨rfl, hb2⟩)
        go_ret
        exact ⟨rfl, HB1.out.thenG hb2⟩
      · rw [if_neg h4] at hokv
        have h4i : ¬ ((4 : Int) < (mn : Int)) := by omega
        by_cases h2 : tt < mn
        · rw [if_pos h2] at hokv
          rw [isErr_eq hokv] at h1
          obtain ⟨rfl, _⟩ := h1
          have h2i : (tt : Int) < (mn : Int) := by omega
          clear hokv hb1
          go_wp2_with (go_at_call 12; refine HW1.out.mono ?_; rintro e2 w2 ⟨rfl, hb2⟩)
          go_ret
          exact ⟨rfl, HB1.out.thenG hb2⟩
        · rw [if_neg h2] at hokv
          rw [isOk_eq hokv] at h1
          obtain ⟨L, rfl, _, hL, hl64⟩ := h1
          have h2i : ¬ ((tt : Int) < (mn : Int)) := by omega
          have hpl : ((pD mn).length : Int) = (mn : Int) := by simp [pD]
          have HLE := hid (len_any _ L (pD mn) w1 hL)
          rw [hpl] at HLE
          have HL := hid hL
          have HL64 := hid hl64
          have H4 : Hid (mn ≤ 4) := by show _ ≤ _; omega
          have hmm : ((mn : Int) == (mn : Int)) = true := by simp
          have hmn2 : ((mn : Int) != (mn : Int)) = false := by simp
          unfold ptrV at HLE
          unfold ptrV
          clear hokv hb1 hL hl64 hpl h2 h4
          go_wp2_with (go_at_call 13; refine HLE.out.mono ?_; rintro e2 w2 ⟨rfl, rfl⟩)
          go_loopw [12] (fun i w3 => ∃ (j : Nat), i = .int .i64 (j : Int) ∧ j ≤ mn ∧ Hid (Below w1.heap.size w1 w3))
            (fun i _ => mn - (intOf i).toNat)
          case atStart => exact ⟨0, rfl, Nat.zero_le _, Below.refl _ _⟩
          case round =>
            obtain ⟨j, rfl, hj, HJ⟩ := hrel
            by_cases hjl : j < mn
            · have hji : (j : Int) < (mn : Int) := by omega
              have HIJ := hid (itoa_any j (by have := HMN.out; omega) wr)
              have hmt : (matL (pD mn) ([120, 47, 112] ++ dig j)).1 = true := by
                have h4 := H4.out
                have h0 := HMN.out.2
                have := matD_all ⟨mn - 1, by omega⟩ ⟨j, by omega⟩ (by show j ≤ mn - 1; omega)
                rwa [show mn - 1 + 1 = mn by omega] at this
              have HMJ := hid (imatch_any _ L (pD mn) ([120, 47, 112] ++ dig j) wr (HG.out.kept (HB1.out.thenG HJ.out)) (HL.out.below HJ.out) HL64.out (by simp [dig]))
              rw [hmt] at HMJ
              generalize (matL (pD mn) ([120, 47, 112] ++ dig j)).2 = y at HMJ
              have z0 := ba_size (dig j)
              rw [dig_len] at z0
              have p0 : (⟨#[120, 47, 112]⟩ : ByteArray) ++ ba (dig j) = ba ([120, 47, 112] ++ dig j) := ba_app [120, 47, 112] (dig j)
              generalize ba ([120, 47, 112] ++ dig j) = X at p0 HMJ
              generalize ba (dig j) = D at p0 z0 HIJ
              unfold ptrV at HMJ
              clear hmt hjl
              go_wp2_with (fail)
              refine HIJ.out.mono ?_
              rintro e4 w4 ⟨rfl, rfl⟩
              go_wp2_with (fail)
              refine HMJ.out.mono ?_
              rintro e5 w5 ⟨rfl, hb5⟩
              have HJ5 := hid (HJ.out.thenG hb5)
              clear hb5
              go_wp2
              exact ⟨⟨j + 1, by go_num, by omega, HJ5.out⟩, by simp [intOf]; omega⟩
            · have hji : ¬ ((j : Int) < (mn : Int)) := by omega
              have HWJ := hid (HWK.out wr (HB1.out.thenG HJ.out))
              clear hjl
              go_wp2_with (go_at_call 12; refine HWJ.out.mono ?_; rintro e4 w4 ⟨rfl, hb4⟩)
              go_ret
              exact ⟨rfl, (HB1.out.thenG HJ.out).thenG hb4⟩
end Go.Proofs.YtpipkgkfhbagmaaDoor.Glob
