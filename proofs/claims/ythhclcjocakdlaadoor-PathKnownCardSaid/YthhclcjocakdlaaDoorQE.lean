/- The walk of the law PathKnown: the chapter's examples. Conditions: a world in which the listed variables lie. -/
import Derived.Test.YthhclcjocakdlaaDoorQD
namespace Go.Proofs.YthhclcjocakdlaaDoor
open Go.RowKit
def goodS : List ByteArray := [⟨#[97]⟩, ⟨#[97, 47, 98, 32, 99]⟩, ⟨#[97, 47, 98, 47, 99, 47, 100, 47, 101, 47, 102]⟩, ⟨#[46, 120]⟩, ⟨#[46, 46, 46]⟩, ⟨#[97, 47, 126, 116, 126, 98]⟩]
def badS : List ByteArray := [⟨#[]⟩, ⟨#[47, 97]⟩, ⟨#[97, 47, 47, 98]⟩, ⟨#[97, 47, 46]⟩, ⟨#[97, 47, 98, 47, 99, 47, 100, 47, 101, 47, 102, 47, 103]⟩, ⟨#[97, 47]⟩, ⟨#[46, 46]⟩, ⟨#[97, 0]⟩, ⟨#[97, 127]⟩, ⟨#[97, 10]⟩, ⟨#[47]⟩]
def strsA (l : List ByteArray) : Array Value := (l.map Value.string).toArray
theorem strsTrydat (l : List ByteArray) (k : Nat) (h : k < l.length) : (strsA l)[k]? = some (.string (l.getD k ByteArray.empty)) := by
  simp [strsA, List.getD, List.getElem?_eq_getElem h]
theorem goods : ∀ k, k < 6 → mayB (tl (goodS.getD k ByteArray.empty)) = true ∧ (goodS.getD k ByteArray.empty).size ≤ 4000 := by decide +kernel
theorem bads : ∀ k, k < 11 → mayB (tl (badS.getD k ByteArray.empty)) = false ∧ (badS.getD k ByteArray.empty).size ≤ 4000 := by decide +kernel
theorem may_v (s : ByteArray) (v : Bool) (h : mayB (tl s) = v) (hs : s.size ≤ 4000) : Hid (∀ W, Gd W → Calls Tryd.prog 22 #[.string s] W fun e w' => e = .returned (.bool v) ∧ Below W.heap.size W w') := by
  intro W hW; rw [← h]; exact may_any s W hW hs
theorem parent_v (s x : ByteArray) (v : Bool) (h : ba (findV (tl s)).1 = x) (hv : mayB (tl s) = v) (hs : s.size ≤ 4000) : Hid (∀ W, Gd W → Calls Tryd.prog 28 #[.string s] W fun e w' => e = .returned (.tuple #[.string x, .bool v]) ∧ Below W.heap.size W w') := by
  intro W hW; rw [← h, ← hv]; exact parent_any s W hW hs
theorem base_v (s x : ByteArray) (h : ba (findV (tl s)).2 = x) (hs : s.size ≤ 4000) : Hid (∀ W, Gd W → Calls Tryd.prog 30 #[.string s] W fun e w' => e = .returned (.string x) ∧ Below W.heap.size W w') := by
  intro W hW; rw [← h]; exact base_any s W hW hs
theorem cmp_v (s t : ByteArray) (v : Int) (h : cmpL (tl s) (tl t) = v) (h1 : s.size ≤ 4000) (h2 : t.size ≤ 4000) : Hid (∀ W, Calls Tryd.prog 34 #[.string s, .string t] W fun e w' => e = .returned (.int .i64 v) ∧ Below W.heap.size W w') := by
  intro W; rw [← h]; exact cmp_any s t W (by omega) (by omega)
theorem within_v (s t : ByteArray) (v : Bool) (h : withinB (tl s) (tl t) = v) (h1 : s.size ≤ 4000) (h2 : t.size ≤ 4000) : Hid (∀ W, Gd W → Calls Tryd.prog 32 #[.string s, .string t] W fun e w' => e = .returned (.bool v) ∧ Below W.heap.size W w') := by
  intro W hW; rw [← h]; exact within_any s t W hW h1 h2
theorem isTemp_v (s : ByteArray) (v : Bool) (h : isTempB (tl s) = v) (h1 : s.size ≤ 4000) : Hid (∀ W, Calls Tryd.prog 40 #[.string s] W fun e w' => e = .returned (.bool v) ∧ W = w') := by
  intro W; rw [← h]; exact isTemp_any s W h1
theorem isConf_v (s : ByteArray) (v : Bool) (h : isConfB (tl s) = v) (h1 : s.size ≤ 4000) : Hid (∀ W, Calls Tryd.prog 42 #[.string s] W fun e w' => e = .returned (.bool v) ∧ Below W.heap.size W w') := by
  intro W; rw [← h]; exact isConflict_any s W h1
theorem bad_v (t y : Int) (h : okTB t y = false) : Hid (∀ W, Gd W → Calls Tryd.prog 38 #[.string ⟨#[97]⟩, .int .i64 t, .int .i64 y] W fun e w' => e = .returned (.tuple #[.string ⟨#[]⟩, .bool false]) ∧ Below W.heap.size W w') :=
  fun W hW => conflict_bad ⟨#[97]⟩ t y (by decide +kernel) h W hW (by decide)
def nmS : ByteArray := ba (List.replicate 48 110)
def proOut : ByteArray := ⟨#[46, 112, 114, 111, 102, 105, 108, 101, 46, 115, 121, 110, 99, 45, 99, 111, 110, 102, 108, 105, 99, 116, 45, 52, 50, 57, 52, 57, 54, 55, 50, 57, 53, 45, 49, 54]⟩
theorem pro_may : mayB (tl ⟨#[46, 112, 114, 111, 102, 105, 108, 101]⟩) = true := by decide +kernel
theorem pro_out : ba (conflictL (tl ⟨#[46, 112, 114, 111, 102, 105, 108, 101]⟩) 4294967295 16) = proOut := by
  have : conflictL (tl ⟨#[46, 112, 114, 111, 102, 105, 108, 101]⟩) 4294967295 16 = tl proOut := by decide +kernel
  rw [this, ba_tl]
theorem dx_form : tempL [100, 47, 120] = [100, 47, 126, 116, 126, 120] ++ (hexL [100, 47, 120]).take 8 := by
  have h1 : aheadL [100, 47, 120] = [100] := by decide +kernel
  have h2 : lastP [100, 47, 120] = [120] := by decide +kernel
  rw [tempL, h1, h2, tempPart, besideL, if_neg (by decide)]; rfl
theorem dx_size : (ba (tempL [100, 47, 120])).size = 14 := by
  have : (hexL [100, 47, 120]).length = 64 := Sha.textUp_len _ 32
  rw [ba_size, dx_form, List.length_append, List.length_take, this]; rfl
theorem dx_head : (tempL [100, 47, 120]).take 6 = [100, 47, 126, 116, 126, 120] := by rw [dx_form]; rfl
theorem conf_pro : Hid (∀ W, Gd W → Calls Tryd.prog 38 #[.string ⟨#[46, 112, 114, 111, 102, 105, 108, 101]⟩, .int .i64 4294967295, .int .i64 16] W fun e w' => e = .returned (.tuple #[.string proOut, .bool true]) ∧ Below W.heap.size W w') := by
  intro W hW
  have := conflict_yes ⟨#[46, 112, 114, 111, 102, 105, 108, 101]⟩ 4294967295 16 pro_may (by omega) (by omega) (by omega) (by omega) W hW (by decide)
  rw [pro_out] at this; exact this
def zer48 : Array Value := Sha.bvec (List.replicate 48 0)
theorem mk48 (w : World) : (Instr.makeSlice 22 (.int .i64 48) (.int .i64 48)).run Tryd.prog w = .ok (.slice (some ⟨w.heap.size, 0, none⟩) 48 48) (w.alloc (.cells zer48 5)) := by
  obtain ⟨i0, hi, hz0, hz1, hz2⟩ := info_parts Sha.info5
  have := run_make (P := Tryd.prog) w 22 5 i0 (.int .u8 0) Tryd.underlying22 hi hz0 .i64 .i64 48 48 (by omega) (by omega) (by rw [hz2]; omega) (by omega)
  rw [this, hz1, show (Value.int IntKind.u8 0).cells = #[Value.int .u8 0] from rfl, Sha.made_bytes]
  rfl
theorem cv48 (w : World) : (convert 22 9 (.slice (some ⟨w.heap.size, 0, none⟩) 48 48)).run Tryd.prog (w.alloc (.cells zer48 5)) = .ok (.string (ba (List.replicate 48 0))) (w.alloc (.cells zer48 5)) := by
  have := run_convert_bytes_back (P := Tryd.prog) (w.alloc (.cells zer48 5)) 22 9 5 ⟨w.heap.size, 0, none⟩ 48 (List.replicate 48 0) Tryd.underlying22 Tryd.underlying5 Tryd.underlying9 (fun j hj => by
    rw [List.length_replicate] at hj
    have e : (⟨w.heap.size, 0, none⟩ : Addr).add j = ⟨w.heap.size, j, none⟩ := by unfold Addr.add; split <;> simp_all
    rw [e, (Has.fresh w 5 zer48).at_ j, zer48, Sha.bvec_get _ j (by rw [List.length_replicate]; exact hj)]
    simp [Sha.at8, Sha.b8, List.getD, hj])
  rw [List.length_replicate] at this
  exact this
set_option maxRecDepth 100000 in
set_option maxHeartbeats 4000000 in
theorem known_any (w : World) (hG : Gr w) : Calls Tryd.prog 13 #[] w fun e w' => e = .returned (.bool true) ∧ Below w.heap.size w w' := by
  have HG := hid hG
  clear hG
  go_enter Tryd.func13, Tryd.ntmps13
  go_wp2
  go_loopw [2] (fun i wr => ∃ k : Nat, k ≤ 6 ∧ i = .int .i64 (k : Int) ∧ Hid (Has wr w.heap.size 9 (strsA goodS)) ∧ Hid (Below w.heap.size w wr)) (fun i _ => 6 - (intOf i).toNat)
  case atStart => exact ⟨0, by omega, rfl, Has.fresh w 9 _, (Below.refl _ _).alloc (Nat.le_refl _) _⟩
  case round =>
    obtain ⟨k, hk, rfl, HH, HB⟩ := hrel
    by_cases hlt : k < 6
    · have hc : wr.cell? ⟨w.heap.size, k, none⟩ = some (.string (goodS.getD k ByteArray.empty)) := (HH.out.at_ k).trans (strsTrydat goodS k hlt)
      obtain ⟨g1, g2⟩ := goods k hlt
      generalize goodS.getD k ByteArray.empty = z at hc g1 g2
      have C := may_v z true g1 g2
      have b1 : (k : Int) < 6 := by omega
      clear g1 g2
      go_wp2_with fail
      refine (C.out _ (HG.out.1.kept HB.out)).mono ?_; rintro e1 w1 ⟨rfl, hb1⟩
      have HH1 : Hid (Has w1 w.heap.size 9 (strsA goodS)) := HH.out.kept hb1 HH.out.inside
      have HB1 : Hid (Below w.heap.size w w1) := HB.out.trans (hb1.mono HB.out.size)
      clear hb1
      go_wp2
      go_roundw
      case rel => exact ⟨k + 1, by omega, by go_num, HH1, HB1⟩
      case measure => simp [intOf]; omega
    · have b1 : ¬ (k : Int) < 6 := by omega
      clear HH
      obtain ⟨wo, rfl⟩ : ∃ wo, wo = wr := ⟨_, rfl⟩
      go_wp2
      go_loopw [4] (fun i wr => ∃ k : Nat, k ≤ 11 ∧ i = .int .i64 (k : Int) ∧ Hid (Has wr wo.heap.size 9 (strsA badS)) ∧ Hid (Below w.heap.size w wr)) (fun i _ => 11 - (intOf i).toNat)
      case atStart => exact ⟨0, by omega, rfl, Has.fresh wo 9 _, HB.out.alloc HB.out.size _⟩
      case round =>
        obtain ⟨j, hj, rfl, HH, HB2⟩ := hrel
        by_cases hlt2 : j < 11
        · have hc : wr.cell? ⟨wo.heap.size, j, none⟩ = some (.string (badS.getD j ByteArray.empty)) := (HH.out.at_ j).trans (strsTrydat badS j hlt2)
          obtain ⟨g1, g2⟩ := bads j hlt2
          generalize badS.getD j ByteArray.empty = z at hc g1 g2
          have C := may_v z false g1 g2
          have b2 : (j : Int) < 11 := by omega
          clear g1 g2
          go_wp2_with fail
          refine (C.out _ (HG.out.1.kept HB2.out)).mono ?_; rintro e1 w1 ⟨rfl, hb1⟩
          have HH1 : Hid (Has w1 wo.heap.size 9 (strsA badS)) := HH.out.kept hb1 HH.out.inside
          have HB1 : Hid (Below w.heap.size w w1) := HB2.out.trans (hb1.mono HB2.out.size)
          clear hb1
          go_wp2
          go_roundw
          case rel => exact ⟨j + 1, by omega, by go_num, HH1, HB1⟩
          case measure => simp [intOf]; omega
        · have b2 : ¬ (j : Int) < 11 := by omega
          clear HH HB
          obtain ⟨w5, rfl⟩ : ∃ w5, w5 = wr := ⟨_, rfl⟩
          obtain ⟨zs, HZ⟩ : ∃ zs, Hid (ba (List.replicate 48 0) = zs) := ⟨_, rfl⟩
          have hzs : (zs.size : Int) = 48 := by rw [← HZ.out]; rfl
          have hmk : ∀ w : World, (Instr.makeSlice 22 (.int .i64 48) (.int .i64 48)).run Tryd.prog w = .ok (.slice (some ⟨w.heap.size, 0, none⟩) 48 48) (w.alloc (.cells zer48 5)) := mk48
          have hcv : ∀ w : World, (convert 22 9 (.slice (some ⟨w.heap.size, 0, none⟩) 48 48)).run Tryd.prog (w.alloc (.cells zer48 5)) = .ok (.string zs) (w.alloc (.cells zer48 5)) := by intro w; rw [← HZ.out]; exact cv48 w
          go_wp2
          go_loopw [6, 7] (fun v i wr => ∃ (k : Nat) (p : ByteArray), k ≤ 48 ∧ i = .int .i64 (k : Int) ∧ v = .string p ∧ p.size ≤ 48 ∧ Hid (p = ba (List.replicate k 110)) ∧ Hid (Below w.heap.size w wr)) (fun _ i _ => 48 - (intOf i).toNat)
          case atStart => exact ⟨0, ⟨#[]⟩, by omega, rfl, rfl, by decide, rfl, HB2.out.alloc HB2.out.size _⟩
          case round =>
            obtain ⟨i, p, hi, rfl, rfl, hp, HP, HB3⟩ := hrel
            by_cases hlt3 : i < 48
            · have b3 : (i : Int) < 48 := by omega
              have HP2 : Hid (p ++ ⟨#[110]⟩ = ba (List.replicate (i + 1) 110)) := by
                show _ = _; rw [HP.out, ba_append, tl_ba, List.replicate_succ']
              go_wp2
              go_roundw
              case rel => exact ⟨i + 1, p ++ ⟨#[110]⟩, by omega, by go_num, rfl, by rw [HP2.out, ba_size, List.length_replicate]; omega, HP2, HB3⟩
              case measure => simp [intOf]; omega
            · have b3 : ¬ (i : Int) < 48 := by omega
              have HN : Hid (p = nmS) := by
                show _ = _
                obtain rfl : i = 48 := by omega
                rw [HP.out]; rfl
              have q1 : (13 : Int) ≤ (p.size : Int) := by rw [HN.out]; decide
              have q2 : (14 : Int) ≤ (p.size : Int) := by rw [HN.out]; decide
              have D1 := parent_v ⟨#[97, 47, 98]⟩ ⟨#[97]⟩ true (by decide +kernel) (by decide +kernel) (by decide)
              have D2 := parent_v ⟨#[97]⟩ ⟨#[]⟩ true (by decide +kernel) (by decide +kernel) (by decide)
              go_wp2_with fail
              refine (D1.out _ (HG.out.1.kept HB3.out)).mono ?_; rintro f1 x1 ⟨rfl, hc1⟩; have L1 : Hid (Below w.heap.size w x1) := HB3.out.trans (hc1.mono HB3.out.size); clear hc1
              go_wp2_with fail
              refine (D2.out _ (HG.out.1.kept L1.out)).mono ?_; rintro f2 x2 ⟨rfl, hc2⟩; have L2 : Hid (Below w.heap.size w x2) := L1.out.trans (hc2.mono L1.out.size); clear hc2
              have D3 := may_v p true (by rw [HN.out]; decide +kernel) (by omega)
              go_wp2_with fail
              refine (D3.out _ (HG.out.1.kept L2.out)).mono ?_; rintro f3 x3 ⟨rfl, hc3⟩; have L3 : Hid (Below w.heap.size w x3) := L2.out.trans (hc3.mono L2.out.size); clear hc3
              have D4 := may_v (p ++ ⟨#[110]⟩) false (by rw [HN.out]; decide +kernel) (by rw [HN.out]; decide +kernel)
              go_wp2_with fail
              refine (D4.out _ (HG.out.1.kept L3.out)).mono ?_; rintro f4 x4 ⟨rfl, hc4⟩; have L4 : Hid (Below w.heap.size w x4) := L3.out.trans (hc4.mono L3.out.size); clear hc4
              have D5 := may_v (p ++ ⟨#[47]⟩ ++ p ++ ⟨#[47]⟩ ++ p.extract 0 13 ++ ⟨#[47]⟩ ++ p) true (by rw [HN.out]; decide +kernel) (by rw [HN.out]; decide +kernel)
              go_wp2_with fail
              refine (D5.out _ (HG.out.1.kept L4.out)).mono ?_; rintro f5 x5 ⟨rfl, hc⟩; have L5 : Hid (Below w.heap.size w x5) := L4.out.trans (hc.mono L4.out.size); clear hc
              have D6 := may_v (p ++ ⟨#[47]⟩ ++ p ++ ⟨#[47]⟩ ++ p.extract 0 14 ++ ⟨#[47]⟩ ++ p) false (by rw [HN.out]; decide +kernel) (by rw [HN.out]; decide +kernel)
              go_wp2_with fail
              refine (D6.out _ (HG.out.1.kept L5.out)).mono ?_; rintro f6 x6 ⟨rfl, hc⟩; have L6 : Hid (Below w.heap.size w x6) := L5.out.trans (hc.mono L5.out.size); clear hc
              have D7 := base_v ⟨#[97, 47, 98]⟩ ⟨#[98]⟩ (by decide +kernel) (by decide)
              go_wp2_with fail
              refine (D7.out _ (HG.out.1.kept L6.out)).mono ?_; rintro f7 x7 ⟨rfl, hc⟩; have L7 : Hid (Below w.heap.size w x7) := L6.out.trans (hc.mono L6.out.size); clear hc
              clear D1 D2 D3 D4 D5 D6 D7 L1 L2 L3 L4 L5 L6 HB3 HP hp q1 q2 HN
              have E1 := cmp_v ⟨#[97]⟩ ⟨#[97, 47, 98]⟩ (-1) (by decide +kernel) (by decide) (by decide)
              go_wp2_with fail
              refine (E1.out _ ).mono ?_; rintro f8 x8 ⟨rfl, hc⟩; have L8 : Hid (Below w.heap.size w x8) := L7.out.trans (hc.mono L7.out.size); clear hc
              have E2 := cmp_v ⟨#[97, 47, 98]⟩ ⟨#[97, 32, 98]⟩ (-1) (by decide +kernel) (by decide) (by decide)
              go_wp2_with fail
              refine (E2.out _ ).mono ?_; rintro f9 x9 ⟨rfl, hc⟩; have L9 : Hid (Below w.heap.size w x9) := L8.out.trans (hc.mono L8.out.size); clear hc
              have E3 := cmp_v ⟨#[97, 47, 98]⟩ ⟨#[97, 45, 99]⟩ (-1) (by decide +kernel) (by decide) (by decide)
              go_wp2_with fail
              refine (E3.out _ ).mono ?_; rintro f10 x10 ⟨rfl, hc⟩; have L10 : Hid (Below w.heap.size w x10) := L9.out.trans (hc.mono L9.out.size); clear hc
              have E4 := cmp_v ⟨#[98]⟩ ⟨#[97, 47, 122]⟩ 1 (by decide +kernel) (by decide) (by decide)
              go_wp2_with fail
              refine (E4.out _ ).mono ?_; rintro f11 x11 ⟨rfl, hc⟩; have L11 : Hid (Below w.heap.size w x11) := L10.out.trans (hc.mono L10.out.size); clear hc
              have E5 := within_v ⟨#[97, 47, 98]⟩ ⟨#[97]⟩ true (by decide +kernel) (by decide) (by decide)
              go_wp2_with fail
              refine (E5.out _ (HG.out.1.kept L11.out)).mono ?_; rintro f12 x12 ⟨rfl, hc⟩; have L12 : Hid (Below w.heap.size w x12) := L11.out.trans (hc.mono L11.out.size); clear hc
              have E6 := within_v ⟨#[97, 98]⟩ ⟨#[97]⟩ false (by decide +kernel) (by decide) (by decide)
              go_wp2_with fail
              refine (E6.out _ (HG.out.1.kept L12.out)).mono ?_; rintro f13 x13 ⟨rfl, hc⟩; have L13 : Hid (Below w.heap.size w x13) := L12.out.trans (hc.mono L12.out.size); clear hc
              have E7 := within_v ⟨#[97]⟩ ⟨#[97]⟩ false (by decide +kernel) (by decide) (by decide)
              go_wp2_with fail
              refine (E7.out _ (HG.out.1.kept L13.out)).mono ?_; rintro f14 x14 ⟨rfl, hc⟩; have L14 : Hid (Below w.heap.size w x14) := L13.out.trans (hc.mono L13.out.size); clear hc
              have E8 := within_v ⟨#[97]⟩ ⟨#[]⟩ true (by decide +kernel) (by decide) (by decide)
              go_wp2_with fail
              refine (E8.out _ (HG.out.1.kept L14.out)).mono ?_; rintro f15 x15 ⟨rfl, hc⟩; have L15 : Hid (Below w.heap.size w x15) := L14.out.trans (hc.mono L14.out.size); clear hc
              clear E1 E2 E3 E4 E5 E6 E7 E8 L7 L8 L9 L10 L11 L12 L13 L14
              have G1 := conf_pro
              go_wp2_with fail
              refine (G1.out _ (HG.out.1.kept L15.out)).mono ?_; rintro f16 x16 ⟨rfl, hc⟩; have L16 : Hid (Below w.heap.size w x16) := L15.out.trans (hc.mono L15.out.size); clear hc
              obtain ⟨t, HT⟩ : ∃ t, Hid (ba (tempL [100, 47, 120]) = t) := ⟨_, rfl⟩
              have G2 : Hid (∀ W, Gr W → Calls Tryd.prog 36 #[.string ⟨#[100, 47, 120]⟩] W fun e w' => e = .returned (.tuple #[.string t, .bool true]) ∧ Below W.heap.size W w') := by
                intro W hW; rw [← HT.out]; exact temp_yes ⟨#[100, 47, 120]⟩ (by decide +kernel) W hW (by decide)
              have ht : (t.size : Int) = 14 := by rw [← HT.out, dx_size]; rfl
              have ht6 : ((t.extract 0 6).toList == [100, 47, 126, 116, 126, 120]) = true := by rw [toList_tl, ba_take, tl_ba, ← HT.out, tl_ba, dx_head]; rfl
              have kp : (proOut.toList == [46, 112, 114, 111, 102, 105, 108, 101, 46, 115, 121, 110, 99, 45, 99, 111, 110, 102, 108, 105, 99, 116, 45, 52, 50, 57, 52, 57, 54, 55, 50, 57, 53, 45, 49, 54]) = true := by rw [toList_tl]; decide +kernel
              go_wp2_with fail
              refine (G2.out _ (HG.out.kept L16.out)).mono ?_; rintro f17 x17 ⟨rfl, hc⟩; have L17 : Hid (Below w.heap.size w x17) := L16.out.trans (hc.mono L16.out.size); clear hc
              have G3 := bad_v (-1) 1 (by decide +kernel)
              go_wp2_with fail
              refine (G3.out _ (HG.out.1.kept L17.out)).mono ?_; rintro f18 x18 ⟨rfl, hc⟩; have L18 : Hid (Below w.heap.size w x18) := L17.out.trans (hc.mono L17.out.size); clear hc
              have G4 := bad_v 4294967296 1 (by decide +kernel)
              go_wp2_with fail
              refine (G4.out _ (HG.out.1.kept L18.out)).mono ?_; rintro f19 x19 ⟨rfl, hc⟩; have L19 : Hid (Below w.heap.size w x19) := L18.out.trans (hc.mono L18.out.size); clear hc
              have G5 := bad_v 1 17 (by decide +kernel)
              go_wp2_with fail
              refine (G5.out _ (HG.out.1.kept L19.out)).mono ?_; rintro f20 x20 ⟨rfl, hc⟩; have L20 : Hid (Below w.heap.size w x20) := L19.out.trans (hc.mono L19.out.size); clear hc
              have G6 := isTemp_v ⟨#[97, 47, 126, 116, 126]⟩ true (by decide +kernel) (by decide)
              go_wp2_with fail
              refine (G6.out _).mono ?_; rintro f21 x21 ⟨rfl, rfl⟩
              have G7 := isTemp_v ⟨#[126, 116, 126, 47, 97]⟩ false (by decide +kernel) (by decide)
              go_wp2_with fail
              refine (G7.out _).mono ?_; rintro f22 x22 ⟨rfl, rfl⟩
              have G8 := isConf_v ⟨#[120, 46, 115, 121, 110, 99, 45, 99, 111, 110, 102, 108, 105, 99, 116, 45, 48, 48, 48, 48, 48, 48, 48, 48, 55, 45, 48, 51]⟩ false (by decide +kernel) (by decide)
              go_wp2_with fail
              refine (G8.out _).mono ?_; rintro f23 x23 ⟨rfl, hc⟩; have L23 : Hid (Below w.heap.size w x23) := L20.out.trans (hc.mono L20.out.size); clear hc
              go_wp2_with fail
              refine (works_any _ (HG.out.1.kept L23.out)).mono ?_; rintro f24 x24 ⟨rfl, hc⟩; have L24 : Hid (Below w.heap.size w x24) := L23.out.trans (hc.mono L23.out.size); clear hc
              go_wp2
              go_ret
              exact ⟨rfl, L24.out⟩
end Go.Proofs.YthhclcjocakdlaaDoor
