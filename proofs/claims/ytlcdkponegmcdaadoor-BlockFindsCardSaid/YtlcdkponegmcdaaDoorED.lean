/- The walk of BlockWhole. Conditions: the listed table; bytes in a block of the world. -/
import Derived.Test.YtlcdkponegmcdaaDoorEB
namespace Go.Proofs.YtlcdkponegmcdaaDoor
open Go.RowKit
theorem parts_take (xs : List UInt8) (k : Nat) (_hk : k < cntL xs.length) : xs.take (k * szL xs.length) ++ partL xs k = xs.take ((k + 1) * szL xs.length) := by
  rw [partL, Nat.add_mul, Nat.one_mul, List.take_add]
theorem parts_end (xs : List UInt8) : xs.take (cntL xs.length * szL xs.length) = xs := by
  apply List.take_of_length_le
  unfold cntL
  have hp := szL_pos xs.length
  have h1 := Nat.div_add_mod (xs.length + szL xs.length - 1) (szL xs.length)
  have h2 := Nat.mod_lt (xs.length + szL xs.length - 1) hp
  rw [Nat.mul_comm] at h1
  generalize (xs.length + szL xs.length - 1) / szL xs.length * szL xs.length = a at h1 ⊢
  omega
theorem partL_len (xs : List UInt8) (k : Nat) (hk : k < cntL xs.length) : 0 < (partL xs k).length ∧ (partL xs k).length ≤ szL xs.length ∧ (k + 1 < cntL xs.length → (partL xs k).length = szL xs.length) := by
  have h1 := cnt_lt hk
  have hp := szL_pos xs.length
  have hl : (partL xs k).length = min (szL xs.length) (xs.length - k * szL xs.length) := by rw [partL, List.length_take, List.length_drop]
  refine ⟨by omega, by omega, fun h => ?_⟩
  have h2 := cnt_lt h
  rw [Nat.add_mul, Nat.one_mul] at h2
  omega
theorem fresh_app {B : Nat} {w : World} {v : Value} {xs : List UInt8} (h : Fresh B w v xs) {src : Value} {ys : List UInt8} {A : Option Addr} {cap bb off : Nat} (hs : Bytes w src ys A cap bb off) (hn : xs.length + ys.length ≤ 1000000) (hB : B ≤ w.heap.size) :
    ∃ v' w', (Builtin.append_ #[25, 25] 25 #[v, src]).run Tryd.prog w = .ok v' w' ∧ Fresh B w' v' (xs ++ ys) ∧ w.grownBy w' v.ownBlock := by
  obtain ⟨v', w', hr, ho, hg, _, _⟩ := append_bytes w B v xs.length (xs.map V8) h hs hn hB
  refine ⟨v', w', hr, ?_, hg⟩
  unfold Fresh
  rw [List.length_append, List.map_append]
  exact ho
theorem fresh_kept {B : Nat} {w w' : World} {v : Value} {xs : List UInt8} (h : Fresh B w v xs) (hb : Below w.heap.size w w') : Fresh B w' v xs := row_of h (fun g hg => hb.block g (World.ownsRow.lt h g hg).2)
theorem rows_apart {w : World} {B1 B2 : Nat} {e1 e2 : TypeId} {s1 s2 n1 n2 : Nat} {v1 v2 : Value} {x1 x2 : List Value} (h1 : w.ownsRow B1 e1 s1 v1 n1 x1) (h2 : w.ownsRow B2 e2 s2 v2 n2 x2) (hne : e1 ≠ e2) : v1.ownBlock = none ∨ v1.ownBlock ≠ v2.ownBlock := by
  rcases h1.2 with ⟨k1, _⟩ | ⟨g, c, cur, k1, _, k3, _⟩
  · rw [k1]; exact .inl rfl
  · refine .inr fun e => ?_
    rcases h2.2 with ⟨z1, _⟩ | ⟨g', c', cur', z1, _, z3, _⟩
    · rw [k1, z1] at e; cases e
    · rw [k1, z1] at e; injection e with e
      have e : g = g' := e
      rw [e, z3] at k3
      injection k3 with k3; injection k3 with _ k3; exact hne k3.symm
set_option maxRecDepth 100000 in
set_option maxHeartbeats 4000000 in
theorem whole_big (v : Value) (xs : List UInt8) (A : Option Addr) (cap bb off : Nat) (w : World) (h : Bytes w v xs A cap bb off) (hT : Sha.Tab w) (hl : 9000 < xs.length) :
    Calls Tryd.prog 7 #[v] w fun e w' => e = .returned (.bool true) ∧ Below w.heap.size w w' := by
  obtain rfl := h.form
  obtain ⟨n, HN⟩ : ∃ n, Hid (xs.length = n) := ⟨_, rfl⟩
  rw [HN.out] at hl ⊢
  have h1 : (9000 : Int) < (n : Int) := by omega
  have CA := hid (awake_any w hT)
  clear h hl hT
  go_enter Tryd.func7, Tryd.ntmps7
  go_wp2_with (go_at_call 14; refine CA.out.mono ?_; rintro e5 w5 ⟨rfl, hb5⟩)
  go_ret
  exact ⟨rfl, hb5⟩
set_option maxRecDepth 100000 in
set_option maxHeartbeats 4000000 in
theorem whole_long (v : Value) (xs : List UInt8) (A : Option Addr) (cap bb off : Nat) (w : World) (h : Bytes w v xs A cap bb off) (hT : Sha.Tab w) (hl : xs.length ≤ 9000) (hl2 : 4096 < xs.length) :
    Calls Tryd.prog 7 #[v] w fun e w' => e = .returned (.bool true) ∧ Below w.heap.size w w' := by
  have CL := hid (list_long v xs A cap bb off w h hl2)
  have e0 := h.form
  rw [e0] at CL ⊢
  obtain ⟨n, HN⟩ : ∃ n, Hid (xs.length = n) := ⟨_, rfl⟩
  rw [HN.out] at hl hl2 CL ⊢
  have h1 : ¬ (9000 : Int) < (n : Int) := by omega
  have h2 : (4096 : Int) < (n : Int) := by omega
  have CC := hid (count_any (n : Int))
  rw [cntI_no (n : Int) (.inr h2)] at CC
  have CA := hid (awake_any w hT)
  clear h hl hl2 hT e0
  go_enter Tryd.func7, Tryd.ntmps7
  go_wp2_with (first
    | (go_at_call 15; refine CL.out.mono ?_; rintro e1 w1 ⟨rfl, rfl⟩)
    | (go_at_call 12; refine (CC.out _).mono ?_; rintro e2 w2 ⟨rfl, rfl⟩)
    | (go_at_call 14; refine CA.out.mono ?_; rintro e5 w5 ⟨rfl, hb5⟩))
  go_ret
  exact ⟨rfl, hb5⟩
set_option maxRecDepth 100000 in
set_option maxHeartbeats 8000000 in
theorem whole_any (v : Value) (xs : List UInt8) (A : Option Addr) (cap bb off : Nat) (w : World) (h : Bytes w v xs A cap bb off) (hT : Sha.Tab w) :
    Calls Tryd.prog 7 #[v] w fun e w' => e = .returned (.bool true) ∧ Below w.heap.size w w' := by
  by_cases hb : 9000 < xs.length
  · exact whole_big v xs A cap bb off w h hT hb
  by_cases hb2 : 4096 < xs.length
  · exact whole_long v xs A cap bb off w h hT (by omega) hb2
  have hl : xs.length ≤ 4096 := by omega
  have CL := hid (list_any v xs A cap bb off w hT h hl)
  have e0 := h.form
  have HBY := hid h
  obtain ⟨n, HN⟩ : ∃ n, Hid (xs.length = n) := ⟨_, rfl⟩
  obtain ⟨s, HS⟩ : ∃ s, Hid (szL xs.length = s) := ⟨_, rfl⟩
  obtain ⟨c, HC⟩ : ∃ c, Hid (cntL xs.length = c) := ⟨_, rfl⟩
  obtain ⟨hs, HHS⟩ : ∃ hs, Hid (hashes xs = hs) := ⟨_, rfl⟩
  have HHL : Hid (hs.length = c) := by show _ = _; rw [← HHS.out, hashes_len, HC.out]
  have HAT : Hid (∀ k (hk : k < c), hs[k]'(by rw [HHL.out]; exact hk) = dg (partL xs k)) := fun k hk => by
    have := hashes_at xs k (by rw [HC.out]; exact hk)
    have e := HHS.out
    subst e
    exact this
  have HTK : Hid (∀ k, k < c → xs.take (k * s) ++ partL xs k = xs.take ((k + 1) * s)) := fun k hk => by rw [← HS.out]; exact parts_take xs k (by rw [HC.out]; exact hk)
  have HTE : Hid (xs.take (c * s) = xs) := by show _ = _; rw [← HS.out, ← HC.out]; exact parts_end xs
  have HPL : Hid (∀ k, k < c → 0 < (partL xs k).length ∧ (partL xs k).length ≤ s ∧ (k + 1 < c → (partL xs k).length = s)) := fun k hk => by rw [← HS.out, ← HC.out]; exact partL_len xs k (by rw [HC.out]; exact hk)
  have HPI : Hid (∀ k : Nat, k < c → partI xs (k : Int) = partL xs k) := fun k hk => partI_nat xs k (by rw [HC.out]; exact hk) hl
  have hc32 : c ≤ 32 := by rw [← HC.out]; exact cntL_le _ hl
  have hs128 : s ≤ 128 := by rw [← HS.out]; have := szL_cases xs.length; omega
  have CC := hid (count_any (xs.length : Int))
  rw [cntI_nat _ hl, HC.out, HN.out] at CC
  have CZ := hid (size_any (xs.length : Int))
  rw [sizeI_nat _ hl, HS.out, HN.out] at CZ
  have hn : n ≤ 4096 := by rw [← HN.out]; exact hl
  rw [HHS.out] at CL
  rw [e0, HN.out] at CL HBY ⊢
  have h1 : ¬ (9000 : Int) < (n : Int) := by omega
  have h2 : ¬ (32 : Int) < (c : Int) := by omega
  have HT := hid hT
  have HPOS := hid hT.pos
  have HX := hid hl
  clear h hl hT e0 hb hb2
  go_enter Tryd.func7, Tryd.ntmps7
  go_wp2_with (first
    | (go_at_call 15; refine CL.out.mono ?_; rintro e1 w1 ⟨v1, rfl, hd1, hb1⟩
       obtain ⟨A1, c1, hv1⟩ := hd1.form
       rw [HHL.out] at hv1
       subst hv1
       have B1 := hid hb1
       have D1 := hid hd1
       clear hd1 hb1)
    | (go_at_call 12; refine (CC.out _).mono ?_; rintro e2 w2 ⟨rfl, rfl⟩))
  go_loopw [6, 7, 8] (fun a b _ wr => ∃ k : Nat, k ≤ c ∧ b = .int .i64 (k : Int) ∧ Hid (Fresh w.heap.size wr a (xs.take (k * s))) ∧ Hid (Below w.heap.size w wr) ∧ Hid (Dgs w.heap.size wr (.slice A1 c c1) hs)) (fun _ b _ _ => c - (intOf b).toNat)
  case atStart => exact ⟨0, by omega, rfl, by show Fresh _ _ _ _; rw [Nat.zero_mul]; exact fresh_nil _ _, B1.out, D1.out⟩
  case round =>
    obtain ⟨k, hk, rfl, J1, J2, J3⟩ := hrel
    by_cases hlt : k < c
    · have hlt2 : (k : Int) < (c : Int) := by omega
      have w1 : IntKind.i64.wrap ((k : Int) + 1) = (k : Int) + 1 := i64in _ (by omega) (by omega)
      have CP := hid (part_any _ xs A cap bb off (k : Int) wr (HBY.out.kept J2.out (Nat.le_refl _)))
      rw [HPI.out k hlt] at CP
      obtain ⟨ys, HYS⟩ : ∃ ys, Hid (partL xs k = ys) := ⟨_, rfl⟩
      rw [HYS.out] at CP
      have hpl := HPL.out k hlt
      rw [HYS.out] at hpl
      obtain ⟨m, HM⟩ : ∃ m, Hid (ys.length = m) := ⟨_, rfl⟩
      rw [HM.out] at hpl
      obtain ⟨p1, p2, p3⟩ := hpl
      obtain ⟨gl, cl, hvl, hgB, hgS, hld⟩ := J3.out.at_ k (by rw [HHL.out]; exact hlt)
      rw [HHL.out] at hvl
      injection hvl with hA1 hn1 hc1
      subst hA1
      subst hc1
      clear hn1
      rw [HAT.out k hlt, HYS.out] at hld
      obtain ⟨d, HD⟩ : ∃ d, Hid (dg ys = d) := ⟨_, rfl⟩
      rw [HD.out] at hld
      have HLD := hid hld
      have HGS := hid hgS
      have HDL : Hid (d.length = 32) := by show _ = _; rw [← HD.out]; exact dg_len _
      have HVV : Hid (same8 (dg ys) d = true) := by show _ = _; rw [HD.out]; exact same8_refl d
      have q1 : ¬ (m : Int) = 0 := by omega
      have q1b : ((m : Int) == 0) = false := by simp; omega
      have q1c : ¬ m = 0 := by omega
      have q2 : ¬ (s : Int) < (m : Int) := by omega
      have HNX : Hid (xs.take (k * s) ++ ys = xs.take ((k + 1) * s)) := by show _ = _; rw [← HYS.out]; exact HTK.out k hlt
      have HSM : Hid ((xs.take (k * s)).length ≤ 4096) := by show _ ≤ _; rw [List.length_take]; have := HX.out; omega
      have hq3 : (k : Int) + 1 < (c : Int) → (m : Int) = (s : Int) := fun h => by have := p3 (by omega); omega
      have hw3 : Hid (∀ w3 v3, Below wr.heap.size wr w3 → Fresh wr.heap.size w3 v3 ys → ∃ A3 c3 b3, v3 = .slice A3 m c3 ∧ Hid (Bytes w3 v3 ys A3 c3 b3 0) ∧ Hid (Sha.Tab w3) ∧ Hid (Below w.heap.size w w3) ∧ (loadVar 27 ⟨gl, k * 32, none⟩).run Tryd.prog w3 = .ok (.agg (hvec d)) w3) := fun w3 v3 hb hf => by
        have hb3 := J2.out.trans (hb.mono J2.out.size)
        obtain ⟨A3, c3, b3, hy3, _, _⟩ := hf.bytes (Nat.lt_of_lt_of_le HPOS.out hb3.size)
        refine ⟨A3, c3, b3, by rw [← HM.out]; exact hy3.form, hy3, HT.out.kept hb3 HPOS.out, hb3, ?_⟩
        obtain ⟨g9, c9, hv9, _, _, hl9⟩ := (J3.out.kept hb (Nat.le_refl _)).at_ k (by rw [HHL.out]; exact hlt)
        injection hv9 with hv9
        injection hv9 with hv9
        injection hv9 with hv9
        subst hv9
        rw [HAT.out k hlt, HYS.out, HD.out] at hl9
        exact hl9
      have HYL : Hid (ys.length ≤ 1000000) := by show _ ≤ _; rw [HM.out]; omega
      have HY128 : Hid (ys.length ≤ 128) := by show _ ≤ _; rw [HM.out]; omega
      by_cases hk1 : (k : Int) + 1 < (c : Int)
      · have hms : s = m := by have := hq3 hk1; omega
        subst hms
        clear hq3 p3
        go_wp2_with (first
        | (go_at_call 17; refine CP.out.mono ?_; rintro e3 w3 ⟨v3, rfl, hf3, hb3⟩
           obtain ⟨A3, c3, b3, rfl, Y3, T3, B3, hl3⟩ := hw3.out w3 v3 hb3 hf3
           have HL3 := hid hl3
           have F3 : Hid (Fresh w.heap.size w3 u6 (xs.take (k * s))) := fresh_kept J1.out hb3
           have D3 : Hid (Dgs w.heap.size w3 (.slice (some ⟨gl, 0, none⟩) c c1) hs) := J3.out.kept hb3 (Nat.le_refl _)
           clear hf3 hb3 hl3)
        | (go_at_call 10; refine (CZ.out _).mono ?_; rintro e4 w4 ⟨rfl, rfl⟩)
        | (refine wpList_load_g (by rfl) 27 (.tmp 87) rfl gl (k * 32) rfl (hvec d) HL3.out ?_)
        | (go_at_call 20; refine (verify_any _ ys A3 c3 b3 0 d HDL.out w3 T3.out Y3.out HYL.out).mono ?_; rintro e5 w5 ⟨rfl, hb5⟩
           rw [HVV.out]
           have B5 : Hid (Below w.heap.size w w5) := B3.out.trans (hb5.mono B3.out.size)
           have F5 : Hid (Fresh w.heap.size w5 u6 (xs.take (k * s))) := fresh_kept F3.out hb5
           have D5 : Hid (Dgs w.heap.size w5 (.slice (some ⟨gl, 0, none⟩) c c1) hs) := D3.out.kept hb5 (Nat.le_refl _)
           obtain ⟨v6, w6, hr6, hf6, hg6⟩ := fresh_app F5.out (Y3.out.kept hb5 (Nat.le_refl _)) (by have := HSM.out; have := HYL.out; have := HY128.out; omega) B5.out.size
           rw [HNX.out] at hf6
           have R6 := hid hr6
           have F6 := hid hf6
           have B6 : Hid (Below w.heap.size w w6) := B5.out.grown hg6 B5.out.size (fun g hg => (World.ownsRow.lt F5.out g hg).1)
           have D6 : Hid (Dgs w.heap.size w6 (.slice (some ⟨gl, 0, none⟩) c c1) hs) := D5.out.grown hg6 (rows_apart D5.out.own F5.out (by decide))
           clear hb5 hr6 hf6 hg6)
        | (refine wpList_append_run rfl (.tmp 92) (.tmp 93) 25 25 rfl ⟨_, _, R6.out, ?_⟩))
        go_roundw
        case rel => exact ⟨k + 1, by omega, by go_num, F6.out, B6.out, D6.out⟩
        case measure => simp [intOf]; omega
      · clear hq3 p3
        have q2n : ¬ s < m := by omega
        have q2d : decide ((s : Int) < (m : Int)) = false := by simp; omega
        have q2e : decide (s < m) = false := by simp; omega
        have hk1n : ¬ k + 1 < c := by omega
        go_wp2_with (first
        | (go_at_call 17; refine CP.out.mono ?_; rintro e3 w3 ⟨v3, rfl, hf3, hb3⟩
           obtain ⟨A3, c3, b3, rfl, Y3, T3, B3, hl3⟩ := hw3.out w3 v3 hb3 hf3
           have HL3 := hid hl3
           have F3 : Hid (Fresh w.heap.size w3 u6 (xs.take (k * s))) := fresh_kept J1.out hb3
           have D3 : Hid (Dgs w.heap.size w3 (.slice (some ⟨gl, 0, none⟩) c c1) hs) := J3.out.kept hb3 (Nat.le_refl _)
           clear hf3 hb3 hl3)
        | (go_at_call 10; refine (CZ.out _).mono ?_; rintro e4 w4 ⟨rfl, rfl⟩)
        | (refine wpList_load_g (by rfl) 27 (.tmp 87) rfl gl (k * 32) rfl (hvec d) HL3.out ?_)
        | (go_at_call 20; refine (verify_any _ ys A3 c3 b3 0 d HDL.out w3 T3.out Y3.out HYL.out).mono ?_; rintro e5 w5 ⟨rfl, hb5⟩
           rw [HVV.out]
           have B5 : Hid (Below w.heap.size w w5) := B3.out.trans (hb5.mono B3.out.size)
           have F5 : Hid (Fresh w.heap.size w5 u6 (xs.take (k * s))) := fresh_kept F3.out hb5
           have D5 : Hid (Dgs w.heap.size w5 (.slice (some ⟨gl, 0, none⟩) c c1) hs) := D3.out.kept hb5 (Nat.le_refl _)
           obtain ⟨v6, w6, hr6, hf6, hg6⟩ := fresh_app F5.out (Y3.out.kept hb5 (Nat.le_refl _)) (by have := HSM.out; have := HYL.out; have := HY128.out; omega) B5.out.size
           rw [HNX.out] at hf6
           have R6 := hid hr6
           have F6 := hid hf6
           have B6 : Hid (Below w.heap.size w w6) := B5.out.grown hg6 B5.out.size (fun g hg => (World.ownsRow.lt F5.out g hg).1)
           have D6 : Hid (Dgs w.heap.size w6 (.slice (some ⟨gl, 0, none⟩) c c1) hs) := D5.out.grown hg6 (rows_apart D5.out.own F5.out (by decide))
           clear hb5 hr6 hf6 hg6)
        | (refine wpList_append_run rfl (.tmp 92) (.tmp 93) 25 25 rfl ⟨_, _, R6.out, ?_⟩))
        go_roundw
        case rel => exact ⟨k + 1, by omega, by go_num, F6.out, B6.out, D6.out⟩
        case measure => simp [intOf]; omega
    · obtain rfl : k = c := by omega
      have hF := J1.out
      rw [HTE.out] at hF
      obtain ⟨A9, c9, b9, hy9, _, _⟩ := hF.bytes (Nat.lt_of_lt_of_le HPOS.out J2.out.size)
      have hcv1 := conv_back hy9
      have hcv2 := conv_back (HBY.out.kept J2.out (Nat.le_refl _))
      obtain ⟨S, HSS⟩ : ∃ S, Hid (ba xs = S) := ⟨_, rfl⟩
      rw [HSS.out] at hcv1 hcv2
      have CA := hid (awake_any wr (HT.out.kept J2.out HPOS.out))
      clear hF hy9
      go_wp2_with (go_at_call 14; refine CA.out.mono ?_; rintro e5 w5 ⟨rfl, hb5⟩)
      go_ret
      exact ⟨rfl, J2.out.trans (hb5.mono J2.out.size)⟩
end Go.Proofs.YtlcdkponegmcdaaDoor
