/- Glob: step: what the call does. Conditions: a pattern that Parse made. -/
import Derived.Test.YtpipkgkfhbagmaaGreatDoorJL
namespace Go.Proofs.YtpipkgkfhbagmaaGreatDoor.Glob
open Go.RowKit
def nB (hs : H) (A : Pl) (c : UInt8) (i : Nat) : Pl := fun k => (decide (k < i) && many hs k && A k && hold hs k c) || (decide (0 < k ∧ k ≤ i) && !many hs (k - 1) && A (k - 1) && hold hs (k - 1) c)
theorem nB_zero (hs : H) (A : Pl) (c : UInt8) : nB hs A c 0 = fun _ => false := by
  funext k; unfold nB
  have e1 : decide (k < 0) = false := decide_eq_false (by omega)
  have e2 : decide (0 < k ∧ k ≤ 0) = false := decide_eq_false (by omega)
  rw [e1, e2]; rfl
theorem nB_all (hs : H) (A : Pl) (c : UInt8) : nB hs A c hs.length = stepA hs A c := rfl
theorem nB_other (hs : H) (A : Pl) (c : UInt8) (k j : Nat) (h1 : j ≠ k) (h2 : j ≠ k + 1) : nB hs A c (k + 1) j = nB hs A c k j := by
  unfold nB
  have e1 : decide (j < k + 1) = decide (j < k) := by rw [decide_eq_decide]; omega
  have e2 : decide (0 < j ∧ j ≤ k + 1) = decide (0 < j ∧ j ≤ k) := by rw [decide_eq_decide]; omega
  rw [e1, e2]
theorem nB_k (hs : H) (A : Pl) (c : UInt8) (k : Nat) : nB hs A c (k + 1) k = (nB hs A c k k || (many hs k && A k && hold hs k c)) := by
  unfold nB
  have e1 : decide (k < k + 1) = true := decide_eq_true (by omega)
  have e2 : decide (k < k) = false := decide_eq_false (by omega)
  have e3 : decide (0 < k ∧ k ≤ k + 1) = decide (0 < k ∧ k ≤ k) := by rw [decide_eq_decide]; omega
  rw [e1, e2, e3]
  simp only [Bool.true_and, Bool.false_and, Bool.false_or]
  rw [Bool.or_comm]
theorem nB_k1 (hs : H) (A : Pl) (c : UInt8) (k : Nat) : nB hs A c (k + 1) (k + 1) = (nB hs A c k (k + 1) || (!many hs k && A k && hold hs k c)) := by
  unfold nB
  have e1 : decide (k + 1 < k + 1) = false := decide_eq_false (by omega)
  have e2 : decide (k + 1 < k) = false := decide_eq_false (by omega)
  have e3 : decide (0 < k + 1 ∧ k + 1 ≤ k + 1) = true := decide_eq_true (by omega)
  have e4 : decide (0 < k + 1 ∧ k + 1 ≤ k) = false := decide_eq_false (by omega)
  rw [e1, e2, e3, e4]
  simp
theorem nB_no (hs : H) (A : Pl) (c : UInt8) (k : Nat) (h : (A k && hold hs k c) = false) : nB hs A c k = nB hs A c (k + 1) := by
  funext j
  by_cases h1 : j = k
  · subst h1; rw [nB_k, Bool.and_assoc, h]; simp
  · by_cases h2 : j = k + 1
    · subst h2; rw [nB_k1, Bool.and_assoc, h]; simp
    · rw [nB_other _ _ _ _ _ h1 h2]
theorem nB_many (hs : H) (A : Pl) (c : UInt8) (k : Nat) (ha : A k = true) (hh : hold hs k c = true) (hm : many hs k = true) : (fun j => nB hs A c k j || j == k) = nB hs A c (k + 1) := by
  funext j
  by_cases h1 : j = k
  · subst h1; rw [nB_k, ha, hh, hm]; simp
  · have e : (j == k) = false := by simp [h1]
    rw [e, Bool.or_false]
    by_cases h2 : j = k + 1
    · subst h2; rw [nB_k1, hm]; simp
    · rw [nB_other _ _ _ _ _ h1 h2]
theorem nB_one (hs : H) (A : Pl) (c : UInt8) (k : Nat) (ha : A k = true) (hh : hold hs k c = true) (hm : many hs k = false) : (fun j => nB hs A c k j || j == k + 1) = nB hs A c (k + 1) := by
  funext j
  by_cases h2 : j = k + 1
  · subst h2; rw [nB_k1, ha, hh, hm]; simp
  · have e : (j == k + 1) = false := by simp [h2]
    rw [e, Bool.or_false]
    by_cases h1 : j = k
    · subst h1; rw [nB_k, hm]; simp
    · rw [nB_other _ _ _ _ _ h1 h2]
theorem iZ : Hid ((Tryz.prog.info? 80).map (·.size) = some Tryz.zeroCells80.size) := by show _ = _; kernel_rfl
theorem zOne : Hid (Tryz.zeroCells80.all (·.oneCell') = true) := by show _ = _; kernel_rfl
set_option maxRecDepth 100000 in
set_option maxHeartbeats 4000000 in
theorem step_any (g : Nat) (s : By) (p : Pt) (A : Pl) (c : UInt8) (w : World) (hp : PatIs w g s p) :
    Calls Tryz.prog 42 #[.pointer (some ⟨g, 0, none⟩), .agg (plv A), .int .u8 (b8 c)] w fun e w' => e = .returned (.agg (plv (stepA p.hs A c))) ∧ Below w.heap.size w w' := by
  obtain ⟨ge, cp, k3, hg, hge, hn, hel⟩ := hp.els
  obtain ⟨W1, hW1⟩ : ∃ W1, w.alloc (.cells (plv A) 80) = W1 := ⟨_, rfl⟩
  obtain ⟨W2, hW2⟩ : ∃ W2, W1.alloc (.cells Tryz.zeroCells80 80) = W2 := ⟨_, rfl⟩
  obtain ⟨W5, hW5⟩ : ∃ W5, W2.alloc (.cells Tryz.zeroCells80 80) = W5 := ⟨_, rfl⟩
  have B1 : Below w.heap.size w W1 := hW1 ▸ (Below.refl _ _).alloc (Nat.le_refl _) _
  have s1 : W1.heap.size = w.heap.size + 1 := by rw [← hW1]; simp
  have B2 : Below w.heap.size w W2 := hW2 ▸ B1.alloc (by omega) _
  have s2 : W2.heap.size = w.heap.size + 1 + 1 := by rw [← hW2]; simp [s1]
  have B5 : Below w.heap.size w W5 := hW5 ▸ B2.alloc (by omega) _
  have H1 : Has W5 w.heap.size 80 (plv A) := hW5 ▸ (hW2 ▸ (hW1 ▸ Has.fresh w 80 (plv A)).more _ : Has W2 w.heap.size 80 (plv A)).more _
  have H2 : Has W5 (w.heap.size + 1) 80 (plv (fun _ => false)) := hW5 ▸ (hW2 ▸ zcells ▸ Has.fresh' W1 80 Tryz.zeroCells80 s1.symm : Has W2 (w.heap.size + 1) 80 (plv (fun _ => false))).more _
  have H5 : Has W5 (w.heap.size + 1 + 1) 80 (plv (fun _ => false)) := hW5 ▸ zcells ▸ Has.fresh' W2 80 Tryz.zeroCells80 s2.symm
  have c3 : W5.cell? ⟨g, 3, none⟩ = some (.slice (some ⟨ge, 0, none⟩) p.hs.length cp) := (B5.cell (p := ⟨g, 3, none⟩) hg).trans k3
  have HZ : Hid (Has W5 (w.heap.size + 1 + 1) 80 Tryz.zeroCells80) := hW5 ▸ Has.fresh' W2 80 Tryz.zeroCells80 s2.symm
  obtain ⟨W6, hW6⟩ : ∃ W6, W5.setRow (w.heap.size + 1 + 1) Tryz.zeroCells80 = W6 := ⟨_, rfl⟩
  have HH1 : Hid (Has W6 w.heap.size 80 (plv A)) := hW6 ▸ H1.rowOther (by omega)
  have HH2 : Hid (Has W6 (w.heap.size + 1) 80 (plv (fun _ => false))) := hW6 ▸ H2.rowOther (by omega)
  have HH5 : Hid (Has W6 (w.heap.size + 1 + 1) 80 (plv (fun _ => false))) := hW6 ▸ zcells ▸ H5.row
  have HB5 : Hid (Below w.heap.size w W6) := hW6 ▸ B5.rowG (by omega) _
  have c36 : W6.cell? ⟨g, 3, none⟩ = some (.slice (some ⟨ge, 0, none⟩) p.hs.length cp) := (HB5.out.cell (p := ⟨g, 3, none⟩) hg).trans k3
  have HEL := hid hel
  generalize p.hs = hs at *
  clear hp hel H1 H2 H5 B1 B2 B5 k3 c3
  go_enter Tryz.func42, Tryz.ntmps42
  go_wp2_with (refine wpList_store_row rfl 80 (.tmp 7) (.tmp 10) rfl (w.heap.size + 1 + 1) Tryz.zeroCells80 rfl rfl 80 Tryz.zeroCells80 HZ.out iZ.out rfl zOne.out ?_)
  go_loopw [8, 9, 16] (fun _ _ i wr => ∃ k : Nat, i = .int .i64 (k : Int) ∧ k ≤ hs.length ∧ Hid (Has wr w.heap.size 80 (plv A)) ∧ Hid (Has wr (w.heap.size + 1) 80 (plv (fun _ => false))) ∧ Hid (Has wr (w.heap.size + 1 + 1) 80 (plv (nB hs A c k))) ∧ Hid (Below w.heap.size w wr))
    (fun _ _ i _ => hs.length - (intOf i).toNat)
  case atStart => exact ⟨0, rfl, Nat.zero_le _, HH1, HH2, by rw [nB_zero]; exact HH5, HB5⟩
  case round =>
    obtain ⟨k, rfl, hk, J1, J2, J5, J3⟩ := hrel
    by_cases hlt : k < hs.length
    · obtain ⟨x, hx⟩ : ∃ x, hs[k]? = some x := ⟨hs[k], List.getElem?_eq_getElem hlt⟩
      obtain ⟨f, c0, c1, hf⟩ := HEL.out k x hx
      obtain ⟨kf, lf, rfl, ek, hkc⟩ := hf
      have c0' := (J3.out.cell (p := ⟨ge, k * 2, none⟩) hge).trans c0
      have c1' := (J3.out.cell (p := ⟨ge, k * 2 + 1, none⟩) hge).trans c1
      obtain ⟨Wa, hWa⟩ : ∃ Wa, wr.alloc (.cells #[.func (.func kf) #[] lf, .bool false] 107) = Wa := ⟨_, rfl⟩
      obtain ⟨W3, hW3⟩ : ∃ W3, Wa.setCell ⟨wr.heap.size, 1, none⟩ (.bool x.2) = W3 := ⟨_, rfl⟩
      have hle := J3.out.size
      have hin := J5.out.inside
      have I4a : Has Wa wr.heap.size 107 #[.func (.func kf) #[] lf, .bool false] := hWa ▸ Has.fresh _ _ _
      have I1 : Hid (Has W3 w.heap.size 80 (plv A)) := hW3 ▸ (hWa ▸ J1.out.more _ : Has Wa w.heap.size 80 (plv A)).other (by simp; omega) _
      have I2 : Hid (Has W3 (w.heap.size + 1) 80 (plv (fun _ => false))) := hW3 ▸ (hWa ▸ J2.out.more _ : Has Wa (w.heap.size + 1) 80 (plv (fun _ => false))).other (by simp; omega) _
      have I5 : Hid (Has W3 (w.heap.size + 1 + 1) 80 (plv (nB hs A c k))) := hW3 ▸ (hWa ▸ J5.out.more _ : Has Wa (w.heap.size + 1 + 1) 80 (plv (nB hs A c k))).other (by simp; omega) _
      have I3 : Hid (Below w.heap.size w W3) := hW3 ▸ (hWa ▸ J3.out.alloc hle _ : Below w.heap.size w Wa).setCell hle _
      have I4 : Hid (Has W3 wr.heap.size 107 #[.func (.func kf) #[] lf, .bool x.2]) := hW3 ▸ I4a.put 1 _
      have ka := I4a.at_ 1
      have fa := I4a.free 1
      have q0 : W3.cell? ⟨w.heap.size, k, none⟩ = some (.bool (A k)) := (I1.out.at_ k).trans (plv_get _ k (by omega))
      have k4 := I4.out.at_ 0
      have CF := hid (hkc W3 c (Gx.of_below I3.out))
      have hmx := many_at hx
      have hhx := hold_at hx c
      obtain ⟨m, hm⟩ : ∃ m, x.2 = m := ⟨_, rfl⟩
      rw [hm] at hmx I4 hW3 c1' k4
      obtain ⟨h, hh⟩ : ∃ h, x.1 c = h := ⟨_, rfl⟩
      rw [hh] at hhx CF
      obtain ⟨b, hb⟩ : ∃ b, A k = b := ⟨_, rfl⟩
      rw [hb] at q0
      clear c0 c1 hkc I4a hm hx hh
      cases b with
      | false =>
        have HN : Hid (nB hs A c k = nB hs A c (k + 1)) := nB_no hs A c k (by rw [hb]; rfl)
        clear hb hmx hhx
        go_wp2
        exact ⟨⟨k + 1, by go_num, by omega, I1, I2, HN.out ▸ I5, I3⟩, by simp [intOf]; omega⟩
      | true =>
        cases h with
        | false =>
          have HN : Hid (nB hs A c k = nB hs A c (k + 1)) := nB_no hs A c k (by rw [hhx, Bool.and_false])
          clear hb hmx hhx
          go_wp2_with (go_at_fn kf; refine CF.out.mono ?_; rintro e1 w1 ⟨rfl, hb1⟩)
          exact ⟨⟨k + 1, by go_num, by omega, I1.out.stays hb1, I2.out.stays hb1, HN.out ▸ I5.out.stays hb1, I3.out.thenG hb1⟩, by simp [intOf]; omega⟩
        | true =>
          cases m with
          | true =>
            have HN : Hid ((fun j => nB hs A c k j || j == k) = nB hs A c (k + 1)) := nB_many hs A c k hb hhx hmx
            clear hb hmx hhx
            go_wp2_with (go_at_fn kf; refine CF.out.mono ?_; rintro e1 w1 ⟨rfl, hb1⟩
                         have K4 := (I4.out.stays hb1).at_ 1
                         have K5 := hid (I5.out.stays hb1)
                         have q5 : w1.cell? ⟨w.heap.size + 1 + 1, k, none⟩ = some (.bool (nB hs A c k k)) := (K5.out.at_ k).trans (plv_get _ k (by omega))
                         have f5 := K5.out.free k
                         generalize nB hs A c k k = bb at q5)
            refine ⟨⟨k + 1, by go_num, by omega, (I1.out.stays hb1).other (by simp; omega) _, (I2.out.stays hb1).other (by simp) _, ?_, (I3.out.thenG hb1).setCell (by simp; omega) _⟩, by simp [intOf]; omega⟩
            have := K5.out.put k (.bool true)
            rw [plv_set, HN.out] at this
            exact this
          | false =>
            have HN : Hid ((fun j => nB hs A c k j || j == k + 1) = nB hs A c (k + 1)) := nB_one hs A c k hb hhx hmx
            clear hb hmx hhx
            go_wp2_with (go_at_fn kf; refine CF.out.mono ?_; rintro e1 w1 ⟨rfl, hb1⟩
                         have K4 := (I4.out.stays hb1).at_ 1
                         have K5 := hid (I5.out.stays hb1)
                         have q5 : w1.cell? ⟨w.heap.size + 1 + 1, k + 1, none⟩ = some (.bool (nB hs A c k (k + 1))) := (K5.out.at_ (k + 1)).trans (plv_get _ (k + 1) (by omega))
                         have f5 := K5.out.free (k + 1)
                         generalize nB hs A c k (k + 1) = bb at q5)
            refine ⟨⟨k + 1, by go_num, by omega, (I1.out.stays hb1).other (by simp; omega) _, (I2.out.stays hb1).other (by simp) _, ?_, (I3.out.thenG hb1).setCell (by simp; omega) _⟩, by simp [intOf]; omega⟩
            have := K5.out.put (k + 1) (.bool true)
            rw [plv_set, HN.out] at this
            exact this
    · have hk2 : k = hs.length := by omega
      have J4 : Hid (Has wr (w.heap.size + 1 + 1) 80 (plv (stepA hs A c))) := by have := J5.out; rw [hk2, nB_all] at this; exact this
      clear J5 hk2
      go_wp2_with (first
        | (refine wpList_load_row rfl 80 _ rfl (w.heap.size + 1 + 1) rfl 80 _ (0, 0) _ J4.out Tryz.underlying80 rfl (iPlaces _) ?_)
        | (refine wpList_store_row rfl 80 (.tmp 6) (.tmp 42) rfl (w.heap.size + 1) (plv (stepA hs A c)) rfl rfl 80 _ J2.out (iPlaces _) (by rw [plv_size, plv_size]) (plv_one _) ?_))
      refine bodyPost_ret (results_cell_row rfl _ _ (w.heap.size + 1) 80 (plv (stepA hs A c)) (0, 0) _ rfl J2.out.row Tryz.underlying80 rfl (iPlaces _)) rfl ⟨rfl, J3.out.rowG (by omega) _⟩
end Go.Proofs.YtpipkgkfhbagmaaGreatDoor.Glob
