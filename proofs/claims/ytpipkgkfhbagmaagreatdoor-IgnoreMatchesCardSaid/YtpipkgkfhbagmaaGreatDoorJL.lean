/- Glob: skip: what the call does. Conditions: a pattern that Parse made. -/
import Derived.Test.YtpipkgkfhbagmaaGreatDoorJK
namespace Go.Proofs.YtpipkgkfhbagmaaGreatDoor.Glob
open Go.RowKit
theorem zcells : Tryz.zeroCells80 = plv (fun _ => false) := by kernel_rfl
theorem iPlaces (A : Pl) : (Tryz.prog.info? 80).map (·.size) = some (plv A).size := by rw [plv_size]; kernel_rfl
/-- What a pattern's elements are, in the world. -/
theorem PatIs.els {w : World} {g : Nat} {s : By} {p : Pt} (h : PatIs w g s p) : ∃ ge c, w.cell? ⟨g, 3, none⟩ = some (.slice (some ⟨ge, 0, none⟩) p.hs.length c) ∧ g < w.heap.size ∧ ge < w.heap.size ∧ p.hs.length ≤ 128 ∧ ∀ (k : Nat) x, p.hs[k]? = some x → ∃ f, w.cell? ⟨ge, k * 2, none⟩ = some f ∧ w.cell? ⟨ge, k * 2 + 1, none⟩ = some (.bool x.2) ∧ IsFn w f x.1 := by
  obtain ⟨v, h1, h2, h3, h4, h5⟩ := h
  obtain ⟨ge, c, rfl, _, hg, hk⟩ := h2.at_ h3
  exact ⟨ge, c, h1.at_ 3, h1.inside, hg, h4, hk⟩
def skB (hs : H) (A : Pl) (k : Nat) : Pl := fun j => if j ≤ k then skipA hs A j else A j
theorem skB_zero (hs : H) (A : Pl) : skB hs A 0 = A := by
  funext j; unfold skB
  split
  · rename_i h; obtain rfl := Nat.le_zero.1 h; rfl
  · rfl
theorem skB_at (hs : H) (A : Pl) (k : Nat) : skB hs A k k = skipA hs A k := by unfold skB; rw [if_pos (Nat.le_refl _)]
theorem skB_yes (hs : H) (A : Pl) (k : Nat) (h1 : skipA hs A k = true) (h2 : many hs k = true) : (fun j => skB hs A k j || j == k + 1) = skB hs A (k + 1) := by
  funext j; unfold skB
  by_cases h : j ≤ k
  · rw [if_pos h, if_pos (by omega)]
    have : (j == k + 1) = false := by simp; omega
    rw [this, Bool.or_false]
  · rw [if_neg h]
    by_cases e : j = k + 1
    · subst e; rw [if_pos (Nat.le_refl _), skipA, h1, h2]; simp
    · rw [if_neg (by omega)]; simp [e]
theorem skB_no (hs : H) (A : Pl) (k : Nat) (h : (skipA hs A k && many hs k) = false) : skB hs A k = skB hs A (k + 1) := by
  funext j; unfold skB
  by_cases h1 : j ≤ k
  · rw [if_pos h1, if_pos (by omega)]
  · rw [if_neg h1]
    by_cases e : j = k + 1
    · subst e; rw [if_pos (Nat.le_refl _), skipA, h, Bool.or_false]
    · rw [if_neg (by omega)]
theorem skip_past (hs : H) (A : Pl) (n : Nat) (hn : hs.length ≤ n) : ∀ j, n < j → skipA hs A j = A j := by
  intro j hj
  cases j with
  | zero => omega
  | succ j => rw [skipA, many_ge (by omega), Bool.and_false, Bool.or_false]
theorem skB_all (hs : H) (A : Pl) : skB hs A hs.length = skipA hs A := by
  funext j; unfold skB
  split
  · rfl
  · rw [skip_past hs A hs.length (Nat.le_refl _) j (by omega)]
theorem many_at {hs : H} {k : Nat} {x : (UInt8 → Bool) × Bool} (h : hs[k]? = some x) : many hs k = x.2 := by simp [many, List.getD, h]
theorem hold_at {hs : H} {k : Nat} {x : (UInt8 → Bool) × Bool} (h : hs[k]? = some x) (c : UInt8) : hold hs k c = x.1 c := by simp [hold, List.getD, h]
set_option maxRecDepth 100000 in
set_option maxHeartbeats 2000000 in
theorem skip_any (g : Nat) (s : By) (p : Pt) (A : Pl) (w : World) (hp : PatIs w g s p) :
    Calls Tryz.prog 41 #[.pointer (some ⟨g, 0, none⟩), .agg (plv A)] w fun e w' => e = .returned (.agg (plv (skipA p.hs A))) ∧ Below w.heap.size w w' := by
  obtain ⟨ge, c, k3, hg, hge, hn, hel⟩ := hp.els
  obtain ⟨W1, hW1⟩ : ∃ W1, w.alloc (.cells (plv A) 80) = W1 := ⟨_, rfl⟩
  obtain ⟨W2, hW2⟩ : ∃ W2, W1.alloc (.cells Tryz.zeroCells80 80) = W2 := ⟨_, rfl⟩
  have B1 : Below w.heap.size w W1 := hW1 ▸ (Below.refl _ _).alloc (Nat.le_refl _) _
  have s1 : W1.heap.size = w.heap.size + 1 := by rw [← hW1]; simp
  have B2 : Below w.heap.size w W2 := hW2 ▸ B1.alloc (by omega) _
  have H1 : Has W2 w.heap.size 80 (plv A) := hW2 ▸ (hW1 ▸ Has.fresh w 80 (plv A)).more _
  have H2 : Has W2 (w.heap.size + 1) 80 (plv (fun _ => false)) := hW2 ▸ zcells ▸ Has.fresh' W1 80 Tryz.zeroCells80 s1.symm
  have c3 : W2.cell? ⟨g, 3, none⟩ = some (.slice (some ⟨ge, 0, none⟩) p.hs.length c) := (B2.cell (p := ⟨g, 3, none⟩) hg).trans k3
  have HB2 := hid B2
  have HH1 := hid H1
  have HH2 := hid H2
  have HEL := hid hel
  generalize p.hs = hs at *
  clear hp hel H1 H2 B1 B2 k3
  go_enter Tryz.func41, Tryz.ntmps41
  go_wp2
  go_loopw [5, 6, 12] (fun _ _ i wr => ∃ k : Nat, i = .int .i64 (k : Int) ∧ k ≤ hs.length ∧ Hid (Has wr w.heap.size 80 (plv (skB hs A k))) ∧ Hid (Has wr (w.heap.size + 1) 80 (plv (fun _ => false))) ∧ Hid (Below w.heap.size w wr))
    (fun _ _ i _ => hs.length - (intOf i).toNat)
  case atStart => exact ⟨0, rfl, Nat.zero_le _, by rw [skB_zero]; exact HH1, HH2, HB2⟩
  case round =>
    obtain ⟨k, rfl, hk, J1, J2, J3⟩ := hrel
    by_cases hlt : k < hs.length
    · obtain ⟨x, hx⟩ : ∃ x, hs[k]? = some x := ⟨hs[k], List.getElem?_eq_getElem hlt⟩
      obtain ⟨f, c0, c1, hf⟩ := HEL.out k x hx
      obtain ⟨kf, lf, rfl⟩ := hf.form
      have c0' := (J3.out.cell (p := ⟨ge, k * 2, none⟩) hge).trans c0
      have c1' := (J3.out.cell (p := ⟨ge, k * 2 + 1, none⟩) hge).trans c1
      obtain ⟨Wa, hWa⟩ : ∃ Wa, wr.alloc (.cells #[.func (.func kf) #[] lf, .bool false] 107) = Wa := ⟨_, rfl⟩
      obtain ⟨W3, hW3⟩ : ∃ W3, Wa.setCell ⟨wr.heap.size, 1, none⟩ (.bool x.2) = W3 := ⟨_, rfl⟩
      have hle := J3.out.size
      have hin := J2.out.inside
      have I4a : Has Wa wr.heap.size 107 #[.func (.func kf) #[] lf, .bool false] := hWa ▸ Has.fresh _ _ _
      have I1 : Hid (Has W3 w.heap.size 80 (plv (skB hs A k))) := hW3 ▸ (hWa ▸ J1.out.more _ : Has Wa w.heap.size 80 (plv (skB hs A k))).other (by simp; omega) _
      have I2 : Hid (Has W3 (w.heap.size + 1) 80 (plv (fun _ => false))) := hW3 ▸ (hWa ▸ J2.out.more _ : Has Wa (w.heap.size + 1) 80 (plv (fun _ => false))).other (by simp; omega) _
      have I3 : Hid (Below w.heap.size w W3) := hW3 ▸ (hWa ▸ J3.out.alloc hle _ : Below w.heap.size w Wa).setCell hle _
      have I4 : Has W3 wr.heap.size 107 #[.func (.func kf) #[] lf, .bool x.2] := hW3 ▸ I4a.put 1 _
      have ka := I4a.at_ 1
      have fa := I4a.free 1
      have q1 := I4.at_ 1
      have q0 : W3.cell? ⟨w.heap.size, k, none⟩ = some (.bool (skipA hs A k)) := (I1.out.at_ k).trans ((plv_get _ k (by omega)).trans (by rw [skB_at]))
      have q2 : W3.cell? ⟨w.heap.size, k + 1, none⟩ = some (.bool (skB hs A k (k + 1))) := (I1.out.at_ (k + 1)).trans (plv_get _ (k + 1) (by omega))
      have f2 := I1.out.free (k + 1)
      have hmx := many_at hx
      obtain ⟨m, hm⟩ : ∃ m, x.2 = m := ⟨_, rfl⟩
      rw [hm] at hmx q1 hW3 c1'
      obtain ⟨b, hb⟩ : ∃ b, skipA hs A k = b := ⟨_, rfl⟩
      rw [hb] at q0
      generalize skB hs A k (k + 1) = b2 at q2
      clear c0 c1 hf I4 hm hx
      cases b with
      | false =>
        have HN : Hid (skB hs A k = skB hs A (k + 1)) := skB_no hs A k (by rw [hb]; rfl)
        clear hb hmx
        go_wp2
        exact ⟨⟨k + 1, by go_num, by omega, HN.out ▸ I1, I2, I3⟩, by simp [intOf]; omega⟩
      | true =>
        cases m with
        | false =>
          have HN : Hid (skB hs A k = skB hs A (k + 1)) := skB_no hs A k (by rw [hmx, Bool.and_false])
          clear hb hmx
          go_wp2
          exact ⟨⟨k + 1, by go_num, by omega, HN.out ▸ I1, I2, I3⟩, by simp [intOf]; omega⟩
        | true =>
          have HN : Hid ((fun j => skB hs A k j || j == k + 1) = skB hs A (k + 1)) := skB_yes hs A k hb hmx
          clear hb hmx
          go_wp2
          refine ⟨⟨k + 1, by go_num, by omega, ?_, I2.out.other (by simp) _, I3.out.setCell (Nat.le_refl _) _⟩, by simp [intOf]; omega⟩
          have := I1.out.put (k + 1) (.bool true)
          rw [plv_set, HN.out] at this
          exact this
    · have hk2 : k = hs.length := by omega
      have J4 : Hid (Has wr w.heap.size 80 (plv (skipA hs A))) := by have := J1.out; rw [hk2, skB_all] at this; exact this
      clear J1 hk2
      go_wp2_with (first
        | (refine wpList_load_row rfl 80 _ rfl w.heap.size rfl 80 _ (0, 0) _ J4.out Tryz.underlying80 rfl (iPlaces _) ?_)
        | (refine wpList_store_row rfl 80 (.tmp 4) (.tmp 28) rfl (w.heap.size + 1) (plv (skipA hs A)) rfl rfl 80 _ J2.out (iPlaces _) (by rw [plv_size, plv_size]) (plv_one _) ?_))
      refine bodyPost_ret (results_cell_row rfl _ _ (w.heap.size + 1) 80 (plv (skipA hs A)) (0, 0) _ rfl J2.out.row Tryz.underlying80 rfl (iPlaces _)) rfl ⟨rfl, J3.out.rowG (by omega) _⟩
end Go.Proofs.YtpipkgkfhbagmaaGreatDoor.Glob
