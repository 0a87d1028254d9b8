/- The law GlobMatches: its walk. Conditions: a list of texts. -/
import Derived.Test.YtbbbopdlefeffaaKH
namespace Go.Proofs.Ytbbbopdlefeffaa.Glob
open Go.RowKit
theorem elemL_sets {s t : By} {neg : Bool} {rs : List Rg} (h : elemL s = some (.set neg rs, t)) : rs.length ≤ s.length := by
  unfold elemL at h
  split at h
  · simp at h
  split at h
  · simp at h
  split at h
  · simp at h
  split at h
  · split at h
    · cases h
    · rename_i rs' r1 hc
      simp only [Option.some.injEq, Prod.mk.injEq, El.set.injEq] at h
      have := (clsF_len _ _ _ _ _ hc).2
      have h3 : (if pre [33] (s.drop 1) = true then (s.drop 1).drop 1 else s.drop 1).length ≤ s.length := by split <;> simp <;> omega
      rw [← h.1.2]
      simp only [List.length_nil] at this
      omega
  · split at h
    · cases h
    · simp at h
theorem elemsF_sets (n : Nat) : ∀ s acc l, elemsF n s acc = some l → s.length ≤ 128 → (∀ neg rs, El.set neg rs ∈ acc → rs.length ≤ 1000) → ∀ neg rs, El.set neg rs ∈ l → rs.length ≤ 1000 := by
  induction n with
  | zero =>
    intro s acc l h hs ha
    unfold elemsF at h
    split at h
    · split at h
      · cases h
      · simp only [Option.some.injEq] at h; subst h; exact ha
    · cases h
  | succ n ih =>
    intro s acc l h hs ha
    unfold elemsF at h
    split at h
    · split at h
      · cases h
      · simp only [Option.some.injEq] at h; subst h; exact ha
    · rename_i h0
      split at h
      · cases h
      · rename_i e t he
        have hl := elemL_len (by rintro rfl; exact h0 rfl) he
        refine ih t _ l h (by omega) fun neg rs hm => ?_
        rcases List.mem_append.1 hm with hm | hm
        · exact ha neg rs hm
        · simp only [List.mem_singleton] at hm
          subst hm
          have := elemL_sets he
          omega
theorem parse_sets {s : By} {p : Pt} (hl : ¬ 128 < s.length) (h : parseL s = some p) : ∀ neg rs, El.set neg rs ∈ p.els → rs.length ≤ 1000 := by
  unfold parseL at h
  split at h
  · cases h
  · rename_i m t hm
    split at h
    · cases h
    · rename_i l hq
      simp only [Option.some.injEq] at h
      subst h
      have h1 := marksF_len _ _ _ _ _ hm
      have h3 : (if pre [47] t = true then t.drop 1 else t).length ≤ t.length := by split <;> simp
      exact elemsF_sets _ _ _ _ hq (by omega) (fun neg rs hm => by cases hm)
/-- A list of texts that came in. -/
def Strs (w : World) (A : Option Addr) (n b o : Nat) (ss : List ByteArray) : Prop := ∀ i, i < n → A = some ⟨b, o, none⟩ ∧ b < w.heap.size ∧ w.cell? ⟨b, o + i, none⟩ = some (.string (ss.getD i ByteArray.empty))
set_option maxRecDepth 100000 in
set_option maxHeartbeats 4000000 in
theorem matches_any (s : By) (A : Option Addr) (n cap b o : Nat) (ss : List ByteArray) (w : World) (hA : Strs w A n b o ss) (hn : n ≤ maxLen) : Calls Try.prog 4 #[.string (ba s), .slice A n cap] w fun e w' => e = .returned (.bool true) ∧ Below w.heap.size w w' := by
  have HP := hid (parse_any s w)
  have HA := hid hA
  have hnn : n ≤ 9223372036854775807 := by unfold maxLen at hn; omega
  clear hA hn
  go_enter Try.func4, Try.ntmps4
  go_wp2_with (fail)
  refine HP.out.mono ?_
  rintro e1 w1 ⟨h1, hb1⟩
  have HB := hid hb1
  clear hb1
  rcases parse_cases h1 with ⟨k, hk, hpe, rfl⟩ | ⟨p, g, hl, hpl, hpe, rfl, hpat⟩
  · have hk0 : (k == 0) = false := by simp [hk]
    have CR := hid (rparse_any s w1)
    have HPE := hid hpe
    clear h1 hk hpe
    go_wp2_with (fail)
    refine CR.out.mono ?_
    rintro e2 w2 ⟨⟨nn, f, d, r, A', l, c, he, _⟩, hb2⟩
    rw [HPE.out] at he
    subst he
    have hkk : (k != k) = false := by simp
    have HBB : Hid (∀ o', Below w.heap.size w (w2.alloc o')) := fun o' => (HB.out.thenG hb2).alloc (by have := HB.out.size; have := hb2.size; omega) _
    clear hb2
    by_cases hn0 : 0 < n
    · have hni : (0 : Int) < (n : Int) := by omega
      go_wp2
      refine wp_loop_rounds 1 ?_
      rw [rounds_succ]
      go_wp2_with (fail)
      refine (awake_any _).mono ?_
      rintro e3 w3 ⟨rfl, hb3⟩
      go_wp2
      go_ret
      exact ⟨rfl, (HBB.out _).thenG hb3⟩
    · obtain rfl : n = 0 := by omega
      go_wp2
      refine wp_loop_rounds 1 ?_
      rw [rounds_succ]
      go_wp2_with (fail)
      refine (awake_any _).mono ?_
      rintro e3 w3 ⟨rfl, hb3⟩
      go_wp2
      go_ret
      exact ⟨rfl, (HBB.out _).thenG hb3⟩
  · have CR := hid (rparse_any s w1)
    have HPE := hid hpe
    have HPL := hid hpl
    have HL := hid hl
    have HPAT := hid hpat
    clear h1 hl hpl hpe hpat
    go_wp2_with (fail)
    refine CR.out.mono ?_
    rintro e2 w2 ⟨⟨nn, f, d, r, A', l, c, he, hrp⟩, hb2⟩
    obtain ⟨hne, hf, hde, hr, hre, hrl⟩ := hrp p HPE.out HPL.out
    clear hne hde
    rw [HPE.out] at he
    subst he
    obtain ⟨W0, hW0⟩ : ∃ W0, w2.alloc (.cells #[.bool nn, .bool f, .bool d, .bool r, .slice A' l c] 28) = W0 := ⟨_, rfl⟩
    have B0 : Below w2.heap.size w2 W0 := hW0 ▸ (Below.refl _ _).alloc (Nat.le_refl _) _
    have hX : Has W0 w2.heap.size 28 #[.bool nn, .bool f, .bool d, .bool r, .slice A' l c] := hW0 ▸ Has.fresh _ _ _
    have PAT : PatIs W0 g s p := (HPAT.out.stays hb2).stays B0
    have LP : Hid (∀ W, Below W0.heap.size W0 W → (loadVar 28 ⟨w2.heap.size, 0, none⟩).run Try.prog W = .ok (.agg #[.bool nn, .bool f, .bool d, .bool r, .slice A' l c]) W) := fun W h => load_rp (hX.stays h)
    have C1 : Hid (∀ path W, Below W0.heap.size W0 W → Calls Try.prog 17 #[.pointer (some ⟨g, 0, none⟩), .string (ba path)] W fun e w' => e = .returned (.bool (mB p.rooted p.hs path)) ∧ Below W.heap.size W w') := fun path W h => match_any g s p path W (PAT.stays h)
    have hfo : hsOf f p.els = p.hs := by rw [hf]; rfl
    have hpn := parseL_len HPL.out
    have hle : l ≤ 128 := by have := HL.out; omega
    have C2 : Hid (∀ path W, Below W0.heap.size W0 W → Calls Try.prog 18 #[.agg #[.bool nn, .bool f, .bool d, .bool r, .slice A' l c], .string (ba path)] W fun e w' => e = .returned (.bool (mB p.rooted p.hs path)) ∧ Below W.heap.size W w') := fun path W h => by
      have := rmatch_any nn f d r A' l c p.els path W ((hrl.stays B0).stays h) hre hle (parse_sets HL.out HPL.out)
      rw [hfo, hr] at this
      rw [hr]
      exact this
    have HB0 := hid ((HB.out.thenG hb2).thenG B0)
    have HA0 : Hid (∀ i, i < n → A = some ⟨b, o, none⟩ ∧ ∀ W, Below W0.heap.size W0 W → W.cell? ⟨b, o + i, none⟩ = some (.string (ss.getD i ByteArray.empty))) := fun i hi => by
      obtain ⟨q1, q2, q3⟩ := HA.out i hi
      have hsz := HB0.out.size
      exact ⟨q1, fun W h => ((h.cell (p := ⟨b, o + i, none⟩) (by show b < _; omega)).trans (HB0.out.cell (p := ⟨b, o + i, none⟩) q2)).trans q3⟩
    clear hX PAT B0 hf hr hrp hb2 hre hrl hfo hpn hle HP HA HB CR HPE HPL HL HPAT
    generalize p.rooted = pr at C1 C2
    generalize p.hs = ph at C1 C2
    go_wp2
    go_loopw [9] (fun v wr => ∃ i : Nat, v = .int .i64 (i : Int) ∧ i ≤ 40 ∧ Hid (Below W0.heap.size W0 wr))
      (fun v _ => 40 - (intOf v).toNat)
    case atStart => exact ⟨0, rfl, by omega, Below.refl _ _⟩
    case round =>
      obtain ⟨i, rfl, hi, HB2⟩ := hrel
      by_cases hin : i < n
      · have hini : (i : Int) < (n : Int) := by omega
        by_cases hi4 : i < 40
        · have hi4i : (i : Int) < 40 := by omega
          have hi0 : (0 : Int) ≤ (i : Int) := by omega
          obtain ⟨hA, XC⟩ := HA0.out i hin
          have XS := hid XC
          clear XC
          subst hA
          have CM := hid (C1.out (tl (ss.getD i ByteArray.empty)))
          have CN := hid (C2.out (tl (ss.getD i ByteArray.empty)))
          rw [ba_tl] at CM CN
          generalize ss.getD i ByteArray.empty = path at XS CM CN
          generalize mB pr ph (tl path) = mm at CM CN
          have bb : (mm != mm) = false := by simp
          have z0 : Below W0.heap.size W0 wr.drew := HB2.out.drew
          clear hin hi4 HA0
          go_wp2
          refine wp_region_noPanic ?_
          refine wp_region_held_drew (S := Below W0.heap.size W0) (by kernel_rfl) (z0) (fun hS => ?_)
          refine wpAnyH_take (i := 0) (v := ?_) (by simp only [List.getElem?_toArray, List.getElem?_cons_zero]; rfl) (by kernel_rfl) (by kernel_rfl) (by kernel_rfl) (fun _ _ _ h => h) (Or.inl ⟨by rfl, ?_⟩) (by assumption) ?_
          rotate_left 1
          · intro w hSw
            go_simp
            with_reducible rfl
          simp only [Act.put, List.setIfInBounds_toArray, List.set_cons_zero, List.set_cons_succ]
          refine wpAnyH_take (i := 1) (v := ?_) (by simp only [List.getElem?_toArray, List.getElem?_cons_zero, List.getElem?_cons_succ]; rfl) (by kernel_rfl) (by kernel_rfl) (by kernel_rfl) (fun _ _ _ h => h) (Or.inl ⟨by rfl, ?_⟩) (by assumption) ?_
          rotate_left 1
          · intro w hSw
            go_simp
            with_reducible rfl
          simp only [Act.put, List.setIfInBounds_toArray, List.set_cons_zero, List.set_cons_succ]
          refine wpAnyH_take (i := 2) (v := ?_) (by simp only [List.getElem?_toArray, List.getElem?_cons_zero, List.getElem?_cons_succ]; rfl) (by kernel_rfl) (by kernel_rfl) (by kernel_rfl) (fun _ _ _ h => h) (Or.inl ⟨by rfl, ?_⟩) (by assumption) ?_
          rotate_left 1
          · intro w hSw
            go_simp
            with_reducible rfl
          simp only [Act.put, List.setIfInBounds_toArray, List.set_cons_zero, List.set_cons_succ]
          refine wpAnyH_take (i := 3) (v := ?_) (by simp only [List.getElem?_toArray, List.getElem?_cons_zero, List.getElem?_cons_succ]; rfl) (by kernel_rfl) (by kernel_rfl) (by kernel_rfl) (fun _ _ _ h => h) (Or.inl ⟨by rfl, ?_⟩) (by assumption) ?_
          rotate_left 1
          · intro w hSw
            go_simp
            with_reducible rfl
          simp only [Act.put, List.setIfInBounds_toArray, List.set_cons_zero, List.set_cons_succ]
          refine wpAnyH_take (i := 4) (v := ?_) (by simp only [List.getElem?_toArray, List.getElem?_cons_zero, List.getElem?_cons_succ]; rfl) (by kernel_rfl) (by kernel_rfl) (by kernel_rfl) (fun _ _ _ h => h) (Or.inl ⟨by rfl, ?_⟩) (by assumption) ?_
          rotate_left 1
          · intro w hSw
            have q := XS.out w hSw
            go_simp
            with_reducible rfl
          simp only [Act.put, List.setIfInBounds_toArray, List.set_cons_zero, List.set_cons_succ]
          refine' wpAnyH_take (i := 6) (v := _) (by simp only [List.getElem?_toArray, List.getElem?_cons_zero, List.getElem?_cons_succ]; rfl) (by kernel_rfl) (by kernel_rfl) (by kernel_rfl) (fun _ _ _ h => h) (yields_load (by rfl) 28 (.tmp 7) rfl w2.heap.size 0 rfl #[.bool nn, .bool f, .bool d, .bool r, .slice A' l c] (LP.out)) (by assumption) ?_
          simp only [Act.put, List.setIfInBounds_toArray, List.set_cons_zero, List.set_cons_succ]
          refine wpAnyH_take (i := 7) (v := ?_) (by simp only [List.getElem?_toArray, List.getElem?_cons_zero, List.getElem?_cons_succ]; rfl) (by kernel_rfl) (by kernel_rfl) (by kernel_rfl) (fun _ _ _ h => h) (Or.inl ⟨by rfl, ?_⟩) (by assumption) ?_
          rotate_left 1
          · intro w hSw
            go_simp
            with_reducible rfl
          simp only [Act.put, List.setIfInBounds_toArray, List.set_cons_zero, List.set_cons_succ]
          refine wpAnyH_take (i := 8) (v := ?_) (by simp only [List.getElem?_toArray, List.getElem?_cons_zero, List.getElem?_cons_succ]; rfl) (by kernel_rfl) (by kernel_rfl) (by kernel_rfl) (fun _ _ _ h => h) (Or.inl ⟨by rfl, ?_⟩) (by assumption) ?_
          rotate_left 1
          · intro w hSw
            go_simp
            with_reducible rfl
          simp only [Act.put, List.setIfInBounds_toArray, List.set_cons_zero, List.set_cons_succ]
          refine wpAnyH_take (i := 9) (v := ?_) (by simp only [List.getElem?_toArray, List.getElem?_cons_zero, List.getElem?_cons_succ]; rfl) (by kernel_rfl) (by kernel_rfl) (by kernel_rfl) (fun _ _ _ h => h) (Or.inl ⟨by rfl, ?_⟩) (by assumption) ?_
          rotate_left 1
          · intro w hSw
            go_simp
            with_reducible rfl
          simp only [Act.put, List.setIfInBounds_toArray, List.set_cons_zero, List.set_cons_succ]
          refine wpAnyH_take (i := 10) (v := ?_) (by simp only [List.getElem?_toArray, List.getElem?_cons_zero, List.getElem?_cons_succ]; rfl) (by kernel_rfl) (by kernel_rfl) (by kernel_rfl) (fun _ _ _ h => h) (Or.inl ⟨by rfl, ?_⟩) (by assumption) ?_
          rotate_left 1
          · intro w hSw
            have q := XS.out w hSw
            go_simp
            with_reducible rfl
          simp only [Act.put, List.setIfInBounds_toArray, List.set_cons_zero, List.set_cons_succ]
          refine wpAnyH_ready (rs := [5]) (by kernel_rfl) (by simp) ?_
          refine AllReadyH.cons (by simp only [List.getElem?_toArray, List.getElem?_cons_zero, List.getElem?_cons_succ]; rfl) (fun K hK => ?_) (AllReadyH.nil)
          go_simp
          refine (CM.out _ z0).mono ?_
          rintro e5 y5 ⟨rfl, hb5⟩
          have hz1 := z0.trans (hb5.mono z0.size)
          refine hK.out _ _ hz1 (fun hS => ?_)
          clear hK K hS
          refine wpAnyH_ready (rs := [11]) (by kernel_rfl) (by simp) ?_
          refine AllReadyH.cons (by simp only [List.getElem?_toArray, List.getElem?_cons_zero, List.getElem?_cons_succ]; rfl) (fun K hK => ?_) (AllReadyH.nil)
          go_simp
          refine (CN.out _ hz1).mono ?_
          rintro e11 y11 ⟨rfl, hb11⟩
          have hz2 := hz1.trans (hb11.mono hz1.size)
          refine hK.out _ _ hz2 (fun hS => ?_)
          clear hK K hS
          refine wpAnyH_take (i := 12) (v := ?_) (by simp only [List.getElem?_toArray, List.getElem?_cons_zero, List.getElem?_cons_succ]; rfl) (by kernel_rfl) (by kernel_rfl) (by kernel_rfl) (fun _ _ _ h => h) (Or.inl ⟨by rfl, ?_⟩) (by assumption) ?_
          rotate_left 1
          · intro w hSw
            go_simp
            with_reducible rfl
          simp only [Act.put, List.setIfInBounds_toArray, List.set_cons_zero, List.set_cons_succ]
          refine wpAnyH_done (by kernel_rfl) ?_ _
          refine NoPanic.normal ?_
          go_wp2
          exact ⟨⟨i + 1, by go_num, by omega, hz2⟩, by simp [intOf]; omega⟩
        · have hi4i : ¬ ((i : Int) < 40) := by omega
          clear HA0
          go_wp2_with (fail)
          refine (awake_any _).mono ?_
          rintro e3 w3 ⟨rfl, hb3⟩
          go_wp2
          go_ret
          exact ⟨rfl, (HB0.out.thenG (HB2.out.thenG hb3))⟩
      · have hini : ¬ ((i : Int) < (n : Int)) := by omega
        clear HA0
        go_wp2_with (fail)
        refine (awake_any _).mono ?_
        rintro e3 w3 ⟨rfl, hb3⟩
        go_wp2
        go_ret
        exact ⟨rfl, (HB0.out.thenG (HB2.out.thenG hb3))⟩
theorem matches_law (s : ByteArray) (A : Option Addr) (n cap b o : Nat) (ss : List ByteArray) (w : World) (hA : Strs w A n b o ss) (hn : n ≤ maxLen) : Calls Try.prog 4 #[.string s, .slice A n cap] w fun e w' => e = .returned (.bool true) ∧ Below w.heap.size w w' := by
  have := matches_any (tl s) A n cap b o ss w hA hn
  rw [ba_tl] at this; exact this
end Go.Proofs.Ytbbbopdlefeffaa.Glob
