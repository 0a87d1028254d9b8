/- The document's digit and Text (caravanref01): what each call does. Conditions: a number below sixteen; thirty-two bytes. -/
import Derived.Test.YtoeomghebgbniaaDoorSAA
import Derived.Deep.AppendLies
namespace Go.Proofs.YtoeomghebgbniaaDoor.Sha
open Go.RowKit
theorem dC_num1 (n : Nat) (h : n < 10) : (48 : Int) + (n : Int) = b8 (dC (UInt8.ofNat n)) := by
  have e : (UInt8.ofNat n).toNat = n := by simp; omega
  rw [dC, e, if_pos h, b8_ofNat]; omega
theorem dC_num2 (n : Nat) (h1 : ¬ n < 10) (h : n < 16) : (87 : Int) + (n : Int) = b8 (dC (UInt8.ofNat n)) := by
  have e : (UInt8.ofNat n).toNat = n := by simp; omega
  rw [dC, e, if_neg h1, b8_ofNat]; omega
theorem ret8 {x : Int} {v : UInt8} (h : x = b8 v) : Ending.returned (.int .u8 x) = .returned (.int .u8 (b8 v)) := by rw [h]
set_option maxHeartbeats 400000 in
theorem rdigit_any (n : Nat) (h : n < 16) (w : World) : Calls Tryd.prog 49 #[.int .u8 (n : Int)] w fun e w' => e = .returned (.int .u8 (b8 (dC (UInt8.ofNat n)))) ∧ w = w' := by
  by_cases h1 : n < 10
  · have g1 : (n : Int) < 10 := by omega
    have g0 : (0 : Int) ≤ (n : Int) := by omega
    have E := hid (dC_num1 n h1)
    clear h1
    go_enter Tryd.func49, Tryd.ntmps49
    go_wp2
    go_ret
    exact ⟨ret8 (by have := E.out; omega), rfl⟩
  · have g1 : ¬ (n : Int) < 10 := by omega
    have g2 : (n : Int) < 16 := by omega
    have g0 : (0 : Int) ≤ (n : Int) := by omega
    have E := hid (dC_num2 n h1 h)
    clear h1
    go_enter Tryd.func49, Tryd.ntmps49
    go_wp2
    go_ret
    exact ⟨ret8 (by have := E.out; omega), rfl⟩
theorem own_far {w w' : World} {B : Nat} {e : TypeId} {s n : Nat} {v u : Value} {xs : List Value} {a : Addr} (h : w.ownsRow B e s v n xs) (hg : w.grownBy w' v.ownBlock) (ha : a.block < B) (hc : w.cell? a = some u) : w'.cell? a = some u :=
  hg.cell hc (fun hv => by have := h.lt _ hv.symm; omega)
theorem own_has {w w' : World} {B g : Nat} {e t : TypeId} {s n : Nat} {v : Value} {xs : List Value} {cs : Array Value} (h : w.ownsRow B e s v n xs) (hg : w.grownBy w' v.ownBlock) (ha : g < B) (hc : Has w g t cs) : Has w' g t cs :=
  (hg.block g hc.inside (fun hv => by have := h.lt _ hv.symm; omega)).trans hc
set_option maxRecDepth 100000 in
set_option maxHeartbeats 400000 in
theorem rtext_any (h : List UInt8) (hl : h.length = 32) (w : World) :
    Calls Tryd.prog 22 #[.agg (bvec h)] w fun e w' => e = .returned (.string ⟨(textL h).toArray⟩) ∧ Below w.heap.size w w' := by
  obtain ⟨i0, hi, hz0, hz1, hz2⟩ := info_parts info5
  have HL := hid hl
  clear hl
  go_enter Tryd.func22, Tryd.ntmps22
  go_wp2
  go_loopw [3, 4] (fun v i wr => ∃ k : Nat, k ≤ 32 ∧ i = .int .i64 (k : Int) ∧ Hid (wr.ownsRow (w.heap.size + 1) 5 1 v (2 * k) ((textUp h k).map V8)) ∧ Hid (Has wr w.heap.size 34 (bvec h)) ∧ Hid (Below w.heap.size w wr))
    (fun _ i _ => 32 - (intOf i).toNat)
  case atStart =>
    refine ⟨0, by omega, rfl, ?_, Has.fresh w 34 (bvec h), (Below.refl _ _).alloc (Nat.le_refl _) _⟩
    exact ⟨rfl, .inl ⟨rfl, rfl⟩⟩
  case round =>
    obtain ⟨k, hk, rfl, J1, J2, J3⟩ := hrel
    by_cases hlt : k < 32
    · obtain ⟨x, HX2⟩ : ∃ x, Hid (at8 h k = x) := ⟨_, rfl⟩
      have ck : wr.cell? ⟨w.heap.size, k, none⟩ = some (.int .u8 (b8 x)) := by
        rw [← HX2.out]; exact (J2.out.at_ k).trans (bvec_get h k (by rw [HL.out]; exact hlt))
      obtain ⟨n1, hn1, HN1⟩ : ∃ n : Nat, b8 x / 16 = (n : Int) ∧ Hid (x.toNat / 16 = n ∧ n < 16) := ⟨x.toNat / 16, hi_num x, rfl, by have := x.toNat_lt; omega⟩
      obtain ⟨n2, hn2, HN2⟩ : ∃ n : Nat, b8 x % 16 = (n : Int) ∧ Hid (x.toNat % 16 = n ∧ n < 16) := ⟨x.toNat % 16, by unfold b8; omega, rfl, by omega⟩
      have hn1t : (b8 x).tdiv 16 = (n1 : Int) := by rw [Int.tdiv_eq_ediv_of_nonneg (b8_nonneg x)]; exact hn1
      have hn2t : (b8 x).tmod 16 = (n2 : Int) := by rw [Int.tmod_eq_emod_of_nonneg (b8_nonneg x)]; exact hn2
      obtain ⟨s1, HS1⟩ : ∃ s, Hid (dC (UInt8.ofNat n1) = s) := ⟨_, rfl⟩
      obtain ⟨s2, HS2⟩ : ∃ s, Hid (dC (UInt8.ofNat n2) = s) := ⟨_, rfl⟩
      have D1 : Hid (∀ w, Calls Tryd.prog 49 #[.int .u8 (n1 : Int)] w fun e w' => e = .returned (.int .u8 (b8 s1)) ∧ w' = w) := fun w => by
        rw [← HS1.out]; exact (rdigit_any n1 HN1.out.2 w).mono fun _ _ ⟨a, b⟩ => ⟨a, b.symm⟩
      have D2 : Hid (∀ w, Calls Tryd.prog 49 #[.int .u8 (n2 : Int)] w fun e w' => e = .returned (.int .u8 (b8 s2)) ∧ w' = w) := fun w => by
        rw [← HS2.out]; exact (rdigit_any n2 HN2.out.2 w).mono fun _ _ ⟨a, b⟩ => ⟨a, b.symm⟩
      have hw1 : IntKind.u8.wrap (n1 : Int) = (n1 : Int) := by have := HN1.out.2; simp [IntKind.wrap, IntKind.signed, IntKind.bits]; omega
      have HON : Hid (∀ v ∈ [V8 s1, V8 s2], v.oneCell' = true) := by
        intro v hv
        simp only [List.mem_cons, List.not_mem_nil, or_false] at hv
        rcases hv with rfl | rfl <;> rfl
      have ckd : wr.drew.cell? ⟨w.heap.size, k, none⟩ = some (.int .u8 (b8 x)) := ck
      have ckA : (wr.drew.alloc (.cells #[V8 s1, V8 s2] 5)).cell? ⟨w.heap.size, k, none⟩ = some (.int .u8 (b8 x)) := (Has.at_ (Has.more (Has.drawn J2.out 1) _) k).trans ((J2.out.at_ k).symm.trans ck)
      have JB : Hid (w.heap.size + 1 ≤ (wr.drew.alloc (.cells #[V8 s1, V8 s2] 5)).heap.size) := by have := J3.out.size; have := J2.out.inside; show _ ≤ _; simp; omega
      have JA : Hid ((wr.drew.alloc (.cells #[V8 s1, V8 s2] 5)).ownsRow (w.heap.size + 1) 5 1 u3 (2 * k) ((textUp h k).map V8)) := J1.out.alloc _
      go_wp2
      refine wp_region_noPanic ?_
      refine wp_region_held_drew (S := fun w' => w'.cell? ⟨w.heap.size, k, none⟩ = some (.int .u8 (b8 x))) (by kernel_rfl) ckd (fun hS => ?_)
      refine wpAnyH_take (i := 0) (v := ?_) (by simp only [List.getElem?_toArray, List.getElem?_cons_zero]; rfl) (by kernel_rfl) (by kernel_rfl) (by kernel_rfl) (fun _ _ _ h => h) (Or.inl ⟨by rfl, ?_⟩) (by assumption) ?_
      rotate_left 1
      · intro w hSw
        (try dsimp only at hSw)
        go_simp
        with_reducible rfl
      simp only [Act.put, List.setIfInBounds_toArray, List.set_cons_zero, List.set_cons_succ]
      refine wpAnyH_take (i := 1) (v := ?_) (by simp only [List.getElem?_toArray, List.getElem?_cons_zero, List.getElem?_cons_succ]; rfl) (by kernel_rfl) (by kernel_rfl) (by kernel_rfl) (fun _ _ _ h => h) (Or.inl ⟨by rfl, ?_⟩) (by assumption) ?_
      rotate_left 1
      · intro w hSw
        (try dsimp only at hSw)
        go_simp
        with_reducible rfl
      simp only [Act.put, List.setIfInBounds_toArray, List.set_cons_zero, List.set_cons_succ]
      refine wpAnyH_take (i := 2) (v := ?_) (by simp only [List.getElem?_toArray, List.getElem?_cons_zero, List.getElem?_cons_succ]; rfl) (by kernel_rfl) (by kernel_rfl) (by kernel_rfl) (fun _ _ _ h => h) (Or.inl ⟨by rfl, ?_⟩) (by assumption) ?_
      rotate_left 1
      · intro w hSw
        (try dsimp only at hSw)
        go_simp
        with_reducible rfl
      simp only [Act.put, List.setIfInBounds_toArray, List.set_cons_zero, List.set_cons_succ]
      refine wpAnyH_take (i := 3) (v := ?_) (by simp only [List.getElem?_toArray, List.getElem?_cons_zero, List.getElem?_cons_succ]; rfl) (by kernel_rfl) (by kernel_rfl) (by kernel_rfl) (fun _ _ _ h => h) (Or.inl ⟨by rfl, ?_⟩) (by assumption) ?_
      rotate_left 1
      · intro w hSw
        (try dsimp only at hSw)
        go_simp
        with_reducible rfl
      simp only [Act.put, List.setIfInBounds_toArray, List.set_cons_zero, List.set_cons_succ]
      refine wpAnyH_take (i := 4) (v := ?_) (by simp only [List.getElem?_toArray, List.getElem?_cons_zero, List.getElem?_cons_succ]; rfl) (by kernel_rfl) (by kernel_rfl) (by kernel_rfl) (fun _ _ _ h => h) (Or.inl ⟨by rfl, ?_⟩) (by assumption) ?_
      rotate_left 1
      · intro w hSw
        (try dsimp only at hSw)
        go_simp
        with_reducible rfl
      simp only [Act.put, List.setIfInBounds_toArray, List.set_cons_zero, List.set_cons_succ]
      refine wpAnyH_take (i := 6) (v := ?_) (by simp only [List.getElem?_toArray, List.getElem?_cons_zero, List.getElem?_cons_succ]; rfl) (by kernel_rfl) (by kernel_rfl) (by kernel_rfl) (fun _ _ _ h => h) (Or.inl ⟨by rfl, ?_⟩) (by assumption) ?_
      rotate_left 1
      · intro w hSw
        (try dsimp only at hSw)
        go_simp
        with_reducible rfl
      simp only [Act.put, List.setIfInBounds_toArray, List.set_cons_zero, List.set_cons_succ]
      refine wpAnyH_take (i := 7) (v := ?_) (by simp only [List.getElem?_toArray, List.getElem?_cons_zero, List.getElem?_cons_succ]; rfl) (by kernel_rfl) (by kernel_rfl) (by kernel_rfl) (fun _ _ _ h => h) (Or.inl ⟨by rfl, ?_⟩) (by assumption) ?_
      rotate_left 1
      · intro w hSw
        (try dsimp only at hSw)
        go_simp
        with_reducible rfl
      simp only [Act.put, List.setIfInBounds_toArray, List.set_cons_zero, List.set_cons_succ]
      refine wpAnyH_take (i := 8) (v := ?_) (by simp only [List.getElem?_toArray, List.getElem?_cons_zero, List.getElem?_cons_succ]; rfl) (by kernel_rfl) (by kernel_rfl) (by kernel_rfl) (fun _ _ _ h => h) (Or.inl ⟨by rfl, ?_⟩) (by assumption) ?_
      rotate_left 1
      · intro w hSw
        (try dsimp only at hSw)
        go_simp
        with_reducible rfl
      simp only [Act.put, List.setIfInBounds_toArray, List.set_cons_zero, List.set_cons_succ]
      refine wpAnyH_take (i := 9) (v := ?_) (by simp only [List.getElem?_toArray, List.getElem?_cons_zero, List.getElem?_cons_succ]; rfl) (by kernel_rfl) (by kernel_rfl) (by kernel_rfl) (fun _ _ _ h => h) (Or.inl ⟨by rfl, ?_⟩) (by assumption) ?_
      rotate_left 1
      · intro w hSw
        (try dsimp only at hSw)
        go_simp
        with_reducible rfl
      simp only [Act.put, List.setIfInBounds_toArray, List.set_cons_zero, List.set_cons_succ]
      refine wpAnyH_ready (rs := [5]) (by kernel_rfl) (by simp) ?_
      refine AllReadyH.cons (by simp only [List.getElem?_toArray, List.getElem?_cons_zero, List.getElem?_cons_succ]; rfl) (fun K hK => ?_) AllReadyH.nil
      go_simp
      refine (D1.out _).mono ?_
      rintro e1 w1 ⟨rfl, rfl⟩
      refine hK.out _ _ ckd (fun hS => ?_)
      clear hK K
      refine wpAnyH_ready (rs := [10]) (by kernel_rfl) (by simp) ?_
      refine AllReadyH.cons (by simp only [List.getElem?_toArray, List.getElem?_cons_zero, List.getElem?_cons_succ]; rfl) (fun K hK => ?_) AllReadyH.nil
      go_simp
      refine (D2.out _).mono ?_
      rintro e1 w1 ⟨rfl, rfl⟩
      refine hK.out _ _ ckd (fun hS => ?_)
      clear hK K
      refine wpAnyH_ready (rs := [11]) (by kernel_rfl) (by simp) ?_
      refine AllReadyH.cons (by simp only [List.getElem?_toArray, List.getElem?_cons_zero, List.getElem?_cons_succ]; rfl) (fun K hK => ?_) AllReadyH.nil
      go_simp
      refine hK.out _ _ ckA (fun hS => ?_)
      clear hK K
      refine wpAnyH_ready (rs := [12]) (by kernel_rfl) (by simp) ?_
      refine AllReadyH.cons (by simp only [List.getElem?_toArray, List.getElem?_cons_zero, List.getElem?_cons_succ]; rfl) (fun K hK => ?_) AllReadyH.nil
      refine step_append_lies _ rfl (.tmp 9) (.tmp 20) 36 rfl (w.heap.size + 1) 5 i0 (.int .u8 0) 1 1 Tryd.underlying36 hi hz0 hz1 hz2 (by rfl) (by omega) u3 (2 * k) ((textUp h k).map V8) (by rfl) JA.out ⟨wr.heap.size, 0, none⟩ 2 2 [V8 s1, V8 s2] (by rfl) (by rfl) (news_two _ _ _).out HON.out (by omega) (by have := hk; unfold maxLen; omega) (by omega) JB.out _ rfl ?_
      intro g cap w1 hown hgrow hat hlt2
      refine hK.out _ _ (own_far JA.out hgrow (Nat.lt_succ_self _) ckA) (fun hS => ?_)
      clear hK K
      refine wpAnyH_take (i := 13) (v := ?_) (by simp only [List.getElem?_toArray, List.getElem?_cons_zero, List.getElem?_cons_succ]; rfl) (by kernel_rfl) (by kernel_rfl) (by kernel_rfl) (fun _ _ _ h => h) (Or.inl ⟨by rfl, ?_⟩) (by assumption) ?_
      rotate_left 1
      · intro w hSw
        (try dsimp only at hSw)
        go_simp
        with_reducible rfl
      simp only [Act.put, List.setIfInBounds_toArray, List.set_cons_zero, List.set_cons_succ]
      refine wpAnyH_done (by kernel_rfl) ?_ _
      refine NoPanic.normal ?_
      go_wp2
      go_roundw
      case rel =>
        have e : textUp h (k + 1) = textUp h k ++ [s1, s2] := by
          rw [textUp_next, HX2.out, hi4, lo4, HN1.out.1, HN2.out.1, HS1.out, HS2.out]
        refine ⟨k + 1, by omega, by go_num, ?_, ?_, ?_⟩
        · show World.ownsRow _ _ _ _ _ _ _
          rw [e, List.map_append, Nat.mul_add]
          exact hown
        · exact own_has JA.out hgrow (Nat.lt_succ_self _) (Has.more (Has.drawn J2.out 1) _)
        · exact ((J3.out.drewN' 1).alloc (by exact J3.out.size) _).grown hgrow (Nat.le_of_succ_le JB.out) (fun j hj => by have := JA.out.lt j hj; omega)
      case measure => simp [intOf]; omega
    · obtain rfl : k = 32 := by omega
      obtain ⟨g, cap, hv, hg1, hg2⟩ := J1.out.form (by omega)
      subst hv
      have hcv : (convert 36 9 (.slice (some ⟨g, 0, none⟩) (2 * 32) cap)).run Tryd.prog wr = .ok (.string ⟨(textL h).toArray⟩) wr := by
        have hl : (textL h).length = 64 := textUp_len h 32
        have := run_convert_bytes_back (P := Tryd.prog) wr 36 9 5 ⟨g, 0, none⟩ cap (textL h) Tryd.underlying36 Tryd.underlying5 Tryd.underlying9 (fun j hj => by
          refine J1.out.cells (g := g) rfl j _ ?_
          show ((textL h).map V8)[j]? = _
          rw [List.getElem?_map, List.getElem?_eq_getElem hj]; rfl)
        rw [hl] at this
        exact this
      go_wp2
      go_ret
      exact ⟨rfl, J3.out⟩
end Go.Proofs.YtoeomghebgbniaaDoor.Sha
