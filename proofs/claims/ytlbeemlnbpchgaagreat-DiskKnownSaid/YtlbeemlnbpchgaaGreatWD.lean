/- A tree in a world: drop, move: what each does to it. Conditions: paths of at most 4000 bytes. -/
import Derived.Test.YtlbeemlnbpchgaaGreatWC
namespace Go.Proofs.YtlbeemlnbpchgaaGreat
open Go.RowKit Go.Maps
theorem Turn.drew {own : Nat → Prop} {w w' : World} (h : Turn own w w') : Turn own w w'.drew := ⟨h.os, h.tape, h.output, h.size, h.block⟩
theorem TreeS.gone {w w' : World} {g o m : Nat} {t : TypeId} {cs : Array Value} {L L' : Tr} {u room : Nat} (h : TreeS w g o m t cs L u room) (hg : w.grownBy w' (some m)) (hm : MapT w' m L') (hs : Srt L') (hl : L'.length ≤ 100000) : TreeS w' g o m t cs L' u room :=
  ⟨grown_has h.has hg (Ne.symm h.ne), h.k0, h.k1, h.k2, hm, hs, h.ne, hl⟩
theorem del_le (L : Tr) (p : By) : (del L p).length ≤ L.length := List.length_filter_le _ _
theorem MapT.dropAll {w : World} {b : Nat} {L : Tr} (h : MapT w b L) (hs : Srt L) {p : By} (hp : p.length ≤ maxLen) :
    ∃ w', (∀ ty, (Builtin.delete_ #[57, 9] ty #[.map (some b), kS p]).run Tryz.prog w = .ok (.tuple #[]) w') ∧ MapT w' b (del L p) ∧ w.grownBy w' (some b) := by
  obtain ⟨w', h1, h2, h3⟩ := h.drop hs hp 0
  exact ⟨w', fun ty => h1, h2, h3⟩
set_option maxRecDepth 100000 in
set_option maxHeartbeats 4000000 in
theorem tdrop_any {w : World} {g o m : Nat} {t : TypeId} {cs : Array Value} {L : Tr} {u room : Nat} (h : TreeS w g o m t cs L u room) (hu : u = usedL L) (hur : u ≤ 1048576) (p : By) (hp : p.length ≤ 4000) :
    Calls Tryz.prog 113 #[.pointer (some ⟨g, o, none⟩), kS p] w fun e w' => e = .returned (.tuple #[]) ∧ Turn (Two g m) w w' ∧ TreeS w' g o m t (cs.setIfInBounds (o + 1) (.int .i64 ((usedL (del L p) : Nat) : Int))) (del L p) (usedL (del L p)) room := by
  have q1 := used_del h.srt p
  obtain ⟨q, HQ⟩ : ∃ q, Hid (useP L p = q) := ⟨_, rfl⟩
  have q2 : q ≤ u := by have := HQ.out; omega
  have HU2 : Hid (usedL (del L p) = u - q) := by show _ = _; have := HQ.out; omega
  have HS : Hid ((u : Int) - q = ((u - q : Nat) : Int)) := by show _ = _; omega
  have C1 : Hid (Calls Tryz.prog 132 #[.pointer (some ⟨g, o, none⟩), kS p] w.drew fun e w' => e = .returned (.int .i64 (q : Int)) ∧ Below w.drew.heap.size w.drew w') := by
    rw [← HQ.out]; exact tuse_any h.drew p hp (by have := HQ.out; omega)
  have H0 : Hid (∀ w1, Below w.drew.heap.size w.drew w1 → TreeS w1 g o m t cs L u room ∧ Below w.heap.size w w1) := fun w1 hb => ⟨h.drew.on hb (Nat.le_refl _), ((Below.refl _ w).drew).trans hb⟩
  have hw1 : IntKind.i64.wrap ((u : Int) - q) = (u : Int) - q := IntWalk.i64_in _ (by omega)
  have hc0 := h.c1
  rw [HU2.out]
  clear h hu q1
  go_enter Tryz.func113, Tryz.ntmps113
  go_wp2
  refine wp_region_noPanic ?_
  refine wp_region_held_drew (S := fun _ => True) (by kernel_rfl) (trivial) (fun hS => ?_)
  refine wpAnyH_take (i := 0) (v := ?_) (by simp only [List.getElem?_toArray, List.getElem?_cons_zero]; rfl) (by kernel_rfl) (by kernel_rfl) (by kernel_rfl) (fun _ _ _ h => h) (Or.inl ⟨by rfl, ?_⟩) (by assumption) ?_
  rotate_left 1
  · intro w hSw
    go_simp
    with_reducible rfl
  simp only [Act.put, List.setIfInBounds_toArray, List.set_cons_zero, List.set_cons_succ]
  refine wpAnyH_take (i := 1) (v := ?_) (by simp only [List.getElem?_toArray, List.getElem?_cons_zero, List.getElem?_cons_succ]; rfl) (by kernel_rfl) (by kernel_rfl) (by kernel_rfl) (fun _ _ _ h => h) (Or.inl ⟨by rfl, ?_⟩) (by assumption) ?_
  rotate_left 1
  · intro w hSw
    go_simp
    with_reducible rfl
  simp only [Act.put, List.setIfInBounds_toArray, List.set_cons_zero, List.set_cons_succ]
  refine wpAnyH_take (i := 2) (v := ?_) (by simp only [List.getElem?_toArray, List.getElem?_cons_zero, List.getElem?_cons_succ]; rfl) (by kernel_rfl) (by kernel_rfl) (by kernel_rfl) (fun _ _ _ h => h) (Or.inl ⟨by rfl, ?_⟩) (by assumption) ?_
  rotate_left 1
  · intro w hSw
    go_simp
    with_reducible rfl
  simp only [Act.put, List.setIfInBounds_toArray, List.set_cons_zero, List.set_cons_succ]
  refine wpAnyH_take (i := 4) (v := ?_) (by simp only [List.getElem?_toArray, List.getElem?_cons_zero, List.getElem?_cons_succ]; rfl) (by kernel_rfl) (by kernel_rfl) (by kernel_rfl) (fun _ _ _ h => h) (Or.inl ⟨by rfl, ?_⟩) (by assumption) ?_
  rotate_left 1
  · intro w hSw
    go_simp
    with_reducible rfl
  simp only [Act.put, List.setIfInBounds_toArray, List.set_cons_zero, List.set_cons_succ]
  refine wpAnyH_take (i := 5) (v := ?_) (by simp only [List.getElem?_toArray, List.getElem?_cons_zero, List.getElem?_cons_succ]; rfl) (by kernel_rfl) (by kernel_rfl) (by kernel_rfl) (fun _ _ _ h => h) (Or.inl ⟨by rfl, ?_⟩) (by assumption) ?_
  rotate_left 1
  · intro w hSw
    go_simp
    with_reducible rfl
  simp only [Act.put, List.setIfInBounds_toArray, List.set_cons_zero, List.set_cons_succ]
  refine wpAnyH_ready (rs := [3, 6]) (by kernel_rfl) (by simp) ?_
  refine AllReadyH.cons (by simp only [List.getElem?_toArray, List.getElem?_cons_zero, List.getElem?_cons_succ]; rfl) (fun K hK => ?_) (AllReadyH.cons (by simp only [List.getElem?_toArray, List.getElem?_cons_zero, List.getElem?_cons_succ]; rfl) (fun K hK => ?_) (AllReadyH.nil))
  · go_simp
    refine hK.out _ _ trivial (fun hS => ?_)
    clear hK K hS
    refine wpAnyH_ready (rs := [6]) (by kernel_rfl) (by simp) ?_
    refine AllReadyH.cons (by simp only [List.getElem?_toArray, List.getElem?_cons_zero, List.getElem?_cons_succ]; rfl) (fun K hK => ?_) AllReadyH.nil
    go_simp
    refine (C1.out).mono ?_
    rintro e1 w1 ⟨rfl, hb1⟩
    have T1 := hid (H0.out _ hb1).1
    have B1 := hid (H0.out _ hb1).2
    have hc1 := T1.out.c1
    have hf1 := T1.out.has.free (o + 1)
    clear hb1
    have hz1 := trivial
    refine hK.out _ _ hz1 (fun hS => ?_)
    clear hK K hS
    refine wpAnyH_take (i := 7) (v := ?_) (by simp only [List.getElem?_toArray, List.getElem?_cons_zero, List.getElem?_cons_succ]; rfl) (by kernel_rfl) (by kernel_rfl) (by kernel_rfl) (fun _ _ _ h => h) (Or.inl ⟨by rfl, ?_⟩) (by assumption) ?_
    rotate_left 1
    · intro w hSw
      go_simp
      with_reducible rfl
    simp only [Act.put, List.setIfInBounds_toArray, List.set_cons_zero, List.set_cons_succ]
    refine wpAnyH_take (i := 8) (v := ?_) (by simp only [List.getElem?_toArray, List.getElem?_cons_zero, List.getElem?_cons_succ]; rfl) (by kernel_rfl) (by kernel_rfl) (by kernel_rfl) (fun _ _ _ h => h) (Or.inl ⟨by rfl, ?_⟩) (by assumption) ?_
    rotate_left 1
    · intro w hSw
      go_simp
      with_reducible rfl
    simp only [Act.put, List.setIfInBounds_toArray, List.set_cons_zero, List.set_cons_succ]
    refine wpAnyH_take (i := 9) (v := ?_) (by simp only [List.getElem?_toArray, List.getElem?_cons_zero, List.getElem?_cons_succ]; rfl) (by kernel_rfl) (by kernel_rfl) (by kernel_rfl) (fun _ _ _ h => h) (Or.inl ⟨by rfl, ?_⟩) (by assumption) ?_
    rotate_left 1
    · intro w hSw
      go_simp
      with_reducible rfl
    simp only [Act.put, List.setIfInBounds_toArray, List.set_cons_zero, List.set_cons_succ]
    refine wpAnyH_ready (rs := [10]) (by kernel_rfl) (by simp) ?_
    refine AllReadyH.cons (by simp only [List.getElem?_toArray, List.getElem?_cons_zero, List.getElem?_cons_succ]; rfl) (fun K hK => ?_) AllReadyH.nil
    go_simp
    refine hK.out _ _ trivial (fun hS => ?_)
    clear hK K hS
    refine wpAnyH_done (by kernel_rfl) ?_ _
    refine NoPanic.normal ?_
    have T2 := hid (T1.out.told (u - q))
    obtain ⟨w5, hr5, m5, g5⟩ := T2.out.mp.dropAll T2.out.srt (p := p) (maxLen_le hp)
    rw [HS.out]
    have hc2 := T2.out.c0
    clear hc1 hf1
    go_wp2_with (at_delete; refine wpList_delete rfl (.tmp 17) (.tmp 18) rfl (.map (some m)) (kS p) rfl rfl hr5 ?_)
    go_end0
    exact ⟨rfl, (((Turn.of_below B1.out).then (Turn.set w1 g (o + 1) _ (.inl rfl))).then (Turn.of_grw g5 (.inr rfl))), T2.out.gone g5 m5 (srt_del T2.out.srt _) (Nat.le_trans (del_le L p) T2.out.len)⟩
  · go_simp
    refine (C1.out).mono ?_
    rintro e1 w1 ⟨rfl, hb1⟩
    have T1 := hid (H0.out _ hb1).1
    have B1 := hid (H0.out _ hb1).2
    have hc1 := T1.out.c1
    have hf1 := T1.out.has.free (o + 1)
    clear hb1
    have hz1 := trivial
    refine hK.out _ _ hz1 (fun hS => ?_)
    clear hK K hS
    refine wpAnyH_ready (rs := [3]) (by kernel_rfl) (by simp) ?_
    refine AllReadyH.cons (by simp only [List.getElem?_toArray, List.getElem?_cons_zero, List.getElem?_cons_succ]; rfl) (fun K hK => ?_) AllReadyH.nil
    go_simp
    refine hK.out _ _ trivial (fun hS => ?_)
    clear hK K hS
    refine wpAnyH_take (i := 7) (v := ?_) (by simp only [List.getElem?_toArray, List.getElem?_cons_zero, List.getElem?_cons_succ]; rfl) (by kernel_rfl) (by kernel_rfl) (by kernel_rfl) (fun _ _ _ h => h) (Or.inl ⟨by rfl, ?_⟩) (by assumption) ?_
    rotate_left 1
    · intro w hSw
      go_simp
      with_reducible rfl
    simp only [Act.put, List.setIfInBounds_toArray, List.set_cons_zero, List.set_cons_succ]
    refine wpAnyH_take (i := 8) (v := ?_) (by simp only [List.getElem?_toArray, List.getElem?_cons_zero, List.getElem?_cons_succ]; rfl) (by kernel_rfl) (by kernel_rfl) (by kernel_rfl) (fun _ _ _ h => h) (Or.inl ⟨by rfl, ?_⟩) (by assumption) ?_
    rotate_left 1
    · intro w hSw
      go_simp
      with_reducible rfl
    simp only [Act.put, List.setIfInBounds_toArray, List.set_cons_zero, List.set_cons_succ]
    refine wpAnyH_take (i := 9) (v := ?_) (by simp only [List.getElem?_toArray, List.getElem?_cons_zero, List.getElem?_cons_succ]; rfl) (by kernel_rfl) (by kernel_rfl) (by kernel_rfl) (fun _ _ _ h => h) (Or.inl ⟨by rfl, ?_⟩) (by assumption) ?_
    rotate_left 1
    · intro w hSw
      go_simp
      with_reducible rfl
    simp only [Act.put, List.setIfInBounds_toArray, List.set_cons_zero, List.set_cons_succ]
    refine wpAnyH_ready (rs := [10]) (by kernel_rfl) (by simp) ?_
    refine AllReadyH.cons (by simp only [List.getElem?_toArray, List.getElem?_cons_zero, List.getElem?_cons_succ]; rfl) (fun K hK => ?_) AllReadyH.nil
    go_simp
    refine hK.out _ _ trivial (fun hS => ?_)
    clear hK K hS
    refine wpAnyH_done (by kernel_rfl) ?_ _
    refine NoPanic.normal ?_
    have T2 := hid (T1.out.told (u - q))
    obtain ⟨w5, hr5, m5, g5⟩ := T2.out.mp.dropAll T2.out.srt (p := p) (maxLen_le hp)
    rw [HS.out]
    have hc2 := T2.out.c0
    clear hc1 hf1
    go_wp2_with (at_delete; refine wpList_delete rfl (.tmp 17) (.tmp 18) rfl (.map (some m)) (kS p) rfl rfl hr5 ?_)
    go_end0
    exact ⟨rfl, (((Turn.of_below B1.out).then (Turn.set w1 g (o + 1) _ (.inl rfl))).then (Turn.of_grw g5 (.inr rfl))), T2.out.gone g5 m5 (srt_del T2.out.srt _) (Nat.le_trans (del_le L p) T2.out.len)⟩
set_option maxRecDepth 100000 in
set_option maxHeartbeats 4000000 in
theorem tmove_any {w : World} {g o m : Nat} {t : TypeId} {cs : Array Value} {L : Tr} {u room : Nat} (h : TreeS w g o m t cs L u room) (a b : By) (ha : a.length ≤ 4000) (hb : b.length ≤ 4000) (hab : a ≠ b) (hs : (look L a).isSome) :
    Calls Tryz.prog 114 #[.pointer (some ⟨g, o, none⟩), kS a, kS b] w fun e w' => e = .returned (.tuple #[]) ∧ Turn (Two g m) w w' ∧ TreeS w' g o m t cs (mv1 L a b) u room := by
  have hL := h.mp.look (p := a) (maxLen_le ha)
  obtain ⟨w5, e5, m5, g5⟩ := h.drew.mp.store h.srt (by have := h.len; omega) (p := b) (maxLen_le hb) ((look L a).getD n0)
  have hll : (mv1 L a b).length ≤ 100000 := by
    have h1 := len_ins h.srt b ((look L a).getD n0)
    have h2 := len_del (srt_ins h.srt b ((look L a).getD n0)) a
    rw [look_ins, if_neg hab, hs, if_pos rfl] at h2
    have h3 := h.len
    unfold mv1
    split at h1 <;> omega
  have S5 := srt_ins h.srt b ((look L a).getD n0)
  have T5h := grown_has h.drew.has g5 (Ne.symm h.ne)
  obtain ⟨w6, e6, m6, g6⟩ := m5.dropAll S5 (p := a) (maxLen_le ha)
  have hc0 := h.c0
  have hc5 : w5.cell? ⟨g, o, none⟩ = some (.map (some m)) := (T5h.at_ _).trans h.k0
  have T6 : Hid (TreeS w6 g o m t cs (mv1 L a b) u room) := ⟨grown_has T5h g6 (Ne.symm h.ne), h.k0, h.k1, h.k2, m6, srt_del S5 _, h.ne, hll⟩
  have U6 : Hid (Turn (Two g m) w w6) := (((Turn.refl _ w).drew.then (Turn.of_grw g5 (.inr rfl))).then (Turn.of_grw g6 (.inr rfl)))
  obtain ⟨v, HV⟩ : ∃ v, Hid (nodeV ((look L a).getD n0) = v) := ⟨_, rfl⟩
  rw [HV.out] at hL e5
  have hL2 : ∀ W : World, W = w.drew → (Instr.lookup 57 (.map (some m)) (kS a) false).run Tryz.prog W = .ok v W := by
    rintro W rfl
    have := h.drew.mp.look (p := a) (maxLen_le ha)
    rw [HV.out] at this; exact this
  have hL3 := hL2 _ rfl
  have E5 := hid e5
  clear h m5 g5 m6 g6 T5h S5 hll e5 hs hL hL2
  go_enter Tryz.func114, Tryz.ntmps114
  go_wp2
  refine wp_region_noPanic ?_
  refine wp_region_held_drew (S := fun W => W.cell? ⟨g, o, none⟩ = some (.map (some m))) (by kernel_rfl) (hc0) (fun hS => ?_)
  refine wpAnyH_take (i := 0) (v := ?_) (by simp only [List.getElem?_toArray, List.getElem?_cons_zero]; rfl) (by kernel_rfl) (by kernel_rfl) (by kernel_rfl) (fun _ _ _ h => h) (Or.inl ⟨by rfl, ?_⟩) (by assumption) ?_
  rotate_left 1
  · intro w hSw
    go_simp
    with_reducible rfl
  simp only [Act.put, List.setIfInBounds_toArray, List.set_cons_zero, List.set_cons_succ]
  refine wpAnyH_take (i := 1) (v := ?_) (by simp only [List.getElem?_toArray, List.getElem?_cons_zero, List.getElem?_cons_succ]; rfl) (by kernel_rfl) (by kernel_rfl) (by kernel_rfl) (fun _ _ _ h => h) (Or.inl ⟨by rfl, ?_⟩) (by assumption) ?_
  rotate_left 1
  · intro w hSw
    go_simp
    with_reducible rfl
  simp only [Act.put, List.setIfInBounds_toArray, List.set_cons_zero, List.set_cons_succ]
  refine wpAnyH_take (i := 2) (v := ?_) (by simp only [List.getElem?_toArray, List.getElem?_cons_zero, List.getElem?_cons_succ]; rfl) (by kernel_rfl) (by kernel_rfl) (by kernel_rfl) (fun _ _ _ h => h) (Or.inl ⟨by rfl, ?_⟩) (by assumption) ?_
  rotate_left 1
  · intro w hSw
    go_simp
    with_reducible rfl
  simp only [Act.put, List.setIfInBounds_toArray, List.set_cons_zero, List.set_cons_succ]
  refine wpAnyH_take (i := 3) (v := ?_) (by simp only [List.getElem?_toArray, List.getElem?_cons_zero, List.getElem?_cons_succ]; rfl) (by kernel_rfl) (by kernel_rfl) (by kernel_rfl) (fun _ _ _ h => h) (Or.inl ⟨by rfl, ?_⟩) (by assumption) ?_
  rotate_left 1
  · intro w hSw
    have hc := hSw
    go_simp
    with_reducible rfl
  simp only [Act.put, List.setIfInBounds_toArray, List.set_cons_zero, List.set_cons_succ]
  refine wpAnyH_take (i := 4) (v := ?_) (by simp only [List.getElem?_toArray, List.getElem?_cons_zero, List.getElem?_cons_succ]; rfl) (by kernel_rfl) (by kernel_rfl) (by kernel_rfl) (fun _ _ _ h => h) (Or.inl ⟨by rfl, ?_⟩) (by assumption) ?_
  rotate_left 1
  · intro w hSw
    go_simp
    with_reducible rfl
  simp only [Act.put, List.setIfInBounds_toArray, List.set_cons_zero, List.set_cons_succ]
  refine wpAnyH_take (i := 5) (v := ?_) (by simp only [List.getElem?_toArray, List.getElem?_cons_zero, List.getElem?_cons_succ]; rfl) (by kernel_rfl) (by kernel_rfl) (by kernel_rfl) (fun _ _ _ h => h) (Or.inl ⟨by rfl, ?_⟩) (by assumption) ?_
  rotate_left 1
  · intro w hSw
    go_simp
    with_reducible rfl
  simp only [Act.put, List.setIfInBounds_toArray, List.set_cons_zero, List.set_cons_succ]
  refine wpAnyH_take (i := 6) (v := ?_) (by simp only [List.getElem?_toArray, List.getElem?_cons_zero, List.getElem?_cons_succ]; rfl) (by kernel_rfl) (by kernel_rfl) (by kernel_rfl) (fun _ _ _ h => h) (Or.inl ⟨by rfl, ?_⟩) (by assumption) ?_
  rotate_left 1
  · intro w hSw
    go_simp
    with_reducible rfl
  simp only [Act.put, List.setIfInBounds_toArray, List.set_cons_zero, List.set_cons_succ]
  refine wpAnyH_take (i := 7) (v := ?_) (by simp only [List.getElem?_toArray, List.getElem?_cons_zero, List.getElem?_cons_succ]; rfl) (by kernel_rfl) (by kernel_rfl) (by kernel_rfl) (fun _ _ _ h => h) (Or.inl ⟨by rfl, ?_⟩) (by assumption) ?_
  rotate_left 1
  · intro w hSw
    go_simp
    with_reducible rfl
  simp only [Act.put, List.setIfInBounds_toArray, List.set_cons_zero, List.set_cons_succ]
  refine wpAnyH_take (i := 8) (v := ?_) (by simp only [List.getElem?_toArray, List.getElem?_cons_zero, List.getElem?_cons_succ]; rfl) (by kernel_rfl) (by kernel_rfl) (by kernel_rfl) (fun _ _ _ h => h) (Or.inl ⟨by rfl, ?_⟩) (by assumption) ?_
  rotate_left 1
  · intro w hSw
    have hc := hSw
    go_simp
    with_reducible rfl
  simp only [Act.put, List.setIfInBounds_toArray, List.set_cons_zero, List.set_cons_succ]
  refine wpAnyH_take (i := 9) (v := ?_) (by simp only [List.getElem?_toArray, List.getElem?_cons_zero, List.getElem?_cons_succ]; rfl) (by kernel_rfl) (by kernel_rfl) (by kernel_rfl) (fun _ _ _ h => h) (Or.inl ⟨by rfl, ?_⟩) (by assumption) ?_
  rotate_left 1
  · intro w hSw
    go_simp
    with_reducible rfl
  simp only [Act.put, List.setIfInBounds_toArray, List.set_cons_zero, List.set_cons_succ]
  refine wpAnyH_ready (rs := [10]) (by kernel_rfl) (by simp) ?_
  refine AllReadyH.cons (by simp only [List.getElem?_toArray, List.getElem?_cons_zero, List.getElem?_cons_succ]; rfl) (fun K hK => ?_) AllReadyH.nil
  have hl := hL3
  go_simp
  refine hK.out _ _ hc0 (fun hS => ?_)
  clear hK K hS
  refine wpAnyH_ready (rs := [11]) (by kernel_rfl) (by simp) ?_
  refine AllReadyH.cons (by simp only [List.getElem?_toArray, List.getElem?_cons_zero, List.getElem?_cons_succ]; rfl) (fun K hK => ?_) AllReadyH.nil
  refine step_update (by rfl) (.tmp 9) (.tmp 10) (.tmp 16) rfl (.map (some m)) (kS b) v rfl rfl rfl E5.out ?_
  simp only [Act.put, List.setIfInBounds_toArray, List.set_cons_zero, List.set_cons_succ]
  refine hK.out _ _ hc5 (fun hS => ?_)
  clear hK K hS
  refine wpAnyH_done (by kernel_rfl) ?_ _
  refine NoPanic.normal ?_
  go_wp2_with (at_delete; refine wpList_delete rfl (.tmp 20) (.tmp 21) rfl (.map (some m)) (kS a) rfl rfl e6 ?_)
  go_end0
  exact ⟨rfl, U6.out, T6.out⟩
end Go.Proofs.YtlbeemlnbpchgaaGreat
