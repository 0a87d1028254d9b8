/- slices.Insert of one place: what the call does. Conditions: a row of the call's own, fewer than 2 to the 30 places; the new place in a block of its own. -/
import Derived.Test.YtlcdkponegmcdaaDoorDH
namespace Go.Proofs.YtlcdkponegmcdaaDoor
open Go.RowKit Go.Lib
theorem splice_two {L cs q : List Value} {o m : Nat} (ho : o + 2 + cs.length ≤ L.length) (hq : q.length = 2) (hm : cs.length = m) : (splice (splice L (o + 2) cs) o q).take (o + 2 + m) = L.take o ++ (q ++ cs) := by
  unfold splice
  rw [hq]
  have e1 : (L.take (o + 2) ++ (cs ++ L.drop (o + 2 + cs.length))).take o = L.take o := by rw [List.take_append_of_le_length (by rw [List.length_take]; omega), List.take_take, Nat.min_eq_left (by omega)]
  have e2 : (L.take (o + 2) ++ (cs ++ L.drop (o + 2 + cs.length))).drop (o + 2) = cs ++ L.drop (o + 2 + cs.length) := by
    rw [List.drop_append_of_le_length (by rw [List.length_take]; omega), List.drop_of_length_le (by rw [List.length_take]; omega), List.nil_append]
  rw [e1, e2, ← List.append_assoc, ← List.append_assoc, List.take_append_of_le_length (by simp [hq]; omega), ← List.append_assoc]
  exact List.take_of_length_le (by simp [hq]; omega)
theorem splice_two' {L cs q : List Value} {o m : Nat} (ho : o + 2 + cs.length ≤ L.length) (hq : q.length = 2) (hm : cs.length = m) : (splice (splice L o q) (o + 2) cs).take (o + 2 + m) = L.take o ++ (q ++ cs) := by
  unfold splice
  rw [hq]
  have e1 : (L.take o ++ (q ++ L.drop (o + 2))).take (o + 2) = L.take o ++ q := by
    rw [← List.append_assoc]; exact List.take_left' (by simp [hq]; omega)
  rw [e1, ← List.append_assoc, List.take_left' (by simp [hq]; omega), List.append_assoc]
theorem insert_cells (ps : List Pl) (q : Pl) (i : Nat) (L : List Value) (hL : L.take (i * 2) = pcells (ps.take i)) : L.take (i * 2) ++ (pcell q ++ (pcells ps).drop (i * 2)) = pcells (ps.take i ++ q :: ps.drop i) := by
  rw [hL, pcells_drop, ← pcells_one_ q, ← pcells_append, ← pcells_append]; rfl
theorem Has.shape {w : World} {g : Nat} {t : TypeId} {cs : Array Value} (h : Has w g t cs) : w.shape? g = some (t, cs.size) := by
  unfold Has at h
  simp [World.shape?, h]
theorem overlaps_no (w1 : World) (gb g : Nat) (c1 c2 : Array Value) (q1 : Has w1 gb 54 c1) (q2 : Has w1 g 54 c2) (hne : gb ≠ g) (h0 : 0 < c2.size) (o lb cb' : Nat) :
    (callFunc 72 #[.slice (some ⟨gb, 0, none⟩) 1 1, .slice (some ⟨g, o, none⟩) lb cb']).run Tryd.prog w1 = .ok (.value (.bool false)) w1 := by
  rw [run_callFunc_extern Tryd.func72 (by kernel_rfl) (by kernel_rfl) (by kernel_rfl) (e := Extern.SlicesOverlaps.overlaps #[89, 89] #[4]) (by kernel_rfl),
    Lib.run_overlaps_apart w1 89 4 54 Tryd.underlying89 2 (fun w => by kernel_rfl) ⟨gb, 0, none⟩ ⟨g, o, none⟩ 1 1 lb cb' hne 54 54 c1.size c2.size q1.shape q2.shape (by omega) (q1.free 0) (q1.free _)]
  rfl
/-- What insert leaves. -/
def InsPost (B : Nat) (w : World) (v : Value) (ps' : List Pl) (e : Ending) (w' : World) : Prop :=
  ∃ v', e = .returned v' ∧ Pls B w' v' ps' ∧ w.grownBy w' v.ownBlock ∧ (v'.ownBlock = v.ownBlock ∨ v'.ownBlock = some w.heap.size)
set_option maxRecDepth 100000 in
set_option maxHeartbeats 4000000 in
theorem insert_end (B : Nat) (v : Value) (ps : List Pl) (q : Pl) (gb : Nat) (w : World) (h : Pls B w v ps) (hq : Has w gb 54 (pcell q).toArray) (hn : ps.length ≤ 1073741824) (hB : B ≤ w.heap.size) :
    Calls Tryd.prog 60 #[v, .int .i64 (ps.length : Int), .slice (some ⟨gb, 0, none⟩) 1 1] w fun e w' => InsPost B w v (ps.take ps.length ++ q :: ps.drop ps.length) e w' := by
  obtain ⟨A, c, e0⟩ := h.form
  obtain ⟨i0, hi, hz0, hz1, hz2⟩ := info_parts iPl
  obtain ⟨v', w', hr, ho, hg, _, hblk⟩ := run_append_own_at (P := Tryd.prog) w B 89 89 54 i0 _ 2 24 Tryd.underlying89 hi hz0 hz1 hz2 (by simp [Value.cells]) (by omega) v ps.length (pcells ps) h ⟨gb, 0, none⟩ 1 1 (pcell q) (by simp [pcell])
    (fun j u hj => by rw [add_at, Nat.zero_add, hq.at_, List.getElem?_toArray]; exact hj) (pcell_one q) (by unfold maxLen; omega) (by omega) hB
  have HPO : Hid (InsPost B w v (ps.take ps.length ++ q :: ps.drop ps.length) (.returned v') w') := by
    refine ⟨v', rfl, ?_, hg, hblk⟩
    have e1 : ps.take ps.length ++ q :: ps.drop ps.length = ps ++ [q] := by simp
    rw [e1]
    unfold Pls
    rw [pcells_append, pcells_one_, List.length_append]
    exact ho
  have hcap : A = none → c = 0 ∧ ps.length = 0 := by
    intro hA
    rcases h.2 with ⟨h1, h2⟩ | ⟨g, c', cur, h1, _⟩
    · rw [e0] at h1; injection h1 with _ _ h3; exact ⟨h3, h2⟩
    · rw [e0, hA] at h1; injection h1 with h1; cases h1
  have hle : ps.length ≤ c := by
    rcases h.2 with ⟨h1, h2⟩ | ⟨g, c', cur, h1, _, _, h5, _⟩
    · omega
    · rw [e0] at h1; injection h1 with _ _ h3; omega
  obtain ⟨n, HN⟩ : ∃ n, Hid (ps.length = n) := ⟨_, rfl⟩
  have HR := hid hr
  rw [HN.out] at e0 hcap hle hn
  rw [HN.out]
  rw [HN.out] at HPO
  rw [e0] at HR HPO ⊢
  clear h hq hr ho hg hblk e0
  by_cases hc : c = n
  · subst hc
    go_enter Tryd.func60, Tryd.ntmps60
    go_wp2_with (refine wpList_append_run rfl (.tmp 23) (.tmp 24) 89 89 rfl ⟨_, _, HR.out, ?_⟩)
    go_ret
    exact HPO.out
  · go_enter Tryd.func60, Tryd.ntmps60
    go_wp2_with (refine wpList_append_run rfl (.tmp 23) (.tmp 24) 89 89 rfl ⟨_, _, HR.out, ?_⟩)
    go_ret
    exact HPO.out
set_option maxRecDepth 100000 in
set_option maxHeartbeats 4000000 in
theorem insert_room (B g cap gb : Nat) (cur : List Value) (ps : List Pl) (q : Pl) (i : Nat) (w : World) (h : PRow w g cap cur ps) (hq : Has w gb 54 (pcell q).toArray) (hgb : gb ≠ g) (hi : i < ps.length) (hroom : ps.length + 1 ≤ cap) (hn : ps.length ≤ 1073741824) (hB : B ≤ g) :
    Calls Tryd.prog 60 #[.slice (some ⟨g, 0, none⟩) ps.length cap, .int .i64 (i : Int), .slice (some ⟨gb, 0, none⟩) 1 1] w fun e w' => InsPost B w (.slice (some ⟨g, 0, none⟩) ps.length cap) (ps.take i ++ q :: ps.drop i) e w' := by
  obtain ⟨n, HN⟩ : ∃ n, Hid (ps.length = n) := ⟨_, rfl⟩
  have hN := HN.out
  have hc0 : 0 < cur.toArray.size := by simp [h.len]; omega
  obtain ⟨cs, HCS⟩ : ∃ cs, Hid ((pcells ps).drop (i * 2) = cs) := ⟨_, rfl⟩
  have HCL : Hid (cs.length = (n - i) * 2) := by show _ = _; rw [← HCS.out, List.length_drop, pcells_len, HN.out]; omega
  have hlen := h.len
  have hov : ∀ lb cb', (callFunc 72 #[.slice (some ⟨gb, 0, none⟩) 1 1, .slice (some ⟨g, (i + 1) * 2, none⟩) lb cb']).run Tryd.prog w = .ok (.value (.bool false)) w := fun lb cb' => overlaps_no w gb g (pcell q).toArray cur.toArray hq h.has hgb hc0 ((i + 1) * 2) lb cb'
  have hcp1 : ∀ ty dc sc, (Builtin.copy_ #[89, 89] ty #[.slice (some ⟨g, (i + 1) * 2, none⟩) (n - i) dc, .slice (some ⟨g, i * 2, none⟩) (n + 1 - i) sc]).run Tryd.prog w.drew = .ok (goInt ((n - i : Nat) : Int)) (w.drew.setCells g ((i + 1) * 2) cs) := fun ty dc sc =>
    run_copy_row w.drew ty g ((i + 1) * 2) (n - i) dc ⟨g, i * 2, none⟩ (n + 1 - i) sc cs cur (n - i) h.has (by simp only [Nat.min_def]; split <;> omega) HCL.out (by rw [HCL.out]; omega)
      (fun j v hj => by rw [add_at]; rw [← HCS.out, List.getElem?_drop] at hj; exact h.cell _ v hj) (fun v hv => pcells_one ps v (List.mem_of_mem_drop (by rw [HCS.out]; exact hv)))
  obtain ⟨W1, HW1⟩ : ∃ W1, w.drew.setCells g ((i + 1) * 2) cs = W1 := ⟨_, rfl⟩
  have hh1 : Has W1 g 54 (splice cur ((i + 1) * 2) cs).toArray := by rw [← HW1]; exact Has.sets cs _ w.drew cur h.has (by rw [HCL.out]; omega)
  have hg1 : Grw g w W1 := by rw [← HW1]; exact (Grw.of_below (Below.refl _ w).drew).trans (Grw.of_sets g cs ((i + 1) * 2) w.drew)
  have hl1 : (splice cur ((i + 1) * 2) cs).length = cap * 2 := by rw [length_splice _ _ _ (by rw [HCL.out]; omega), hlen]
  have hcp2 : ∀ ty dc, (Builtin.copy_ #[89, 89] ty #[.slice (some ⟨g, i * 2, none⟩) (n + 1 - i) dc, .slice (some ⟨gb, 0, none⟩) 1 1]).run Tryd.prog W1 = .ok (goInt 1) (W1.setCells g (i * 2) (pcell q)) := fun ty dc =>
    run_copy_row W1 ty g (i * 2) (n + 1 - i) dc ⟨gb, 0, none⟩ 1 1 (pcell q) _ 1 hh1 (by simp only [Nat.min_def]; split <;> omega) rfl (by rw [hl1]; simp [pcell]; omega)
      (fun j v hj => by rw [add_at, Nat.zero_add, (hq.grw hg1 hgb).at_, List.getElem?_toArray]; exact hj) (pcell_one q)
  have HPO : Hid (InsPost B w (.slice (some ⟨g, 0, none⟩) n cap) (ps.take i ++ q :: ps.drop i) (.returned (.slice (some ⟨g, 0, none⟩) (n + 1) cap)) (W1.setCells g (i * 2) (pcell q))) := by
    have hnl : (ps.take i ++ q :: ps.drop i).length = n + 1 := by simp; omega
    refine ⟨_, rfl, ?_, hg1.trans (Grw.of_sets g _ _ W1), .inl rfl⟩
    have hp : PRow (W1.setCells g (i * 2) (pcell q)) g cap (splice (splice cur ((i + 1) * 2) cs) (i * 2) (pcell q)) (ps.take i ++ q :: ps.drop i) := by
      refine ⟨Has.sets _ _ W1 _ hh1 (by rw [hl1]; simp [pcell]; omega), by rw [length_splice _ _ _ (by rw [hl1]; simp [pcell]; omega), hl1], by omega, h.max, ?_⟩
      rw [hnl, show (n + 1) * 2 = i * 2 + 2 + (n - i) * 2 by omega, show (i + 1) * 2 = i * 2 + 2 by omega, splice_two (by rw [HCL.out, hlen]; omega) rfl HCL.out, ← HCS.out]
      refine insert_cells ps q i cur ?_
      have ht := h.take
      rw [← pcells_take, ← ht, List.take_take, Nat.min_eq_left (by omega)]
    have := hp.pls hB
    rwa [hnl] at this
  rw [HW1] at hcp1
  rw [HN.out] at hi hroom hn ⊢
  have HC1 := hid hcp1
  have HC2 := hid hcp2
  have mixed : Tryd.prog.follows Departure.mixedOrders = true := by kernel_rfl
  have e1 : IntKind.i64.wrap ((i : Int) + 1) = (i : Int) + 1 := i64in _ (by omega) (by omega)
  have e2 : IntKind.i64.wrap ((n : Int) + 1) = (n : Int) + 1 := i64in _ (by omega) (by omega)
  have f1 : ¬ (i : Int) = (n : Int) := by omega
  have f2 : ¬ (cap : Int) < (n : Int) + 1 := by omega
  have f3 : (0 : Int) ≤ (i : Int) + 1 := by omega
  have f4 : ((i : Int) + 1).toNat = i + 1 := by omega
  have f5 : ((n : Int) + 1).toNat = n + 1 := by omega
  have f6 : ¬ cap = i + 1 := by omega
  have f7 : ¬ cap = i := by omega
  have f8 : ¬ cap = 0 := by omega
  have f9 : (i : Int) + 1 ≤ (n : Int) + 1 := by omega
  have f10 : (n : Int) + 1 ≤ (cap : Int) := by omega
  have f11 : (0 : Int) ≤ (n : Int) + 1 := by omega
  have f12 : (i : Int) ≤ (n : Int) := by omega
  have f13 : (i : Int) ≤ (n : Int) + 1 := by omega
  clear hN h hq hlen hcp1 hcp2 hh1 hg1 hl1 hc0 hi hroom hn HW1
  go_enter Tryd.func60, Tryd.ntmps60
  go_wp2_with (simp only [hov])
  have hcp1 := HC1.out
  clear HC1
  go_region_law_o (fail)
  clear hcp1
  have hcp2 := HC2.out
  go_wp2
  go_ret
  exact HPO.out
end Go.Proofs.YtlcdkponegmcdaaDoor
