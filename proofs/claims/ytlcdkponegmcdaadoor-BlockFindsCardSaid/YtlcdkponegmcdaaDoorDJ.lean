/- slices.Insert of one place where there is no room: what the call does. Conditions: a row of the call's own, fewer than 2 to the 30 places; the new place in a block of its own. -/
import Derived.Test.YtlcdkponegmcdaaDoorDI
namespace Go.Proofs.YtlcdkponegmcdaaDoor
open Go.RowKit Go.Lib
theorem zrow_len (ps : List Pl) (i k c : Nat) (hi : i ≤ ps.length) : (((pcells ps).take (i * 2)).toArray ++ Builtin.zeroCells (Value.agg #[.string ⟨#[]⟩, .int .i64 0]).cells k ++ Builtin.zeroCells (Value.agg #[.string ⟨#[]⟩, .int .i64 0]).cells c).toList.length = (i + k + c) * 2 := by
  rw [Array.length_toList, Array.size_append, Array.size_append, size_zeroCells, size_zeroCells]
  simp [Value.cells, pcells_len]
  try omega
set_option maxRecDepth 100000 in
set_option maxHeartbeats 4000000 in
theorem insert_grow (B g cap gb : Nat) (cur : List Value) (ps : List Pl) (q : Pl) (i : Nat) (w : World) (h : PRow w g cap cur ps) (hq : Has w gb 54 (pcell q).toArray) (hi : i < ps.length) (hroom : cap < ps.length + 1) (hn : ps.length ≤ 1073741824) (hB : B ≤ w.heap.size) :
    Calls Tryd.prog 60 #[.slice (some ⟨g, 0, none⟩) ps.length cap, .int .i64 (i : Int), .slice (some ⟨gb, 0, none⟩) 1 1] w fun e w' => InsPost B w (.slice (some ⟨g, 0, none⟩) ps.length cap) (ps.take i ++ q :: ps.drop i) e w' := by
  obtain ⟨n, HN⟩ : ∃ n, Hid (ps.length = n) := ⟨_, rfl⟩
  have hN := HN.out
  obtain ⟨cs, HCS⟩ : ∃ cs, Hid ((pcells ps).drop (i * 2) = cs) := ⟨_, rfl⟩
  have HCL : Hid (cs.length = (n - i) * 2) := by show _ = _; rw [← HCS.out, List.length_drop, pcells_len, HN.out]; omega
  have hcn : cap = n := by have := h.le; omega
  subst hcn
  obtain ⟨i0, hi0, hz0, hz1, hz2⟩ := info_parts iPl
  have hold : (Builtin.firstCells i0.size i (.slice (some ⟨g, 0, none⟩) i cap)).run Tryd.prog w.drew = .ok ((pcells ps).take (i * 2)).toArray w.drew := by
    rw [hz1]
    exact run_firstCells_some w.drew 2 i ⟨g, 0, none⟩ i cap _ (by rw [List.length_take, pcells_len]; omega) (fun j v hj => by
      rw [add_at, Nat.zero_add]
      rw [List.getElem?_take] at hj
      split at hj
      · exact h.cell j v hj
      · cases hj)
  have hap : ∀ ty, (Builtin.append_ #[89, 3] ty #[.slice (some ⟨g, 0, none⟩) i cap, .int .i64 ((cap : Int) + 1 - (i : Int))]).run Tryd.prog w =
      .ok (.slice (some ⟨w.heap.size, 0, none⟩) (cap + 1) (grownCap w (cap + 1) cap 54)) (w.drew.alloc (.cells (((pcells ps).take (i * 2)).toArray ++ Builtin.zeroCells (Value.agg #[.string ⟨#[]⟩, .int .i64 0]).cells (cap + 1 - i) ++ Builtin.zeroCells (Value.agg #[.string ⟨#[]⟩, .int .i64 0]).cells (grownCap w (cap + 1) cap 54 - (cap + 1))) 54)) := fun ty => by
    have hh := Lib.run_append_grow_zeros (P := Tryd.prog) w 89 3 ty 54 i0 _ .i64 .i64 Tryd.underlying89 Tryd.underlying3 hi0 hz0 (some ⟨g, 0, none⟩) i cap _ hold (cap + 1 - i) (by omega) (by omega) (by omega) (by omega) (by rw [hz2]; omega) (by rw [hz2, show i + (cap + 1 - i) = cap + 1 by omega]; exact growslice_fits (by omega) (by omega))
    rw [show i + (cap + 1 - i) = cap + 1 by omega, show (((cap + 1 - i : Nat)) : Int) = (cap : Int) + 1 - (i : Int) by omega] at hh
    exact hh
  obtain ⟨G, HG⟩ : ∃ G, Hid (grownCap w (cap + 1) cap 54 = G) := ⟨_, rfl⟩
  have hge := grownCap_ge w (cap + 1) cap 54
  have hgm := grownCap_le_maxLen w (cap + 1) cap 54 (by unfold maxLen; omega)
  rw [HG.out] at hge hgm hap
  obtain ⟨ROW, HROW⟩ : ∃ ROW : List Value, Hid ((((pcells ps).take (i * 2)).toArray ++ Builtin.zeroCells (Value.agg #[.string ⟨#[]⟩, .int .i64 0]).cells (cap + 1 - i) ++ Builtin.zeroCells (Value.agg #[.string ⟨#[]⟩, .int .i64 0]).cells (G - (cap + 1))).toList = ROW) := ⟨_, rfl⟩
  have hrl : ROW.length = G * 2 := by rw [← HROW.out, zrow_len ps i _ _ (by omega)]; omega
  have hrt : ROW.take (i * 2) = pcells (ps.take i) := by
    rw [← HROW.out]
    simp only [Array.toList_append, List.append_assoc]
    rw [List.take_left' (by rw [List.length_take, pcells_len]; omega), pcells_take]
  have hra : (((pcells ps).take (i * 2)).toArray ++ Builtin.zeroCells (Value.agg #[.string ⟨#[]⟩, .int .i64 0]).cells (cap + 1 - i) ++ Builtin.zeroCells (Value.agg #[.string ⟨#[]⟩, .int .i64 0]).cells (G - (cap + 1))) = ROW.toArray := by rw [← HROW.out]
  rw [hra] at hap
  obtain ⟨W1, HW1⟩ : ∃ W1, w.drew.alloc (.cells ROW.toArray 54) = W1 := ⟨_, rfl⟩
  have hn1 : Has W1 w.heap.size 54 ROW.toArray := by rw [← HW1]; exact Has.fresh w.drew 54 ROW.toArray
  have hb1 : Below w.heap.size w W1 := by rw [← HW1]; exact (Below.refl _ w).drew.alloc (Nat.le_refl _) _
  have hq1 : Has W1 gb 54 (pcell q).toArray := hq.on hb1
  have hs1 : Has W1 g 54 cur.toArray := h.has.on hb1
  have hgbl := hq.inside
  have hgl := h.has.inside
  have hcp1 : ∀ ty dc, (Builtin.copy_ #[89, 89] ty #[.slice (some ⟨w.heap.size, i * 2, none⟩) (cap + 1 - i) dc, .slice (some ⟨gb, 0, none⟩) 1 1]).run Tryd.prog W1 = .ok (goInt 1) (W1.setCells w.heap.size (i * 2) (pcell q)) := fun ty dc =>
    run_copy_row W1 ty w.heap.size (i * 2) (cap + 1 - i) dc ⟨gb, 0, none⟩ 1 1 (pcell q) _ 1 hn1 (by simp only [Nat.min_def]; split <;> omega) rfl (by rw [hrl]; simp [pcell]; omega)
      (fun j v hj => by rw [add_at, Nat.zero_add, hq1.at_, List.getElem?_toArray]; exact hj) (pcell_one q)
  obtain ⟨W2, HW2⟩ : ∃ W2, W1.setCells w.heap.size (i * 2) (pcell q) = W2 := ⟨_, rfl⟩
  have hn2 : Has W2 w.heap.size 54 (splice ROW (i * 2) (pcell q)).toArray := by rw [← HW2]; exact Has.sets _ _ W1 ROW hn1 (by rw [hrl]; simp [pcell]; omega)
  have hg2 : Grw w.heap.size W1 W2 := by rw [← HW2]; exact Grw.of_sets _ _ _ W1
  have hs2 : Has W2 g 54 cur.toArray := hs1.grw hg2 (by omega)
  have hl2 : (splice ROW (i * 2) (pcell q)).length = G * 2 := by rw [length_splice _ _ _ (by rw [hrl]; simp [pcell]; omega), hrl]
  have hcp2 : ∀ ty dc sc, (Builtin.copy_ #[89, 89] ty #[.slice (some ⟨w.heap.size, (i + 1) * 2, none⟩) (cap - i) dc, .slice (some ⟨g, i * 2, none⟩) (cap - i) sc]).run Tryd.prog W2.drew = .ok (goInt ((cap - i : Nat) : Int)) (W2.drew.setCells w.heap.size ((i + 1) * 2) cs) := fun ty dc sc =>
    run_copy_row W2.drew ty w.heap.size ((i + 1) * 2) (cap - i) dc ⟨g, i * 2, none⟩ (cap - i) sc cs _ (cap - i) hn2 (by simp only [Nat.min_def]; split <;> omega) HCL.out (by rw [HCL.out, hl2]; omega)
      (fun j v hj => by
        rw [add_at]; rw [← HCS.out, List.getElem?_drop] at hj
        have := h.cell _ v hj
        rw [h.has.at_] at this
        exact (hs2.at_ _).trans this) (fun v hv => pcells_one ps v (List.mem_of_mem_drop (by rw [HCS.out]; exact hv)))
  have HPO : Hid (InsPost B w (.slice (some ⟨g, 0, none⟩) cap cap) (ps.take i ++ q :: ps.drop i) (.returned (.slice (some ⟨w.heap.size, 0, none⟩) (cap + 1) G)) (W2.drew.setCells w.heap.size ((i + 1) * 2) cs)) := by
    have hnl : (ps.take i ++ q :: ps.drop i).length = cap + 1 := by simp; omega
    have hb3 : Below w.heap.size w (W2.drew.setCells w.heap.size ((i + 1) * 2) cs) := (hb1.grown hg2 (by have := hb1.size; omega) (fun k hk => by injection hk with hk; omega)).drew.grown (Grw.of_sets _ cs _ W2.drew) (by have := hg2.size; have := hb1.size; show _ ≤ W2.heap.size; omega) (fun k hk => by injection hk with hk; omega)
    refine ⟨_, rfl, ?_, ⟨hb3.os, hb3.tape, hb3.output, hb3.size, fun k hk _ => hb3.block k hk⟩, .inr rfl⟩
    have hp : PRow (W2.drew.setCells w.heap.size ((i + 1) * 2) cs) w.heap.size G (splice (splice ROW (i * 2) (pcell q)) ((i + 1) * 2) cs) (ps.take i ++ q :: ps.drop i) := by
      refine ⟨Has.sets _ _ W2.drew _ hn2 (by rw [hl2, HCL.out]; omega), by rw [length_splice _ _ _ (by rw [hl2, HCL.out]; omega), hl2], by omega, hgm, ?_⟩
      rw [hnl, show (cap + 1) * 2 = i * 2 + 2 + (cap - i) * 2 by omega, show (i + 1) * 2 = i * 2 + 2 by omega, splice_two' (by rw [HCL.out, hrl]; omega) rfl HCL.out, ← HCS.out]
      exact insert_cells ps q i ROW hrt
    have := hp.pls hB
    rwa [hnl] at this
  rw [HW1] at hap
  rw [HW2] at hcp1
  have HC2 := hid hcp2
  have HAP := hid hap
  rw [HN.out] at hi hroom hn ⊢
  have mixed : Tryd.prog.follows Departure.mixedOrders = true := by kernel_rfl
  have e1 : IntKind.i64.wrap ((i : Int) + 1) = (i : Int) + 1 := i64in _ (by omega) (by omega)
  have e2 : IntKind.i64.wrap ((cap : Int) + 1) = (cap : Int) + 1 := i64in _ (by omega) (by omega)
  have e3 : IntKind.i64.wrap ((cap : Int) + 1 - (i : Int)) = (cap : Int) + 1 - (i : Int) := i64in _ (by omega) (by omega)
  have f1 : ¬ (i : Int) = (cap : Int) := by omega
  have f3 : (0 : Int) ≤ (i : Int) + 1 := by omega
  have f4 : ((i : Int) + 1).toNat = i + 1 := by omega
  have f6 : ¬ G = i + 1 := by omega
  have f7 : ¬ cap = i := by omega
  have f8 : ¬ cap = 0 := by omega
  have f14 : ¬ G = i := by omega
  have f9 : (i : Int) + 1 ≤ (cap : Int) + 1 := by omega
  have f12 : (i : Int) ≤ (cap : Int) := by omega
  have f13 : (i : Int) ≤ (cap : Int) + 1 := by omega
  have f15 : cap + 1 - (i + 1) = cap - i := by omega
  clear hap hcp2 h hq hold hn1 hb1 hq1 hs1 hgbl hgl hn2 hg2 hs2 hl2 hrl hrt hra hge hgm hi hroom hn HW1 HW2 hN
  go_enter Tryd.func60, Tryd.ntmps60
  go_wp2_with (refine wpList_append_run rfl (.tmp 34) (.tmp 39) 89 3 rfl ⟨_, _, HAP.out _, ?_⟩)
  have hcp2 := HC2.out
  clear HC2 hcp1
  go_region_law_o (fail)
  clear hcp2
  go_wp2
  go_ret
  exact HPO.out
end Go.Proofs.YtlcdkponegmcdaaDoor
