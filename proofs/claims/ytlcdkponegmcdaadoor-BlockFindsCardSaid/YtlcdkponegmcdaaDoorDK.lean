/- slices.Delete of one place: what the call does. Conditions: a row of the call's own. -/
import Derived.Test.YtlcdkponegmcdaaDoorDI
namespace Go.Proofs.YtlcdkponegmcdaaDoor
open Go.RowKit Go.Lib
theorem splice_del {L cs z : List Value} {o m : Nat} (ho : o + m + z.length ≤ L.length) (hm : cs.length = m) : (splice (splice L o cs) (o + m) z).take (o + m) = L.take o ++ cs := by
  unfold splice
  have hl : (L.take o ++ (cs ++ L.drop (o + cs.length))).take (o + m) = L.take o ++ cs := by
    rw [← List.append_assoc]; exact List.take_left' (by simp [hm]; omega)
  rw [hl, List.take_left' (by simp [hm]; omega)]
/-- An append as one step of a region that draws its order. -/
theorem step_append_run {P : Program} {ops : Array Oper} {o : Oper} {a : Act} {w : World} {K : Act → World → Prop} {Q : Exit → Act → World → Prop} {E : Prop}
    (hg : o.guard = none) (s x : Operand) (sT xT : TypeId) (hop : o.op = Op.call { callee := Callee.builtin Builtin.append, args := #[s, x], argTypes := #[sT, xT] })
    (v u : Value) (hs : a.eval s = v) (hx : a.eval x = u) {v' : Value} {w' : World} (hr : (Builtin.append_ #[sT, xT] o.type #[v, u]).run P w = .ok v' w') (hK : K (a.put o.dst v') w') :
    if Region.wanted o (yielded ops a.tmps) = true then Oper.wp P o a w K Q else E := by
  have hw : Region.wanted o (yielded ops a.tmps) = true := by simp [Region.wanted, hg]
  rw [if_pos hw]
  unfold Oper.wp
  simp [execOp, hop, resolve, invoke, builtin, hs, hx, hr, Result.andThen]
  exact hK
set_option maxRecDepth 100000 in
set_option maxHeartbeats 4000000 in
theorem delete_any (B g cap : Nat) (cur : List Value) (ps : List Pl) (i : Nat) (w : World) (h : PRow w g cap cur ps) (hi : i < ps.length) (hn : ps.length ≤ 1073741824) (hB : B ≤ g) :
    Calls Tryd.prog 59 #[.slice (some ⟨g, 0, none⟩) ps.length cap, .int .i64 (i : Int), .int .i64 ((i : Int) + 1)] w fun e w' =>
      ∃ v', e = .returned v' ∧ Pls B w' v' (ps.take i ++ ps.drop (i + 1)) ∧ Grw g w w' ∧ v'.ownBlock = some g := by
  obtain ⟨n, HN⟩ : ∃ n, Hid (ps.length = n) := ⟨_, rfl⟩
  have hN := HN.out
  have hle := h.le
  have hlen := h.len
  obtain ⟨cs, HCS⟩ : ∃ cs, Hid ((pcells ps).drop ((i + 1) * 2) = cs) := ⟨_, rfl⟩
  have HCL : Hid (cs.length = (n - (i + 1)) * 2) := by show _ = _; rw [← HCS.out, List.length_drop, pcells_len, HN.out]; omega
  obtain ⟨i0, hi0, hz0, hz1, hz2⟩ := info_parts iPl
  have HEX : ∃ A2, Hid ((if cap = i + 1 then some (⟨g, 0, none⟩ : Addr) else some ⟨g, (i + 1) * 2, none⟩) = some A2) ∧ (∀ j u, cs[j]? = some u → w.drew.cell? (A2.add j) = some u) := by
    by_cases hc : cap = i + 1
    · refine ⟨_, by show _ = _; rw [if_pos hc], fun j u hj => ?_⟩
      have h0 : cs = [] := List.eq_nil_of_length_eq_zero (by rw [HCL.out]; omega)
      rw [h0] at hj; simp at hj
    · refine ⟨_, by show _ = _; rw [if_neg hc], fun j u hj => ?_⟩
      rw [add_at]
      rw [← HCS.out, List.getElem?_drop] at hj
      exact h.cell _ u hj
  obtain ⟨A2, HA2, hsrc⟩ := HEX
  have hap : ∀ ty (c2 : Nat), (Builtin.append_ #[89, 89] ty #[.slice (some ⟨g, 0, none⟩) i cap, .slice (some A2) (n - (i + 1)) c2]).run Tryd.prog w.drew =
      .ok (.slice (some ⟨g, 0, none⟩) (i + (n - (i + 1))) cap) (w.drew.setCells g (0 + i * i0.size) cs) := fun ty c2 =>
    run_append_room_cells (P := Tryd.prog) w.drew 89 ty 54 i0 Tryd.underlying89 hi0 g 0 i cap A2 (n - (i + 1)) c2 cs (by rw [HCL.out, hz1]) hsrc (fun u hu => pcells_one ps u (List.mem_of_mem_drop (by rw [HCS.out]; exact hu))) (by omega)
      (fun j hj => by show (w.cell? _).isSome = true; rw [h.has.at_, hz1]; rw [HCL.out] at hj; simp; omega) (fun j _ => h.has.free _)
  rw [hz1, show 0 + i * 2 = i * 2 by omega, show i + (n - (i + 1)) = n - 1 by omega] at hap
  obtain ⟨W1, HW1⟩ : ∃ W1, w.drew.setCells g (i * 2) cs = W1 := ⟨_, rfl⟩
  have hh1 : Has W1 g 54 (splice cur (i * 2) cs).toArray := by rw [← HW1]; exact Has.sets cs _ w.drew cur h.has (by rw [HCL.out]; omega)
  have hg1 : Grw g w W1 := by rw [← HW1]; exact (Grw.of_below (Below.refl _ w).drew).trans (Grw.of_sets g cs _ w.drew)
  have hl1 : (splice cur (i * 2) cs).length = cap * 2 := by rw [length_splice _ _ _ (by rw [HCL.out]; omega), hlen]
  have HEC : ∃ A3, Hid ((if cap = n - 1 then some (⟨g, 0, none⟩ : Addr) else some ⟨g, (n - 1) * 2, none⟩) = some A3) ∧ A3 = ⟨g, (n - 1) * 2, none⟩ := ⟨⟨g, (n - 1) * 2, none⟩, by show _ = _; rw [if_neg (by omega)], rfl⟩
  have hcl : ∀ ty c3, (Builtin.clear_ #[89] ty #[.slice (some ⟨g, (n - 1) * 2, none⟩) 1 c3]).run Tryd.prog W1 = .ok (.tuple #[]) (W1.setCells g ((n - 1) * 2) [.string ⟨#[]⟩, .int .i64 0]) := fun ty c3 => by
    have hz : ∀ w, (zeroValue 54).run Tryd.prog w = .ok (.agg #[.string ⟨#[]⟩, .int .i64 0]) w := fun w => by kernel_rfl
    have hst := run_storeCells_cells (P := Tryd.prog) g ((n - 1) * 2) [.string ⟨#[]⟩, .int .i64 0] 0 W1 (fun j hj => by rw [hh1.at_]; simp at hj; simp [hl1]; omega) (fun j _ => hh1.free _) (fun v hv => by simp at hv; rcases hv with rfl | rfl <;> rfl)
    rw [Nat.add_zero] at hst
    have hzc : (Builtin.zeroCells (Value.agg #[.string ⟨#[]⟩, .int .i64 0]).cells 1).toList = [Value.string ⟨#[]⟩, .int .i64 0] := by simp [Builtin.zeroCells, Value.cells]; rfl
    simp [Builtin.clear_, run_underlying Tryd.underlying89, hz, hzc, hst, Result.andThen]
  have HPO : Hid (∃ v', Ending.returned (.slice (some ⟨g, 0, none⟩) (n - 1) cap) = .returned v' ∧ Pls B (W1.setCells g ((n - 1) * 2) [.string ⟨#[]⟩, .int .i64 0]) v' (ps.take i ++ ps.drop (i + 1)) ∧ Grw g w (W1.setCells g ((n - 1) * 2) [.string ⟨#[]⟩, .int .i64 0]) ∧ v'.ownBlock = some g) := by
    have hnl : (ps.take i ++ ps.drop (i + 1)).length = n - 1 := by simp; omega
    refine ⟨_, rfl, ?_, hg1.trans (Grw.of_sets g _ _ W1), rfl⟩
    have hp : PRow (W1.setCells g ((n - 1) * 2) [.string ⟨#[]⟩, .int .i64 0]) g cap (splice (splice cur (i * 2) cs) ((n - 1) * 2) [.string ⟨#[]⟩, .int .i64 0]) (ps.take i ++ ps.drop (i + 1)) := by
      refine ⟨Has.sets _ _ W1 _ hh1 (by rw [hl1]; simp; omega), by rw [length_splice _ _ _ (by rw [hl1]; simp; omega), hl1], by omega, h.max, ?_⟩
      rw [hnl, show (n - 1) * 2 = i * 2 + (n - (i + 1)) * 2 by omega, splice_del (by rw [hlen]; simp; omega) HCL.out, ← HCS.out, pcells_drop, pcells_append]
      congr 1
      have ht := h.take
      rw [← pcells_take, ← ht, List.take_take, Nat.min_eq_left (by omega)]
    have := hp.pls hB
    rwa [hnl] at this
  rw [HW1] at hap
  rw [HN.out] at hi hn hle ⊢
  have mixed : Tryd.prog.follows Departure.mixedOrders = true := by kernel_rfl
  have HA3 := HA2.out
  have HAP := hid hap
  have HCLR := hid hcl
  have q1 : ¬ (i : Int) = (i : Int) + 1 := by omega
  have q2 : (i : Int) + 1 ≤ (n : Int) := by omega
  have q3 : (n : Int) ≤ (cap : Int) := by omega
  have q4 : ((i : Int) + 1).toNat = i + 1 := by omega
  have q5 : ¬ cap = n - 1 := by omega
  have q6 : n - (n - 1) = 1 := by omega
  have q7 : ((n - 1 : Nat) : Int) ≤ (n : Int) := by omega
  have q8 : (i : Int) ≤ (cap : Int) := by omega
  have q9 : (0 : Int) ≤ (i : Int) + 1 := by omega
  have q10 : (i : Int) ≤ (i : Int) + 1 := by omega
  have q11 : (i : Int) ≤ (n : Int) := by omega
  clear h hsrc hap hcl hh1 hg1 hl1 hN hlen HEC HA2 hi0 hz0 hz1 hz2 hle
  by_cases hc : cap = i + 1
  · rw [if_pos hc] at HA3
    obtain rfl := Option.some.inj HA3
    subst hc
    have hcl := HCLR.out
    clear HCLR HA3
    go_enter Tryd.func59, Tryd.ntmps59
    go_wp2
    go_region_law_o (refine step_append_run rfl (.tmp 22) (.tmp 25) 89 89 rfl (.slice (some ⟨g, 0, none⟩) i (i + 1)) (.slice (some ⟨g, 0, none⟩) (n - (i + 1)) 0) rfl rfl (HAP.out _ _) ?_)
    go_wp2
    go_ret
    exact HPO.out
  · rw [if_neg hc] at HA3
    obtain rfl := Option.some.inj HA3
    have hcl := HCLR.out
    clear HCLR HA3
    go_enter Tryd.func59, Tryd.ntmps59
    go_wp2
    go_region_law_o (refine step_append_run rfl (.tmp 22) (.tmp 25) 89 89 rfl (.slice (some ⟨g, 0, none⟩) i cap) (.slice (some ⟨g, (i + 1) * 2, none⟩) (n - (i + 1)) (cap - (i + 1))) rfl rfl (HAP.out _ _) ?_)
    go_wp2
    go_ret
    exact HPO.out
end Go.Proofs.YtlcdkponegmcdaaDoor
