/- Versions: a slice literal of rows; vector.Cmp: what the call does. Conditions: sixteen counters each. -/
import Derived.Test.YtmmbnobbpnndkaaVC
import Derived.Great.BuildSlice
namespace Go.Proofs.Ytmmbnobbpnndkaa
open Go.RowKit
def rowsA (ls : List (List (BitVec 32))) : Array Value := (ls.flatMap fun l => l.map V32).toArray
theorem infoVec : (Try.prog.info? 24).map (fun i => (i.size, i.zero)) = some (16, some (.agg zeroA)) := by kernel_rfl
theorem zip_vecs (ls : List (List (BitVec 32))) : ((ls.map fun l => Value.agg (vec l)).flatMap fun v => v.cells.toList).toArray = rowsA ls := by
  rw [rowsA, List.flatMap_map]; rfl
theorem run_build_vecs (w : World) (ls : List (List (BitVec 32))) (n : Nat) (parts : Array (Nat × Value)) (hn : ls.length = n) (h0 : 0 < n) (hm : n ≤ 1000) (hl : ∀ l ∈ ls, l.length = 16)
    (hp : parts.toList = ((ls.map fun l => Value.agg (vec l)).zipIdx 0).map fun x => (x.2, x.1)) :
    (Instr.buildSlice 37 n parts).run Try.prog w = .ok (.slice (some ⟨w.heap.size, 0, none⟩) n n) (w.alloc (.cells (rowsA ls) 24)) := by
  have hI := infoVec
  cases hie : Try.prog.info? 24 with
  | none => rw [hie] at hI; cases hI
  | some ie =>
    rw [hie] at hI
    simp only [Option.map_some, Option.some.injEq, Prod.mk.injEq] at hI
    refine run_buildSlice (P := Try.prog) w 37 24 n parts _ ie _ Try.underlying37 hie hI.2 (by rw [hI.1]; omega) (by rw [hI.1]; omega) ?_
    rw [hp, hI.1, ← zip_vecs]
    refine Great.fill_whole (by omega) _ _ (fun v hv => ?_) (by simp [hn])
    obtain ⟨l, hlm, rfl⟩ := List.mem_map.1 hv
    show (vec l).size = 16
    rw [vec_size, hl l hlm]
theorem wp_build_vecs {o : Oper} {a : Act} {w : World} {K : Act → World → Prop} {Q : Exit → Act → World → Prop} (ls : List (List (BitVec 32))) (n : Nat) (parts : Array (Nat × Operand)) (ho : o.op = .buildSlice 37 n parts)
    (hn : ls.length = n) (h0 : 0 < n) (hm : n ≤ 1000) (hl : ∀ l ∈ ls, l.length = 16)
    (hp : (parts.toList.map fun (i, x) => (i, a.eval x)) = ((ls.map fun l => Value.agg (vec l)).zipIdx 0).map fun x => (x.2, x.1))
    (h : K (a.put o.dst (.slice (some ⟨w.heap.size, 0, none⟩) n n)) (w.alloc (.cells (rowsA ls) 24))) : o.wp Try.prog a w K Q := by
  unfold Oper.wp execOp
  simp only [ho, Sem.run_bind, run_build_vecs w ls n _ hn h0 hm hl (Array.toList_map.trans hp), Result.andThen_ok]
  exact h
/-- A slice literal of rows, behind a guard that lets it by or none. -/
theorem wpList_build_vecs {ops : Array Oper} {Q : Exit → Act → World → Prop} {a : Act} {w : World} {rest : List Oper} {o : Oper} (hw : Region.wanted o (yielded ops a.tmps) = true)
    (ls : List (List (BitVec 32))) (n : Nat) (parts : Array (Nat × Operand)) (ho : o.op = .buildSlice 37 n parts)
    (hn : ls.length = n) (h0 : 0 < n) (hm : n ≤ 1000) (hl : ∀ l ∈ ls, l.length = 16)
    (hp : (parts.toList.map fun (i, x) => (i, a.eval x)) = ((ls.map fun l => Value.agg (vec l)).zipIdx 0).map fun x => (x.2, x.1))
    (h : wpList Try.prog ops Q rest (a.put o.dst (.slice (some ⟨w.heap.size, 0, none⟩) n n)) (w.alloc (.cells (rowsA ls) 24))) : wpList Try.prog ops Q (o :: rest) a w :=
  wpList_wanted hw fun _ hK => wp_build_vecs ls n parts ho hn h0 hm hl hp (hK _ _ h)
theorem rows_range (w : World) (ls : List (List (BitVec 32))) (hl : ∀ l ∈ ls, l.length = 16) (g : Nat) (h : Has w g 24 (rowsA ls)) (k : Nat) (hk : k < ls.length) : w.rangeAt g (0 + k * 16) ((rowAt ls k).map V32) := by
  intro j v hv
  rw [h.at_, Nat.zero_add, rowsA]
  have hlen : (rowAt ls k).length = 16 := by rw [rowAt, List.getD, List.getElem?_eq_getElem hk]; exact hl _ (List.getElem_mem _)
  have hj : j < 16 := by
    rcases Nat.lt_or_ge j 16 with h | h
    · exact h
    · rw [List.getElem?_eq_none (by simp [hlen]; omega)] at hv; cases hv
  have hg := Great.flat_get (s := 16) (by omega) (ls.map fun l => Value.agg (vec l)) (fun v hv => by
    obtain ⟨l, hlm, rfl⟩ := List.mem_map.1 hv
    show (vec l).size = 16
    rw [vec_size, hl l hlm]) (k * 16 + j)
  rw [show (k * 16 + j) / 16 = k by omega, show (k * 16 + j) % 16 = j by omega, List.getElem?_map, List.getElem?_eq_getElem hk] at hg
  rw [List.getElem?_toArray, ← hv]
  have e : (ls.flatMap fun l => l.map V32) = ((ls.map fun l => Value.agg (vec l)).flatMap fun v => v.cells.toList) := by rw [List.flatMap_map]; rfl
  rw [e, hg]
  show (vec ls[k])[j]? = _
  rw [vec, List.getElem?_toArray, rowAt, List.getD, List.getElem?_eq_getElem hk]
  rfl
theorem vrows_fresh (w : World) (ls : List (List (BitVec 32))) (hl : ∀ l ∈ ls, l.length = 16) : VRows (w.alloc (.cells (rowsA ls) 24)) (some ⟨w.heap.size, 0, none⟩) ls w.heap.size 0 :=
  ⟨fun _ => rfl, fun k hk => rows_range _ ls hl _ (Has.fresh w 24 (rowsA ls)) k hk, fun k hk => by rw [rowAt, List.getD, List.getElem?_eq_getElem hk]; exact hl _ (List.getElem_mem _), fun _ => by simp⟩
theorem two16 {a b : List (BitVec 32)} (ha : a.length = 16) (hb : b.length = 16) : ∀ l ∈ [a, b], l.length = 16 := by
  intro l hl
  simp only [List.mem_cons, List.not_mem_nil, or_false] at hl
  rcases hl with rfl | rfl
  · exact ha
  · exact hb
theorem vrows_at (w : World) (ls : List (List (BitVec 32))) (hl : ∀ l ∈ ls, l.length = 16) (g : Nat) (hg : g = w.heap.size) : VRows (w.alloc (.cells (rowsA ls) 24)) (some ⟨g, 0, none⟩) ls g 0 := by
  subst hg; exact vrows_fresh w ls hl
/-- Merge of rows that lie in a block. -/
theorem merge_lit (ls : List (List (BitVec 32))) (n g : Nat) (hn : ls.length = n) (hm : n ≤ 1000) (m : List (BitVec 32)) (hM : mergeAll ls n = m) (w : World) (hr : VRows w (some ⟨g, 0, none⟩) ls g 0) :
    Calls Try.prog 12 #[.slice (some ⟨g, 0, none⟩) n n] w fun e w' => e = .returned (.agg (vec m)) ∧ Below w.heap.size w w' :=
  (merge_any ls _ n n g 0 _ hn (by omega) hr).mono fun _ _ ⟨h1, h2⟩ => ⟨by rw [h1, hM], h2⟩
theorem eqG : Try.prog.eqGuardType Try.prog.depth 24 = false := by kernel_rfl
/-- '==' of two rows, behind a guard that lets it by or none. -/
theorem wpList_eql_vec {ops : Array Oper} {Q : Exit → Act → World → Prop} {a : Act} {w : World} {rest : List Oper} {o : Oper} (hw : Region.wanted o (yielded ops a.tmps) = true)
    (x y : Operand) (ho : o.op = .binOp .eql 24 x y 24) (l m : List (BitVec 32)) (hx : a.eval x = .agg (vec l)) (hy : a.eval y = .agg (vec m)) (hl : l.length = 16) (hm : m.length = 16) (b : Bool) (hb : sameV l m = b)
    (h : wpList Try.prog ops Q rest (a.put o.dst (.bool b)) w) : wpList Try.prog ops Q (o :: rest) a w :=
  wpList_wanted hw fun _ hK => by
    unfold Oper.wp execOp
    simp only [ho, hx, hy, Sem.run_bind, run_eqGuard_agg w .eql 24 x y _ _ eqG, run_vec_eql l m hl hm w, Result.andThen_ok, hb]
    exact hK _ _ h
def cmpV (a b : List (BitVec 32)) : Int := if a = b then 0 else if a = mergeAll [a, b] 2 then 1 else if b = mergeAll [a, b] 2 then -1 else 2
theorem cmp_boxes (w w1 : World) (a b m : List (BitVec 32)) (R : Array Value) (hb : Below (((w.alloc (.cells (vec a) 24)).alloc (.cells (vec b) 24)).alloc (.cells R 24)).heap.size (((w.alloc (.cells (vec a) 24)).alloc (.cells (vec b) 24)).alloc (.cells R 24)) w1) :
    ∃ W2, (w1.alloc (.cells zeroA 24)).setRow w1.heap.size (vec m) = W2 ∧
    Hid (Below w.heap.size w W2) ∧ Hid (Has W2 w.heap.size 24 (vec a)) ∧ Hid (Has W2 (w.heap.size + 1) 24 (vec b)) ∧ Hid (Has W2 w1.heap.size 24 (vec m)) := by
  have hs := hb.size
  simp at hs
  have h1 : Has (((w.alloc (.cells (vec a) 24)).alloc (.cells (vec b) 24)).alloc (.cells R 24)) w.heap.size 24 (vec a) := ((Has.fresh w 24 (vec a)).more _).more _
  have h2 : Has (((w.alloc (.cells (vec a) 24)).alloc (.cells (vec b) 24)).alloc (.cells R 24)) (w.heap.size + 1) 24 (vec b) := (Has.fresh' (w.alloc _) 24 (vec b) (by simp)).more _
  have k1 := h1.kept hb (by simp; omega)
  have k2 := h2.kept hb (by simp)
  refine ⟨_, rfl, ?_, ?_, ?_, ?_⟩
  · exact (((((((Below.refl _ _).alloc (Nat.le_refl _) _).alloc (by simp) _).alloc (by simp; omega) _).trans (hb.mono (by simp; omega))).alloc (by omega) _).rowK (by omega) _)
  · exact (k1.more _).rowOther (by omega)
  · exact (k2.more _).rowOther (by omega)
  · exact Has.row (Has.fresh w1 24 zeroA)
set_option maxRecDepth 100000 in
set_option maxHeartbeats 400000 in
theorem cmp_same (a b m : List (BitVec 32)) (ha : a.length = 16) (hb : b.length = 16) (hM : mergeAll [a, b] 2 = m) (h1 : sameV a b = true) (w : World) :
    Calls Try.prog 15 #[.agg (vec a), .agg (vec b)] w fun e w' => e = .returned (.int .i64 0) ∧ Below w.heap.size w w' := by
  have HM : Hid (m.length = 16) := by show _ = _; rw [← hM]; exact mergeAll_len _ _
  have Q1 := hid h1
  have Z1 := size_vec m HM.out
  have Z2 := size_zero m HM.out
  have A1 := size_vec a ha
  have B1 := size_vec b hb
  have L2 := hid (two16 ha hb)
  have HML := hid hM
  have W0 : Hid (Has ((w.alloc (.cells (vec a) 24)).alloc (.cells (vec b) 24)) w.heap.size 24 (vec a)) := (Has.fresh w 24 (vec a)).more _
  have W1 : Hid (Has ((w.alloc (.cells (vec a) 24)).alloc (.cells (vec b) 24)) (w.heap.size + 1) 24 (vec b)) := Has.fresh' (w.alloc _) 24 (vec b) (by simp)
  have R0 : Hid (VRows (((w.alloc (.cells (vec a) 24)).alloc (.cells (vec b) 24)).alloc (.cells (rowsA [a, b]) 24)) (some ⟨w.heap.size + 1 + 1, 0, none⟩) [a, b] (w.heap.size + 1 + 1) 0) := vrows_at _ _ (two16 ha hb) _ (by simp)
  have LA0 := hid (load_vec W0.out ha)
  have LB0 := hid (load_vec W1.out hb)
  have HA := hid ha
  have HB := hid hb
  clear h1 ha hb hM W0 W1
  go_enter Try.func15, Try.ntmps15
  go_wp2_with (first
    | (refine wpList_load_g (by rfl) 24 (.tmp 2) rfl w.heap.size 0 rfl (vec a) LA0.out ?_)
    | (refine wpList_load_g (by rfl) 24 (.tmp 3) rfl (w.heap.size + 1) 0 rfl (vec b) LB0.out ?_)
    | (refine wpList_build_vecs (by rfl) [a, b] 2 _ rfl rfl (by omega) (by omega) L2.out rfl ?_)
    | (go_at_call 12; refine (merge_lit [a, b] 2 (w.heap.size + 1 + 1) rfl (by omega) m HML.out _ R0.out).mono ?_; rintro ee w1 ⟨rfl, hb1⟩)
    | (refine wpList_store_row rfl 24 (.tmp 5) (.tmp 9) rfl w1.heap.size (vec m) rfl rfl 24 zeroA (Has.fresh w1 24 zeroA) Z1.out Z2.out (vec_one _) ?_
       generalize hG : World.setRow _ _ _ = W3
       obtain ⟨V0, hG0, B3, H3, K3, M3⟩ := cmp_boxes w w1 a b m _ hb1
       obtain rfl : V0 = W3 := hG0.symm.trans hG
       have LA := hid (load_vec H3.out HA.out)
       have LB := hid (load_vec K3.out HB.out)
       have LM := hid (load_vec M3.out HM.out)
       clear hG0 hG hb1 LA0 LB0)
    | (refine wpList_load_g (by rfl) 24 (.tmp 2) rfl w.heap.size 0 rfl (vec a) LA.out ?_)
    | (refine wpList_load_g (by rfl) 24 (.tmp 3) rfl (w.heap.size + 1) 0 rfl (vec b) LB.out ?_)
    | (refine wpList_load_g (by rfl) 24 (.tmp 5) rfl w1.heap.size 0 rfl (vec m) LM.out ?_)
    | (refine wpList_eql_vec (by rfl) (.tmp 11) (.tmp 12) rfl a b rfl rfl HA.out HB.out _ Q1.out ?_))
  go_ret
  exact ⟨rfl, B3.out⟩
set_option maxRecDepth 100000 in
set_option maxHeartbeats 400000 in
theorem cmp_above (a b m : List (BitVec 32)) (ha : a.length = 16) (hb : b.length = 16) (hM : mergeAll [a, b] 2 = m) (h1 : sameV a b = false) (h2 : sameV a m = true) (w : World) :
    Calls Try.prog 15 #[.agg (vec a), .agg (vec b)] w fun e w' => e = .returned (.int .i64 1) ∧ Below w.heap.size w w' := by
  have HM : Hid (m.length = 16) := by show _ = _; rw [← hM]; exact mergeAll_len _ _
  have Q1 := hid h1
  have Q2 := hid h2
  have Z1 := size_vec m HM.out
  have Z2 := size_zero m HM.out
  have A1 := size_vec a ha
  have B1 := size_vec b hb
  have L2 := hid (two16 ha hb)
  have HML := hid hM
  have W0 : Hid (Has ((w.alloc (.cells (vec a) 24)).alloc (.cells (vec b) 24)) w.heap.size 24 (vec a)) := (Has.fresh w 24 (vec a)).more _
  have W1 : Hid (Has ((w.alloc (.cells (vec a) 24)).alloc (.cells (vec b) 24)) (w.heap.size + 1) 24 (vec b)) := Has.fresh' (w.alloc _) 24 (vec b) (by simp)
  have R0 : Hid (VRows (((w.alloc (.cells (vec a) 24)).alloc (.cells (vec b) 24)).alloc (.cells (rowsA [a, b]) 24)) (some ⟨w.heap.size + 1 + 1, 0, none⟩) [a, b] (w.heap.size + 1 + 1) 0) := vrows_at _ _ (two16 ha hb) _ (by simp)
  have LA0 := hid (load_vec W0.out ha)
  have LB0 := hid (load_vec W1.out hb)
  have HA := hid ha
  have HB := hid hb
  clear h1 h2 ha hb hM W0 W1
  go_enter Try.func15, Try.ntmps15
  go_wp2_with (first
    | (refine wpList_load_g (by rfl) 24 (.tmp 2) rfl w.heap.size 0 rfl (vec a) LA0.out ?_)
    | (refine wpList_load_g (by rfl) 24 (.tmp 3) rfl (w.heap.size + 1) 0 rfl (vec b) LB0.out ?_)
    | (refine wpList_build_vecs (by rfl) [a, b] 2 _ rfl rfl (by omega) (by omega) L2.out rfl ?_)
    | (go_at_call 12; refine (merge_lit [a, b] 2 (w.heap.size + 1 + 1) rfl (by omega) m HML.out _ R0.out).mono ?_; rintro ee w1 ⟨rfl, hb1⟩)
    | (refine wpList_store_row rfl 24 (.tmp 5) (.tmp 9) rfl w1.heap.size (vec m) rfl rfl 24 zeroA (Has.fresh w1 24 zeroA) Z1.out Z2.out (vec_one _) ?_
       generalize hG : World.setRow _ _ _ = W3
       obtain ⟨V0, hG0, B3, H3, K3, M3⟩ := cmp_boxes w w1 a b m _ hb1
       obtain rfl : V0 = W3 := hG0.symm.trans hG
       have LA := hid (load_vec H3.out HA.out)
       have LB := hid (load_vec K3.out HB.out)
       have LM := hid (load_vec M3.out HM.out)
       clear hG0 hG hb1 LA0 LB0)
    | (refine wpList_load_g (by rfl) 24 (.tmp 2) rfl w.heap.size 0 rfl (vec a) LA.out ?_)
    | (refine wpList_load_g (by rfl) 24 (.tmp 3) rfl (w.heap.size + 1) 0 rfl (vec b) LB.out ?_)
    | (refine wpList_load_g (by rfl) 24 (.tmp 5) rfl w1.heap.size 0 rfl (vec m) LM.out ?_)
    | (refine wpList_eql_vec (by rfl) (.tmp 11) (.tmp 12) rfl a b rfl rfl HA.out HB.out _ Q1.out ?_)
    | (refine wpList_eql_vec (by rfl) (.tmp 15) (.tmp 16) rfl a m rfl rfl HA.out HM.out _ Q2.out ?_))
  go_ret
  exact ⟨rfl, B3.out⟩
set_option maxRecDepth 100000 in
set_option maxHeartbeats 400000 in
theorem cmp_below (a b m : List (BitVec 32)) (ha : a.length = 16) (hb : b.length = 16) (hM : mergeAll [a, b] 2 = m) (h1 : sameV a b = false) (h2 : sameV a m = false) (h3 : sameV b m = true) (w : World) :
    Calls Try.prog 15 #[.agg (vec a), .agg (vec b)] w fun e w' => e = .returned (.int .i64 (-1)) ∧ Below w.heap.size w w' := by
  have HM : Hid (m.length = 16) := by show _ = _; rw [← hM]; exact mergeAll_len _ _
  have Q1 := hid h1
  have Q2 := hid h2
  have Q3 := hid h3
  have Z1 := size_vec m HM.out
  have Z2 := size_zero m HM.out
  have A1 := size_vec a ha
  have B1 := size_vec b hb
  have L2 := hid (two16 ha hb)
  have HML := hid hM
  have W0 : Hid (Has ((w.alloc (.cells (vec a) 24)).alloc (.cells (vec b) 24)) w.heap.size 24 (vec a)) := (Has.fresh w 24 (vec a)).more _
  have W1 : Hid (Has ((w.alloc (.cells (vec a) 24)).alloc (.cells (vec b) 24)) (w.heap.size + 1) 24 (vec b)) := Has.fresh' (w.alloc _) 24 (vec b) (by simp)
  have R0 : Hid (VRows (((w.alloc (.cells (vec a) 24)).alloc (.cells (vec b) 24)).alloc (.cells (rowsA [a, b]) 24)) (some ⟨w.heap.size + 1 + 1, 0, none⟩) [a, b] (w.heap.size + 1 + 1) 0) := vrows_at _ _ (two16 ha hb) _ (by simp)
  have LA0 := hid (load_vec W0.out ha)
  have LB0 := hid (load_vec W1.out hb)
  have HA := hid ha
  have HB := hid hb
  clear h1 h2 h3 ha hb hM W0 W1
  go_enter Try.func15, Try.ntmps15
  go_wp2_with (first
    | (refine wpList_load_g (by rfl) 24 (.tmp 2) rfl w.heap.size 0 rfl (vec a) LA0.out ?_)
    | (refine wpList_load_g (by rfl) 24 (.tmp 3) rfl (w.heap.size + 1) 0 rfl (vec b) LB0.out ?_)
    | (refine wpList_build_vecs (by rfl) [a, b] 2 _ rfl rfl (by omega) (by omega) L2.out rfl ?_)
    | (go_at_call 12; refine (merge_lit [a, b] 2 (w.heap.size + 1 + 1) rfl (by omega) m HML.out _ R0.out).mono ?_; rintro ee w1 ⟨rfl, hb1⟩)
    | (refine wpList_store_row rfl 24 (.tmp 5) (.tmp 9) rfl w1.heap.size (vec m) rfl rfl 24 zeroA (Has.fresh w1 24 zeroA) Z1.out Z2.out (vec_one _) ?_
       generalize hG : World.setRow _ _ _ = W3
       obtain ⟨V0, hG0, B3, H3, K3, M3⟩ := cmp_boxes w w1 a b m _ hb1
       obtain rfl : V0 = W3 := hG0.symm.trans hG
       have LA := hid (load_vec H3.out HA.out)
       have LB := hid (load_vec K3.out HB.out)
       have LM := hid (load_vec M3.out HM.out)
       clear hG0 hG hb1 LA0 LB0)
    | (refine wpList_load_g (by rfl) 24 (.tmp 2) rfl w.heap.size 0 rfl (vec a) LA.out ?_)
    | (refine wpList_load_g (by rfl) 24 (.tmp 3) rfl (w.heap.size + 1) 0 rfl (vec b) LB.out ?_)
    | (refine wpList_load_g (by rfl) 24 (.tmp 5) rfl w1.heap.size 0 rfl (vec m) LM.out ?_)
    | (refine wpList_eql_vec (by rfl) (.tmp 11) (.tmp 12) rfl a b rfl rfl HA.out HB.out _ Q1.out ?_)
    | (refine wpList_eql_vec (by rfl) (.tmp 15) (.tmp 16) rfl a m rfl rfl HA.out HM.out _ Q2.out ?_)
    | (refine wpList_eql_vec (by rfl) (.tmp 19) (.tmp 20) rfl b m rfl rfl HB.out HM.out _ Q3.out ?_))
  go_ret
  exact ⟨rfl, B3.out⟩
set_option maxRecDepth 100000 in
set_option maxHeartbeats 400000 in
theorem cmp_conc (a b m : List (BitVec 32)) (ha : a.length = 16) (hb : b.length = 16) (hM : mergeAll [a, b] 2 = m) (h1 : sameV a b = false) (h2 : sameV a m = false) (h3 : sameV b m = false) (w : World) :
    Calls Try.prog 15 #[.agg (vec a), .agg (vec b)] w fun e w' => e = .returned (.int .i64 2) ∧ Below w.heap.size w w' := by
  have HM : Hid (m.length = 16) := by show _ = _; rw [← hM]; exact mergeAll_len _ _
  have Q1 := hid h1
  have Q2 := hid h2
  have Q3 := hid h3
  have Z1 := size_vec m HM.out
  have Z2 := size_zero m HM.out
  have A1 := size_vec a ha
  have B1 := size_vec b hb
  have L2 := hid (two16 ha hb)
  have HML := hid hM
  have W0 : Hid (Has ((w.alloc (.cells (vec a) 24)).alloc (.cells (vec b) 24)) w.heap.size 24 (vec a)) := (Has.fresh w 24 (vec a)).more _
  have W1 : Hid (Has ((w.alloc (.cells (vec a) 24)).alloc (.cells (vec b) 24)) (w.heap.size + 1) 24 (vec b)) := Has.fresh' (w.alloc _) 24 (vec b) (by simp)
  have R0 : Hid (VRows (((w.alloc (.cells (vec a) 24)).alloc (.cells (vec b) 24)).alloc (.cells (rowsA [a, b]) 24)) (some ⟨w.heap.size + 1 + 1, 0, none⟩) [a, b] (w.heap.size + 1 + 1) 0) := vrows_at _ _ (two16 ha hb) _ (by simp)
  have LA0 := hid (load_vec W0.out ha)
  have LB0 := hid (load_vec W1.out hb)
  have HA := hid ha
  have HB := hid hb
  clear h1 h2 h3 ha hb hM W0 W1
  go_enter Try.func15, Try.ntmps15
  go_wp2_with (first
    | (refine wpList_load_g (by rfl) 24 (.tmp 2) rfl w.heap.size 0 rfl (vec a) LA0.out ?_)
    | (refine wpList_load_g (by rfl) 24 (.tmp 3) rfl (w.heap.size + 1) 0 rfl (vec b) LB0.out ?_)
    | (refine wpList_build_vecs (by rfl) [a, b] 2 _ rfl rfl (by omega) (by omega) L2.out rfl ?_)
    | (go_at_call 12; refine (merge_lit [a, b] 2 (w.heap.size + 1 + 1) rfl (by omega) m HML.out _ R0.out).mono ?_; rintro ee w1 ⟨rfl, hb1⟩)
    | (refine wpList_store_row rfl 24 (.tmp 5) (.tmp 9) rfl w1.heap.size (vec m) rfl rfl 24 zeroA (Has.fresh w1 24 zeroA) Z1.out Z2.out (vec_one _) ?_
       generalize hG : World.setRow _ _ _ = W3
       obtain ⟨V0, hG0, B3, H3, K3, M3⟩ := cmp_boxes w w1 a b m _ hb1
       obtain rfl : V0 = W3 := hG0.symm.trans hG
       have LA := hid (load_vec H3.out HA.out)
       have LB := hid (load_vec K3.out HB.out)
       have LM := hid (load_vec M3.out HM.out)
       clear hG0 hG hb1 LA0 LB0)
    | (refine wpList_load_g (by rfl) 24 (.tmp 2) rfl w.heap.size 0 rfl (vec a) LA.out ?_)
    | (refine wpList_load_g (by rfl) 24 (.tmp 3) rfl (w.heap.size + 1) 0 rfl (vec b) LB.out ?_)
    | (refine wpList_load_g (by rfl) 24 (.tmp 5) rfl w1.heap.size 0 rfl (vec m) LM.out ?_)
    | (refine wpList_eql_vec (by rfl) (.tmp 11) (.tmp 12) rfl a b rfl rfl HA.out HB.out _ Q1.out ?_)
    | (refine wpList_eql_vec (by rfl) (.tmp 15) (.tmp 16) rfl a m rfl rfl HA.out HM.out _ Q2.out ?_)
    | (refine wpList_eql_vec (by rfl) (.tmp 19) (.tmp 20) rfl b m rfl rfl HB.out HM.out _ Q3.out ?_))
  go_ret
  exact ⟨rfl, B3.out⟩
theorem cmp_any (a b : List (BitVec 32)) (ha : a.length = 16) (hb : b.length = 16) (w : World) :
    Calls Try.prog 15 #[.agg (vec a), .agg (vec b)] w fun e w' => e = .returned (.int .i64 (cmpV a b)) ∧ Below w.heap.size w w' := by
  unfold cmpV
  by_cases h1 : a = b
  · rw [if_pos h1]; exact cmp_same a b _ ha hb rfl ((sameV_iff _ _).2 h1) w
  · rw [if_neg h1]
    by_cases h2 : a = mergeAll [a, b] 2
    · rw [if_pos h2]; exact cmp_above a b _ ha hb rfl (sameV_ne h1) ((sameV_iff _ _).2 h2) w
    · rw [if_neg h2]
      by_cases h3 : b = mergeAll [a, b] 2
      · rw [if_pos h3]; exact cmp_below a b _ ha hb rfl (sameV_ne h1) (sameV_ne h2) ((sameV_iff _ _).2 h3) w
      · rw [if_neg h3]; exact cmp_conc a b _ ha hb rfl (sameV_ne h1) (sameV_ne h2) (sameV_ne h3) w
end Go.Proofs.Ytmmbnobbpnndkaa
