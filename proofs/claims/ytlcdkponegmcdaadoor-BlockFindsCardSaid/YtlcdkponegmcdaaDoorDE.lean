/- '==' of digests; block.Verify: what the call answers. Conditions: the listed table; bytes in a block of the world. -/
import Derived.Test.YtlcdkponegmcdaaDoorDD
import Derived.ChangeKeysEq
import Derived.Deep.RegionHeld3
namespace Go.Proofs.YtlcdkponegmcdaaDoor
open Go.RowKit
theorem b8_inj {x y : UInt8} (h : b8 x = b8 y) : x = y := by unfold b8 at h; exact UInt8.toNat_inj.1 (by omega)
theorem hvec_get (l : List UInt8) (i : Nat) (h : i < l.length) : (hvec l)[i]? = some (Value.int .u8 (b8 (at8 l i))) := by
  rw [hvec, List.getElem?_toArray]; exact get_map h
theorem part_byte (xs : List UInt8) (i : Nat) (hi : i < xs.length) (w : World) : (part 5 (hvec xs) (i * 1)).run Tryd.prog w = .ok (.int .u8 (b8 (at8 xs i))) w := by
  have ha : (isAgg 5).run Tryd.prog w = .ok false w := by kernel_rfl
  simp only [part, Sem.run_bind, ha, Result.andThen_ok, Nat.mul_one, Bool.false_eq_true, if_false, hvec_get xs i hi, Sem.run_pure]
theorem eqItems_bytes (d : Nat) (xs ys : List UInt8) (w : World) (is : List Nat) : (∀ i ∈ is, i < xs.length ∧ i < ys.length) →
    (Op.eqItems (d + 1) 5 1 (hvec xs) (hvec ys) is).run Tryd.prog w = .ok (is.all fun i => decide (at8 xs i = at8 ys i)) w := by
  induction is with
  | nil => intro _; simp [Op.eqItems]
  | cons j is ih =>
    intro h
    have hj := h j (by simp)
    have he : (Op.equalIn (d + 1) 5 (.int .u8 (b8 (at8 xs j))) (.int .u8 (b8 (at8 ys j)))).run Tryd.prog w = .ok (b8 (at8 xs j) == b8 (at8 ys j)) w :=
      run_equalIn_int (P := Tryd.prog) w d 5 .u8 .u8 _ _ Tryd.underlying5
    simp only [Op.eqItems, Sem.run_bind, part_byte xs j hj.1 w, part_byte ys j hj.2 w, Result.andThen_ok, he]
    by_cases hq : at8 xs j = at8 ys j
    · rw [hq]; simp [ih (fun i hi => h i (by simp [hi]))]; simp [hq]
    · have : b8 (at8 xs j) ≠ b8 (at8 ys j) := fun e => hq (b8_inj e)
      simp [this, hq]
set_option maxRecDepth 100000 in
theorem run_hash_equal (xs ys : List UInt8) (hx : xs.length = 32) (hy : ys.length = 32) (w : World) :
    (Op.equalIn 10000 27 (.agg (hvec xs)) (.agg (hvec ys))).run Tryd.prog w = .ok (same8 xs ys) w := by
  obtain ⟨i5, hi5⟩ : ∃ i, Tryd.prog.info? 5 = some i := by obtain ⟨i0, hi, _⟩ := info_parts info5; exact ⟨i0, hi⟩
  rw [run_equalIn_array (P := Tryd.prog) (w := w) 9999 (hvec xs) (hvec ys) Tryd.underlying27 hi5]
  have hc : Tryd.prog.cellsOf 5 = 1 := by kernel_rfl
  rw [hc, eqItems_bytes 9998 xs ys w _ (fun i hi => by simp at hi; omega)]
  congr 1
  rw [Bool.eq_iff_iff, same8_iff]
  simp only [List.all_eq_true, List.mem_range, decide_eq_true_eq]
  constructor
  · intro h
    apply List.ext_getElem (by omega)
    intro i h1 h2
    have := h i (by omega)
    simpa [at8, List.getD, List.getElem?_eq_getElem h1, List.getElem?_eq_getElem h2] using this
  · intro h i _; rw [h]
set_option maxRecDepth 100000 in
theorem run_hash_eql (xs ys : List UInt8) (hx : xs.length = 32) (hy : ys.length = 32) (w : World) :
    (binOp .eql 27 (.agg (hvec xs)) (.agg (hvec ys))).run Tryd.prog w = .ok (.bool (same8 xs ys)) w := by
  rw [run_eql_struct, run_hash_equal xs ys hx hy]
  rfl
theorem eqGH : Tryd.prog.eqGuardType Tryd.prog.depth 27 = false := by kernel_rfl
section
variable {ops : Array Oper} {S : World → Prop} {o : Oper} {a : Act}
theorem yields_load_h (hw : Region.wanted o (yielded ops a.tmps) = true) (x : Operand) (ho : o.op = .load 27 x) (g off : Nat) (hx : a.eval x = .pointer (some ⟨g, off, none⟩)) (d : List UInt8)
    (hS : ∀ w, S w → (loadVar 27 ⟨g, off, none⟩).run Tryd.prog w = .ok (.agg (hvec d)) w) : YieldsIf Tryd.prog ops S o (.agg (hvec d)) a :=
  .inl ⟨hw, fun w hw' => by
    unfold execOp
    simp only [ho, hx, Instr.loadAt, Instr.sureAddr, Sem.run_bind, Sem.run_pure, Result.andThen_ok, hS w hw']⟩
theorem yields_eql_h (hw : Region.wanted o (yielded ops a.tmps) = true) (x y : Operand) (ho : o.op = .binOp .eql 27 x y 27) (l m : List UInt8) (hx : a.eval x = .agg (hvec l)) (hy : a.eval y = .agg (hvec m)) (hl : l.length = 32) (hm : m.length = 32)
    (b : Bool) (hb : same8 l m = b) : YieldsIf Tryd.prog ops S o (.bool b) a :=
  .inl ⟨hw, fun w _ => by
    unfold execOp
    simp only [ho, hx, hy, Sem.run_bind, run_eqGuard_agg w .eql 27 x y _ _ eqGH, run_hash_eql l m hl hm w, Result.andThen_ok, hb, Sem.run_pure]⟩
theorem wpList_eql_h {Q : Exit → Act → World → Prop} {w : World} {rest : List Oper} (hw : Region.wanted o (yielded ops a.tmps) = true)
    (x y : Operand) (ho : o.op = .binOp .eql 27 x y 27) (l m : List UInt8) (hx : a.eval x = .agg (hvec l)) (hy : a.eval y = .agg (hvec m)) (hl : l.length = 32) (hm : m.length = 32) (b : Bool) (hb : same8 l m = b)
    (h : wpList Tryd.prog ops Q rest (a.put o.dst (.bool b)) w) : wpList Tryd.prog ops Q (o :: rest) a w :=
  wpList_wanted hw fun _ hK => by
    unfold Oper.wp execOp
    simp only [ho, hx, hy, Sem.run_bind, run_eqGuard_agg w .eql 27 x y _ _ eqGH, run_hash_eql l m hl hm w, Result.andThen_ok, hb]
    exact hK _ _ h
end
theorem load_h {w : World} {g : Nat} {d : List UInt8} (k : Has w g 27 (hvec d)) (hl : d.length = 32) : (loadVar 27 ⟨g, 0, none⟩).run Tryd.prog w = .ok (.agg (hvec d)) w :=
  run_loadVar_row (P := Tryd.prog) w g 27 27 (hvec d) (0, 0) _ k Tryd.underlying27 rfl (by rw [hvec_size, hl]; kernel_rfl)
theorem Has.on {g : Nat} {t : TypeId} {cs : Array Value} {w w1 : World} (h : Has w g t cs) (hb : Below w.heap.size w w1) : Has w1 g t cs := h.kept hb h.inside
set_option maxRecDepth 100000 in
set_option maxHeartbeats 4000000 in
theorem verify_any (v : Value) (xs : List UInt8) (A : Option Addr) (cap bb off : Nat) (d : List UInt8) (hd : d.length = 32) (w : World) (hT : Sha.Tab w) (h : Bytes w v xs A cap bb off) (hl : xs.length ≤ 1000000) :
    Calls Tryd.prog 20 #[v, .agg (hvec d)] w fun e w' => e = .returned (.bool (same8 (dg xs) d)) ∧ Below w.heap.size w w' := by
  have hw0 : Below w.heap.size w (w.alloc (.cells (hvec d) 27)) := (Below.refl _ _).alloc (Nat.le_refl _) _
  obtain ⟨b, HBV⟩ : ∃ b, Hid (same8 (dg xs) d = b) := ⟨_, rfl⟩
  obtain ⟨r, HR⟩ : ∃ r, Hid (dg xs = r) := ⟨_, rfl⟩
  have HRL : Hid (r.length = 32) := by show _ = _; rw [← HR.out]; exact dg_len xs
  have HE : Hid (same8 r d = b) := by show _ = _; rw [← HR.out]; exact HBV.out
  have CS := hid (sum_any v xs A cap bb off (w.alloc (.cells (hvec d) 27)).drew (hT.kept hw0.drew hT.pos) ((h.kept hw0 (Nat.le_refl _)).kept (Below.refl _ _).drew (Nat.le_refl _)) hl)
  rw [HR.out] at CS
  have HH : Hid (Has (w.alloc (.cells (hvec d) 27)).drew w.heap.size 27 (hvec d)) := Has.fresh w 27 (hvec d)
  have HD := hid hd
  have HW0 : Hid (Below w.heap.size w (w.alloc (.cells (hvec d) 27)).drew) := hw0.drew
  have e0 := h.form
  obtain ⟨n, HN⟩ : ∃ n, Hid (xs.length = n) := ⟨_, rfl⟩
  rw [HN.out] at e0
  rw [e0] at CS ⊢
  clear h hT hl hd hw0 e0
  go_enter Tryd.func20, Tryd.ntmps20
  go_wp2
  refine wp_region_noPanic ?_
  refine wp_region_held_drew (S := fun W => Has W w.heap.size 27 (hvec d)) (by kernel_rfl) (HH.out) (fun hS => ?_)
  refine wpAnyH_take (i := 0) (v := ?_) (by simp only [List.getElem?_toArray, List.getElem?_cons_zero]; rfl) (by kernel_rfl) (by kernel_rfl) (by kernel_rfl) (fun _ _ _ h => h) (Or.inl ⟨by rfl, ?_⟩) (by assumption) ?_
  rotate_left 1
  · intro w hSw
    go_simp
    with_reducible rfl
  simp only [Act.put, List.setIfInBounds_toArray, List.set_cons_zero, List.set_cons_succ]
  refine' wpAnyH_take (i := 2) (v := _) (by simp only [List.getElem?_toArray, List.getElem?_cons_zero, List.getElem?_cons_succ]; rfl) (by kernel_rfl) (by kernel_rfl) (by kernel_rfl) (fun _ _ _ h => h) (yields_load_h (by rfl) (.tmp 3) rfl w.heap.size 0 rfl d (fun w hS => load_h hS HD.out)) (by assumption) ?_
  simp only [Act.put, List.setIfInBounds_toArray, List.set_cons_zero, List.set_cons_succ]
  refine wpAnyH_ready (rs := [1]) (by kernel_rfl) (by simp) ?_
  refine AllReadyH.cons (by simp only [List.getElem?_toArray, List.getElem?_cons_zero, List.getElem?_cons_succ]; rfl) (fun K hK => ?_) AllReadyH.nil
  go_simp
  refine (CS.out).mono ?_
  rintro e1 w1 ⟨rfl, hb1⟩
  have B1 : Hid (Below w.heap.size w w1) := HW0.out.trans (hb1.mono HW0.out.size)
  have hz1 := HH.out.on hb1
  refine hK.out _ _ hz1 (fun hS => ?_)
  clear hK K hS
  refine' wpAnyH_take (i := 3) (v := _) (by simp only [List.getElem?_toArray, List.getElem?_cons_zero, List.getElem?_cons_succ]; rfl) (by kernel_rfl) (by kernel_rfl) (by kernel_rfl) (fun _ _ _ h => h) (yields_eql_h (by rfl) (.tmp 6) (.tmp 7) rfl r d rfl rfl HRL.out HD.out b HE.out) (by assumption) ?_
  simp only [Act.put, List.setIfInBounds_toArray, List.set_cons_zero, List.set_cons_succ]
  refine wpAnyH_take (i := 4) (v := ?_) (by simp only [List.getElem?_toArray, List.getElem?_cons_zero, List.getElem?_cons_succ]; rfl) (by kernel_rfl) (by kernel_rfl) (by kernel_rfl) (fun _ _ _ h => h) (Or.inl ⟨by rfl, ?_⟩) (by assumption) ?_
  rotate_left 1
  · intro w hSw
    go_simp
    with_reducible rfl
  simp only [Act.put, List.setIfInBounds_toArray, List.set_cons_zero, List.set_cons_succ]
  refine wpAnyH_done (by kernel_rfl) ?_ _
  refine NoPanic.normal ?_
  go_wp2
  go_ret
  exact ⟨by rw [HBV.out]; rfl, B1.out⟩
end Go.Proofs.YtlcdkponegmcdaaDoor
