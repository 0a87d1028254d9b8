/- Nodes compared, and the statements' helper 'is'. Conditions: as at the disk. -/
import Derived.Test.YtlbeemlnbpchgaaGreatXA
import Derived.ChangeKeysEq
namespace Go.Proofs.YtlbeemlnbpchgaaGreat
open Go.RowKit Go.Maps
instance : DecidableEq Nd := fun a b =>
  if h : a.kind = b.kind ∧ a.data = b.data ∧ a.target = b.target ∧ a.time = b.time then .isTrue (by cases a; cases b; simp only at h; obtain ⟨h1, h2, h3, h4⟩ := h; subst h1 h2 h3 h4; rfl) else .isFalse (fun e => h (by subst e; exact ⟨rfl, rfl, rfl, rfl⟩))
theorem nodeFields : Tryz.prog.fieldsOf 64 = #[{ name := "Kind", type := 3, offset := 0, embedded := false, tag := "", pkgPath := "", byteOffset := 0 },
        { name := "Data", type := 9, offset := 1, embedded := false, tag := "", pkgPath := "", byteOffset := 8 },
        { name := "Target", type := 9, offset := 2, embedded := false, tag := "", pkgPath := "", byteOffset := 24 },
        { name := "Time", type := 2, offset := 3, embedded := false, tag := "", pkgPath := "", byteOffset := 40 }] := by kernel_rfl
theorem eqNode_any (n m : Nd) (w : World) : (binOp .eql 64 (nodeV n) (nodeV m)).run Tryz.prog w = .ok (.bool (decide (n = m))) w := by
  obtain ⟨a, b, c, d⟩ := n
  obtain ⟨a', b', c', d'⟩ := m
  unfold nodeV kS
  have hu : Tryz.prog.underlying 64 = some (.struct (Tryz.prog.fieldsOf 64)) := by rw [nodeFields]; exact Tryz.underlying64
  have pI : Tryz.prog.plainKey 3 = true := by kernel_rfl
  have pS : Tryz.prog.plainKey 9 = true := by kernel_rfl
  have pJ : Tryz.prog.plainKey 2 = true := by kernel_rfl
  have q0 : ∀ (x y z u : Value) w, (part 3 #[x, y, z, u] 0).run Tryz.prog w = .ok x w := fun x y z u w => run_part_plain w pI rfl
  have q1 : ∀ (x y z u : Value) w, (part 9 #[x, y, z, u] 1).run Tryz.prog w = .ok y w := fun x y z u w => run_part_plain w pS rfl
  have q2 : ∀ (x y z u : Value) w, (part 9 #[x, y, z, u] 2).run Tryz.prog w = .ok z w := fun x y z u w => run_part_plain w pS rfl
  have q3 : ∀ (x y z u : Value) w, (part 2 #[x, y, z, u] 3).run Tryz.prog w = .ok u w := fun x y z u w => run_part_plain w pJ rfl
  have e0 : ∀ x y w, (Op.equalIn 9999 3 (.int .i64 x) (.int .i64 y)).run Tryz.prog w = .ok (x == y) w := fun x y w => run_equalIn_int w 9998 3 .i64 .i64 x y Tryz.underlying3
  have e1 : ∀ x y w, (Op.equalIn 9999 9 (.string x) (.string y)).run Tryz.prog w = .ok (x.toList == y.toList) w := fun x y w => run_equalIn_string w 9998 9 x y Tryz.underlying9
  have e3 : ∀ x y w, (Op.equalIn 9999 2 (.int .i64 x) (.int .i64 y)).run Tryz.prog w = .ok (x == y) w := fun x y w => run_equalIn_int w 9998 2 .i64 .i64 x y Tryz.underlying2
  rw [run_eql_struct, run_equalIn_agg _ 9999 64 _ _ hu (by kernel_rfl), nodeFields]
  simp only [Op.eqFields, Sem.run_bind, q0, e0, Result.andThen_ok, ne_eq, String.reduceEq, not_false_eq_true, if_true]
  by_cases h0 : a = a'
  · by_cases h1 : b = b'
    · by_cases h2 : c = c'
      · by_cases h3 : d = d'
        · subst h0 h1 h2 h3; simp [q1, q2, q3, e1, e3, toList_tl, tl_ba]
        · simp [h0, h1, h2, h3, q1, q2, q3, e1, e3, toList_tl, tl_ba]
      · simp [h0, h1, h2, q1, q2, e1, toList_tl, tl_ba]
    · simp [h0, h1, q1, e1, toList_tl, tl_ba]
  · simp [h0]
theorem neqNode_any (n m : Nd) (w : World) : (binOp .neq 64 (nodeV n) (nodeV m)).run Tryz.prog w = .ok (.bool (!decide (n = m))) w := by
  have h := eqNode_any n m w
  unfold nodeV at *
  rw [run_eql_struct] at h
  rw [run_neq_struct]
  revert h
  generalize (Op.equalIn 10000 _ _ _).run Tryz.prog w = r
  intro h
  cases r with
  | ok b w1 => simp [Result.andThen] at h ⊢; simp [h]
  | halt x w1 => simp [Result.andThen] at h
theorem wpList_wanted {P : Program} {ops : Array Oper} {Q : Exit → Act → World → Prop} {a : Act} {w : World} {rest : List Oper} {o : Oper} (hw : Region.wanted o (yielded ops a.tmps) = true)
    (h : ∀ K : Act → World → Prop, (∀ a w, wpList P ops Q rest a w → K a w) → o.wp P a w K Q) : wpList P ops Q (o :: rest) a w :=
  wpList_step fun K hK => by rw [if_pos hw]; exact h K hK

theorem wpList_load_g {P : Program} {ops : Array Oper} {rest : List Oper} {o : Oper} {a : Act} {w : World} {Q : Exit → Act → World → Prop} (hw : Region.wanted o (yielded ops a.tmps) = true) (ty : TypeId) (x : Operand) (ho : o.op = .load ty x)
    (g off : Nat) (hx : a.eval x = .pointer (some ⟨g, off, none⟩)) (cs : Array Value) (hl : (loadVar ty ⟨g, off, none⟩).run P w = .ok (.agg cs) w)
    (h : wpList P ops Q rest (a.put o.dst (.agg cs)) w) : wpList P ops Q (o :: rest) a w :=
  wpList_wanted hw fun _ hK => by
    unfold Oper.wp execOp
    simp only [ho, hx, Instr.loadAt, Instr.sureAddr, Sem.run_bind, Sem.run_pure, Result.andThen_ok, hl]
    exact hK _ _ h
theorem eqG : Tryz.prog.eqGuardType Tryz.prog.depth 64 = false := by kernel_rfl
/-- A node's cells. -/
abbrev ndA (k : Int) (d x : By) (t : Int) : Array Value := #[.int .i64 k, kS d, kS x, .int .i64 t]
section
variable {ops : Array Oper} {Q : Exit → Act → World → Prop} {a : Act} {w : World} {rest : List Oper} {o : Oper}
theorem wpList_eql_node (hw : Region.wanted o (yielded ops a.tmps) = true) (x y : Operand) (ho : o.op = .binOp .eql 64 x y 64) (n m : Nd) (hx : a.eval x = nodeV n) (hy : a.eval y = nodeV m) (b : Bool) (hb : decide (n = m) = b)
    (h : wpList Tryz.prog ops Q rest (a.put o.dst (.bool b)) w) : wpList Tryz.prog ops Q (o :: rest) a w :=
  wpList_wanted hw fun _ hK => by
    unfold Oper.wp execOp
    have e := eqNode_any n m w
    have g : (eqGuard .eql 64 x y (nodeV n) (nodeV m)).run Tryz.prog w = .ok () w := run_eqGuard_agg w .eql 64 x y _ _ eqG
    simp only [ho, hx, hy, Sem.run_bind, g, e, Result.andThen_ok, hb]
    exact hK _ _ h
theorem wpList_neq_node (hw : Region.wanted o (yielded ops a.tmps) = true) (x y : Operand) (ho : o.op = .binOp .neq 64 x y 64) (n m : Nd) (hx : a.eval x = nodeV n) (hy : a.eval y = nodeV m) (b : Bool) (hb : (!decide (n = m)) = b)
    (h : wpList Tryz.prog ops Q rest (a.put o.dst (.bool b)) w) : wpList Tryz.prog ops Q (o :: rest) a w :=
  wpList_wanted hw fun _ hK => by
    unfold Oper.wp execOp
    have e := neqNode_any n m w
    have g : (eqGuard .neq 64 x y (nodeV n) (nodeV m)).run Tryz.prog w = .ok () w := run_eqGuard_agg w .neq 64 x y _ _ eqG
    simp only [ho, hx, hy, Sem.run_bind, g, e, Result.andThen_ok, hb]
    exact hK _ _ h
theorem load_nodeC {w : World} {g : Nat} {k : Int} {d x : By} {t : Int} (hg : Has w g 64 (ndA k d x t)) : (loadVar 64 ⟨g, 0, none⟩).run Tryz.prog w = .ok (.agg (ndA k d x t)) w :=
  run_loadVar_row (P := Tryz.prog) w g 64 64 _ (0, 0) _ hg Tryz.underlying64 rfl iNode
theorem wpList_load_nodeC (hw : Region.wanted o (yielded ops a.tmps) = true) (x : Operand) (ho : o.op = .load 64 x) (g : Nat) (hx : a.eval x = .pointer (some ⟨g, 0, none⟩)) (k : Int) (d y : By) (t : Int) (hg : Has w g 64 (ndA k d y t))
    (h : wpList Tryz.prog ops Q rest (a.put o.dst (.agg (ndA k d y t))) w) : wpList Tryz.prog ops Q (o :: rest) a w :=
  wpList_wanted hw fun _ hK => by
    unfold Oper.wp execOp
    simp only [ho, hx, Instr.loadAt, Instr.sureAddr, Sem.run_bind, Sem.run_pure, Result.andThen_ok, load_nodeC hg]
    exact hK _ _ h
end
section
variable {w0 w : World} {q : Nat} {M : Mo} {ds : List (Nat × Mo)}
theorem lReadC (h : Lv w0 w ((q, M) :: ds)) (hG : Gd w0) (s : By) (hs : s.length ≤ 4000) (k : Int) (d x : By) (t c : Int) (hr : readM M.now s = (⟨k, d, x, t⟩, c)) :
    Calls Tryz.prog 34 #[.pointer (some ⟨q, 0, none⟩), kS s] w fun e w' => e = .returned (.tuple #[.agg (ndA k d x t), .int .i64 c]) ∧ Below w.heap.size w w' := by
  have := lRead h hG s hs
  rw [hr] at this
  exact this
set_option maxRecDepth 100000 in
set_option maxHeartbeats 2000000 in
theorem lIs (h : Lv w0 w ((q, M) :: ds)) (hG : Gd w0) (p want : By) (tm : Int) (hp : p.length ≤ 4000) (hr : readM M.now p = (⟨1, want, [], tm⟩, 0)) :
    Calls Tryz.prog 30 #[.pointer (some ⟨q, 0, none⟩), kS p, kS want, .int .i64 tm] w fun e w' => e = .returned (.bool true) ∧ Lv w0 w' ((q, M) :: ds) := by
  have C1 := hid (lReadC h hG p hp _ _ _ _ _ hr)
  have H := hid h
  clear h hG hr hp
  go_enter Tryz.func30, Tryz.ntmps30
  go_wp2_with fail
  refine C1.out.mono ?_; rintro e1 w1 ⟨rfl, hb1⟩
  have B1 := hid hb1
  have B2 : Hid (Below w.heap.size w (w1.alloc (.cells (ndA 1 want [] tm) 64))) := hb1.alloc hb1.size _
  have X2 : Hid (Has (w1.alloc (.cells (ndA 1 want [] tm) 64)) w1.heap.size 64 (ndA 1 want [] tm)) := Has.fresh _ _ _
  clear hb1
  go_wp2_with (first
    | (refine wpList_load_nodeC rfl (.tmp 9) rfl w1.heap.size rfl 1 want [] tm X2.out ?_)
    | (refine wpList_eql_node rfl (.tmp 20) (.tmp 23) rfl ⟨1, want, [], tm⟩ ⟨1, want, [], tm⟩ rfl rfl true (by simp) ?_))
  go_ret
  exact ⟨rfl, H.out.on B2.out⟩
end
end Go.Proofs.YtlbeemlnbpchgaaGreat
