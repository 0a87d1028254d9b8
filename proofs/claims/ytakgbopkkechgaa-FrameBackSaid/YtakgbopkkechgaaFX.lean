/- Rows of frames of the law's own; the plain facts of frames laid one behind the other. No conditions but the ones said. -/
import Derived.Test.YtakgbopkkechgaaFTB
import Derived.Deep.MidRow
import Derived.ChangeKeysEq
namespace Go.Proofs.Ytakgbopkkechgaa
open Go.RowKit
abbrev Fr := UInt8 × ByteArray
def flat (ws : List Fr) : List UInt8 := (ws.map fun f => frL f.1 (tl f.2)).flatten
def frC (f : Fr) : List Value := [.int .i64 (b8 f.1), .string f.2]
def frmV (ws : List Fr) : List Value := ws.flatMap frC
def okW (f : Fr) : Prop := okKind f.1 ∧ f.2.size ≤ 2000
theorem flat_snoc (ws : List Fr) (f : Fr) : flat (ws ++ [f]) = flat ws ++ frL f.1 (tl f.2) := by simp [flat]
theorem flat_cons (ws : List Fr) (f : Fr) : flat (f :: ws) = frL f.1 (tl f.2) ++ flat ws := by simp [flat]
theorem frmV_snoc (ws : List Fr) (f : Fr) : frmV (ws ++ [f]) = frmV ws ++ frC f := by simp [frmV]
theorem frmV_len (ws : List Fr) : (frmV ws).length = ws.length * 2 := by
  induction ws with
  | nil => rfl
  | cons f t ih => rw [frmV, List.flatMap_cons, List.length_append, ← frmV, ih, List.length_cons]; simp [frC]; omega
theorem flat_len (ws : List Fr) (h : ∀ f ∈ ws, okW f) : (flat ws).length ≤ 2005 * ws.length := by
  induction ws with
  | nil => simp [flat]
  | cons f t ih =>
    have h1 := (h f (by simp)).2
    have h2 := ih (fun g hg => h g (by simp [hg]))
    rw [flat_cons, List.length_append, frL_len, tl_length, List.length_cons]; omega
theorem frmV_get : ∀ (ws : List Fr) (i : Nat) (z : Fr), i < ws.length → (frmV ws)[i * 2]? = some (.int .i64 (b8 (ws.getD i z).1)) ∧ (frmV ws)[i * 2 + 1]? = some (.string (ws.getD i z).2) := by
  intro ws
  induction ws with
  | nil => intro i z h; simp at h
  | cons f t ih =>
    intro i z h
    have e : frmV (f :: t) = .int .i64 (b8 f.1) :: .string f.2 :: frmV t := rfl
    rw [e]
    cases i with
    | zero => exact ⟨rfl, rfl⟩
    | succ i =>
      have := ih i z (by simpa using h)
      rw [show (i + 1) * 2 = i * 2 + 1 + 1 by omega]
      exact this
theorem infoF : (Try.prog.info? 52).map (fun i => (i.zero, i.size, i.bytes)) = some (some (.agg #[.int .i64 0, .string ⟨#[]⟩]), 2, 24) := by kernel_rfl
/-- A row of frames of the law's own. -/
def FRow (B : Nat) (w : World) (v : Value) (ws : List Fr) : Prop := w.ownsRow B 52 2 v ws.length (frmV ws)
section
variable {B : Nat} {w w' : World} {v : Value} {ws : List Fr}
theorem FRow.nil (B : Nat) (w : World) : FRow B w (.slice none 0 0) [] := World.ownsRow_nil _ _ _ _
theorem FRow.same (h : FRow B w v ws) (hb : ∀ k, v.ownBlock = some k → w'.heap[k]? = w.heap[k]?) : FRow B w' v ws := own_same h hb
theorem FRow.lt (h : FRow B w v ws) {k : Nat} (hk : v.ownBlock = some k) : B ≤ k ∧ k < w.heap.size := World.ownsRow.lt h k hk
theorem FRow.kept (h : FRow B w v ws) (hb : Below w.heap.size w w') : FRow B w' v ws := h.same (fun _ hk => hb.block _ (h.lt hk).2)
theorem FRow.form (h : FRow B w v ws) : ∃ A c, v = .slice A ws.length c := by
  rcases h.2 with ⟨rfl, h2⟩ | ⟨g, c, cur, rfl, _⟩
  · rw [h2]; exact ⟨none, 0, rfl⟩
  · exact ⟨_, c, rfl⟩
/-- Its block holds frames. -/
theorem FRow.type (h : FRow B w v ws) {k : Nat} (hk : v.ownBlock = some k) : ∃ cs, w.heap[k]? = some (.cells cs 52 (0, 0)) := by
  rcases h.2 with ⟨rfl, h2⟩ | ⟨g, c, cur, rfl, _, h4, _⟩
  · cases hk
  · cases hk; exact ⟨cur, h4⟩
theorem type_apart {g : Nat} {c1 c2 : Array Value} {t1 t2 : TypeId} {f1 f2 : Nat × Nat} (h1 : w.heap[g]? = some (.cells c1 t1 f1)) (h2 : w.heap[g]? = some (.cells c2 t2 f2)) : t1 = t2 := by
  rw [h1] at h2
  injection h2 with h2
  injection h2
theorem FRow.bytes (h : FRow B w v ws) {B2 n : Nat} {v2 : Value} {xs : List Value} (h2 : w.ownsRow B2 5 1 v2 n xs) {k : Nat} (hk : v.ownBlock = some k) : v2.ownBlock ≠ some k := by
  intro e
  obtain ⟨cs, hc⟩ := h.type hk
  rcases h2.2 with ⟨rfl, _⟩ | ⟨g, c, cur, rfl, _, h4, _⟩
  · cases e
  · cases e
    have := type_apart hc h4
    revert this; decide
theorem FRow.at_ (h : FRow B w v ws) (i : Nat) (hi : i < ws.length) (z : Fr) : ∃ g c, v = .slice (some ⟨g, 0, none⟩) ws.length c ∧ B ≤ g ∧ w.cell? ⟨g, i * 2, none⟩ = some (.int .i64 (b8 (ws.getD i z).1)) ∧ w.cell? ⟨g, i * 2 + 1, none⟩ = some (.string (ws.getD i z).2) := by
  rcases h.2 with ⟨_, h2⟩ | ⟨g, c, cur, rfl, hB, _⟩
  · omega
  · have hc := World.ownsRow.cells h (g := g) rfl
    obtain ⟨g1, g2⟩ := frmV_get ws i z hi
    have c1 := hc _ _ g1
    have c2 := hc _ _ g2
    rw [add_at, Nat.zero_add] at c1 c2
    exact ⟨g, c, rfl, hB, c1, c2⟩
/-- A frame appended. -/
theorem FRow.append (h : FRow B w v ws) (k : UInt8) (s : ByteArray) (hn : ws.length ≤ 1000) (hB : B ≤ w.heap.size) :
    ∃ v' w', (Builtin.append_ #[48, 48] 48 #[v, .slice (some ⟨w.heap.size, 0, none⟩) 1 1]).run Try.prog (w.alloc (.cells #[.int .i64 (b8 k), .string s] 52)) = .ok v' w' ∧ FRow B w' v' (ws ++ [(k, s)]) ∧
      (w.alloc (.cells #[.int .i64 (b8 k), .string s] 52)).grownBy w' v.ownBlock := by
  obtain ⟨i0, hi, hz0, hz1, hz2⟩ := info_parts infoF
  have hown : (w.alloc (.cells #[.int .i64 (b8 k), .string s] 52)).ownsRow B 52 2 v ws.length (frmV ws) := World.ownsRow.alloc h _
  obtain ⟨v', w', hr, ho, hg, _, _⟩ := run_append_own_at (P := Try.prog) (w.alloc (.cells #[.int .i64 (b8 k), .string s] 52)) B 48 48 52 i0 _ 2 24 Try.underlying48 hi hz0 hz1 hz2 rfl (by omega) v ws.length (frmV ws) hown
    ⟨w.heap.size, 0, none⟩ 1 1 [.int .i64 (b8 k), .string s] rfl (fun j u hj => by
      have := (Has.fresh w 52 #[.int .i64 (b8 k), .string s]).at_ j
      rw [add_at, Nat.zero_add, this]
      simpa using hj) (fun u hu => by
      simp only [List.mem_cons, List.not_mem_nil, or_false] at hu
      rcases hu with rfl | rfl <;> rfl) (by unfold maxLen; omega) (by omega) (by simp; omega)
  refine ⟨v', w', hr, ?_, hg⟩
  rw [FRow, List.length_append, frmV_snoc]
  exact ho
end
/-- The frame that lies there is read. -/
theorem load_frame {w : World} {g o : Nat} {k : Int} {s : ByteArray} (h0 : w.cell? ⟨g, o, none⟩ = some (.int .i64 k)) (h1 : w.cell? ⟨g, o + 1, none⟩ = some (.string s)) : (loadVar 52 ⟨g, o, none⟩).run Try.prog w = .ok (.agg #[.int .i64 k, .string s]) w := by
  refine run_loadVar_mid (P := Try.prog) w g o 52 [.int .i64 k, .string s] _ (fun j u hj => ?_) Try.underlying52 rfl (by show _ = some 2; kernel_rfl)
  match j, hj with
  | 0, hj => obtain rfl := Option.some.inj hj; exact h0
  | 1, hj => obtain rfl := Option.some.inj hj; exact h1
  | j + 2, hj => simp at hj
theorem eqGF : Try.prog.eqGuardType Try.prog.depth 52 = false := by kernel_rfl
theorem frameFields : Try.prog.fieldsOf 52 = #[{ name := "Kind", type := 3, offset := 0, embedded := false, tag := "", pkgPath := "", byteOffset := 0 }, { name := "Body", type := 9, offset := 1, embedded := false, tag := "", pkgPath := "", byteOffset := 8 }] := by kernel_rfl
theorem neqF_same (k : Int) (s : ByteArray) (w : World) : (binOp .neq 52 (.agg #[.int .i64 k, .string s]) (.agg #[.int .i64 k, .string s])).run Try.prog w = .ok (.bool false) w := by
  have hu : Try.prog.underlying 52 = some (.struct (Try.prog.fieldsOf 52)) := by rw [frameFields]; exact Try.underlying52
  have pI : Try.prog.plainKey 3 = true := by kernel_rfl
  have pS : Try.prog.plainKey 9 = true := by kernel_rfl
  have q0 : ∀ (x y : Value) w, (part 3 #[x, y] 0).run Try.prog w = .ok x w := fun x y w => run_part_plain w pI rfl
  have q1 : ∀ (x y : Value) w, (part 9 #[x, y] 1).run Try.prog w = .ok y w := fun x y w => run_part_plain w pS rfl
  have e0 : ∀ x y w, (Op.equalIn 9999 3 (.int .i64 x) (.int .i64 y)).run Try.prog w = .ok (x == y) w := fun x y w => run_equalIn_int w 9998 3 .i64 .i64 x y Try.underlying3
  have e1 : ∀ x y w, (Op.equalIn 9999 9 (.string x) (.string y)).run Try.prog w = .ok (x.toList == y.toList) w := fun x y w => run_equalIn_string w 9998 9 x y Try.underlying9
  rw [run_neq_struct, run_equalIn_agg _ 9999 52 _ _ hu (by kernel_rfl), frameFields]
  simp [Op.eqFields, Sem.run_bind, q0, e0, q1, e1, Result.andThen_ok]
section
variable {ops : Array Oper} {S : World → Prop} {o : Oper} {a : Act}
theorem yields_neqF (hw : Region.wanted o (yielded ops a.tmps) = true) (x y : Operand) (ho : o.op = .binOp .neq 52 x y 52) (k : Int) (s : ByteArray) (hx : a.eval x = .agg #[.int .i64 k, .string s]) (hy : a.eval y = .agg #[.int .i64 k, .string s]) : YieldsIf Try.prog ops S o (.bool false) a :=
  .inl ⟨hw, fun w _ => by
    unfold execOp
    simp only [ho, hx, hy, Sem.run_bind, run_eqGuard_agg w .neq 52 x y _ _ eqGF, neqF_same k s w, Result.andThen_ok, Sem.run_pure]⟩
theorem yields_loadF (hw : Region.wanted o (yielded ops a.tmps) = true) (x : Operand) (ho : o.op = .load 52 x) (g off : Nat) (hx : a.eval x = .pointer (some ⟨g, off, none⟩)) (cs : Array Value) (hS : ∀ w, S w → (loadVar 52 ⟨g, off, none⟩).run Try.prog w = .ok (.agg cs) w) : YieldsIf Try.prog ops S o (.agg cs) a :=
  .inl ⟨hw, fun w hw' => by
    unfold execOp
    simp only [ho, hx, Instr.loadAt, Instr.sureAddr, Sem.run_bind, Sem.run_pure, Result.andThen_ok, hS w hw']⟩
end
end Go.Proofs.Ytakgbopkkechgaa
