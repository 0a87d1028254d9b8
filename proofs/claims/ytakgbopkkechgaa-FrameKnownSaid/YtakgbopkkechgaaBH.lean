/- (*Tape).cut: the next bytes taken. Conditions: a tape that NewTape made, and so many bytes are left. -/
import Derived.Test.YtakgbopkkechgaaBG
import Derived.Deep.RegionLaw
namespace Go.Proofs.Ytakgbopkkechgaa
open Go.RowKit
theorem Bytes.drawn {w : World} {v : Value} {xs : List UInt8} {A : Option Addr} {cap bb off : Nat} (h : Bytes w v xs A cap bb off) (n : Nat) : Bytes (w.drewN n) v xs A cap bb off := ⟨h.form, h.le, h.zero, h.at_, h.blk, h.src⟩
/-- Bytes appended to what has no room. -/
theorem append_empty (w : World) {src : Value} {ys : List UInt8} {A : Option Addr} {cap bb off : Nat} (hs : Bytes w src ys A cap bb off) (hn : ys.length ≤ 100000) :
    ∃ v' w' A' cap' bb', (Builtin.append_ #[22, 22] 22 #[.slice A 0 0, src]).run Try.prog w = .ok v' w' ∧ Bytes w' v' ys A' cap' bb' 0 ∧ (bb' = 0 ∨ w.heap.size ≤ bb') ∧ Below w.heap.size w w' := by
  obtain ⟨i0, hi, hz0, hz1, hz2⟩ := info_parts info5
  have hpos : 0 < w.heap.size := Nat.lt_of_le_of_lt (Nat.zero_le _) hs.blk
  rcases Nat.eq_zero_or_pos ys.length with h0 | h0
  · obtain rfl : ys = [] := List.eq_nil_of_length_eq_zero h0
    refine ⟨.slice A 0 0, w, A, 0, 0, ?_, ⟨rfl, Nat.le_refl _, fun _ => rfl, fun a _ j hj => absurd hj (by simp), hpos, fun h => absurd h (by simp)⟩, .inl rfl, Below.refl _ _⟩
    rw [hs.form]
    have hu := Try.underlying22
    cases A <;> simp [Builtin.append_, run_underlying hu, sizeOf, typeInfo, hi, Builtin.lenOf, Builtin.firstCells, loadCells, loadCellsFrom, storeCells]
  · have hA := hs.src h0
    subst hA
    rw [hs.form]
    have hr := run_append_grow (P := Try.prog) w 22 22 5 i0 (.int .u8 0) Try.underlying22 hi hz0 ⟨bb, off, none⟩ 0 0 [] (by simp) (fun j v hj => by simp at hj) ⟨bb, off, none⟩ ys.length cap (ys.map V8) (by rw [List.length_map, hz1, Nat.mul_one])
      (fun j u hj => by obtain ⟨h1, rfl⟩ := map_get hj; exact hs.at_ _ rfl j h1) (by omega) (by omega) (growslice_fits (by omega) (by rw [hz2]; omega))
    rw [Nat.zero_add] at hr
    have hge := grownCap_ge w ys.length 0 5
    generalize grownCap w ys.length 0 5 = c at hr hge
    refine ⟨_, _, _, c, w.heap.size, hr, ⟨rfl, hge, (fun h => by cases h), fun a ha j hj => ?_, by simp, fun _ => rfl⟩, .inr (Nat.le_refl _), (Below.refl _ _).drew.alloc (Nat.le_refl _) _⟩
    cases ha
    rw [add_at, Nat.zero_add]
    have := Has.at_ (Has.fresh w.drew 5 (([] : List Value).toArray ++ (ys.map V8).toArray ++ Builtin.zeroCells (Value.int IntKind.u8 0).cells (c - ys.length))) j
    refine this.trans ?_
    rw [Array.getElem?_append_left (by simp; exact hj), Array.getElem?_append_right (by simp)]
    simpa using get_map hj
/-- An append whose run is known, as a step of a region that draws its order. -/
theorem step_append_run {P : Program} {ops : Array Oper} {o : Oper} {a : Act} {w : World} {K : Act → World → Prop} {Q : Exit → Act → World → Prop} {E : Prop} (hgd : o.guard = none) (s x : Operand) (t tn : TypeId)
    (ho : o.op = .call { callee := .builtin .append, args := #[s, x], argTypes := #[t, tn] })
    (h : ∃ v' w', (Builtin.append_ #[t, tn] o.type #[a.eval s, a.eval x]).run P w = .ok v' w' ∧ K (a.put o.dst v') w') :
    if Region.wanted o (yielded ops a.tmps) = true then Oper.wp P o a w K Q else E := by
  have hw : Region.wanted o (yielded ops a.tmps) = true := by simp [Region.wanted, hgd]
  rw [if_pos hw]
  obtain ⟨v', w', hr, h⟩ := h
  unfold Oper.wp execOp
  simp only [ho, resolve, invoke, builtin, Sem.run_bind, Sem.run_pure, Result.andThen_ok, List.map_toArray, List.map_cons, List.map_nil, hr]
  exact h
theorem Bytes.none_run {A : Option Addr} {n cap : Nat} (w' : World) : (Instr.slice 22 (.slice A n cap) none (some (.int .i64 0)) (some (.int .i64 0))).run Try.prog w' = .ok (.slice A 0 0) w' := by
  have he : Try.prog.elem 22 = 5 := by kernel_rfl
  have hs : ∀ w, (sizeOf (Try.prog.elem 22)).run Try.prog w = .ok 1 w := by intro w; rw [he]; kernel_rfl
  rw [run_slice_hm (P := Try.prog) w' 22 A n cap (by kernel_rfl) .i64 .i64 0 0 (by omega) (by omega) (by omega), hs]
  simp [Result.andThen, sliced]
/-- Bytes that stay where nothing is written. -/
def Apart (B bb : Nat) : Prop := bb = 0 ∨ B ≤ bb
/-- The tape when m bytes have been passed. -/
theorem tp_pass {w : World} {g : Nat} {t : Bool} {xs : List UInt8} (h : Tp w g (t, xs)) (m : Nat) (hm : m ≤ xs.length) : ∃ A L cap A2 L2 cap2 bb off, w.cell? ⟨g, 2, none⟩ = some (.slice A L cap) ∧ Hid (xs.length = L) ∧ Hid (Bytes w (.slice A L cap) xs A cap bb off) ∧
    (∀ w : World, (Instr.slice 22 (.slice A L cap) (some (.int .i64 (m : Int))) none none).run Try.prog w = .ok (.slice A2 L2 cap2) w) ∧
    Hid (∀ w', Below w.heap.size w w' → Tp (w'.setCell ⟨g, 2, none⟩ (.slice A2 L2 cap2)) g (t, xs.drop m) ∧ Grw g w (w'.setCell ⟨g, 2, none⟩ (.slice A2 L2 cap2)) ∧ w'.cell? ⟨g, 2, none⟩ = some (.slice A L cap) ∧ w'.frozen? ⟨g, 2, none⟩ = false) := by
  obtain ⟨A, cap, bb, off, h1, h2, h3, h4, h5⟩ := h
  obtain ⟨A2, hr2, hb2⟩ := h2.rest m hm
  refine ⟨A, _, cap, A2, _, cap - m, bb, off, h1.at_ 2, rfl, h2, hr2, fun w' hb => ?_⟩
  have hh := h1.kept hb h1.inside
  have hg := Grw.of_set g 2 w' (.slice A2 (xs.drop m).length (cap - m))
  exact ⟨⟨A2, cap - m, bb, off + m, hh.put 2 _, (hb2.kept hb (Nat.le_refl _)).grw hg h3, h3, by show (xs.drop m).length ≤ _; have : xs.length ≤ 100000 := h4; rw [List.length_drop]; omega, h5⟩, (Grw.of_below hb).trans hg, hh.at_ 2, hh.free 2⟩
end Go.Proofs.Ytakgbopkkechgaa
