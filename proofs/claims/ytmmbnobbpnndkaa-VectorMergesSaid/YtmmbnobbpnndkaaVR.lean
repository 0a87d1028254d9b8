/- Rows of versions that come in; rows appended to an empty one. Conditions: sixteen counters each. -/
import Derived.Test.YtmmbnobbpnndkaaVL
import Derived.Maps.AppendAt
import Derived.Deep.Matrix
namespace Go.Proofs.Ytmmbnobbpnndkaa
open Go.RowKit
def flatV (ls : List (List (BitVec 32))) : List Value := ls.flatMap fun l => l.map V32
theorem flat_at (ls : List (List (BitVec 32))) (hl : ∀ l ∈ ls, l.length = 16) (j : Nat) : (flatV ls)[j]? = (ls[j / 16]?).bind fun l => (l.map V32)[j % 16]? := by
  have hg := Great.flat_get (s := 16) (by omega) (ls.map fun l => Value.agg (vec l)) (fun v hv => by
    obtain ⟨l, hlm, rfl⟩ := List.mem_map.1 hv
    show (vec l).size = 16
    rw [vec_size, hl l hlm]) j
  have e : flatV ls = ((ls.map fun l => Value.agg (vec l)).flatMap fun v => v.cells.toList) := by rw [flatV, List.flatMap_map]; rfl
  rw [e, hg, List.getElem?_map]
  cases ls[j / 16]? with
  | none => rfl
  | some l =>
    show (vec l)[j % 16]? = _
    rw [vec, List.getElem?_toArray]; rfl
theorem flat_len (ls : List (List (BitVec 32))) (hl : ∀ l ∈ ls, l.length = 16) : (flatV ls).length = ls.length * 16 := by
  induction ls with
  | nil => rfl
  | cons l ls ih =>
    rw [flatV, List.flatMap_cons, List.length_append, List.length_map, hl l (by simp)]
    have := ih (fun l' h => hl l' (by simp [h]))
    unfold flatV at this
    rw [this, List.length_cons]; omega
theorem flat_one (ls : List (List (BitVec 32))) : ∀ u ∈ flatV ls, u.oneCell' = true := by
  intro u hu
  obtain ⟨l, _, h⟩ := List.mem_flatMap.1 hu
  obtain ⟨x, _, rfl⟩ := List.mem_map.1 h
  rfl
theorem VRows.all {w : World} {A : Option Addr} {ls : List (List (BitVec 32))} {gb off : Nat} (h : VRows w A ls gb off) : ∀ l ∈ ls, l.length = 16 := by
  intro l hl
  obtain ⟨k, hk, rfl⟩ := List.getElem_of_mem hl
  have := h.len k hk
  rwa [rowAt, List.getD, List.getElem?_eq_getElem hk] at this
theorem VRows.cells {w : World} {A : Option Addr} {ls : List (List (BitVec 32))} {gb off : Nat} (h : VRows w A ls gb off) (j : Nat) (u : Value) (hu : (flatV ls)[j]? = some u) : w.cell? ⟨gb, off + j, none⟩ = some u := by
  rw [flat_at ls h.all] at hu
  obtain ⟨l, h1, h2⟩ := Option.bind_eq_some_iff.1 hu
  have hk : j / 16 < ls.length := (List.getElem?_eq_some_iff.1 h1).1
  have hr := h.row (j / 16) hk (j % 16) u
  have e : rowAt ls (j / 16) = l := by rw [rowAt, List.getD, h1]; rfl
  rw [e] at hr
  have := hr h2
  rwa [show off + j / 16 * 16 + j % 16 = off + j by omega] at this
/-- A row of rows that the call owns, as rows. -/
theorem rows_owned {w : World} {B g c : Nat} {ls : List (List (BitVec 32))} {n : Nat} (hl : ∀ l ∈ ls, l.length = 16) (h : w.ownsRow B 24 16 (.slice (some ⟨g, 0, none⟩) n c) n (flatV ls)) : VRows w (some ⟨g, 0, none⟩) ls g 0 := by
  have hg := (h.lt g rfl).2
  refine ⟨fun _ => rfl, fun k hk j v hv => ?_, fun k hk => ?_, fun _ => hg⟩
  · have hlen : (rowAt ls k).length = 16 := by rw [rowAt, List.getD, List.getElem?_eq_getElem hk]; exact hl _ (List.getElem_mem _)
    have hj : j < 16 := by
      rcases Nat.lt_or_ge j 16 with h | h
      · exact h
      · rw [List.getElem?_eq_none (by simp [hlen]; omega)] at hv; cases hv
    have hf : (flatV ls)[k * 16 + j]? = some v := by
      rw [flat_at ls hl, show (k * 16 + j) / 16 = k by omega, show (k * 16 + j) % 16 = j by omega, List.getElem?_eq_getElem hk]
      have e : rowAt ls k = ls[k] := by rw [rowAt, List.getD, List.getElem?_eq_getElem hk]; rfl
      rw [← e]; exact hv
    have := h.cells (g := g) rfl (k * 16 + j) v hf
    have e : (⟨g, 0, none⟩ : Addr).add (k * 16 + j) = ⟨g, k * 16 + j, none⟩ := by unfold Addr.add; split <;> simp_all
    rw [e] at this
    rw [Nat.zero_add]; exact this
  · rw [rowAt, List.getD, List.getElem?_eq_getElem hk]; exact hl _ (List.getElem_mem _)
theorem infoVec3 : (Try.prog.info? 24).map (fun i => (i.zero, i.size, i.bytes)) = some (some (.agg zeroA), 16, 64) := by kernel_rfl
/-- A fresh copy of rows. -/
theorem own_rows (w : World) (ls : List (List (BitVec 32))) (A : Option Addr) (n cap gb off : Nat) (hn : ls.length = n) (hm : n ≤ 200) (hz : A = none → cap = 0) (ha : ∀ a, A = some a → a = ⟨gb, off, none⟩ ∨ n = 0) (hs : VRows w A ls gb off) :
    ∃ g c w', (Builtin.append_ #[37, 37] 37 #[.slice (some ⟨w.heap.size, 0, none⟩) 0 0, .slice A n cap]).run Try.prog (w.alloc (.cells #[] 24)) = .ok (.slice (some ⟨g, 0, none⟩) n c) w' ∧
      VRows w' (some ⟨g, 0, none⟩) ls g 0 ∧ Below w.heap.size w w' := by
  obtain ⟨i0, hi, hz0, hz1, hz2⟩ := info_parts infoVec3
  have h0 : (w.alloc (.cells #[] 24)).ownsRow w.heap.size 24 16 (.slice (some ⟨w.heap.size, 0, none⟩) 0 0) 0 [] := World.ownsRow_made w #[] 0 (Nat.le_refl _) (by unfold maxLen; omega) rfl
  have hb0 : Below w.heap.size w (w.alloc (.cells #[] 24)) := on_alloc w _
  have hs0 := hs.kept hb0 (Nat.le_refl _)
  cases A with
  | none =>
    have hn0 : n = 0 := by
      rcases Nat.eq_zero_or_pos n with h | h
      · exact h
      · have := hs.src (by omega); cases this
    subst hn0
    have hls : ls = [] := List.eq_nil_of_length_eq_zero hn
    subst hls
    rw [hz rfl]
    refine ⟨w.heap.size, 0, _, run_append_owned_none (P := Try.prog) _ w.heap.size 37 37 24 i0 16 Try.underlying37 hi _ _ _ h0, ?_, hb0⟩
    exact ⟨fun h => absurd h (by simp), fun k hk => absurd hk (by simp), fun k hk => absurd hk (by simp), fun h => absurd h (by simp)⟩
  | some a =>
    have hcell : ∀ j u, (flatV ls)[j]? = some u → (w.alloc (.cells #[] 24)).cell? (a.add j) = some u := by
      intro j u hu
      rcases ha a rfl with h | h
      · subst h
        have := hs0.cells j u hu
        rwa [← Addr.add_mid] at this
      · have hls : ls = [] := List.eq_nil_of_length_eq_zero (hn.trans h)
        subst hls
        simp [flatV] at hu
    obtain ⟨v', w', hr, ho, hg, hnil⟩ := run_append_own (P := Try.prog) (w.alloc (.cells #[] 24)) w.heap.size 37 37 24 i0 (.agg zeroA) 16 64 Try.underlying37 hi hz0 hz1 hz2 rfl (by omega) _ 0 [] h0 a n cap (flatV ls)
      (by rw [flat_len ls hs.all, hn]) hcell (flat_one ls) (by unfold maxLen; omega) (by omega) (by simp)
    have hne : v' ≠ .slice none 0 0 := fun e => by have := (hnil.1 e).1; simp at this
    rw [Nat.zero_add, List.nil_append] at ho
    rcases ho.2 with ⟨h1, _⟩ | ⟨g, c, cur, rfl, hbg, hgg, _⟩
    · exact (hne h1).elim
    · exact ⟨g, c, w', hr, rows_owned hs.all ho, hb0.grown hg (by simp) (fun k hk => by simp [Value.ownBlock] at hk; omega)⟩
/-- At the list of a plain region's operations. -/
theorem wpList_append_run {P : Program} {ops : Array Oper} {rest : List Oper} {o : Oper} {a : Act} {w : World} {Q : Exit → Act → World → Prop} (hgd : o.guard = none) (s x : Operand) (t : TypeId)
    (ho : o.op = .call { callee := .builtin .append, args := #[s, x], argTypes := #[t, t] })
    (h : ∃ v' w', (Builtin.append_ #[t, t] o.type #[a.eval s, a.eval x]).run P w = .ok v' w' ∧ wpList P ops Q rest (a.put o.dst v') w') : wpList P ops Q (o :: rest) a w :=
  wpList_plain hgd fun _ hK => by
    obtain ⟨v', w', hr, h⟩ := h
    unfold Oper.wp execOp
    simp only [ho, resolve, invoke, builtin, Sem.run_bind, Sem.run_pure, Result.andThen_ok, List.map_toArray, List.map_cons, List.map_nil, hr]
    exact hK _ _ h
/-- '!=' of two rows that are the same. -/
theorem wpList_neq_vec {ops : Array Oper} {Q : Exit → Act → World → Prop} {a : Act} {w : World} {rest : List Oper} {o : Oper} (hw : Region.wanted o (yielded ops a.tmps) = true)
    (x y : Operand) (ho : o.op = .binOp .neq 24 x y 24) (l : List (BitVec 32)) (hx : a.eval x = .agg (vec l)) (hy : a.eval y = .agg (vec l)) (hl : l.length = 16)
    (h : wpList Try.prog ops Q rest (a.put o.dst (.bool false)) w) : wpList Try.prog ops Q (o :: rest) a w :=
  wpList_wanted hw fun _ hK => by
    unfold Oper.wp execOp
    simp only [ho, hx, hy, Sem.run_bind, run_eqGuard_agg w .neq 24 x y _ _ eqG, run_vec_neq l l hl hl w, Result.andThen_ok, sameV_refl, Bool.not_true]
    exact hK _ _ h
section
variable {ops : Array Oper} {S : World → Prop} {o : Oper} {a : Act}
theorem yields_row (hw : Region.wanted o (yielded ops a.tmps) = true) (x : Operand) (ho : o.op = .load 24 x) (g off : Nat) (hx : a.eval x = .pointer (some ⟨g, off, none⟩)) (l : List (BitVec 32)) (hl : l.length = 16)
    (hS : ∀ w, S w → w.rangeAt g off (l.map V32)) : YieldsIf Try.prog ops S o (.agg (vec l)) a :=
  .inl ⟨hw, fun w hw' => by
    unfold execOp
    simp only [ho, hx, Instr.loadAt, Instr.sureAddr, Sem.run_bind, Sem.run_pure, Result.andThen_ok, load_row (hS w hw') hl]⟩
theorem yields_neq (hw : Region.wanted o (yielded ops a.tmps) = true) (x y : Operand) (ho : o.op = .binOp .neq 24 x y 24) (l : List (BitVec 32)) (hx : a.eval x = .agg (vec l)) (hy : a.eval y = .agg (vec l)) (hl : l.length = 16) : YieldsIf Try.prog ops S o (.bool false) a :=
  .inl ⟨hw, fun w _ => by
    unfold execOp
    simp only [ho, hx, hy, Sem.run_bind, run_eqGuard_agg w .neq 24 x y _ _ eqG, run_vec_neq l l hl hl w, Result.andThen_ok, sameV_refl, Bool.not_true, Sem.run_pure]⟩
end
end Go.Proofs.Ytmmbnobbpnndkaa
