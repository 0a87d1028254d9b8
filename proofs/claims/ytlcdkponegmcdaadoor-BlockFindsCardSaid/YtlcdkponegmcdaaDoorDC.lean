/- Digests in rows; block.List, block.Verify: what each call does. Conditions: the listed table; bytes in a block of the world. -/
import Derived.Test.YtlcdkponegmcdaaDoorDB
import Derived.Test.YtlcdkponegmcdaaDoorSK
import Derived.Great.BuildSlice
namespace Go.Proofs.YtlcdkponegmcdaaDoor
open Go.RowKit
/-- Bytes as an array's cells. -/
def hvec (l : List UInt8) : Array Value := (l.map V8).toArray
theorem hvec_size (l : List UInt8) : (hvec l).size = l.length := by simp [hvec]
theorem hvec_inj {a b : List UInt8} (h : hvec a = hvec b) : a = b := by
  have h := congrArg Array.toList h
  simp only [hvec] at h
  refine List.map_inj_right (f := V8) (fun x y e => ?_) |>.1 h
  unfold V8 b8 at e
  injection e with _ e
  exact UInt8.toNat_inj.1 (by omega)
/-- The digest of bytes. -/
@[irreducible] def dg (xs : List UInt8) : List UInt8 := Sha.shaL xs
theorem dg_len (xs : List UInt8) : (dg xs).length = 32 := by unfold dg; exact Sha.fin_len _
theorem sum_any (v : Value) (xs : List UInt8) (A : Option Addr) (cap bb off : Nat) (w : World) (hT : Sha.Tab w) (h : Bytes w v xs A cap bb off) (hl : xs.length ≤ 1000000) :
    Calls Tryd.prog 34 #[v] w fun e w' => e = .returned (.agg (hvec (dg xs))) ∧ Below w.heap.size w w' := by
  have e0 := h.form
  rw [e0]
  have := Sha.sum_any bb off xs.length cap A xs w hT h.blk rfl h.le (by omega) (fun j hj => h.cells j hj) h.src
  refine this.mono ?_
  rintro e w' ⟨rfl, hb⟩
  refine ⟨?_, hb⟩
  unfold dg
  rfl
theorem infoH : (Tryd.prog.info? 27).map (fun i => (i.zero, i.size, i.bytes)) = some (some (.agg (hvec (List.replicate 32 0))), 32, 32) := by kernel_rfl
def hcells (hs : List (List UInt8)) : List Value := hs.flatMap fun l => l.map V8
theorem hcells_snoc (hs : List (List UInt8)) (h : List UInt8) : hcells (hs ++ [h]) = hcells hs ++ h.map V8 := by simp [hcells]
/-- A slice over just these digests, in a row of the call's own. -/
structure Dgs (B : Nat) (w : World) (v : Value) (hs : List (List UInt8)) : Prop where
  own : w.ownsRow B 27 32 v hs.length (hcells hs)
  len : ∀ h ∈ hs, h.length = 32
theorem Dgs.nil (B : Nat) (w : World) : Dgs B w (.slice none 0 0) [] := ⟨World.ownsRow_nil _ _ _ _, fun _ h => by cases h⟩
theorem Dgs.mono {B B' : Nat} {w : World} {v : Value} {hs : List (List UInt8)} (h : Dgs B w v hs) (hb : B' ≤ B) : Dgs B' w v hs := by
  refine ⟨⟨h.own.1, ?_⟩, h.len⟩
  rcases h.own.2 with ⟨h1, h2⟩ | ⟨g, c, cur, h1, h2, h3⟩
  · exact .inl ⟨h1, h2⟩
  · exact .inr ⟨g, c, cur, h1, Nat.le_trans hb h2, h3⟩
theorem Dgs.grown {B : Nat} {w w' : World} {row : Option Nat} {v : Value} {hs : List (List UInt8)} (h : Dgs B w v hs) (hg : w.grownBy w' row) (hne : v.ownBlock = none ∨ v.ownBlock ≠ row) : Dgs B w' v hs := ⟨h.own.kept hg hne, h.len⟩
theorem below_grown {w w' : World} (h : Below w.heap.size w w') : w.grownBy w' none := ⟨h.os, h.tape, h.output, h.size, fun i hi _ => h.block i hi⟩
theorem Dgs.kept {B C : Nat} {w w' : World} {v : Value} {hs : List (List UInt8)} (h : Dgs B w v hs) (hb : Below C w w') (hC : w.heap.size ≤ C) : Dgs B w' v hs :=
  h.grown (row := none) ⟨hb.os, hb.tape, hb.output, hb.size, fun i hi _ => hb.block i (Nat.lt_of_lt_of_le hi hC)⟩ (by cases v.ownBlock <;> simp)
theorem Dgs.form {B : Nat} {w : World} {v : Value} {hs : List (List UInt8)} (h : Dgs B w v hs) : ∃ A c, v = .slice A hs.length c := by
  rcases h.own.2 with ⟨h1, h2⟩ | ⟨g, c, cur, h1, _⟩
  · exact ⟨none, 0, by rw [h1, h2]⟩
  · exact ⟨_, _, h1⟩
theorem flat_at (hs : List (List UInt8)) (hl : ∀ h ∈ hs, h.length = 32) (k : Nat) (hk : k < hs.length) (j : Nat) (hj : j < 32) : (hcells hs)[k * 32 + j]? = ((hs[k]).map V8)[j]? := by
  induction hs generalizing k with
  | nil => simp at hk
  | cons a t ih =>
    have ha := hl a (by simp)
    have e : hcells (a :: t) = a.map V8 ++ hcells t := by simp [hcells]
    rw [e]
    cases k with
    | zero => rw [List.getElem?_append_left (by simp [ha]; omega)]; simp
    | succ k =>
      rw [List.getElem?_append_right (by simp [ha]; omega)]
      rw [show (k + 1) * 32 + j - (a.map V8).length = k * 32 + j by simp [ha]; omega]
      exact ih (fun h hh => hl h (by simp [hh])) k (by simpa using hk)
/-- The digest at a place, loaded. -/
theorem Dgs.at_ {B : Nat} {w : World} {v : Value} {hs : List (List UInt8)} (h : Dgs B w v hs) (k : Nat) (hk : k < hs.length) :
    ∃ g c, v = .slice (some ⟨g, 0, none⟩) hs.length c ∧ B ≤ g ∧ g < w.heap.size ∧ (loadVar 27 ⟨g, k * 32, none⟩).run Tryd.prog w = .ok (.agg (hvec hs[k])) w := by
  rcases h.own.2 with ⟨_, h2⟩ | ⟨g, c, cur, h1, hB, h3, h4, h5, h6, h7⟩
  · omega
  · have hlen : (hs[k]).length = 32 := h.len _ (List.getElem_mem hk)
    refine ⟨g, c, h1, hB, (Array.getElem?_eq_some_iff.1 h3).1, ?_⟩
    refine run_loadVar_mid (P := Tryd.prog) w g (k * 32) 27 ((hs[k]).map V8) _ (fun j u hj => ?_) Tryd.underlying27 rfl (by rw [List.length_map, hlen]; kernel_rfl)
    have hj2 : j < 32 := by
      have := (List.getElem?_eq_some_iff.1 hj).1
      simpa [hlen] using this
    rw [cell_of_row w g _ cur 27 (0, 0) h3]
    rw [← flat_at hs h.len k hk j hj2, ← h7, List.getElem?_take_of_lt (by omega), Array.getElem?_toList] at hj
    exact hj
theorem run_build_dg (w : World) (h : List UInt8) (hl : h.length = 32) :
    (Instr.buildSlice 28 1 #[(0, Value.agg (hvec h))]).run Tryd.prog w = .ok (.slice (some ⟨w.heap.size, 0, none⟩) 1 1) (w.alloc (.cells (hvec h) 27)) := by
  have hI : (Tryd.prog.info? 27).map (fun i => (i.size, i.zero)) = some (32, some (.agg (hvec (List.replicate 32 0)))) := by kernel_rfl
  cases hie : Tryd.prog.info? 27 with
  | none => rw [hie] at hI; cases hI
  | some ie =>
    rw [hie] at hI
    simp only [Option.map_some, Option.some.injEq, Prod.mk.injEq] at hI
    refine run_buildSlice (P := Tryd.prog) w 28 27 1 _ _ ie _ Tryd.underlying28 hie hI.2 (by rw [hI.1]; omega) (by rw [hI.1]; omega) ?_
    rw [hI.1]
    refine (Great.fill_whole (s := 32) (by omega) [Value.agg (hvec h)] _ (fun v hv => ?_) (by simp)).trans (by simp [Value.cells])
    simp only [List.mem_singleton] at hv
    subst hv
    show (hvec h).size = 32
    rw [hvec_size, hl]
theorem wpList_wanted {P : Program} {ops : Array Oper} {Q : Exit → Act → World → Prop} {a : Act} {w : World} {rest : List Oper} {o : Oper} (hw : Region.wanted o (yielded ops a.tmps) = true)
    (h : ∀ K : Act → World → Prop, (∀ a w, wpList P ops Q rest a w → K a w) → o.wp P a w K Q) : wpList P ops Q (o :: rest) a w :=
  wpList_step fun K hK => by rw [if_pos hw]; exact h K hK
theorem wpList_load_g {P : Program} {ops : Array Oper} {rest : List Oper} {o : Oper} {a : Act} {w : World} {Q : Exit → Act → World → Prop} (hw : Region.wanted o (yielded ops a.tmps) = true) (ty : TypeId) (x : Operand) (ho : o.op = .load ty x)
    (g off : Nat) (hx : a.eval x = .pointer (some ⟨g, off, none⟩)) (cs : Array Value) (hl : (loadVar ty ⟨g, off, none⟩).run P w = .ok (.agg cs) w)
    (h : wpList P ops Q rest (a.put o.dst (.agg cs)) w) : wpList P ops Q (o :: rest) a w :=
  wpList_wanted hw fun _ hK => by
    unfold Oper.wp execOp
    simp only [ho, hx, Instr.loadAt, Instr.sureAddr, Sem.run_bind, Sem.run_pure, Result.andThen_ok, hl]
    exact hK _ _ h
theorem wpList_build_dg {ops : Array Oper} {Q : Exit → Act → World → Prop} {a : Act} {w : World} {rest : List Oper} {o : Oper} (hw : Region.wanted o (yielded ops a.tmps) = true)
    (x : Operand) (ho : o.op = .buildSlice 28 1 #[(0, x)]) (d : List UInt8) (hx : a.eval x = .agg (hvec d)) (hl : d.length = 32)
    (h : wpList Tryd.prog ops Q rest (a.put o.dst (.slice (some ⟨w.heap.size, 0, none⟩) 1 1)) (w.alloc (.cells (hvec d) 27))) : wpList Tryd.prog ops Q (o :: rest) a w :=
  wpList_wanted hw fun _ hK => by
    unfold Oper.wp execOp
    simp only [ho, Sem.run_bind, List.map_toArray, List.map_cons, List.map_nil, hx, run_build_dg w d hl, Result.andThen_ok]
    exact hK _ _ h
theorem append_dg (w : World) (B : Nat) (v : Value) (hs : List (List UInt8)) (h : Dgs B w v hs) (d : List UInt8) (hd : d.length = 32) (a : Addr) (ha : ∀ j, j < 32 → w.cell? (a.add j) = some (V8 (at8 d j))) (hn : hs.length ≤ 100000) (hB : B ≤ w.heap.size) (ty : TypeId) :
    ∃ v' w', (Builtin.append_ #[28, 28] ty #[v, .slice (some a) 1 1]).run Tryd.prog w = .ok v' w' ∧ Dgs B w' v' (hs ++ [d]) ∧ w.grownBy w' v.ownBlock := by
  obtain ⟨i0, hi, hz0, hz1, hz2⟩ := info_parts infoH
  obtain ⟨v', w', hr, ho, hg, _, _⟩ := run_append_own_at (P := Tryd.prog) w B 28 ty 27 i0 _ 32 32 Tryd.underlying28 hi hz0 hz1 hz2 (by simp [Value.cells, hvec]) (by omega) v hs.length (hcells hs) h.own a 1 1 (d.map V8) (by simp [hd])
    (fun j u hj => by obtain ⟨h1, rfl⟩ := map_get hj; exact ha j (by omega)) (V8_one d) (by unfold maxLen; omega) (by omega) hB
  refine ⟨v', w', hr, ⟨?_, ?_⟩, hg⟩
  · rw [hcells_snoc, List.length_append]; exact ho
  · intro h' hh
    rcases List.mem_append.1 hh with h1 | h1
    · exact h.len _ h1
    · simp only [List.mem_singleton] at h1; rw [h1]; exact hd
end Go.Proofs.YtlcdkponegmcdaaDoor
