/- Versions: the steps of a region that draws its order over rows in boxes. No conditions. -/
import Derived.Test.YtmmbnobbpnndkaaVJ
import Derived.Test.YtmmbnobbpnndkaaVK
import Derived.Deep.RegionHeld3
namespace Go.Proofs.Ytmmbnobbpnndkaa
open Go.RowKit
/-- Each of these blocks holds its row. -/
def HasAll (gs : List (Nat × List (BitVec 32))) (w : World) : Prop := ∀ p ∈ gs, Has w p.1 24 (vec p.2)
theorem HasAll.on {gs : List (Nat × List (BitVec 32))} {w w1 : World} (h : HasAll gs w) (hb : Below w.heap.size w w1) : HasAll gs w1 := fun p hp => Has.kept (h p hp) hb (Has.inside (h p hp))
theorem HasAll.nil (w : World) : HasAll [] w := fun p hp => by cases hp
theorem HasAll.cons {gs : List (Nat × List (BitVec 32))} {w : World} {g : Nat} {l : List (BitVec 32)} (h : Hid (Has w g 24 (vec l))) (hs : HasAll gs w) : HasAll ((g, l) :: gs) w := fun p hp => by
  rcases List.mem_cons.1 hp with rfl | hp
  · exact h.out
  · exact hs p hp
theorem HasAll.draw {gs : List (Nat × List (BitVec 32))} {w : World} (h : HasAll gs w) : HasAll gs w.drew := fun p hp => (h p hp).drawn 1
theorem on_alloc (w : World) (o : Obj) : Below w.heap.size w (w.alloc o) := (Below.refl _ _).alloc (Nat.le_refl _) _
theorem below_draw {w w1 : World} (h : Hid (Below w.heap.size w w1)) : Hid (Below w.heap.size w w1.drew) := h.out.drew
section
variable {ops : Array Oper} {S : World → Prop} {o : Oper} {a : Act}
theorem yields_vec (hw : Region.wanted o (yielded ops a.tmps) = true) (x : Operand) (ho : o.op = .load 24 x) (g : Nat) (hx : a.eval x = .pointer (some ⟨g, 0, none⟩)) (l : List (BitVec 32)) (hl : l.length = 16)
    (hS : ∀ w, S w → Has w g 24 (vec l)) : YieldsIf Try.prog ops S o (.agg (vec l)) a :=
  .inl ⟨hw, fun w hw' => by
    unfold execOp
    simp only [ho, hx, Instr.loadAt, Instr.sureAddr, Sem.run_bind, Sem.run_pure, Result.andThen_ok, load_vec (hS w hw') hl]⟩
theorem yields_eql (hw : Region.wanted o (yielded ops a.tmps) = true) (x y : Operand) (ho : o.op = .binOp .eql 24 x y 24) (l m : List (BitVec 32)) (hx : a.eval x = .agg (vec l)) (hy : a.eval y = .agg (vec m)) (hl : l.length = 16) (hm : m.length = 16)
    (b : Bool) (hb : sameV l m = b) : YieldsIf Try.prog ops S o (.bool b) a :=
  .inl ⟨hw, fun w _ => by
    unfold execOp
    simp only [ho, hx, hy, Sem.run_bind, run_eqGuard_agg w .eql 24 x y _ _ eqG, run_vec_eql l m hl hm w, Result.andThen_ok, hb, Sem.run_pure]⟩
theorem ready_build {w : World} {K : Act → World → Prop} {Q : Exit → Act → World → Prop} {E : Prop} (hw : Region.wanted o (yielded ops a.tmps) = true) (ls : List (List (BitVec 32))) (n : Nat) (parts : Array (Nat × Operand)) (ho : o.op = .buildSlice 37 n parts)
    (hn : ls.length = n) (h0 : 0 < n) (hm : n ≤ 1000) (hl : ∀ l ∈ ls, l.length = 16)
    (hp : (parts.toList.map fun (i, x) => (i, a.eval x)) = ((ls.map fun l => Value.agg (vec l)).zipIdx 0).map fun x => (x.2, x.1))
    (h : K (a.put o.dst (.slice (some ⟨w.heap.size, 0, none⟩) n n)) (w.alloc (.cells (rowsA ls) 24))) : if Region.wanted o (yielded ops a.tmps) = true then Oper.wp Try.prog o a w K Q else E := by
  rw [if_pos hw]
  exact wp_build_vecs ls n parts ho hn h0 hm hl hp h
theorem ready_lay {w : World} {K : Act → World → Prop} {Q : Exit → Act → World → Prop} {E : Prop} (hw : Region.wanted o (yielded ops a.tmps) = true) (ls : List (List (BitVec 32))) (n : Nat) (parts : Array (Nat × Operand)) (ho : o.op = .buildSlice 37 n parts)
    (hn : ls.length = n) (h0 : 0 < n) (hm : n ≤ 1000) (hl : ∀ l ∈ ls, l.length = 16)
    (hp : (parts.toList.map fun (i, x) => (i, a.eval x)) = ((ls.map fun l => Value.agg (vec l)).zipIdx 0).map fun x => (x.2, x.1))
    (h : ∀ (W : World) (g : Nat), Below w.heap.size w W → VRows W (some ⟨g, 0, none⟩) ls g 0 → K (a.put o.dst (.slice (some ⟨g, 0, none⟩) n n)) W) : if Region.wanted o (yielded ops a.tmps) = true then Oper.wp Try.prog o a w K Q else E :=
  ready_build hw ls n parts ho hn h0 hm hl hp (h _ _ (on_alloc _ _) (vrows_fresh w ls hl))
end
theorem rmerge_at (ls : List (List (BitVec 32))) (n g : Nat) (hn : ls.length = n) (hm : n ≤ 1000) (m : List (BitVec 32)) (hM : mergeAll ls n = m) (w : World) (hr : VRows w (some ⟨g, 0, none⟩) ls g 0) :
    Calls Try.prog 17 #[.slice (some ⟨g, 0, none⟩) n n] w fun e w' => e = .returned (.agg (vec m)) ∧ Below w.heap.size w w' :=
  (rmerge_any ls _ n n g 0 _ hn (by omega) hr).mono fun _ _ ⟨h1, h2⟩ => ⟨by rw [h1, hM], h2⟩
theorem leastYtmmbnobbpnndkaaform (l : List (BitVec 32)) (n k : Nat) : ∃ (d : Int) (b : Bool), leastN l n k = .tuple #[.int .i64 d, .bool b] := by
  induction n generalizing k with
  | zero => exact ⟨_, _, rfl⟩
  | succ n ih =>
    rw [leastN]
    split
    · exact ih _
    · exact ⟨_, _, rfl⟩
end Go.Proofs.Ytmmbnobbpnndkaa
