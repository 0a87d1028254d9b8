/- Steps of a region that draws its order, with the checks that each of them asks laid into one. Conditions: as the library's own steps. -/
import Derived.OrdersHeld
import Derived.Deep.RegionHeld3
import Derived.Below
import Derived.Test.YtahkcemdbfjilaaGreatDoorProg
import Derived.KernelRfl
namespace Go.Proofs.YtahkcemdbfjilaaGreatDoor
theorem aB {α : Type _} {l : List α} {i : Nat} {a : α} : l.toArray.setIfInBounds i a = (l.set i a).toArray := List.setIfInBounds_toArray ..
theorem aA {α : Type _} {x y : α} {l : List α} : (x :: l).set 0 y = y :: l := rfl
theorem aC {α : Type _} {x y : α} {l : List α} {n : Nat} : (x :: l).set (n + 1) y = x :: l.set n y := rfl
theorem fD {α : Type _} {l : List α} {i : Nat} : l.toArray[i]? = l[i]? := List.getElem?_toArray ..
theorem fC {α : Type _} {x : α} {l : List α} : (x :: l)[0]? = some x := rfl
theorem fP {α : Type _} {x : α} {l : List α} {n : Nat} : (x :: l)[n + 1]? = l[n]? := rfl
theorem mE {a b c : Bool} (h : (a && b && c) = true) : a = true ∧ b = true ∧ c = true := by
 cases a <;> cases b <;> cases c <;> first | exact ⟨rfl, rfl, rfl⟩ | cases h
theorem mc {P : Program} {md : Region.Mode} {ops : Array Oper} {Q : Exit → Act → World → Prop} {S : World → Prop} (i : Nat) {oi : Oper} {fuel : Nat} {listed : Array Bool} {a : Act} {w : World} {v : Value} (hi : ops[i]? = some oi) (hc : (Region.noSelect ops && Region.free md ops listed i && (Region.ready md ops listed).contains i) = true)
 (hQ : ∀ c a w, Q (.panic c) (a.put oi.dst v) w → Q (.panic c) a w) (hw : Region.wanted oi (yielded ops a.tmps) = true) (hS : S w)
 (hy : ∀ w, S w → (execOp a.eval oi).run P w = .ok (.value v) w) (h : wpAnyH P md ops Q S fuel (listed.setIfInBounds i true) (a.put oi.dst v) w) : wpAnyH P md ops Q S (fuel + 1) listed a w :=
 wpAnyH_take hi (mE hc).1 (mE hc).2.1 (mE hc).2.2 hQ (Or.inl ⟨hw, hy⟩) hS h
theorem mf {P : Program} {md : Region.Mode} {ops : Array Oper} {Q : Exit → Act → World → Prop} {S : World → Prop} (i : Nat) {oi : Oper} {fuel : Nat} {listed : Array Bool} {a : Act} {w : World} (hi : ops[i]? = some oi) (hc : (Region.noSelect ops && Region.free md ops listed i && (Region.ready md ops listed).contains i) = true)
 (hQ : ∀ c a w, Q (.panic c) (a.put oi.dst undef) w → Q (.panic c) a w) (hw : Region.wanted oi (yielded ops a.tmps) = false) (hS : S w)
 (h : wpAnyH P md ops Q S fuel (listed.setIfInBounds i true) (a.put oi.dst undef) w) : wpAnyH P md ops Q S (fuel + 1) listed a w :=
 wpAnyH_take hi (mE hc).1 (mE hc).2.1 (mE hc).2.2 hQ (Or.inr ⟨hw, rfl⟩) hS h
def lV (P : Program) (md : Region.Mode) (ops : Array Oper) (Q : Exit → Act → World → Prop) (S : World → Prop) (_i : Nat) (fuel : Nat) (listed : Array Bool) (a : Act) (w : World) : Prop := wpAnyH P md ops Q S fuel listed a w
theorem aG {P : Program} {md : Region.Mode} {ops : Array Oper} {Q : Exit → Act → World → Prop} {S : World → Prop} (i : Nat) {fuel : Nat} {listed : Array Bool} {a : Act} {w : World} (h : lV P md ops Q S i fuel listed a w) : wpAnyH P md ops Q S fuel listed a w := h
theorem aE {P : Program} {md : Region.Mode} {ops : Array Oper} {Q : Exit → Act → World → Prop} {S : World → Prop} {i fuel : Nat} {listed : Array Bool} {a : Act} {w : World} (h : wpAnyH P md ops Q S fuel listed a w) : lV P md ops Q S i fuel listed a w := h
theorem me {P : Program} {md : Region.Mode} {ops : Array Oper} {Q : Exit → Act → World → Prop} {S : World → Prop} {i : Nat} {oi : Oper} {fuel : Nat} {listed : Array Bool} {a : Act} {w : World} {v : Value}
 (hi : ops[i]? = some oi) (hc : (Region.noSelect ops && Region.free md ops listed i && (Region.ready md ops listed).contains i) = true)
 (hQ : ∀ c a w, Q (.panic c) (a.put oi.dst v) w → Q (.panic c) a w) (hw : Region.wanted oi (yielded ops a.tmps) = true) (hS : S w)
 (hy : ∀ w, S w → (execOp a.eval oi).run P w = .ok (.value v) w) (h : lV P md ops Q S (i + 1) fuel (listed.setIfInBounds i true) (a.put oi.dst v) w) : lV P md ops Q S i (fuel + 1) listed a w :=
 wpAnyH_take hi (mE hc).1 (mE hc).2.1 (mE hc).2.2 hQ (Or.inl ⟨hw, hy⟩) hS h
def nth {α : Type _} : List α → Nat → Option α
 | [], _ => none
 | x :: _, 0 => some x
 | _ :: l, n + 1 => nth l n
theorem nD {α : Type _} : ∀ (l : List α) (i : Nat), l.toArray[i]? = nth l i
 | [], _ => by simp [nth]
 | x :: l, 0 => by simp [nth]
 | x :: l, n + 1 => by
  have := nD l n
  simp only [List.getElem?_toArray, List.getElem?_cons_succ, nth] at *
  exact this
theorem sZ {a b c d : Bool} (h : (a && b && c && d) = true) : a = true ∧ b = true ∧ c = true ∧ d = true := by
 cases a <;> cases b <;> cases c <;> cases d <;> first | exact ⟨rfl, rfl, rfl, rfl⟩ | cases h
class PQ (Q : Exit → Act → World → Prop) : Prop where
 pq : ∀ c a b w, Q (.panic c) a w → Q (.panic c) b w
instance {Q : Exit → Act → World → Prop} : PQ (NoPanic Q) := ⟨fun _ _ _ _ h => h⟩
section
variable {P : Program} {md : Region.Mode} {l : List Oper} {Q : Exit → Act → World → Prop} {S : World → Prop} {oi oj : Oper} {fuel : Nat} {listed : Array Bool} {a : Act} {w : World} {v : Value}
theorem qK [PQ Q] (i : Nat) (hi : nth l i = some oi) (hc : (Region.noSelect l.toArray && Region.free md l.toArray listed i && (Region.ready md l.toArray listed).contains i && Region.wanted oi (yielded l.toArray a.tmps)) = true) (hS : S w)
 (hy : ∀ w, S w → (execOp a.eval oi).run P w = .ok (.value v) w) (h : wpAnyH P md l.toArray Q S fuel (listed.setIfInBounds i true) (a.put oi.dst v) w) : wpAnyH P md l.toArray Q S (fuel + 1) listed a w :=
 wpAnyH_take ((nD l i).trans hi) (sZ hc).1 (sZ hc).2.1 (sZ hc).2.2.1 (fun c _ w h => PQ.pq c _ _ w h) (Or.inl ⟨(sZ hc).2.2.2, hy⟩) hS h
theorem qL [PQ Q] (i : Nat) (hi : nth l i = some oi) (hc : (Region.noSelect l.toArray && Region.free md l.toArray listed i && (Region.ready md l.toArray listed).contains i) = true) (hy : YieldsIf P l.toArray S oi v a) (hS : S w)
 (h : wpAnyH P md l.toArray Q S fuel (listed.setIfInBounds i true) (a.put oi.dst v) w) : wpAnyH P md l.toArray Q S (fuel + 1) listed a w :=
 wpAnyH_take ((nD l i).trans hi) (mE hc).1 (mE hc).2.1 (mE hc).2.2 (fun c _ w h => PQ.pq c _ _ w h) hy hS h
theorem qS [PQ Q] (i : Nat) (hi : nth l i = some oi) (hc : (Region.noSelect l.toArray && Region.free md l.toArray listed i && (Region.ready md l.toArray listed).contains i && !Region.wanted oi (yielded l.toArray a.tmps)) = true) (hS : S w)
 (h : wpAnyH P md l.toArray Q S fuel (listed.setIfInBounds i true) (a.put oi.dst undef) w) : wpAnyH P md l.toArray Q S (fuel + 1) listed a w :=
 wpAnyH_take ((nD l i).trans hi) (sZ hc).1 (sZ hc).2.1 (sZ hc).2.2.1 (fun c _ w h => PQ.pq c _ _ w h) (Or.inr ⟨by simpa using (sZ hc).2.2.2, rfl⟩) hS h
theorem qT [PQ Q] {i : Nat} (hi : nth l i = some oi) (hc : (Region.noSelect l.toArray && Region.free md l.toArray listed i && (Region.ready md l.toArray listed).contains i && Region.wanted oi (yielded l.toArray a.tmps)) = true) (hS : S w)
 (hy : ∀ w, S w → (execOp a.eval oi).run P w = .ok (.value v) w) (h : lV P md l.toArray Q S (i + 1) fuel (listed.setIfInBounds i true) (a.put oi.dst v) w) : lV P md l.toArray Q S i (fuel + 1) listed a w := qK i hi hc hS hy h
theorem qU [PQ Q] {i : Nat} (hi : nth l i = some oi) (hc : (Region.noSelect l.toArray && Region.free md l.toArray listed i && (Region.ready md l.toArray listed).contains i && !Region.wanted oi (yielded l.toArray a.tmps)) = true) (hS : S w)
 (h : lV P md l.toArray Q S (i + 1) fuel (listed.setIfInBounds i true) (a.put oi.dst undef) w) : lV P md l.toArray Q S i (fuel + 1) listed a w := qS i hi hc hS h
theorem qD (i : Nat) (hi : nth l i = some oi) (hr : Region.ready md l.toArray listed = [i])
 (h : ∀ K : Act → World → Prop, Shut (∀ a w, S w → (S w → wpAnyH P md l.toArray Q S fuel (listed.setIfInBounds i true) a w) → K a w) → if Region.wanted oi (yielded l.toArray a.tmps) = true then Oper.wp P oi a w K Q else K (a.put oi.dst undef) w) : wpAnyH P md l.toArray Q S (fuel + 1) listed a w :=
 wpAnyH_ready hr (by simp) (AllReadyH.cons ((nD l i).trans hi) h AllReadyH.nil)
theorem qE (i j : Nat) (hi : nth l i = some oi) (hj : nth l j = some oj) (hr : Region.ready md l.toArray listed = [i, j])
 (h : ∀ K : Act → World → Prop, Shut (∀ a w, S w → (S w → wpAnyH P md l.toArray Q S fuel (listed.setIfInBounds i true) a w) → K a w) → if Region.wanted oi (yielded l.toArray a.tmps) = true then Oper.wp P oi a w K Q else K (a.put oi.dst undef) w)
 (h' : ∀ K : Act → World → Prop, Shut (∀ a w, S w → (S w → wpAnyH P md l.toArray Q S fuel (listed.setIfInBounds j true) a w) → K a w) → if Region.wanted oj (yielded l.toArray a.tmps) = true then Oper.wp P oj a w K Q else K (a.put oj.dst undef) w) : wpAnyH P md l.toArray Q S (fuel + 1) listed a w :=
 wpAnyH_ready hr (by simp) (AllReadyH.cons ((nD l i).trans hi) h (AllReadyH.cons ((nD l j).trans hj) h' AllReadyH.nil))
end
theorem qG {P : Program} {ops : Array Oper} {Q : Exit → Act → World → Prop} {S : World → Prop} {id : Nat} {a : Act} {w : World} (hm : P.follows .mixedOrders = true) (hS : S w.drew)
 (h : S w.drew → wpAnyH P .any ops (NoPanic Q) S ops.size (Array.replicate ops.size false) a w.drew) : (Code.region id ops true).wp P Q a w := wp_region_noPanic (wp_region_held_drew hm hS h)
theorem qM {P : Program} {md : Region.Mode} {ops : Array Oper} {Q : Exit → Act → World → Prop} {S : World → Prop} {listed : Array Bool} {a : Act} {w : World} {fuel : Nat} (hr : Region.ready md ops listed = []) (h : Q .normal a w) : wpAnyH P md ops (NoPanic Q) S fuel listed a w := wpAnyH_done hr (NoPanic.normal h) fuel
theorem sP {t : Array Value} {d : List Deferred} {i : Nat} {v : Value} : Act.put ⟨t, d⟩ (some i) v = ⟨t.setIfInBounds i v, d⟩ := rfl
theorem sO {t : Array Value} {d : List Deferred} {v : Value} : Act.put ⟨t, d⟩ none v = ⟨t, d⟩ := rfl
abbrev qC (n : Nat) (ar : Array Value) (w : World) (Q : Ending → World → Prop) : Prop := Calls Tryz.prog n ar w Q
abbrev qZ : Array Value := #[.string ⟨#[]⟩, .int .i64 0, .bool false, .int .i64 0, .int .i64 0, .int .i64 0, .int .u32 0, .int .u32 0, .int .u32 0, .int .u32 0, .int .u32 0, .int .u32 0, .int .u32 0, .int .u32 0, .int .u32 0, .int .u32 0, .int .u32 0, .int .u32 0, .int .u32 0, .int .u32 0, .int .u32 0, .int .u32 0, .int .i64 0, .slice none 0 0, .string ⟨#[]⟩, .int .i64 0, .int .i64 0]
theorem qX {α : Sort _} (a : α) : ∃ b, RowKit.Hid (a = b) := ⟨_, rfl⟩
theorem qY {α : Sort _} (a : α) : ∃ b, a = b := ⟨_, rfl⟩
theorem qN {n : Nat} : n ≤ n := Nat.le_refl n
theorem qB {n : Nat} {w : World} : RowKit.Below n w w := RowKit.Below.refl n w
@[simp] abbrev qW (w W : World) : Prop := RowKit.Below w.heap.size w W
theorem _root_.Go.RowKit.Hid.o {p : Prop} (h : RowKit.Hid p) : p := h
theorem _root_.Go.Shut.o {p : Prop} (h : Shut p) : p := h
end Go.Proofs.YtahkcemdbfjilaaGreatDoor
