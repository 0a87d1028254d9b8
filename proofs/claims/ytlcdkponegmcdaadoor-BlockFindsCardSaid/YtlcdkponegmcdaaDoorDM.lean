/- A finder in a world; made, NewFinder, Len: what each call does. No conditions but the ones said. -/
import Derived.Test.YtlcdkponegmcdaaDoorDL
namespace Go.Proofs.YtlcdkponegmcdaaDoor
open Go.RowKit Go.Maps
abbrev By := List UInt8
def kS (s : By) : Value := .string (ba s)
def kH (d : By) : Value := .agg (hvec d)
theorem kS_inj {a b : By} (h : kS a = kS b) : a = b := by
  unfold kS at h; injection h with h
  have := congrArg tl h
  simpa [tl_ba] using this
theorem kH_inj {a b : By} (h : kH a = kH b) : a = b := by
  unfold kH at h; injection h with h; exact hvec_inj h
/-- But for these blocks, and new ones, all is as it was. -/
structure Turn (own : Nat → Prop) (w w' : World) : Prop where
  os : w'.os = w.os
  tape : w'.tape = w.tape
  output : w'.output = w.output
  size : w.heap.size ≤ w'.heap.size
  block : ∀ g, g < w.heap.size → ¬ own g → w'.heap[g]? = w.heap[g]?
theorem Turn.refl (own : Nat → Prop) (w : World) : Turn own w w := ⟨rfl, rfl, rfl, Nat.le_refl _, fun _ _ _ => rfl⟩
theorem Turn.of_below {own : Nat → Prop} {w w' : World} (h : Below w.heap.size w w') : Turn own w w' := ⟨h.os, h.tape, h.output, h.size, fun g hg _ => h.block g hg⟩
theorem Turn.of_grw {own : Nat → Prop} {w w' : World} {g : Nat} (h : Grw g w w') (ho : own g ∨ w.heap.size ≤ g) : Turn own w w' := ⟨h.os, h.tape, h.output, h.size, fun k hk hn => h.block k hk (fun e => by injection e with e; subst e; rcases ho with ho | ho; exact hn ho; omega)⟩
theorem Turn.trans {own own' : Nat → Prop} {a b c : World} (h : Turn own a b) (k : Turn own' b c) (ho : ∀ g, own' g → own g ∨ a.heap.size ≤ g) : Turn own a c :=
  ⟨k.os.trans h.os, k.tape.trans h.tape, k.output.trans h.output, Nat.le_trans h.size k.size, fun g hg hn => (k.block g (Nat.lt_of_lt_of_le hg h.size) (fun e => by rcases ho g e with e | e; exact hn e; omega)).trans (h.block g hg hn)⟩
theorem Turn.below {own : Nat → Prop} {w w' : World} {B : Nat} (h : Turn own w w') (ho : ∀ g, own g → B ≤ g) (hB : B ≤ w.heap.size) : Below B w w' := ⟨h.os, h.tape, h.output, h.size, fun g hg => h.block g (by omega) (fun e => by have := ho g e; omega)⟩
/-- The finder's memory: its two maps, what stands at each key. -/
structure FinI (own : Nat → Prop) (w : World) (p m1 m2 : Nat) (fv pv : Value → Option Value) (F : By → Option By) (P : By → List Pl) (cf cp N : Nat) : Prop where
  low : ∀ g, own g → g < w.heap.size
  has : Has w p 66 #[.map (some m1), .map (some m2)]
  op : own p
  o1 : own m1
  o2 : own m2
  ne : m1 ≠ m2
  m1 : MapIs w 9 m1 cf fv
  m2 : MapIs w 27 m2 cp pv
  cf : cf ≤ N
  cp : cp ≤ N
  fnone : ∀ s, F s = none → fv (kS s) = none
  fsome : ∀ s xs, F s = some xs → ∃ v, fv (kS s) = some v ∧ Fresh 0 w v xs ∧ (∀ g, v.ownBlock = some g → own g) ∧ xs.length ≤ 4096
  pnone : ∀ d, P d = [] → pv (kH d) = none
  psome : ∀ d, P d ≠ [] → ∃ v, pv (kH d) = some v ∧ Pls 0 w v (P d) ∧ (∀ g, v.ownBlock = some g → own g)
  srt : ∀ d, Srt (P d)
  len : ∀ d, (P d).length ≤ N
  apart : ∀ d d' v v' g, d ≠ d' → pv (kH d) = some v → pv (kH d') = some v' → v.ownBlock = some g → v'.ownBlock ≠ some g
def Fin (own : Nat → Prop) (w : World) (p : Nat) (F : By → Option By) (P : By → List Pl) (cf N : Nat) : Prop := ∃ m1 m2 fv pv cp, FinI own w p m1 m2 fv pv F P cf cp N
theorem row_of {B : Nat} {w w' : World} {e : TypeId} {s n : Nat} {v : Value} {xs : List Value} (h : w.ownsRow B e s v n xs) (hs : ∀ g, v.ownBlock = some g → w'.heap[g]? = w.heap[g]?) : w'.ownsRow B e s v n xs := by
  refine ⟨h.1, ?_⟩
  rcases h.2 with h1 | ⟨g, c, cur, h1, h2, h3, h4⟩
  · exact .inl h1
  · exact .inr ⟨g, c, cur, h1, h2, (hs g (by rw [h1]; rfl)).trans h3, h4⟩
/-- All that it owns being as it was, it is as it was. -/
theorem FinI.kept {own : Nat → Prop} {w w' : World} {p m1 m2 : Nat} {fv pv : Value → Option Value} {F : By → Option By} {P : By → List Pl} {cf cp N : Nat} (h : FinI own w p m1 m2 fv pv F P cf cp N)
    (hs : w.heap.size ≤ w'.heap.size) (hb : ∀ g, own g → w'.heap[g]? = w.heap[g]?) : FinI own w' p m1 m2 fv pv F P cf cp N where
  low g hg := Nat.lt_of_lt_of_le (h.low g hg) hs
  has := (hb p h.op).trans h.has
  op := h.op
  o1 := h.o1
  o2 := h.o2
  ne := h.ne
  m1 := h.m1.kept (hb _ h.o1)
  m2 := h.m2.kept (hb _ h.o2)
  cf := h.cf
  cp := h.cp
  fnone := h.fnone
  fsome s xs hx := by
    obtain ⟨v, h1, h2, h3, h4⟩ := h.fsome s xs hx
    exact ⟨v, h1, row_of h2 (fun g hg => hb g (h3 g hg)), h3, h4⟩
  pnone := h.pnone
  psome d hd := by
    obtain ⟨v, h1, h2, h3⟩ := h.psome d hd
    exact ⟨v, h1, row_of h2 (fun g hg => hb g (h3 g hg)), h3⟩
  srt := h.srt
  len := h.len
  apart := h.apart
theorem Fin.kept {own : Nat → Prop} {w w' : World} {p : Nat} {F : By → Option By} {P : By → List Pl} {cf N : Nat} (h : Fin own w p F P cf N) (hs : w.heap.size ≤ w'.heap.size) (hb : ∀ g, own g → w'.heap[g]? = w.heap[g]?) : Fin own w' p F P cf N := by
  obtain ⟨m1, m2, fv, pv, cp, h⟩ := h; exact ⟨m1, m2, fv, pv, cp, h.kept hs hb⟩
theorem Fin.low {own : Nat → Prop} {w : World} {p : Nat} {F : By → Option By} {P : By → List Pl} {cf N : Nat} (h : Fin own w p F P cf N) : ∀ g, own g → g < w.heap.size := by
  obtain ⟨m1, m2, fv, pv, cp, h⟩ := h; exact h.low
theorem Fin.on {own : Nat → Prop} {w w' : World} {p : Nat} {F : By → Option By} {P : By → List Pl} {cf N C : Nat} (h : Fin own w p F P cf N) (hb : Below C w w') (hC : w.heap.size ≤ C) : Fin own w' p F P cf N :=
  h.kept hb.size (fun g hg => hb.block g (Nat.lt_of_lt_of_le (h.low g hg) hC))
theorem Fin.grw {own : Nat → Prop} {w w' : World} {p : Nat} {F : By → Option By} {P : By → List Pl} {cf N g : Nat} (h : Fin own w p F P cf N) (hb : Grw g w w') (hg : ¬ own g) : Fin own w' p F P cf N :=
  h.kept hb.size (fun k hk => hb.block k (h.low k hk) (fun e => by injection e with e; subst e; exact hg hk))
theorem Fin.turn {own own2 : Nat → Prop} {w w' : World} {p : Nat} {F : By → Option By} {P : By → List Pl} {cf N : Nat} (h : Fin own w p F P cf N) (hb : Turn own2 w w') (hg : ∀ g, own g → ¬ own2 g) : Fin own w' p F P cf N :=
  h.kept hb.size (fun k hk => hb.block k (h.low k hk) (hg k hk))
theorem FinI.cell1 {own : Nat → Prop} {w : World} {p m1 m2 : Nat} {fv pv : Value → Option Value} {F : By → Option By} {P : By → List Pl} {cf cp N : Nat} (h : FinI own w p m1 m2 fv pv F P cf cp N) : w.cell? ⟨p, 0, none⟩ = some (.map (some m1)) := h.has.at_ 0
theorem FinI.cell2 {own : Nat → Prop} {w : World} {p m1 m2 : Nat} {fv pv : Value → Option Value} {F : By → Option By} {P : By → List Pl} {cf cp N : Nat} (h : FinI own w p m1 m2 fv pv F P cf cp N) : w.cell? ⟨p, 1, none⟩ = some (.map (some m2)) := h.has.at_ 1
theorem neqSome (m : Nat) (w : World) : (binOp .neq 63 (.map (some m)) (.map none)).run Tryd.prog w = .ok (.bool true) w := by kernel_rfl
theorem neqNone (w : World) : (binOp .neq 63 (.map none) (.map none)).run Tryd.prog w = .ok (.bool false) w := by kernel_rfl
set_option maxRecDepth 100000 in
set_option maxHeartbeats 4000000 in
theorem made_any {own : Nat → Prop} {w : World} {p m1 m2 : Nat} {fv pv : Value → Option Value} {F : By → Option By} {P : By → List Pl} {cf cp N : Nat} (h : FinI own w p m1 m2 fv pv F P cf cp N) :
    Calls Tryd.prog 43 #[.pointer (some ⟨p, 0, none⟩)] w fun e w' => e = .returned (.bool true) ∧ w = w' := by
  have c1 := h.cell1
  have q1 := neqSome m1
  clear h
  go_enter Tryd.func43, Tryd.ntmps43
  go_wp2
  go_ret
  exact ⟨rfl, rfl⟩
set_option maxRecDepth 100000 in
set_option maxHeartbeats 4000000 in
theorem made_nil (w : World) : Calls Tryd.prog 43 #[.pointer none] w fun e w' => e = .returned (.bool false) ∧ w = w' := by
  go_enter Tryd.func43, Tryd.ntmps43
  go_wp2
  go_ret
  exact ⟨rfl, rfl⟩
set_option maxRecDepth 100000 in
set_option maxHeartbeats 4000000 in
theorem made_zero (w : World) (p : Nat) (c1 : w.cell? ⟨p, 0, none⟩ = some (.map none)) : Calls Tryd.prog 43 #[.pointer (some ⟨p, 0, none⟩)] w fun e w' => e = .returned (.bool false) ∧ w = w' := by
  have q1 := neqNone
  go_enter Tryd.func43, Tryd.ntmps43
  go_wp2
  go_ret
  exact ⟨rfl, rfl⟩
theorem fin_new (w : World) : ∃ own, Fin own (((w.alloc (.map #[] 0)).alloc (.map #[] 0)).alloc (.cells #[.map (some w.heap.size), .map (some (w.heap.size + 1))] 66)) (w.heap.size + 2) (fun _ => none) (fun _ => []) 0 0 ∧ ∀ g, own g → w.heap.size ≤ g := by
  refine ⟨fun g => w.heap.size ≤ g ∧ g < w.heap.size + 3, ⟨w.heap.size, w.heap.size + 1, fun _ => none, fun _ => none, 0, ?_⟩, fun g h => h.1⟩
  refine ⟨?_, ?_, ?_, ?_, ?_, ?_, ?_, ?_, Nat.le_refl _, Nat.le_refl _, fun _ _ => rfl, ?_, fun _ _ => rfl, ?_, ?_, ?_, ?_⟩
  · intro g h; simp; omega
  · exact Has.fresh' _ _ _ (by simp)
  · constructor <;> omega
  · constructor <;> omega
  · constructor <;> omega
  · omega
  · exact ((MapIs.made w 9).kept (Below.heap_alloc _ _ _ (by simp))).kept (Below.heap_alloc _ _ _ (by simp; omega))
  · have := MapIs.made (w.alloc (.map #[] 0)) 27
    simp at this
    exact this.kept (Below.heap_alloc _ _ _ (by simp))
  · intro s xs h; cases h
  · intro d h; exact absurd rfl h
  · intro d; exact List.Pairwise.nil
  · intro d; exact Nat.le_refl _
  · intro d d' v v' g _ h; cases h
set_option maxRecDepth 100000 in
set_option maxHeartbeats 4000000 in
theorem new_any (w : World) : Calls Tryd.prog 22 #[] w fun e w' => ∃ own p, e = .returned (.pointer (some ⟨p, 0, none⟩)) ∧ Fin own w' p (fun _ => none) (fun _ => []) 0 0 ∧ (∀ g, own g → w.heap.size ≤ g) ∧ Below w.heap.size w w' := by
  have hmm := @run_makeMap Tryd.prog
  obtain ⟨own, h1, h2⟩ := fin_new w
  have H1 := hid h1
  have HB : Hid (Below w.heap.size w (((w.alloc (.map #[] 0)).alloc (.map #[] 0)).alloc (.cells #[.map (some w.heap.size), .map (some (w.heap.size + 1))] 66))) := (((Below.refl _ _).alloc (Nat.le_refl _) _).alloc (by simp) _).alloc (by simp; omega) _
  clear h1
  go_enter Tryd.func22, Tryd.ntmps22
  go_wp2
  go_ret
  exact ⟨own, w.heap.size + 2, rfl, H1.out, h2, HB.out⟩
set_option maxRecDepth 100000 in
set_option maxHeartbeats 4000000 in
theorem len_any {own : Nat → Prop} {w : World} {p : Nat} {F : By → Option By} {P : By → List Pl} {cf N : Nat} (h : Fin own w p F P cf N) :
    Calls Tryd.prog 28 #[.pointer (some ⟨p, 0, none⟩)] w fun e w' => e = .returned (.int .i64 (cf : Int)) ∧ w = w' := by
  obtain ⟨m1, m2, fv, pv, cp, h⟩ := h
  have CM := hid (made_any h)
  have c1 := h.cell1
  have hl := fun ty => h.m1.len (t := 63) (e := 25) Tryd.underlying63 ty
  clear h
  go_enter Tryd.func28, Tryd.ntmps28
  go_wp2_with (go_at_call 43; refine CM.out.mono ?_; rintro e1 w1 ⟨rfl, rfl⟩)
  go_ret
  exact ⟨rfl, rfl⟩
end Go.Proofs.YtlcdkponegmcdaaDoor
