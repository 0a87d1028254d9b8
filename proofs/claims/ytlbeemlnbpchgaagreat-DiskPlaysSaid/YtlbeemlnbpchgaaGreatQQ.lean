/- Several texts in one: YG, TA. Conditions: those said at each. -/
import Derived.Test.YtlbeemlnbpchgaaGreatQP
/- The document's disk in a world: its block, its trees, its row of effects. Plain facts. -/
namespace Go.Proofs.YtlbeemlnbpchgaaGreat
open Go.RowKit Go.Maps
/-- An effect as the document keeps it. -/
def efC (dO : Int) (p q d : By) (t m : Int) (pk : Bool) : Array Value := #[.int .i64 dO, kS p, kS q, kS d, .int .i64 t, .int .i64 m, .bool pk]
structure Rw where
  dO : Int
  p : By
  q : By
  d : By
  tm : Int
def rw0 : Rw := ⟨0, [], [], [], 0⟩
def rwC (e : Rw) : Array Value := efC e.dO e.p e.q e.d e.tm 0 false
def rwE (e : Rw) : Eff := if e.dO = 1 then .write e.p e.d e.tm else if e.dO = 2 then .append e.p e.d else if e.dO = 3 then .mkdir e.p else if e.dO = 4 then .link e.p e.d e.tm else if e.dO = 5 then .rename e.p e.q else .remove e.p
structure RwOk (e : Rw) : Prop where
  k0 : 1 ≤ e.dO
  k1 : e.dO ≤ 6
  ld : e.d.length ≤ 100000000
def ecells (es : List Rw) : List Value := es.flatMap fun e => (rwC e).toList
def ERow (B : Nat) (w : World) (v : Value) (es : List Rw) : Prop := w.ownsRow B 83 7 v es.length (ecells es)
theorem ecells_snoc (es : List Rw) (e : Rw) : ecells (es ++ [e]) = ecells es ++ (rwC e).toList := by simp [ecells]
theorem ecells_at (es : List Rw) (k : Nat) (hk : k < es.length) (j : Nat) (hj : j < 7) : (ecells es)[k * 7 + j]? = (rwC (es.getD k rw0)).toList[j]? := by
  induction es generalizing k with
  | nil => simp at hk
  | cons x r ih =>
    show ((rwC x).toList ++ ecells r)[k * 7 + j]? = _
    cases k with
    | zero =>
      rw [List.getElem?_append_left (by show 0 * 7 + j < 7; omega)]
      simp [List.getD]
    | succ k =>
      rw [List.getElem?_append_right (by show 7 ≤ (k + 1) * 7 + j; omega)]
      rw [show (k + 1) * 7 + j - (rwC x).toList.length = k * 7 + j by show (k + 1) * 7 + j - 7 = _; omega]
      rw [ih k (by simpa using hk)]
      simp [List.getD]
theorem ERow.nil (B : Nat) (w : World) : ERow B w (.slice none 0 0) [] := World.ownsRow_nil _ _ _ _
theorem ERow.form {B : Nat} {w : World} {v : Value} {es : List Rw} (h : ERow B w v es) : ∃ A c, v = .slice A es.length c := by
  rcases h.2 with ⟨h1, h2⟩ | ⟨g, c, cur, h1, _⟩
  · exact ⟨none, 0, by rw [h1, h2]⟩
  · exact ⟨some ⟨g, 0, none⟩, c, h1⟩
theorem infoEf : (Tryz.prog.info? 83).map (fun i => (i.zero, i.size, i.bytes)) = some (some (.agg #[.int .i64 0, .string ⟨#[]⟩, .string ⟨#[]⟩, .string ⟨#[]⟩, .int .i64 0, .int .i64 0, .bool false]), 7, 80) := by kernel_rfl
theorem append_ef (w : World) (B : Nat) (v : Value) (es : List Rw) (h : ERow B w v es) (x : Rw) (g : Nat) (hg : Has w g 83 (rwC x)) (hn : es.length ≤ 100000) (hB : B ≤ w.heap.size) (ty : TypeId) :
    ∃ v' w', (Builtin.append_ #[77, 77] ty #[v, .slice (some ⟨g, 0, none⟩) 1 1]).run Tryz.prog w = .ok v' w' ∧ ERow B w' v' (es ++ [x]) ∧ w.grownBy w' v.ownBlock ∧ (v'.ownBlock = v.ownBlock ∨ v'.ownBlock = some w.heap.size) := by
  obtain ⟨i0, hi, hz0, hz1, hz2⟩ := info_parts infoEf
  obtain ⟨v', w', hr, ho, hg', hx, hv⟩ := run_append_own_at (P := Tryz.prog) w B 77 ty 83 i0 _ 7 80 Tryz.underlying77 hi hz0 hz1 hz2 (by simp [Value.cells]) (by omega) v es.length (ecells es) h ⟨g, 0, none⟩ 1 1 (rwC x).toList rfl
    (fun j u hj => by
      rw [add_at, Nat.zero_add, hg.at_ j]
      rw [← Array.getElem?_toList]; exact hj) (fun u hu => by
      simp only [rwC, efC, List.mem_cons, List.not_mem_nil, or_false] at hu
      rcases hu with rfl | rfl | rfl | rfl | rfl | rfl | rfl <;> rfl) (by unfold maxLen; omega) (by omega) hB
  refine ⟨v', w', hr, ?_, hg', ?_⟩
  · unfold ERow
    rw [ecells_snoc, List.length_append]; exact ho
  · exact hv
theorem run_build_ef (w : World) (x : Rw) :
    (Instr.buildSlice 77 1 #[(0, Value.agg (rwC x))]).run Tryz.prog w = .ok (.slice (some ⟨w.heap.size, 0, none⟩) 1 1) (w.alloc (.cells (rwC x) 83)) := by
  have hI : (Tryz.prog.info? 83).map (fun i => (i.size, i.zero)) = some (7, some (.agg #[.int .i64 0, .string ⟨#[]⟩, .string ⟨#[]⟩, .string ⟨#[]⟩, .int .i64 0, .int .i64 0, .bool false])) := by kernel_rfl
  cases hie : Tryz.prog.info? 83 with
  | none => rw [hie] at hI; cases hI
  | some ie =>
    rw [hie] at hI
    simp only [Option.map_some, Option.some.injEq, Prod.mk.injEq] at hI
    refine run_buildSlice (P := Tryz.prog) w 77 83 1 _ _ ie _ Tryz.underlying77 hie hI.2 (by rw [hI.1]; omega) (by rw [hI.1]; omega) ?_
    rw [hI.1]
    refine (Great.fill_whole (s := 7) (by omega) [Value.agg (rwC x)] _ (fun v hv => ?_) (by simp)).trans (by simp [Value.cells])
    simp only [List.mem_singleton] at hv
    subst hv
    rfl
theorem row_kindN {w : World} {B n s : Nat} {e : TypeId} {v : Value} {xs : List Value} (h : w.ownsRow B e s v n xs) {b : Nat} (hb : v.ownBlock = some b) : ∃ cur, w.heap[b]? = some (.cells cur e (0, 0)) := by
  rcases h.2 with ⟨k1, _⟩ | ⟨g', c, cur, k1, _, k3, _⟩
  · rw [k1] at hb; cases hb
  · rw [k1] at hb; injection hb with hb; exact ⟨cur, by rw [← hb]; exact k3⟩
/-- A tree that a disk owns. -/
structure TreeO (own : Nat → Prop) (w : World) (t : Nat) (L : Tr) (room : Nat) : Prop where
  ex : ∃ v, Has w t 76 #[v, .int .i64 (room : Int)] ∧ TRow 0 w v L ∧ ∀ b, v.ownBlock = some b → own b
  op : own t
theorem TreeO.tree {own : Nat → Prop} {w : World} {t : Nat} {L : Tr} {room : Nat} (h : TreeO own w t L room) : TreeR w t L room := by
  obtain ⟨v, h1, h2, _⟩ := h.ex
  exact ⟨v, h1, h2⟩
theorem TreeO.kept {own : Nat → Prop} {w w' : World} {t : Nat} {L : Tr} {room : Nat} (h : TreeO own w t L room) (hb : ∀ g, own g → w'.heap[g]? = w.heap[g]?) : TreeO own w' t L room := by
  obtain ⟨v, h1, h2, h3⟩ := h.ex
  exact ⟨⟨v, (hb t h.op).trans h1, row_of h2 (fun g hg => hb g (h3 g hg)), h3⟩, h.op⟩
theorem TreeO.mono {own own' : Nat → Prop} {w : World} {t : Nat} {L : Tr} {room : Nat} (h : TreeO own w t L room) (ho : ∀ g, own g → own' g) : TreeO own' w t L room := by
  obtain ⟨v, h1, h2, h3⟩ := h.ex
  exact ⟨⟨v, h1, h2, fun b hb => ho b (h3 b hb)⟩, ho t h.op⟩
/-- The blocks of a tree that is new. -/
theorem TreeF.blocks {B : Nat} {w : World} {t : Nat} {L : Tr} {room : Nat} (h : TreeF B w t L room) : ∃ nb : Nat → Prop, TreeO nb w t L room ∧ (∀ g, nb g → B ≤ g) ∧ (∀ g, nb g → g < w.heap.size) ∧ ∀ g, nb g → Loose w g := by
  obtain ⟨v, h1, h2⟩ := h.ex
  refine ⟨fun g => g = t ∨ v.ownBlock = some g, ⟨⟨v, h1, h2.mono (Nat.zero_le _), fun b hb => .inr hb⟩, .inl rfl⟩, ?_, ?_, ?_⟩
  · rintro g (e | e)
    · rw [e]; exact h.low
    · exact (World.ownsRow.lt h2 g e).1
  · rintro g (e | e)
    · rw [e]; exact h1.inside
    · exact (World.ownsRow.lt h2 g e).2
  · rintro g (e | e)
    · rw [e]; exact h1.loose (by decide)
    · obtain ⟨cur, hc⟩ := row_kindN h2 e
      intro cs t2 q ho
      rw [hc] at ho; injection ho with ho; injection ho with _ ho; rw [← ho]; decide
def rcells (tl ts : Nat) (sv : Value) (fused : Bool) (left : Int) : Array Value := #[.pointer (some ⟨tl, 0, none⟩), .pointer (some ⟨ts, 0, none⟩), sv, .bool fused, .int .i64 left]
/-- Its fuse. -/
def FuseIs (fused : Bool) (left f : Int) : Prop := (fused = false ∧ f = -1) ∨ (fused = true ∧ left = f ∧ 0 ≤ f)
/-- The document's disk: its block, its trees, its row of effects, all its own. -/
structure RDkI (own : Nat → Prop) (w : World) (r tl ts : Nat) (sv : Value) (es : List Rw) (fused : Bool) (left : Int) (M : Mo) : Prop where
  low : ∀ g, own g → g < w.heap.size
  loose : ∀ g, own g → Loose w g
  has : Has w r 79 (rcells tl ts sv fused left)
  op : own r
  t1 : TreeO own w tl M.now M.room
  t2 : TreeO own w ts M.last M.room
  row : ERow 0 w sv es
  osv : ∀ b, sv.ownBlock = some b → own b
  effs : es.map rwE = M.since
  ok : ∀ e ∈ es, RwOk e
  fu : FuseIs fused left M.fuse
  good : GoodR M
  r0 : 1024 ≤ M.room
  r1 : M.room ≤ 1048576
  len : M.since.length ≤ 100000
def RDk (own : Nat → Prop) (w : World) (r : Nat) (M : Mo) : Prop := ∃ tl ts sv es fused left, RDkI own w r tl ts sv es fused left M
theorem RDkI.kept {own : Nat → Prop} {w w' : World} {r tl ts : Nat} {sv : Value} {es : List Rw} {fused : Bool} {left : Int} {M : Mo} (h : RDkI own w r tl ts sv es fused left M) (hs : w.heap.size ≤ w'.heap.size) (hb : ∀ g, own g → w'.heap[g]? = w.heap[g]?) : RDkI own w' r tl ts sv es fused left M where
  low g hgo := Nat.lt_of_lt_of_le (h.low g hgo) hs
  loose g hgo cs t q ho := h.loose g hgo cs t q ((hb g hgo).symm.trans ho)
  has := (hb r h.op).trans h.has
  op := h.op
  t1 := h.t1.kept hb
  t2 := h.t2.kept hb
  row := row_of h.row (fun g hgo => hb g (h.osv g hgo))
  osv := h.osv
  effs := h.effs
  ok := h.ok
  fu := h.fu
  good := h.good
  r0 := h.r0
  r1 := h.r1
  len := h.len
theorem RDk.on {own : Nat → Prop} {w w' : World} {r : Nat} {M : Mo} (h : RDk own w r M) (hb : Below w.heap.size w w') : RDk own w' r M := by
  obtain ⟨tl, ts, sv, es, fused, left, h⟩ := h
  exact ⟨tl, ts, sv, es, fused, left, h.kept hb.size (fun g hg => hb.block g (h.low g hg))⟩
theorem RDk.turn {own own2 : Nat → Prop} {w w' : World} {r : Nat} {M : Mo} (h : RDk own w r M) (hu : Turn own2 w w') (ha : ∀ g, own g → ¬ own2 g) : RDk own w' r M := by
  obtain ⟨tl, ts, sv, es, fused, left, h⟩ := h
  exact ⟨tl, ts, sv, es, fused, left, h.kept hu.size (fun g hg => hu.block g (h.low g hg) (ha g hg))⟩
theorem RDk.low {own : Nat → Prop} {w : World} {r : Nat} {M : Mo} (h : RDk own w r M) : ∀ g, own g → g < w.heap.size := by obtain ⟨_, _, _, _, _, _, h⟩ := h; exact h.low
theorem RDk.loose {own : Nat → Prop} {w : World} {r : Nat} {M : Mo} (h : RDk own w r M) : ∀ g, own g → Loose w g := by obtain ⟨_, _, _, _, _, _, h⟩ := h; exact h.loose
theorem RDk.good {own : Nat → Prop} {w : World} {r : Nat} {M : Mo} (h : RDk own w r M) : GoodR M := by obtain ⟨_, _, _, _, _, _, h⟩ := h; exact h.good
/-- What a call on the document's disk leaves. -/
def RPost (own : Nat → Prop) (w : World) (r : Nat) (M : Mo) (w' : World) : Prop :=
  ∃ own', RDk own' w' r M ∧ Turn own w w' ∧ ∀ g, own' g → own g ∨ w.heap.size ≤ g
theorem RPost.refl {own : Nat → Prop} {w w' : World} {r : Nat} {M : Mo} (h : RDk own w r M) (hb : Below w.heap.size w w') : RPost own w r M w' :=
  ⟨own, h.on hb, Turn.of_below hb, fun _ h => .inl h⟩
theorem RPost.ahead {own : Nat → Prop} {w w1 w2 : World} {r : Nat} {M : Mo} (hb : Below w.heap.size w w1) (h : RPost own w1 r M w2) : RPost own w r M w2 := by
  obtain ⟨own', h1, h2, h4⟩ := h
  exact ⟨own', h1, (Turn.of_below hb).then h2, fun g hg => by rcases h4 g hg with k | k; exact .inl k; exact .inr (Nat.le_trans hb.size k)⟩
end Go.Proofs.YtlbeemlnbpchgaaGreat
/- Several disks that live side by side, above a world's own blocks; what each call on one of them leaves. Conditions: as at the disk. -/
namespace Go.Proofs.YtlbeemlnbpchgaaGreat
open Go.RowKit Go.Maps
/-- A thing with blocks of its own: the program's disk, or the document's. -/
inductive Th
  | d (p : Nat) (M : Mo)
  | r (p : Nat) (M : Mo)
  | h (b : Nat) (cs : Array Value)
def ThOk (own : Nat → Prop) (w : World) : Th → Prop
  | .d p M => Dsk own w p M
  | .r p M => RDk own w p M
  | .h b cs => (∀ g, own g → g = b) ∧ own b ∧ Has w b 33 cs
theorem ThOk.low {own : Nat → Prop} {w : World} {x : Th} (h : ThOk own w x) : ∀ g, own g → g < w.heap.size := by
  cases x with
  | d p M => exact Dsk.low h
  | r p M => exact RDk.low h
  | h b cs => intro g hg; rw [h.1 g hg]; exact h.2.2.inside
theorem ThOk.loose {own : Nat → Prop} {w : World} {x : Th} (h : ThOk own w x) : ∀ g, own g → Loose w g := by
  cases x with
  | d p M => exact Dsk.loose h
  | r p M => exact RDk.loose h
  | h b cs => intro g hg; rw [h.1 g hg]; exact h.2.2.loose (by decide)
theorem ThOk.turn {own own2 : Nat → Prop} {w w' : World} {x : Th} (h : ThOk own w x) (hu : Turn own2 w w') (hl : ∀ g, own2 g → Loose w g) (ha : ∀ g, own g → ¬ own2 g) : ThOk own w' x := by
  cases x with
  | d p M => exact Dsk.turn h hu hl ha
  | r p M => exact RDk.turn h hu ha
  | h b cs => exact ⟨h.1, h.2.1, (hu.block b h.2.2.inside (ha b h.2.1)).trans h.2.2⟩
def AllD (w : World) : (Nat → Prop) → List Th → Prop
  | _, [] => True
  | T, x :: ds => ∃ own, ThOk own w x ∧ (∀ g, own g → T g) ∧ AllD w (fun g => T g ∧ ¬ own g) ds
theorem AllD.mono {w : World} : ∀ {ds : List Th} {T T' : Nat → Prop}, AllD w T ds → (∀ g, g < w.heap.size → T g → T' g) → AllD w T' ds
  | [], _, _, _, _ => trivial
  | _ :: _, _, _, ⟨own, h1, h2, h3⟩, h => ⟨own, h1, fun g hg => h g (h1.low g hg) (h2 g hg), h3.mono fun g hg k => ⟨h g hg k.1, k.2⟩⟩
theorem AllD.turn {w w' : World} {own2 : Nat → Prop} (hu : Turn own2 w w') (hl : ∀ g, own2 g → Loose w g) : ∀ {ds : List Th} {T : Nat → Prop}, AllD w T ds → (∀ g, T g → ¬ own2 g) → AllD w' T ds
  | [], _, _, _ => trivial
  | _ :: _, _, ⟨own, h1, h2, h3⟩, h => ⟨own, h1.turn hu hl (fun g hg => h g (h2 g hg)), h2, h3.turn hu hl fun g k => h g k.1⟩
structure Lv (w0 w : World) (ds : List Th) : Prop where
  bl : Below w0.heap.size w0 w
  all : AllD w (fun g => w0.heap.size ≤ g) ds
section
variable {w0 w w' : World} {p q : Nat} {M K : Mo} {ds : List Th}
theorem Lv.nil (w : World) : Lv w w [] := ⟨Below.refl _ _, trivial⟩
theorem Lv.on (h : Lv w0 w ds) (hb : Below w.heap.size w w') : Lv w0 w' ds :=
  ⟨h.bl.trans (hb.mono h.bl.size), h.all.turn (own2 := fun _ => False) (Turn.of_below hb) (fun _ k => k.elim) (fun _ _ k => k)⟩
theorem Lv.ahead (h : Lv w w' ds) (hb : Below w0.heap.size w0 w) : Lv w0 w' ds :=
  ⟨hb.trans (h.bl.mono hb.size), h.all.mono fun _ _ k => Nat.le_trans hb.size k⟩
theorem Lv.gd (h : Lv w0 w ds) (hG : Gd w0) : Gd w := hG.kept h.bl
theorem Lv.head (h : Lv w0 w (.d p M :: ds)) : ∃ own, Dsk own w p M ∧ (∀ g, own g → w0.heap.size ≤ g) := by
  obtain ⟨own, h1, h2, h3⟩ := h.all; exact ⟨own, h1, h2⟩
theorem Lv.headR (h : Lv w0 w (.r p M :: ds)) : ∃ own, RDk own w p M ∧ (∀ g, own g → w0.heap.size ≤ g) := by
  obtain ⟨own, h1, h2, h3⟩ := h.all; exact ⟨own, h1, h2⟩
theorem Lv.stepT {x : Th} (h : Lv w0 w (x :: ds)) : ∃ own, ThOk own w x ∧ (∀ g, own g → w0.heap.size ≤ g) ∧ ∀ w' y own', ThOk own' w' y → Turn own w w' → (∀ g, own' g → own g ∨ w.heap.size ≤ g) → Lv w0 w' (y :: ds) := by
  obtain ⟨own, h1, h2, h3⟩ := h.all
  refine ⟨own, h1, h2, fun w' y own' k1 k2 k3 => ?_⟩
  refine ⟨h.bl.trans (k2.below h2 h.bl.size), own', k1, fun g hg => ?_, ?_⟩
  · rcases k3 g hg with e | e
    · exact h2 g e
    · exact Nat.le_trans h.bl.size e
  · have := AllD.mono (T' := fun g => (w0.heap.size ≤ g ∧ ¬ own g) ∧ g < w.heap.size) h3 (fun g a b => ⟨b, a⟩)
    refine (this.turn k2 h1.loose fun g k => k.1.2).mono fun g _ k => ⟨k.1.1, fun e => ?_⟩
    rcases k3 g e with a | a
    · exact k.1.2 a
    · exact absurd k.2 (by omega)
theorem Lv.step (h : Lv w0 w (.d p M :: ds)) : ∃ own, Dsk own w p M ∧ (∀ g, own g → w0.heap.size ≤ g) ∧ ∀ w' K, DPost own w p K w' → Lv w0 w' (.d p K :: ds) := by
  obtain ⟨own, h1, h2, h3⟩ := h.stepT
  exact ⟨own, h1, h2, fun w' K ⟨own', k1, k2, k3⟩ => h3 w' (.d p K) own' k1 k2 k3⟩
theorem Lv.stepR (h : Lv w0 w (.r p M :: ds)) : ∃ own, RDk own w p M ∧ (∀ g, own g → w0.heap.size ≤ g) ∧ ∀ w' K, RPost own w p K w' → Lv w0 w' (.r p K :: ds) := by
  obtain ⟨own, h1, h2, h3⟩ := h.stepT
  exact ⟨own, h1, h2, fun w' K ⟨own', k1, k2, k3⟩ => h3 w' (.r p K) own' k1 k2 k3⟩
theorem Lv.push {y : Th} (h : Lv w0 w ds) {own : Nat → Prop} (hd : ThOk own w' y) (ho : ∀ g, own g → w.heap.size ≤ g) (hb : Below w.heap.size w w') : Lv w0 w' (y :: ds) := by
  refine ⟨h.bl.trans (hb.mono h.bl.size), own, hd, fun g hg => Nat.le_trans h.bl.size (ho g hg), ?_⟩
  have h1 := AllD.mono (T' := fun g => w0.heap.size ≤ g ∧ g < w.heap.size) h.all (fun g a b => ⟨b, a⟩)
  exact (h1.turn (own2 := fun _ => False) (Turn.of_below hb) (fun g k => k.elim) (fun g _ k => k)).mono fun g _ k => ⟨k.1, fun e => absurd (ho g e) (by have := k.2; omega)⟩
theorem Lv.swap {x y : Th} (h : Lv w0 w (x :: y :: ds)) : Lv w0 w (y :: x :: ds) := by
  obtain ⟨own, h1, h2, own', h3, h4, h5⟩ := h.all
  exact ⟨h.bl, own', h3, fun g hg => (h4 g hg).1, own, h1, fun g hg => ⟨h2 g hg, fun e => (h4 g e).2 hg⟩, h5.mono fun g _ k => ⟨⟨k.1.1, k.2⟩, k.1.2⟩⟩
theorem Lv.rot {x y z : Th} (h : Lv w0 w (x :: y :: z :: ds)) : Lv w0 w (z :: x :: y :: ds) := by
  obtain ⟨own, h1, h2, h3⟩ := h.all
  have h6 : Lv w0 w (y :: x :: z :: ds) := h.swap
  obtain ⟨own, h1, h2, own', h3, h4, own2, h5, h7, h8⟩ := h6.all
  exact ⟨h.bl, own2, h5, fun g hg => (h7 g hg).1.1, own', h3, fun g hg => ⟨(h4 g hg).1, fun e => (h7 g e).2 hg⟩, own, h1, fun g hg => ⟨⟨h2 g hg, fun e => (h7 g e).1.2 hg⟩, fun e => (h4 g e).2 hg⟩, h8.mono fun g _ k => ⟨⟨⟨k.1.1.1, k.2⟩, k.1.2⟩, k.1.1.2⟩⟩
theorem Lv.drop {x : Th} (h : Lv w0 w (x :: ds)) : Lv w0 w ds := by
  obtain ⟨own, h1, h2, h3⟩ := h.all
  exact ⟨h.bl, h3.mono fun g _ k => k.1⟩
theorem Lv.good (h : Lv w0 w (.d p M :: ds)) : Good M := by obtain ⟨own, h1, _⟩ := h.head; exact h1.good
variable (h : Lv w0 w (.d q M :: ds)) (hG : Gd w0)
include h hG
theorem lWrite (p d : By) (tm : Int) (hp : p.length ≤ 4000) (hd : d.length ≤ 1000000) (hlen : M.since.length + 1 ≤ 100000) :
    Calls Tryz.prog 22 #[.pointer (some ⟨q, 0, none⟩), kS p, kS d, .int .i64 tm] w fun e w' => e = .returned (.int .i64 (doM M (.write p d tm)).1) ∧ Lv w0 w' (.d q ((doM M (.write p d tm)).2) :: ds) := by
  obtain ⟨own, h1, _, h2⟩ := h.step
  exact (dWrite_any h1 (h.gd hG) p d tm hp hd hlen).mono fun e w' k => ⟨k.1, h2 _ _ k.2⟩
theorem lAppend (p d : By) (hp : p.length ≤ 4000) (hd : d.length ≤ 1000000) (hlen : M.since.length + 1 ≤ 100000) :
    Calls Tryz.prog 23 #[.pointer (some ⟨q, 0, none⟩), kS p, kS d] w fun e w' => e = .returned (.int .i64 (doM M (.append p d)).1) ∧ Lv w0 w' (.d q ((doM M (.append p d)).2) :: ds) := by
  obtain ⟨own, h1, _, h2⟩ := h.step
  exact (dAppend_any h1 (h.gd hG) p d hp hd hlen).mono fun e w' k => ⟨k.1, h2 _ _ k.2⟩
theorem lLink (p d : By) (tm : Int) (hp : p.length ≤ 4000) (hd : d.length ≤ 1000000) (hlen : M.since.length + 1 ≤ 100000) :
    Calls Tryz.prog 32 #[.pointer (some ⟨q, 0, none⟩), kS p, kS d, .int .i64 tm] w fun e w' => e = .returned (.int .i64 (doM M (.link p d tm)).1) ∧ Lv w0 w' (.d q ((doM M (.link p d tm)).2) :: ds) := by
  obtain ⟨own, h1, _, h2⟩ := h.step
  exact (dLink_any h1 (h.gd hG) p d tm hp hd hlen).mono fun e w' k => ⟨k.1, h2 _ _ k.2⟩
theorem lRename (p d : By) (hp : p.length ≤ 4000) (hd : d.length ≤ 4000) (hlen : M.since.length + 1 ≤ 100000) :
    Calls Tryz.prog 24 #[.pointer (some ⟨q, 0, none⟩), kS p, kS d] w fun e w' => e = .returned (.int .i64 (doM M (.rename p d)).1) ∧ Lv w0 w' (.d q ((doM M (.rename p d)).2) :: ds) := by
  obtain ⟨own, h1, _, h2⟩ := h.step
  exact (dRename_any h1 (h.gd hG) p d hp hd hlen).mono fun e w' k => ⟨k.1, h2 _ _ k.2⟩
theorem lMkdir (p : By) (hp : p.length ≤ 4000) (hlen : M.since.length + 1 ≤ 100000) :
    Calls Tryz.prog 21 #[.pointer (some ⟨q, 0, none⟩), kS p] w fun e w' => e = .returned (.int .i64 (doM M (.mkdir p)).1) ∧ Lv w0 w' (.d q ((doM M (.mkdir p)).2) :: ds) := by
  obtain ⟨own, h1, _, h2⟩ := h.step
  exact (dMkdir_any h1 (h.gd hG) p hp hlen).mono fun e w' k => ⟨k.1, h2 _ _ k.2⟩
theorem lRemove (p : By) (hp : p.length ≤ 4000) (hlen : M.since.length + 1 ≤ 100000) :
    Calls Tryz.prog 33 #[.pointer (some ⟨q, 0, none⟩), kS p] w fun e w' => e = .returned (.int .i64 (doM M (.remove p)).1) ∧ Lv w0 w' (.d q ((doM M (.remove p)).2) :: ds) := by
  obtain ⟨own, h1, _, h2⟩ := h.step
  exact (dRemove_any h1 (h.gd hG) p hp hlen).mono fun e w' k => ⟨k.1, h2 _ _ k.2⟩
theorem lCrash (A : Option Addr) (ks : List UInt8) (cp g off : Nat) (hk : Pk w A ks g off) (hpk : 0 < ks.length → g < w0.heap.size) (hkl : ks.length ≤ 9223372036854775807) :
    Calls Tryz.prog 18 #[.pointer (some ⟨q, 0, none⟩), .slice A ks.length cp] w fun e w' => e = .returned (.int .i64 0) ∧ Lv w0 w' (.d q (crashM M (nats ks)) :: ds) := by
  obtain ⟨own, h1, h3, h2⟩ := h.step
  have hp := hG.pos
  exact (dCrash_any h1 (h.gd hG) (fun g hg => by have := h3 g hg; omega) A ks cp g off hk (fun k e => by have := h3 g e; have := hpk k; omega) hkl).mono fun e w' k => ⟨k.1, h2 _ _ k.2⟩
theorem lRead (s : By) (hs : s.length ≤ 4000) :
    Calls Tryz.prog 34 #[.pointer (some ⟨q, 0, none⟩), kS s] w fun e w' => ReadP w (readM M.now s) e w' := by
  obtain ⟨own, h1, _⟩ := h.head
  exact dRead_any h1 (h.gd hG) s hs
omit hG
theorem lFuse (n : Int) (hn : n ≤ 9223372036854775807) :
    Calls Tryz.prog 36 #[.pointer (some ⟨q, 0, none⟩), .int .i64 n] w fun e w' => e = .returned (.int .i64 (fuseM M n).1) ∧ Lv w0 w' (.d q ((fuseM M n).2) :: ds) := by
  obtain ⟨own, h1, _, h2⟩ := h.step
  exact (dFuse_any h1 n hn).mono fun e w' k => ⟨k.1, h2 _ _ k.2⟩
theorem lSync :
    Calls Tryz.prog 29 #[.pointer (some ⟨q, 0, none⟩)] w fun e w' => e = .returned (.int .i64 (syncM M).1) ∧ Lv w0 w' (.d q ((syncM M).2) :: ds) := by
  obtain ⟨own, h1, _, h2⟩ := h.step
  exact (dSync_any h1).mono fun e w' k => ⟨k.1, h2 _ _ k.2⟩
theorem lPaths : Calls Tryz.prog 26 #[.pointer (some ⟨q, 0, none⟩)] w fun e w' => NamesP w (pathsL M.now) e w' := by
  obtain ⟨own, h1, _⟩ := h.head
  exact dPaths_any h1
theorem lUsed : Calls Tryz.prog 27 #[.pointer (some ⟨q, 0, none⟩)] w fun e w' => e = .returned (.int .i64 ((usedL M.now : Nat) : Int)) ∧ w = w' := by
  obtain ⟨own, h1, _⟩ := h.head
  exact dUsed_any h1
theorem lRoom : Calls Tryz.prog 35 #[.pointer (some ⟨q, 0, none⟩)] w fun e w' => e = .returned (.int .i64 (M.room : Int)) ∧ w = w' := by
  obtain ⟨own, h1, _⟩ := h.head
  exact dRoom_any h1
theorem lPending : Calls Tryz.prog 28 #[.pointer (some ⟨q, 0, none⟩)] w fun e w' => e = .returned (.int .i64 (M.since.length : Int)) ∧ w = w' := by
  obtain ⟨own, h1, _⟩ := h.head
  exact dPending_any h1
theorem lOff : Calls Tryz.prog 37 #[.pointer (some ⟨q, 0, none⟩)] w fun e w' => e = .returned (.bool (M.fuse == 0)) ∧ w = w' := by
  obtain ⟨own, h1, _⟩ := h.head
  exact dOff_is h1
/-- A copy goes ahead of the rest. -/
theorem lCopy : Calls Tryz.prog 17 #[.pointer (some ⟨q, 0, none⟩)] w fun e w' => ∃ p, e = .returned (.pointer (some ⟨p, 0, none⟩)) ∧ Lv w0 w' (.d p M :: .d q M :: ds) := by
  obtain ⟨own, h1, _⟩ := h.head
  refine (dCopy_any h1).mono ?_
  rintro e w' ⟨own', p, rfl, k1, k2, k3⟩
  exact ⟨p, rfl, h.push (y := .d p _) k1 k2 k3⟩
end
theorem lNew {w0 w : World} {ds : List Th} (h : Lv w0 w ds) (room : Nat) (r0 : 1024 ≤ room) (r1 : room ≤ 1048576) :
    Calls Tryz.prog 10 #[.int .i64 (room : Int)] w fun e w' => ∃ p, e = .returned (.tuple #[.pointer (some ⟨p, 0, none⟩), .int .i64 0]) ∧ Lv w0 w' (.d p (newM room) :: ds) := by
  refine (dNew_any room w r0 r1).mono ?_
  rintro e w' ⟨own, p, rfl, k1, k2, k3⟩
  exact ⟨p, rfl, h.push (y := .d p _) k1 k2 k3⟩
section
variable {w0 w : World} {q : Nat} {M : Mo} {ds : List Th}
theorem lReadC (h : Lv w0 w (.d q M :: ds)) (hG : Gd w0) (s : By) (hs : s.length ≤ 4000) (k : Int) (d x : By) (t c : Int) (hr : readM M.now s = (⟨k, d, x, t⟩, c)) :
    Calls Tryz.prog 34 #[.pointer (some ⟨q, 0, none⟩), kS s] w fun e w' => e = .returned (.tuple #[.agg (ndA k d x t), .int .i64 c]) ∧ Below w.heap.size w w' := by
  have := lRead h hG s hs
  rw [hr] at this
  exact this
set_option maxRecDepth 100000 in
set_option maxHeartbeats 2000000 in
theorem lIs (h : Lv w0 w (.d q M :: ds)) (hG : Gd w0) (p want : By) (tm : Int) (hp : p.length ≤ 4000) (hr : readM M.now p = (⟨1, want, [], tm⟩, 0)) :
    Calls Tryz.prog 30 #[.pointer (some ⟨q, 0, none⟩), kS p, kS want, .int .i64 tm] w fun e w' => e = .returned (.bool true) ∧ Lv w0 w' (.d q M :: ds) := by
  have C1 := hid (lReadC h hG p hp _ _ _ _ _ hr)
  have H := hid h
  clear h hG hr hp
  go_enter Tryz.func30, Tryz.ntmps30
  go_wp2_with fail
  refine C1.out.mono ?_; rintro e1 w1 ⟨rfl, hb1⟩
  have B1 := hid hb1
  have B2 : Hid (Below w.heap.size w (w1.alloc (.cells (ndA 1 want [] tm) 64))) := hb1.alloc hb1.size _
  have X2 : Hid (Has (w1.alloc (.cells (ndA 1 want [] tm) 64)) w1.heap.size 64 (ndA 1 want [] tm)) := Has.fresh _ _ _
  clear hb1
  go_wp2_with (first
    | (refine wpList_load_nodeC rfl (.tmp 9) rfl w1.heap.size rfl 1 want [] tm X2.out ?_)
    | (refine wpList_eql_node rfl (.tmp 20) (.tmp 23) rfl ⟨1, want, [], tm⟩ ⟨1, want, [], tm⟩ rfl rfl true (by simp) ?_))
  go_ret
  exact ⟨rfl, H.out.on B2.out⟩
end
end Go.Proofs.YtlbeemlnbpchgaaGreat
