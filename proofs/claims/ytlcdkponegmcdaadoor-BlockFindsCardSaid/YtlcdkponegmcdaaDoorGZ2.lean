/- Several texts in one: GL, GM, GN, GO, GP. Conditions: those said at each. -/
import Derived.Test.YtlcdkponegmcdaaDoorGZ1
/- The document's finder: its files in a row, by names; how it stands to a finder's files. No conditions but the ones said. -/
namespace Go.Proofs.YtlcdkponegmcdaaDoor
open Go.RowKit
/-- A file of the document's finder: its name, its bytes, and the values that bear its bytes and its list. -/
structure FileV where
  name : By
  data : By
  vd : Value
  vl : Value
def file0 : FileV := ⟨[], [], .slice none 0 0, .slice none 0 0⟩
def fileCells (a : FileV) : Array Value := #[.string (ba a.name), a.vd, a.vl]
def fcells (fs : List FileV) : List Value := fs.flatMap fun a => (fileCells a).toList
def LRow (B : Nat) (w : World) (v : Value) (fs : List FileV) : Prop := w.ownsRow B 87 3 v fs.length (fcells fs)
theorem fcells_snoc (fs : List FileV) (a : FileV) : fcells (fs ++ [a]) = fcells fs ++ (fileCells a).toList := by simp [fcells]
theorem fcells_at (fs : List FileV) (k : Nat) (hk : k < fs.length) (j : Nat) (hj : j < 3) : (fcells fs)[k * 3 + j]? = (fileCells (fs.getD k file0)).toList[j]? := by
  induction fs generalizing k with
  | nil => simp at hk
  | cons x r ih =>
    show ((fileCells x).toList ++ fcells r)[k * 3 + j]? = _
    cases k with
    | zero =>
      rw [List.getElem?_append_left (by show 0 * 3 + j < 3; omega)]
      simp [List.getD]
    | succ k =>
      rw [List.getElem?_append_right (by show 3 ≤ (k + 1) * 3 + j; omega)]
      rw [show (k + 1) * 3 + j - (fileCells x).toList.length = k * 3 + j by show (k + 1) * 3 + j - 3 = _; omega]
      rw [ih k (by simpa using hk)]
      simp [List.getD]
theorem LRow.nil (B : Nat) (w : World) : LRow B w (.slice none 0 0) [] := World.ownsRow_nil _ _ _ _
theorem LRow.form {B : Nat} {w : World} {v : Value} {fs : List FileV} (h : LRow B w v fs) : ∃ A c, v = .slice A fs.length c := by
  rcases h.2 with ⟨h1, h2⟩ | ⟨g, c, cur, h1, _⟩
  · exact ⟨none, 0, by rw [h1, h2]⟩
  · exact ⟨some ⟨g, 0, none⟩, c, h1⟩
/-- A file lies there. -/
structure FileAt (w : World) (g o : Nat) (a : FileV) : Prop where
  c0 : w.cell? ⟨g, o, none⟩ = some (.string (ba a.name))
  c1 : w.cell? ⟨g, o + 1, none⟩ = some a.vd
  c2 : w.cell? ⟨g, o + 2, none⟩ = some a.vl
set_option maxRecDepth 100000 in
theorem FileAt.load {w : World} {g o : Nat} {a : FileV} (h : FileAt w g o a) : (loadVar 87 ⟨g, o, none⟩).run Tryd.prog w = .ok (.agg (fileCells a)) w := by
  refine run_loadVar_mid (P := Tryd.prog) w g o 87 (fileCells a).toList _ (fun j u hj => ?_) Tryd.underlying87 rfl (by show _ = some 3; kernel_rfl)
  match j, hj with
  | 0, hj => obtain rfl := Option.some.inj hj; exact h.c0
  | 1, hj => obtain rfl := Option.some.inj hj; exact h.c1
  | 2, hj => obtain rfl := Option.some.inj hj; exact h.c2
  | j + 3, hj => simp [fileCells] at hj
theorem LRow.at_ {B : Nat} {w : World} {v : Value} {fs : List FileV} (h : LRow B w v fs) (k : Nat) (hk : k < fs.length) : ∃ g c, v = .slice (some ⟨g, 0, none⟩) fs.length c ∧ FileAt w g (k * 3) (fs.getD k file0) := by
  rcases h.2 with ⟨_, h3⟩ | ⟨g, c, cur, h3, hB, h4, h5⟩
  · omega
  · refine ⟨g, c, h3, ?_⟩
    subst h3
    have hc : ∀ j, j < 3 → ∀ u, (fileCells (fs.getD k file0)).toList[j]? = some u → w.cell? ⟨g, k * 3 + j, none⟩ = some u := fun j hj u hu => by
      have := World.ownsRow.cells (g := g) h rfl (k * 3 + j) u (by rw [fcells_at fs k hk j hj]; exact hu)
      rwa [add_at, Nat.zero_add] at this
    exact ⟨hc 0 (by omega) _ rfl, hc 1 (by omega) _ rfl, hc 2 (by omega) _ rfl⟩
theorem infoFile : (Tryd.prog.info? 87).map (fun i => (i.zero, i.size, i.bytes)) = some (some (.agg #[.string ⟨#[]⟩, .slice none 0 0, .slice none 0 0]), 3, 64) := by kernel_rfl
/-- A file whose values are slices of the call's own. -/
structure FileOk (own : Nat → Prop) (w : World) (a : FileV) : Prop where
  d : Fresh 0 w a.vd a.data
  od : ∀ g, a.vd.ownBlock = some g → own g
  l : Dgs 0 w a.vl (hashes a.data)
  ol : ∀ g, a.vl.ownBlock = some g → own g
  len : a.data.length ≤ 4096
theorem dgs_one {B : Nat} {w : World} {u : Value} {hs : List By} (h : Dgs B w u hs) : u.oneCell' = true := by
  obtain ⟨A, c, rfl⟩ := h.form; rfl
theorem FileOk.kept {own own' : Nat → Prop} {w w' : World} {a : FileV} (h : FileOk own w a) (hb : ∀ g, own g → w'.heap[g]? = w.heap[g]?) (ho : ∀ g, own g → own' g) : FileOk own' w' a :=
  ⟨row_of h.d fun g hg => hb g (h.od g hg), fun g hg => ho g (h.od g hg), ⟨row_of h.l.own fun g hg => hb g (h.ol g hg), h.l.len⟩, fun g hg => ho g (h.ol g hg), h.len⟩
theorem append_file (w : World) (B : Nat) (v : Value) (fs : List FileV) (h : LRow B w v fs) (a : FileV) (h1 : a.vd.oneCell' = true) (h2 : a.vl.oneCell' = true) (g : Nat) (hg : Has w g 87 (fileCells a)) (hn : fs.length ≤ 1000) (hB : B ≤ w.heap.size) (ty : TypeId) :
    ∃ v' w', (Builtin.append_ #[43, 43] ty #[v, .slice (some ⟨g, 0, none⟩) 1 1]).run Tryd.prog w = .ok v' w' ∧ LRow B w' v' (fs ++ [a]) ∧ w.grownBy w' v.ownBlock ∧ (v'.ownBlock = v.ownBlock ∨ v'.ownBlock = some w.heap.size) := by
  obtain ⟨i0, hi, hz0, hz1, hz2⟩ := info_parts infoFile
  obtain ⟨v', w', hr, ho, hg', _, hv⟩ := run_append_own_at (P := Tryd.prog) w B 43 ty 87 i0 _ 3 64 Tryd.underlying43 hi hz0 hz1 hz2 (by simp [Value.cells]) (by omega) v fs.length (fcells fs) h ⟨g, 0, none⟩ 1 1 (fileCells a).toList rfl
    (fun j u hj => by
      rw [add_at, Nat.zero_add, hg.at_ j]
      rw [← Array.getElem?_toList]; exact hj) (fun u hu => by
      simp only [fileCells, List.mem_cons, List.not_mem_nil, or_false] at hu
      rcases hu with rfl | rfl | rfl
      · rfl
      · exact h1
      · exact h2) (by unfold maxLen; omega) (by omega) hB
  refine ⟨v', w', hr, ?_, hg', hv⟩
  unfold LRow
  rw [fcells_snoc, List.length_append]; exact ho
theorem run_build_file (w : World) (a : FileV) :
    (Instr.buildSlice 43 1 #[(0, Value.agg (fileCells a))]).run Tryd.prog w = .ok (.slice (some ⟨w.heap.size, 0, none⟩) 1 1) (w.alloc (.cells (fileCells a) 87)) := by
  have hI : (Tryd.prog.info? 87).map (fun i => (i.size, i.zero)) = some (3, some (.agg #[.string ⟨#[]⟩, .slice none 0 0, .slice none 0 0])) := by kernel_rfl
  cases hie : Tryd.prog.info? 87 with
  | none => rw [hie] at hI; cases hI
  | some ie =>
    rw [hie] at hI
    simp only [Option.map_some, Option.some.injEq, Prod.mk.injEq] at hI
    refine run_buildSlice (P := Tryd.prog) w 43 87 1 _ _ ie _ Tryd.underlying43 hie hI.2 (by rw [hI.1]; omega) (by rw [hI.1]; omega) ?_
    rw [hI.1]
    refine (Great.fill_whole (s := 3) (by omega) [Value.agg (fileCells a)] _ (fun v hv => ?_) (by simp)).trans (by simp [Value.cells])
    simp only [List.mem_singleton] at hv
    subst hv
    rfl
theorem wpList_build_file {ops : Array Oper} {Q : Exit → Act → World → Prop} {a : Act} {w : World} {rest : List Oper} {o : Oper} (hw : Region.wanted o (yielded ops a.tmps) = true)
    (x : Operand) (ho : o.op = .buildSlice 43 1 #[(0, x)]) (d : FileV) (hx : a.eval x = .agg (fileCells d))
    (h : wpList Tryd.prog ops Q rest (a.put o.dst (.slice (some ⟨w.heap.size, 0, none⟩) 1 1)) (w.alloc (.cells (fileCells d) 87))) : wpList Tryd.prog ops Q (o :: rest) a w :=
  wpList_wanted hw fun _ hK => by
    unfold Oper.wp execOp
    simp only [ho, Sem.run_bind, List.map_toArray, List.map_cons, List.map_nil, hx, run_build_file w d, Result.andThen_ok]
    exact hK _ _ h
/-- A file more in a row that lies behind B. -/
theorem lrow_more (B : Nat) (wr : World) (v : Value) (fs : List FileV) (h : LRow B wr v fs) (a : FileV) (h1 : a.vd.oneCell' = true) (h2 : a.vl.oneCell' = true) (hn : fs.length ≤ 1000) (hB : B ≤ wr.heap.size) :
    ∃ v' w', (Builtin.append_ #[43, 43] 43 #[v, .slice (some ⟨wr.heap.size, 0, none⟩) 1 1]).run Tryd.prog (wr.alloc (.cells (fileCells a) 87)) = .ok v' w' ∧ LRow B w' v' (fs ++ [a]) ∧ Below B wr w' := by
  have hb : Below wr.heap.size wr (wr.alloc (.cells (fileCells a) 87)) := (Below.refl _ _).alloc (Nat.le_refl _) _
  have hr : LRow B (wr.alloc (.cells (fileCells a) 87)) v fs := row_of h fun g hg => hb.block g (World.ownsRow.lt h g hg).2
  obtain ⟨v', w', k1, k2, k3, _⟩ := append_file _ B v fs hr a h1 h2 wr.heap.size (Has.fresh wr 87 _) hn (Nat.le_trans hB hb.size) 43
  exact ⟨v', w', k1, k2, (hb.mono hB).grown k3 (Nat.le_trans hB hb.size) (fun g hg => (World.ownsRow.lt h g hg).1)⟩
/-- The document's finder in a world: own holds its blocks. -/
structure RGI (own : Nat → Prop) (w : World) (p : Nat) (v : Value) (fs : List FileV) : Prop where
  low : ∀ g, own g → g < w.heap.size
  has : Has w p 45 #[v]
  op : own p
  row : LRow 0 w v fs
  ov : ∀ g, v.ownBlock = some g → own g
  ok : ∀ a ∈ fs, FileOk own w a
def RG (own : Nat → Prop) (w : World) (p : Nat) (fs : List FileV) : Prop := ∃ v, RGI own w p v fs
def RGP (own : Nat → Prop) (w : World) (p : Nat) (fs : List FileV) (w' : World) : Prop :=
  ∃ own', RG own' w' p fs ∧ Turn own w w' ∧ (∀ g, own g → own' g) ∧ ∀ g, own' g → own g ∨ w.heap.size ≤ g
theorem RGI.kept {own : Nat → Prop} {w w' : World} {p : Nat} {v : Value} {fs : List FileV} (h : RGI own w p v fs) (hs : w.heap.size ≤ w'.heap.size) (hb : ∀ g, own g → w'.heap[g]? = w.heap[g]?) : RGI own w' p v fs where
  low g hg := Nat.lt_of_lt_of_le (h.low g hg) hs
  has := (hb p h.op).trans h.has
  op := h.op
  row := row_of h.row fun g hg => hb g (h.ov g hg)
  ov := h.ov
  ok a ha := (h.ok a ha).kept hb fun _ h => h
theorem RG.kept {own : Nat → Prop} {w w' : World} {p : Nat} {fs : List FileV} (h : RG own w p fs) (hs : w.heap.size ≤ w'.heap.size) (hb : ∀ g, own g → w'.heap[g]? = w.heap[g]?) : RG own w' p fs := by
  obtain ⟨v, h⟩ := h
  exact ⟨v, h.kept hs hb⟩
theorem RG.low {own : Nat → Prop} {w : World} {p : Nat} {fs : List FileV} (h : RG own w p fs) : ∀ g, own g → g < w.heap.size := by
  obtain ⟨v, h⟩ := h
  exact h.low
theorem RG.on {own : Nat → Prop} {w w' : World} {p : Nat} {fs : List FileV} (h : RG own w p fs) (hb : Below w.heap.size w w') : RG own w' p fs := h.kept hb.size fun g hg => hb.block g (h.low g hg)
theorem RGI.on {own : Nat → Prop} {w w' : World} {p : Nat} {v : Value} {fs : List FileV} (h : RGI own w p v fs) (hb : Below w.heap.size w w') : RGI own w' p v fs := h.kept hb.size fun g hg => hb.block g (h.low g hg)
theorem RGI.cell {own : Nat → Prop} {w : World} {p : Nat} {v : Value} {fs : List FileV} (h : RGI own w p v fs) : w.cell? ⟨p, 0, none⟩ = some v := h.has.at_ 0
theorem hne_of {B : Nat} {e : TypeId} {s n : Nat} {w : World} {v : Value} {xs : List Value} (h : w.ownsRow B e s v n xs) {p : Nat} {t : TypeId} {cs : Array Value} (hp : Has w p t cs) (hne : e ≠ t) : ∀ g, v.ownBlock = some g → g ≠ p := fun g hg e9 => by
  subst e9
  rcases h.2 with ⟨k1, _⟩ | ⟨g', c, cur, k1, _, k3, _⟩
  · rw [k1] at hg; cases hg
  · rw [k1] at hg; injection hg with hg
    have hg : g' = g := hg
    subst hg
    unfold Has at hp
    rw [k3] at hp
    injection hp with hp; injection hp with _ hp
    exact hne hp
/-- A row that was built behind B, stored as the finder's. -/
theorem RGI.store {own : Nat → Prop} {w wr : World} {p : Nat} {v v2 : Value} {fs fs2 : List FileV} (h : RGI own w p v fs) (hb : Below w.heap.size w wr) (hr : LRow w.heap.size wr v2 fs2) (hs : ∀ a ∈ fs2, a ∈ fs ∨ FileOk (fun g => w.heap.size ≤ g ∧ g < wr.heap.size) wr a) :
    RGP own w p fs2 (wr.setCell ⟨p, 0, none⟩ v2) := by
  have hwr := h.on hb
  have hg : Grw p wr (wr.setCell ⟨p, 0, none⟩ v2) := Grw.of_set p 0 wr v2
  have hplow := h.low p h.op
  have hown : ∀ g, g ≠ p → g < wr.heap.size → (wr.setCell ⟨p, 0, none⟩ v2).heap[g]? = wr.heap[g]? := fun g hne hl => hg.block g hl (fun e => hne (Option.some.inj e))
  refine ⟨fun g => own g ∨ (w.heap.size ≤ g ∧ g < wr.heap.size), ⟨v2, ?_, ?_, .inl h.op, ?_, ?_, ?_⟩, ?_, fun g hg => .inl hg, ?_⟩
  · rintro g (ho | ⟨_, ho⟩)
    · exact Nat.lt_of_lt_of_le (hwr.low g ho) hg.size
    · exact Nat.lt_of_lt_of_le ho hg.size
  · have := hwr.has.put 0 v2
    simpa using this
  · have hr0 : LRow 0 wr v2 fs2 := ⟨hr.1, by
      rcases hr.2 with k | ⟨g, c, cur, k1, k2, k3⟩
      · exact .inl k
      · exact .inr ⟨g, c, cur, k1, Nat.zero_le _, k3⟩⟩
    refine row_of hr0 fun g hgg => hown g ?_ (World.ownsRow.lt hr g hgg).2
    have := (World.ownsRow.lt hr g hgg).1
    omega
  · intro g hgg
    exact .inr (World.ownsRow.lt hr g hgg)
  · intro a ha
    rcases hs a ha with hm | hm
    · have ho := hwr.ok a hm
      exact ⟨row_of ho.d fun g hgg => hown g (hne_of ho.d hwr.has (by decide) g hgg) (World.ownsRow.lt ho.d g hgg).2, fun g hgg => .inl (ho.od g hgg), ⟨row_of ho.l.own fun g hgg => hown g (hne_of ho.l.own hwr.has (by decide) g hgg) (World.ownsRow.lt ho.l.own g hgg).2, ho.l.len⟩, fun g hgg => .inl (ho.ol g hgg), ho.len⟩
    · have e1 : ∀ g, (w.heap.size ≤ g ∧ g < wr.heap.size) → (wr.setCell ⟨p, 0, none⟩ v2).heap[g]? = wr.heap[g]? := fun g hgg => hown g (by omega) hgg.2
      exact hm.kept e1 fun g hgg => .inr hgg
  · exact (Turn.of_below hb).trans (Turn.of_grw (own := own) hg (.inl h.op)) (fun g ho => .inl ho)
  · rintro g (ho | ⟨ho, _⟩)
    · exact .inl ho
    · exact .inr ho
end Go.Proofs.YtlcdkponegmcdaaDoor
/- The document's finder: files dropped and put, by names; Forget. Conditions: a finder of at most 1000 files. -/
namespace Go.Proofs.YtlcdkponegmcdaaDoor
open Go.RowKit
def fdrop (fs : List FileV) (t : By) : List FileV := fs.filter fun a => !decide (a.name = t)
def fhas (fs : List FileV) (t : By) : Bool := fs.any fun a => decide (a.name = t)
def fins : List FileV → FileV → List FileV
  | [], q => [q]
  | a :: r, q => if cb q.name a.name < 0 then q :: a :: r else a :: fins r q
def FSrt (fs : List FileV) : Prop := fs.Pairwise fun a b => cb a.name b.name < 0
/-- A finder's files are just these. -/
structure FR (F : By → Option By) (fs : List FileV) : Prop where
  srt : FSrt fs
  mem : ∀ n xs, F n = some xs ↔ ∃ a ∈ fs, a.name = n ∧ a.data = xs
theorem fr_none : FR (fun _ => none) [] := ⟨List.Pairwise.nil, fun n xs => by simp⟩
theorem fdrop_cons (a : FileV) (r : List FileV) (t : By) : fdrop (a :: r) t = if a.name = t then fdrop r t else a :: fdrop r t := by
  unfold fdrop
  rw [List.filter_cons]
  by_cases h : a.name = t <;> simp [h]
theorem fdrop_mem {fs : List FileV} {t : By} {a : FileV} : a ∈ fdrop fs t ↔ a ∈ fs ∧ a.name ≠ t := by
  unfold fdrop
  rw [List.mem_filter]; simp
theorem fins_mem {fs : List FileV} {q a : FileV} : a ∈ fins fs q ↔ a = q ∨ a ∈ fs := by
  induction fs with
  | nil => simp [fins]
  | cons x r ih =>
    rw [fins]
    by_cases h : cb q.name x.name < 0
    · rw [if_pos h]; simp
    · rw [if_neg h, List.mem_cons, ih, List.mem_cons]
      constructor
      · rintro (h1 | h1 | h1)
        · exact .inr (.inl h1)
        · exact .inl h1
        · exact .inr (.inr h1)
      · rintro (h1 | h1 | h1)
        · exact .inr (.inl h1)
        · exact .inl h1
        · exact .inr (.inr h1)
theorem fins_srt {fs : List FileV} {q : FileV} (h : FSrt fs) (hn : ∀ a ∈ fs, a.name ≠ q.name) : FSrt (fins fs q) := by
  induction fs with
  | nil => exact List.Pairwise.cons (fun a ha => by cases ha) List.Pairwise.nil
  | cons x r ih =>
    have hx : ∀ a ∈ r, cb x.name a.name < 0 := fun a ha => List.rel_of_pairwise_cons h ha
    rw [fins]
    by_cases hq : cb q.name x.name < 0
    · rw [if_pos hq]
      refine List.Pairwise.cons (fun a ha => ?_) h
      rcases List.mem_cons.1 ha with rfl | ha
      · exact hq
      · exact cb_trans hq (hx a ha)
    · rw [if_neg hq]
      refine List.Pairwise.cons (fun a ha => ?_) (ih (List.Pairwise.of_cons h) (fun a ha => hn a (List.mem_cons_of_mem _ ha)))
      rcases fins_mem.1 ha with rfl | ha
      · have h1 := cb_swap a.name x.name
        have h2 : cb a.name x.name ≠ 0 := fun e => hn x (List.mem_cons_self ..) (cb_zero e).symm
        omega
      · exact hx a ha
theorem fr_del {F : By → Option By} {fs : List FileV} (h : FR F fs) (t : By) : FR (delF F t) (fdrop fs t) := by
  refine ⟨h.srt.sublist (List.filter_sublist), fun n xs => ?_⟩
  unfold delF
  by_cases hn : n = t
  · rw [if_pos hn]
    constructor
    · intro e; cases e
    · rintro ⟨a, ha, h1, _⟩
      exact absurd (h1.trans hn) (fdrop_mem.1 ha).2
  · rw [if_neg hn, h.mem]
    constructor
    · rintro ⟨a, ha, h1, h2⟩; exact ⟨a, fdrop_mem.2 ⟨ha, fun e => hn (h1.symm.trans e)⟩, h1, h2⟩
    · rintro ⟨a, ha, h1, h2⟩; exact ⟨a, (fdrop_mem.1 ha).1, h1, h2⟩
theorem fr_put {F : By → Option By} {fs : List FileV} (h : FR F fs) (q : FileV) : FR (putF F q.name q.data) (fins (fdrop fs q.name) q) := by
  refine ⟨fins_srt (fr_del h q.name).srt (fun a ha => (fdrop_mem.1 ha).2), fun n xs => ?_⟩
  unfold putF
  by_cases hn : n = q.name
  · rw [if_pos hn]
    constructor
    · intro e; injection e with e
      exact ⟨q, fins_mem.2 (.inl rfl), hn.symm, e⟩
    · rintro ⟨a, ha, h1, h2⟩
      rcases fins_mem.1 ha with rfl | ha
      · rw [h2]
      · exact absurd (h1.trans hn) (fdrop_mem.1 ha).2
  · rw [if_neg hn, h.mem]
    constructor
    · rintro ⟨a, ha, h1, h2⟩; exact ⟨a, fins_mem.2 (.inr (fdrop_mem.2 ⟨ha, fun e => hn (h1.symm.trans e)⟩)), h1, h2⟩
    · rintro ⟨a, ha, h1, h2⟩
      rcases fins_mem.1 ha with rfl | ha
      · exact absurd h1.symm hn
      · exact ⟨a, (fdrop_mem.1 ha).1, h1, h2⟩
theorem fr_has {F : By → Option By} {fs : List FileV} (h : FR F fs) (t : By) : (F t).isSome = fhas fs t := by
  rw [Bool.eq_iff_iff, Option.isSome_iff_exists, fhas, List.any_eq_true]
  constructor
  · rintro ⟨xs, hx⟩
    obtain ⟨a, ha, h1, _⟩ := (h.mem t xs).1 hx
    exact ⟨a, ha, decide_eq_true h1⟩
  · rintro ⟨a, ha, h1⟩
    exact ⟨a.data, (h.mem t a.data).2 ⟨a, ha, of_decide_eq_true h1, rfl⟩⟩
theorem fr_len {F : By → Option By} {fs : List FileV} (h : FR F fs) (keys : List By) (hk : keys.Nodup) (hm : ∀ n, n ∈ keys ↔ (F n).isSome = true) : keys.length = fs.length := by
  have hn : (fs.map (·.name)).Nodup := by
    unfold List.Nodup
    rw [List.pairwise_map]
    refine h.srt.imp fun {a b} hab e => ?_
    rw [e, cb_self] at hab; omega
  have hmm : ∀ n, n ∈ keys ↔ n ∈ fs.map (·.name) := fun n => by
    rw [hm, fr_has h, fhas, List.any_eq_true, List.mem_map]
    constructor
    · rintro ⟨a, ha, h1⟩; exact ⟨a, ha, of_decide_eq_true h1⟩
    · rintro ⟨a, ha, h1⟩; exact ⟨a, ha, decide_eq_true h1⟩
  have h1 := len_le hk (fun n hn => (hmm n).1 hn)
  have h2 := len_le hn (fun n hn => (hmm n).2 hn)
  rw [List.length_map] at h1 h2
  omega
theorem fdrop_at (fs : List FileV) (k : Nat) (h : k < fs.length) : fs.drop k = fs.getD k file0 :: fs.drop (k + 1) := by
  rw [List.drop_eq_getElem_cons h, List.getD, List.getElem?_eq_getElem h]; rfl
theorem file_one {own : Nat → Prop} {w : World} {a : FileV} (h : FileOk own w a) : a.vd.oneCell' = true ∧ a.vl.oneCell' = true := ⟨fresh_one h.d, dgs_one h.l⟩
theorem str_ne {a b : By} (h : ¬ a = b) : ((ba a).toList == (ba b).toList) = false := by
  rw [ByteArray.toList_eq, ByteArray.toList_eq]
  simp only [beq_eq_false_iff_ne, ne_eq]
  exact h
set_option maxRecDepth 100000 in
set_option maxHeartbeats 8000000 in
theorem rforget_any {own : Nat → Prop} {w : World} {p : Nat} {fs : List FileV} (h : RG own w p fs) (t : By) (hn : fs.length ≤ 900) :
    Calls Tryd.prog 24 #[.pointer (some ⟨p, 0, none⟩), .string (ba t)] w fun e w' => e = .returned (.bool (fhas fs t)) ∧ RGP own w p (fdrop fs t) w' := by
  obtain ⟨v, h⟩ := h
  obtain ⟨A, cp, hv⟩ := h.row.form
  obtain ⟨n, HN⟩ : ∃ n, Hid (fs.length = n) := ⟨_, rfl⟩
  rw [HN.out] at hv hn
  subst hv
  have HI := hid h
  have hplow := h.low p h.op
  have HPL := hid hplow
  clear h hplow
  go_enter Tryd.func24, Tryd.ntmps24
  go_wp2
  go_loopw [5, 6, 7] (fun v5 v6 v7 wr => ∃ (k : Nat) (ls : List FileV) (b : Bool), k ≤ n ∧ v7 = .int .i64 (k : Int) ∧ v6 = .bool b ∧ ls.length ≤ k ∧ (∀ a ∈ ls, a ∈ fs) ∧ Hid (ls ++ fdrop (fs.drop k) t = fdrop fs t) ∧ Hid ((b || fhas (fs.drop k) t) = fhas fs t) ∧ Hid (LRow w.heap.size wr v5 ls) ∧ Hid (Below w.heap.size w wr)) (fun _ _ v7 _ => n - (intOf v7).toNat)
  case atStart => exact ⟨0, [], false, by omega, rfl, rfl, Nat.le_refl _, (fun a ha => by cases ha), rfl, (rfl : (false || fhas (fs.drop 0) t) = _), LRow.nil _ _, Below.refl _ _⟩
  case round =>
    obtain ⟨k, ls, b, hk, rfl, rfl, hll, hls, H1, H2, HL, HB⟩ := hrel
    have HR := HI.out.on HB.out
    have c0 := HR.cell
    have HHR := hid HR
    clear HR
    by_cases hlt : k < n
    · have hlt2 : (k : Int) < (n : Int) := by omega
      have w1' : IntKind.i64.wrap ((k : Int) + 1) = (k : Int) + 1 := i64in _ (by omega) (by omega)
      have hkl : k < fs.length := by rw [HN.out]; exact hlt
      obtain ⟨a, HA⟩ : ∃ a, Hid (fs.getD k file0 = a) := ⟨_, rfl⟩
      have ham : a ∈ fs := by rw [← HA.out, List.getD, List.getElem?_eq_getElem hkl]; exact List.getElem_mem _
      obtain ⟨g, c9, hv9, hat⟩ := HHR.out.row.at_ k hkl
      rw [HN.out] at hv9
      injection hv9 with hA9 hn9 hc9
      subst hA9 hc9
      clear hn9
      rw [HA.out] at hat
      have HAT := hid hat
      have d0 := hat.c0
      have HDR : Hid (fs.drop k = a :: fs.drop (k + 1)) := by show _ = _; rw [← HA.out]; exact fdrop_at fs k hkl
      have h1 := H1.out
      have h2 := H2.out
      rw [HDR.out, fdrop_cons] at h1
      rw [HDR.out] at h2
      have hone := file_one (HHR.out.ok a ham)
      obtain ⟨v9, w9, hr9, hl9, hb9⟩ := lrow_more w.heap.size wr u5 ls HL.out a hone.1 hone.2 (by omega) HB.out.size
      have R9 := hid hr9
      have L9 := hid hl9
      have B9 : Hid (Below w.heap.size w w9) := HB.out.trans hb9
      have HLD := hid hat.load
      clear hat hr9 hl9 hb9 hone
      obtain ⟨nme, HNM⟩ : ∃ nme, Hid (a.name = nme) := ⟨_, rfl⟩
      rw [HNM.out] at d0 h1
      by_cases hnt : nme = t
      · rw [if_pos hnt] at h1
        have h3 : (true || fhas (fs.drop (k + 1)) t) = fhas fs t := by
          rw [← h2]
          show true = (b || (decide (a.name = t) || fhas (fs.drop (k + 1)) t))
          rw [HNM.out, hnt]; simp
        have H3 := hid h1
        have H4 := hid h3
        subst hnt
        clear h1 h2 h3
        go_wp2
        go_roundw
        case rel => exact ⟨k + 1, ls, true, by omega, by go_num, rfl, by omega, hls, H3.out, H4.out, HL.out, HB.out⟩
        case measure => simp [intOf]; omega
      · rw [if_neg hnt] at h1
        have h3 : (b || fhas (fs.drop (k + 1)) t) = fhas fs t := by
          rw [← h2]
          show _ = (b || (decide (a.name = t) || fhas (fs.drop (k + 1)) t))
          rw [HNM.out, decide_eq_false hnt]; simp
        have H3 : Hid ((ls ++ [a]) ++ fdrop (fs.drop (k + 1)) t = fdrop fs t) := by show _ = _; rw [List.append_assoc]; exact h1
        have H4 := hid h3
        have q1 := str_ne hnt
        have HLS : Hid (∀ x ∈ ls ++ [a], x ∈ fs) := fun x hx => by
          rcases List.mem_append.1 hx with hx | hx
          · exact hls x hx
          · simp only [List.mem_singleton] at hx; rw [hx]; exact ham
        have HLL : Hid ((ls ++ [a]).length ≤ k + 1) := by show _ ≤ _; rw [List.length_append, List.length_singleton]; omega
        clear h1 h2 h3 hls hll ham
        go_wp2_with (first
          | (at_builtin; refine wpList_append_run rfl (.tmp 27) (.tmp 35) 43 43 rfl ⟨_, _, R9.out, ?_⟩)
          | (refine wpList_load_g (by rfl) 87 (.tmp 33) rfl g (k * 3) rfl (fileCells a) HLD.out ?_)
          | (refine wpList_build_file (by rfl) (.tmp 34) rfl a rfl ?_))
        go_roundw
        case rel => exact ⟨k + 1, ls ++ [a], b, by omega, by go_num, rfl, HLL.out, HLS.out, H3.out, H4.out, L9.out, B9.out⟩
        case measure => simp [intOf]; omega
    · obtain rfl : k = n := by omega
      obtain ⟨A7, c7, hv7⟩ := HL.out.form
      generalize ls.length = l7 at hv7
      subst hv7
      have h1 := H1.out
      have h2 := H2.out
      rw [List.drop_of_length_le (by rw [HN.out]; exact Nat.le_refl _)] at h1 h2
      have e1 : ls = fdrop fs t := by rw [← h1]; simp [fdrop]
      have e2 : b = fhas fs t := by rw [← h2]; simp [fhas]
      have HP := HI.out.store HB.out HL.out (fun a ha => .inl (hls a ha))
      rw [e1] at HP
      have HPP := hid HP
      have HE2 := hid e2
      have hfr : wr.frozen? ⟨p, 0, none⟩ = false := HHR.out.has.free 0
      clear HP e1 e2 h1 h2 H1 H2 hls hll
      go_wp2
      go_ret
      exact ⟨by rw [HE2.out]; rfl, HPP.out⟩
end Go.Proofs.YtlcdkponegmcdaaDoor
/- The document's finder: Add. Conditions: a finder of at most 800 files; bytes in a block that is not the finder's. -/
namespace Go.Proofs.YtlcdkponegmcdaaDoor
open Go.RowKit
theorem less_eq : ∀ (a b : By), Op.bytesLess a b = decide (cb a b < 0)
  | [], [] => by rw [cb_self]; rfl
  | [], y :: b => rfl
  | x :: a, [] => rfl
  | x :: a, y :: b => by
    have e : cb (x :: a) (y :: b) = if x < y then -1 else if y < x then 1 else cb a b := rfl
    show (decide (x < y) || (x == y && Op.bytesLess a b)) = _
    rw [e]
    by_cases h1 : x < y
    · simp [h1]
    · rw [if_neg h1]
      by_cases h2 : y < x
      · rw [if_pos h2]
        have : x ≠ y := fun e => by subst e; exact h1 h2
        simp [h1, this]
      · rw [if_neg h2]
        have : x = y := by
          have h3 : ¬ x.toNat < y.toNat := h1
          have h4 : ¬ y.toNat < x.toNat := h2
          exact UInt8.toNat_inj.1 (by omega)
        subst this
        rw [less_eq a b]; simp
theorem less_str (a b : By) : Op.bytesLess (ba a).toList (ba b).toList = decide (cb a b < 0) := by
  rw [ByteArray.toList_eq, ByteArray.toList_eq]
  exact less_eq a b
theorem Has.fileAt {w : World} {g : Nat} {a : FileV} (h : Has w g 87 (fileCells a)) : FileAt w g 0 a := ⟨h.at_ 0, h.at_ 1, h.at_ 2⟩
/-- A row that was built behind the finder's world, with a file of blocks besides, stored as the finder's. -/
theorem RGI.store2 {own ex : Nat → Prop} {w wr : World} {p : Nat} {v v2 : Value} {fs fs2 : List FileV} (h : RGI own w p v fs) (hb : Below w.heap.size w wr) (hr : LRow w.heap.size wr v2 fs2) (hex : ∀ g, ex g → g < wr.heap.size ∧ g ≠ p) (hs : ∀ a ∈ fs2, a ∈ fs ∨ FileOk ex wr a) :
    RG (fun g => own g ∨ (w.heap.size ≤ g ∧ g < wr.heap.size) ∨ ex g) (wr.setCell ⟨p, 0, none⟩ v2) p fs2 ∧ Turn own w (wr.setCell ⟨p, 0, none⟩ v2) := by
  have hwr := h.on hb
  have hg : Grw p wr (wr.setCell ⟨p, 0, none⟩ v2) := Grw.of_set p 0 wr v2
  have hplow := h.low p h.op
  have hown : ∀ g, g ≠ p → g < wr.heap.size → (wr.setCell ⟨p, 0, none⟩ v2).heap[g]? = wr.heap[g]? := fun g hne hl => hg.block g hl (fun e => hne (Option.some.inj e))
  refine ⟨⟨v2, ?_, ?_, .inl h.op, ?_, ?_, ?_⟩, ?_⟩
  · rintro g (ho | ⟨_, ho⟩ | ho)
    · exact Nat.lt_of_lt_of_le (hwr.low g ho) hg.size
    · exact Nat.lt_of_lt_of_le ho hg.size
    · exact Nat.lt_of_lt_of_le (hex g ho).1 hg.size
  · have := hwr.has.put 0 v2
    simpa using this
  · have hr0 : LRow 0 wr v2 fs2 := ⟨hr.1, by
      rcases hr.2 with k | ⟨g, c, cur, k1, k2, k3⟩
      · exact .inl k
      · exact .inr ⟨g, c, cur, k1, Nat.zero_le _, k3⟩⟩
    refine row_of hr0 fun g hgg => hown g ?_ (World.ownsRow.lt hr g hgg).2
    have := (World.ownsRow.lt hr g hgg).1
    omega
  · intro g hgg
    exact .inr (.inl (World.ownsRow.lt hr g hgg))
  · intro a ha
    rcases hs a ha with hm | hm
    · have ho := hwr.ok a hm
      exact ⟨row_of ho.d fun g hgg => hown g (hne_of ho.d hwr.has (by decide) g hgg) (World.ownsRow.lt ho.d g hgg).2, fun g hgg => .inl (ho.od g hgg), ⟨row_of ho.l.own fun g hgg => hown g (hne_of ho.l.own hwr.has (by decide) g hgg) (World.ownsRow.lt ho.l.own g hgg).2, ho.l.len⟩, fun g hgg => .inl (ho.ol g hgg), ho.len⟩
    · exact hm.kept (fun g hgg => hown g (hex g hgg).2 (hex g hgg).1) fun g hgg => .inr (.inr hgg)
  · exact (Turn.of_below hb).trans (Turn.of_grw (own := own) hg (.inl h.op)) (fun g ho => .inl ho)
set_option maxRecDepth 100000 in
set_option maxHeartbeats 4000000 in
theorem radd_long {own : Nat → Prop} {w : World} {p : Nat} {fs : List FileV} (_h : RG own w p fs) (t : By) (v : Value) (xs : By) (A : Option Addr) (cap bb off : Nat) (hy : Bytes w v xs A cap bb off) (hl : 4096 < xs.length) :
    Calls Tryd.prog 27 #[.pointer (some ⟨p, 0, none⟩), .string (ba t), v] w fun e w' => e = .returned (.int .i64 3) ∧ w = w' := by
  have CL := hid (rlist_long v xs A cap bb off w hy hl)
  clear _h hy hl
  go_enter Tryd.func27, Tryd.ntmps27
  go_wp2_with (go_at_call 16; refine CL.out.mono ?_; rintro e2 w2 ⟨rfl, rfl⟩)
  go_ret
  exact ⟨rfl, rfl⟩
set_option maxRecDepth 100000 in
set_option maxHeartbeats 16000000 in
theorem radd_any {own : Nat → Prop} {w : World} {p : Nat} {fs : List FileV} (h : RG own w p fs) (hp : 0 < w.heap.size) (t : By) (hn : fs.length ≤ 800) (v : Value) (xs : By) (A : Option Addr) (cap bb off : Nat) (hy : Bytes w v xs A cap bb off) (hbb : ¬ own bb) (hl : xs.length ≤ 4096) :
    Calls Tryd.prog 27 #[.pointer (some ⟨p, 0, none⟩), .string (ba t), v] w fun e w' => e = .returned (.int .i64 0) ∧ ∃ a : FileV, a.name = t ∧ a.data = xs ∧ RGP own w p (fins (fdrop fs t) a) w' := by
  have CL := hid (rlist_any v xs A cap bb off w hy hp hl)
  obtain ⟨hs, HHS⟩ : ∃ hs, Hid (hashes xs = hs) := ⟨_, rfl⟩
  rw [HHS.out] at CL
  obtain ⟨c, HC⟩ : ∃ c, Hid (hs.length = c) := ⟨_, rfl⟩
  have HG := hid h
  have HY := hid hy
  have HBB := hid hbb
  have HXL := hid hl
  have HNN := hid hn
  have HPOS := hid hp
  obtain ⟨nx, HNX⟩ : ∃ nx, Hid (xs.length = nx) := ⟨_, rfl⟩
  have hvf := hy.form
  rw [HNX.out] at hvf
  subst hvf
  have HFL : Hid ((fdrop fs t).length ≤ 800) := Nat.le_trans (List.length_filter_le _ _) hn
  obtain ⟨sz, HSZ⟩ : ∃ sz, Hid (w.heap.size = sz) := ⟨_, rfl⟩
  clear h hy hbb hl hn hp
  go_enter Tryd.func27, Tryd.ntmps27
  go_wp2_with (fail)
  refine CL.out.mono ?_
  rintro e1 w1 ⟨v1, rfl, hd1, hb1⟩
  have B1 := hid hb1
  have D1 := hid hd1
  obtain ⟨A1, c1, hv1⟩ := hd1.form
  rw [HC.out] at hv1
  subst hv1
  have CF := hid (rforget_any (HG.out.on hb1) t (by have := HNN.out; omega))
  clear hd1 hb1
  go_wp2_with (fail)
  refine CF.out.mono ?_
  rintro e2 w2 ⟨rfl, own2, hg2, ht2, hs2, hn2⟩
  have hlow := HG.out.low
  have D2 : Hid (Dgs w.heap.size w2 (.slice A1 c c1) hs) := ⟨row_of D1.out.own fun g hg => ht2.block g (World.ownsRow.lt D1.out.own g hg).2 (fun ho => by have := hlow g ho; have := (World.ownsRow.lt D1.out.own g hg).1; omega), D1.out.len⟩
  have Y2 : Hid (Bytes w2 (.slice A nx cap) xs A cap bb off) := (HY.out.kept B1.out (Nat.le_refl _)).stay ht2.size (ht2.block bb (Nat.lt_of_lt_of_le HY.out.blk B1.out.size) HBB.out)
  obtain ⟨v0, hg2⟩ := hg2
  have G2 := hid hg2
  have T2 : Hid (Turn own w w2) := (Turn.of_below (own := own) B1.out).trans ht2 (fun g ho => .inl ho)
  have S2 : Hid (∀ g, own g → own2 g) := hs2
  have N2 : Hid (∀ g, own2 g → own g ∨ w.heap.size ≤ g) := fun g ho => by
    rcases hn2 g ho with x | x
    · exact .inl x
    · exact .inr (Nat.le_trans B1.out.size x)
  have LV : Hid (∀ g, (Value.slice A1 c c1).ownBlock = some g → w.heap.size ≤ g ∧ g < w2.heap.size ∧ ¬ own2 g) := fun g hg => by
    have k1 := World.ownsRow.lt D1.out.own g hg
    refine ⟨k1.1, Nat.lt_of_lt_of_le k1.2 ht2.size, fun ho => ?_⟩
    rcases hn2 g ho with x | x
    · have := hlow g x; omega
    · omega
  have hbw : ∀ g, g < w2.heap.size → g < w2.heap.size := fun _ h => h
  have HP2 : Hid (0 < w2.heap.size) := Nat.lt_of_lt_of_le HPOS.out T2.out.size
  have hb3 : Below w2.heap.size w2 (w2.alloc (.cells #[.string (ba t), .slice none 0 0, .slice A1 c c1] 87)) := (Below.refl _ _).alloc (Nat.le_refl _) _
  have hx3 : Has (w2.alloc (.cells #[.string (ba t), .slice none 0 0, .slice A1 c c1] 87)) w2.heap.size 87 #[.string (ba t), .slice none 0 0, .slice A1 c c1] := Has.fresh w2 87 _
  obtain ⟨v4, w4, hr4, hf4, hg4⟩ := fresh_app (fresh_nil w2.heap.size (w2.alloc (.cells #[.string (ba t), .slice none 0 0, .slice A1 c c1] 87))) (Y2.out.kept hb3 (Nat.le_refl _)) (by have := HXL.out; simp; omega) hb3.size
  rw [List.nil_append] at hf4
  have hb4 : Below (w2.alloc (.cells #[.string (ba t), .slice none 0 0, .slice A1 c c1] 87)).heap.size (w2.alloc (.cells #[.string (ba t), .slice none 0 0, .slice A1 c c1] 87)) w4 := (Below.refl _ _).grown hg4 (Nat.le_refl _) (fun _ e => by cases e)
  obtain ⟨A4, c4, b4, hy4, _, _⟩ := hf4.bytes (Nat.lt_of_lt_of_le HP2.out (Nat.le_trans hb3.size hg4.size))
  have hv4 := hy4.form
  rw [HNX.out] at hv4
  subst hv4
  have hx4 : Has w4 w2.heap.size 87 #[.string (ba t), .slice none 0 0, .slice A1 c c1] := hx3.on hb4
  have hfr4 : w4.frozen? ⟨w2.heap.size, 1, none⟩ = false := hx4.free 1
  have c41 : w4.cell? ⟨w2.heap.size, 1, none⟩ = some (.slice none 0 0) := hx4.at_ 1
  have R4 := hid hr4
  obtain ⟨W5, HW5⟩ : ∃ W5, Hid (w4.setCell ⟨w2.heap.size, 1, none⟩ (.slice A4 nx c4) = W5) := ⟨_, rfl⟩
  have hg5 : Grw w2.heap.size w4 (w4.setCell ⟨w2.heap.size, 1, none⟩ (.slice A4 nx c4)) := Grw.of_set _ _ _ _
  have hx5 := hx4.put 1 (.slice A4 nx c4)
  have hb24 : Below w2.heap.size w2 w4 := hb3.trans (hb4.mono hb3.size)
  have hb25 : Below w2.heap.size w2 (w4.setCell ⟨w2.heap.size, 1, none⟩ (.slice A4 nx c4)) := Grw.below hb24 hg5 (Nat.le_refl _) hb24.size
  have hf5 : Fresh w2.heap.size (w4.setCell ⟨w2.heap.size, 1, none⟩ (.slice A4 nx c4)) (.slice A4 nx c4) xs := row_of hf4 fun g hgg => hg5.block g (World.ownsRow.lt hf4 g hgg).2 (fun e => hne_of hf4 hx4 (by decide) g hgg (Option.some.inj e))
  have hl5 : Dgs w.heap.size (w4.setCell ⟨w2.heap.size, 1, none⟩ (.slice A4 nx c4)) (.slice A1 c c1) hs := ⟨row_of D2.out.own fun g hgg => hb25.block g (World.ownsRow.lt D2.out.own g hgg).2, D2.out.len⟩
  rw [HW5.out] at hx5 hb25 hf5 hl5
  have X5 : Hid (Has W5 w2.heap.size 87 (fileCells ⟨t, xs, .slice A4 nx c4, .slice A1 c c1⟩)) := by
    show Has _ _ _ _
    simpa [fileCells] using hx5
  have B25 := hid hb25
  have F5 := hid hf5
  have L5 := hid hl5
  have G5 := hid (G2.out.on hb25)
  obtain ⟨q, HQ⟩ : ∃ q : FileV, Hid ((⟨t, xs, .slice A4 nx c4, .slice A1 c c1⟩ : FileV) = q) := ⟨_, rfl⟩
  rw [HQ.out] at X5
  have HQ1 : Hid (q.name = t ∧ q.data = xs ∧ q.vd = .slice A4 nx c4 ∧ q.vl = .slice A1 c c1) := by rw [← HQ.out]; exact ⟨rfl, rfl, rfl, rfl⟩
  obtain ⟨f2, HF2⟩ : ∃ f2, Hid (fdrop fs t = f2) := ⟨_, rfl⟩
  rw [HF2.out] at G5 G2 HFL
  obtain ⟨n2, HN2⟩ : ∃ n2, Hid (f2.length = n2) := ⟨_, rfl⟩
  obtain ⟨Ar, cr, hvr⟩ := G5.out.row.form
  rw [HN2.out] at hvr HFL
  have hn8 : n2 ≤ 800 := HFL.out
  subst hvr
  have HEX : Hid (∀ W, Below W5.heap.size W5 W → FileOk (fun g => (w2.heap.size ≤ g ∧ g < W5.heap.size) ∨ (Value.slice A1 c c1).ownBlock = some g) W q) := fun W hW => by
    obtain ⟨e1, e2, e3, e4⟩ := HQ1.out
    refine ⟨?_, ?_, ?_, ?_, ?_⟩
    · rw [e3, e2]; exact fresh_kept (F5.out.mono (Nat.zero_le _)) hW
    · rw [e3]; intro g hg; exact .inl (World.ownsRow.lt F5.out g hg)
    · rw [e4, e2, HHS.out]; exact (L5.out.kept hW (Nat.le_refl _)).mono (Nat.zero_le _)
    · rw [e4]; intro g hg; exact .inr hg
    · rw [e2]; exact HXL.out
  clear hb3 hx3 hr4 hf4 hg4 hb4 hy4 hx4 hg5 hx5 hb24 hb25 hf5 hl5
  go_wp2_with (first
    | (at_builtin; refine wpList_append_run rfl (.tmp 28) (.tmp 29) 25 25 rfl ⟨_, _, R4.out, ?_⟩)
    | fail)
  generalize hWW : World.setCell _ _ _ = W0
  obtain rfl : W5 = W0 := HW5.out.symm.trans hWW
  clear hWW hfr4 c41
  go_wp2
  go_loopw [9, 11, 12] (fun v9 v11 v12 wr => ∃ (k : Nat) (ls : List FileV) (dn : Bool), k ≤ n2 ∧ v12 = .int .i64 (k : Int) ∧ v11 = .bool dn ∧ ls.length ≤ k + 1 ∧ (dn = false → ls.length ≤ k) ∧ (∀ a ∈ ls, a = q ∨ a ∈ f2) ∧ Hid (ls ++ (if dn = true then f2.drop k else fins (f2.drop k) q) = fins f2 q) ∧ Hid (LRow W5.heap.size wr v9 ls) ∧ Hid (Below W5.heap.size W5 wr)) (fun _ _ v12 _ => n2 - (intOf v12).toNat)
  case atStart => exact ⟨0, [], false, by omega, rfl, rfl, Nat.zero_le _, (fun _ => Nat.zero_le _), (fun a ha => by cases ha), rfl, LRow.nil _ _, Below.refl _ _⟩
  case round =>
    obtain ⟨k, ls, dn, hk, rfl, rfl, hll, hl0, hls, H1, HL, HB⟩ := hrel
    have HR := G5.out.on HB.out
    have c0 := HR.cell
    have HHR := hid HR
    have hxr := X5.out.on HB.out
    have HXR := hid hxr
    clear HR hxr
    have hq1 := file_one (HEX.out wr HB.out)
    obtain ⟨vq, wq, hrq, hlq, hbq⟩ := lrow_more W5.heap.size wr u9 ls HL.out q hq1.1 hq1.2 (by omega) HB.out.size
    have RQ := hid hrq
    have LQ := hid hlq
    have BQ := hid hbq
    have HQL := hid HXR.out.fileAt.load
    clear hrq hlq hbq
    by_cases hlt : k < n2
    · have hlt2 : (k : Int) < (n2 : Int) := by omega
      have w1' : IntKind.i64.wrap ((k : Int) + 1) = (k : Int) + 1 := i64in _ (by omega) (by omega)
      have hkl : k < f2.length := by rw [HN2.out]; exact hlt
      obtain ⟨a, HA⟩ : ∃ a, Hid (f2.getD k file0 = a) := ⟨_, rfl⟩
      have ham : a ∈ f2 := by rw [← HA.out, List.getD, List.getElem?_eq_getElem hkl]; exact List.getElem_mem _
      obtain ⟨g, c9, hv9, hat⟩ := HHR.out.row.at_ k hkl
      rw [HN2.out] at hv9
      injection hv9 with hA9 hn9 hc9
      subst hA9 hc9
      clear hn9
      rw [HA.out] at hat
      have HAT := hid hat
      have d0 := hat.c0
      have HLD := hid hat.load
      have HDR : Hid (f2.drop k = a :: f2.drop (k + 1)) := by show _ = _; rw [← HA.out]; exact fdrop_at f2 k hkl
      have h1 := H1.out
      rw [HDR.out, fins] at h1
      have ha1 := file_one (HHR.out.ok a ham)
      have hlss := less_str t a.name
      obtain ⟨nme, HNM⟩ : ∃ nme, Hid (a.name = nme) := ⟨_, rfl⟩
      rw [HNM.out] at d0 hlss
      rw [HQ1.out.1, HNM.out] at h1
      clear hat
      cases dn with
      | true =>
        obtain ⟨v9, w9, hr9, hl9, hb9⟩ := lrow_more W5.heap.size wr u9 ls HL.out a ha1.1 ha1.2 (by omega) HB.out.size
        have R9 := hid hr9
        have L9 := hid hl9
        have B9 : Hid (Below W5.heap.size W5 w9) := HB.out.trans hb9
        have H3 : Hid ((ls ++ [a]) ++ (if true = true then f2.drop (k + 1) else fins (f2.drop (k + 1)) q) = fins f2 q) := by show _ = _; rw [List.append_assoc]; exact h1
        have HLS : Hid (∀ x ∈ ls ++ [a], x = q ∨ x ∈ f2) := fun x hx => by
          rcases List.mem_append.1 hx with hx | hx
          · exact hls x hx
          · simp only [List.mem_singleton] at hx; rw [hx]; exact .inr ham
        have HLL : Hid ((ls ++ [a]).length ≤ k + 1 + 1) := by show _ ≤ _; rw [List.length_append, List.length_singleton]; omega
        clear h1 hls hll hl0 ham hr9 hl9 hb9 ha1 hq1 hlss
        go_wp2_with (first
          | (at_builtin; refine wpList_append_run rfl (.tmp 59) (.tmp 67) 43 43 rfl ⟨_, _, R9.out, ?_⟩)
          | (refine wpList_load_g (by rfl) 87 (.tmp 65) rfl g (k * 3) rfl (fileCells a) HLD.out ?_)
          | (refine wpList_build_file (by rfl) (.tmp 66) rfl a rfl ?_))
        go_roundw
        case rel => exact ⟨k + 1, ls ++ [a], true, by omega, by go_num, rfl, HLL.out, (fun h => by cases h), HLS.out, H3.out, L9.out, B9.out⟩
        case measure => simp [intOf]; omega
      | false =>
        by_cases hle : cb t nme < 0
        · rw [if_pos hle] at h1
          rw [decide_eq_true hle] at hlss
          have BWQ : Hid (Below W5.heap.size W5 wq) := HB.out.trans BQ.out
          have HHQ := hid (G5.out.on BWQ.out)
          have c0q := HHQ.out.cell
          obtain ⟨g8, c8, hv8, hat8⟩ := HHQ.out.row.at_ k hkl
          rw [HN2.out] at hv8
          injection hv8 with hA8 hn8 hc8
          injection hA8 with hA8
          injection hA8 with hA8 _ _
          subst hA8
          rw [HA.out] at hat8
          have HLDQ := hid hat8.load
          clear hn8 hc8 hat8
          obtain ⟨v9, w9, hr9, hl9, hb9⟩ := lrow_more W5.heap.size wq vq (ls ++ [q]) LQ.out a ha1.1 ha1.2 (by rw [List.length_append, List.length_singleton]; omega) BWQ.out.size
          have R9 := hid hr9
          have L9 := hid hl9
          have B9 : Hid (Below W5.heap.size W5 w9) := BWQ.out.trans hb9
          have H3 : Hid (((ls ++ [q]) ++ [a]) ++ (if true = true then f2.drop (k + 1) else fins (f2.drop (k + 1)) q) = fins f2 q) := by show _ = _; rw [List.append_assoc, List.append_assoc]; exact h1
          have HLS : Hid (∀ x ∈ (ls ++ [q]) ++ [a], x = q ∨ x ∈ f2) := fun x hx => by
            rcases List.mem_append.1 hx with hx | hx
            · rcases List.mem_append.1 hx with hx | hx
              · exact hls x hx
              · simp only [List.mem_singleton] at hx; exact .inl hx
            · simp only [List.mem_singleton] at hx; rw [hx]; exact .inr ham
          have HLL : Hid (((ls ++ [q]) ++ [a]).length ≤ k + 1 + 1) := by show _ ≤ _; have := hl0 rfl; rw [List.length_append, List.length_append, List.length_singleton, List.length_singleton]; omega
          clear h1 hls hll hl0 ham hr9 hl9 hb9 ha1 hq1
          go_wp2_with (first
            | (at_builtin; refine wpList_append_run rfl (.tmp 55) (.tmp 57) 43 43 rfl ⟨_, _, RQ.out, ?_⟩)
            | (at_builtin; refine wpList_append_run rfl (.tmp 59) (.tmp 67) 43 43 rfl ⟨_, _, R9.out, ?_⟩)
            | (refine wpList_load_g (by rfl) 87 (.tmp 10) rfl w2.heap.size 0 rfl (fileCells q) HQL.out ?_)
            | (refine wpList_build_file (by rfl) (.tmp 56) rfl q rfl ?_)
            | (refine wpList_load_g (by rfl) 87 (.tmp 65) rfl g (k * 3) rfl (fileCells a) HLDQ.out ?_)
            | (refine wpList_build_file (by rfl) (.tmp 66) rfl a rfl ?_))
          go_roundw
          case rel => exact ⟨k + 1, (ls ++ [q]) ++ [a], true, by omega, by go_num, rfl, HLL.out, (fun h => by cases h), HLS.out, H3.out, L9.out, B9.out⟩
          case measure => simp [intOf]; omega
        · rw [if_neg hle] at h1
          rw [decide_eq_false hle] at hlss
          obtain ⟨v9, w9, hr9, hl9, hb9⟩ := lrow_more W5.heap.size wr u9 ls HL.out a ha1.1 ha1.2 (by omega) HB.out.size
          have R9 := hid hr9
          have L9 := hid hl9
          have B9 : Hid (Below W5.heap.size W5 w9) := HB.out.trans hb9
          have H3 : Hid ((ls ++ [a]) ++ (if false = true then f2.drop (k + 1) else fins (f2.drop (k + 1)) q) = fins f2 q) := by show _ = _; rw [List.append_assoc]; exact h1
          have HLS : Hid (∀ x ∈ ls ++ [a], x = q ∨ x ∈ f2) := fun x hx => by
            rcases List.mem_append.1 hx with hx | hx
            · exact hls x hx
            · simp only [List.mem_singleton] at hx; rw [hx]; exact .inr ham
          have HLL : Hid ((ls ++ [a]).length ≤ k + 1) := by show _ ≤ _; have := hl0 rfl; rw [List.length_append, List.length_singleton]; omega
          clear h1 hls hll hl0 ham hr9 hl9 hb9 ha1 hq1
          go_wp2_with (first
            | (at_builtin; refine wpList_append_run rfl (.tmp 59) (.tmp 67) 43 43 rfl ⟨_, _, R9.out, ?_⟩)
            | (refine wpList_load_g (by rfl) 87 (.tmp 65) rfl g (k * 3) rfl (fileCells a) HLD.out ?_)
            | (refine wpList_build_file (by rfl) (.tmp 66) rfl a rfl ?_))
          go_roundw
          case rel => exact ⟨k + 1, ls ++ [a], false, by omega, by go_num, rfl, Nat.le_succ_of_le HLL.out, (fun _ => HLL.out), HLS.out, H3.out, L9.out, B9.out⟩
          case measure => simp [intOf]; omega
    · obtain rfl : k = n2 := by omega
      have h1 := H1.out
      rw [List.drop_of_length_le (by rw [HN2.out]; exact Nat.le_refl _)] at h1
      have HFIN : Hid (∀ W v3 fs3, fs3 = fins f2 q → (∀ x ∈ fs3, x = q ∨ x ∈ f2) → LRow W5.heap.size W v3 fs3 → Below W5.heap.size W5 W → RGP own w p (fins (fdrop fs t) q) (W.setCell ⟨p, 0, none⟩ v3)) := fun W v3 fs3 he hm hr hB => by
        subst he
        have hB2 : Below w2.heap.size w2 W := B25.out.trans (hB.mono B25.out.size)
        have hr2 : LRow w2.heap.size W v3 (fins f2 q) := ⟨hr.1, by
          rcases hr.2 with k9 | ⟨g, c9, cur, k1, k2, k3⟩
          · exact .inl k9
          · exact .inr ⟨g, c9, cur, k1, Nat.le_trans B25.out.size k2, k3⟩⟩
        have hplow := G2.out.low p G2.out.op
        obtain ⟨k1, k2⟩ := G2.out.store2 (ex := fun g => (w2.heap.size ≤ g ∧ g < W5.heap.size) ∨ (Value.slice A1 c c1).ownBlock = some g) hB2 hr2 (fun g hg => by
          rcases hg with hg | hg
          · exact ⟨Nat.lt_of_lt_of_le hg.2 hB.size, by omega⟩
          · have h9 := LV.out g hg
            exact ⟨Nat.lt_of_lt_of_le h9.2.1 hB2.size, fun e => h9.2.2 (e ▸ G2.out.op)⟩) (fun x hx => by
          rcases hm x hx with rfl | h9
          · exact .inr (HEX.out W hB)
          · exact .inl h9)
        rw [HF2.out]
        refine ⟨_, k1, T2.out.trans k2 (fun g ho => N2.out g ho), fun g ho => .inl (S2.out g ho), ?_⟩
        rintro g (ho | ⟨ho, _⟩ | ⟨ho, _⟩ | ho)
        · exact N2.out g ho
        · exact .inr (Nat.le_trans T2.out.size ho)
        · exact .inr (Nat.le_trans T2.out.size ho)
        · exact .inr (LV.out g ho).1
      obtain ⟨A7, c7, hv7⟩ := HL.out.form
      generalize ls.length = l7 at hv7
      subst hv7
      have hfr : wr.frozen? ⟨p, 0, none⟩ = false := HHR.out.has.free 0
      cases dn with
      | true =>
        have h2 : ls = fins f2 q := by rw [← h1]; simp
        have HP := hid (HFIN.out wr _ ls h2 hls HL.out HB.out)
        clear h1 h2 hls hll hl0 hq1
        go_wp2
        go_ret
        exact ⟨rfl, q, HQ1.out.1, HQ1.out.2.1, HP.out⟩
      | false =>
        have h2 : ls ++ [q] = fins f2 q := by rw [← h1]; simp [fins]
        have HLS : Hid (∀ x ∈ ls ++ [q], x = q ∨ x ∈ f2) := fun x hx => by
          rcases List.mem_append.1 hx with hx | hx
          · exact hls x hx
          · simp only [List.mem_singleton] at hx; exact .inl hx
        have BWQ : Hid (Below W5.heap.size W5 wq) := HB.out.trans BQ.out
        have HHQ := hid (G5.out.on BWQ.out)
        have c0q := HHQ.out.cell
        have hfrq : wq.frozen? ⟨p, 0, none⟩ = false := HHQ.out.has.free 0
        have HP := hid (HFIN.out wq vq (ls ++ [q]) h2 HLS.out LQ.out BWQ.out)
        obtain ⟨A8, c8, hv8⟩ := LQ.out.form
        generalize (ls ++ [q]).length = l8 at hv8
        subst hv8
        clear h1 h2 hls hll hl0 hq1
        go_wp2_with (first
          | (at_builtin; refine wpList_append_run rfl (.tmp 71) (.tmp 73) 43 43 rfl ⟨_, _, RQ.out, ?_⟩)
          | (refine wpList_load_g (by rfl) 87 (.tmp 10) rfl w2.heap.size 0 rfl (fileCells q) HQL.out ?_)
          | (refine wpList_build_file (by rfl) (.tmp 72) rfl q rfl ?_))
        go_ret
        exact ⟨rfl, q, HQ1.out.1, HQ1.out.2.1, HP.out⟩
end Go.Proofs.YtlcdkponegmcdaaDoor
/- The document's finder: Find. Conditions: a finder; a digest of 32 bytes. -/
namespace Go.Proofs.YtlcdkponegmcdaaDoor
open Go.RowKit
theorem results_tmp4 {fn : Func} {t u v x : Tmp} (h : fn.results = #[.tmp t, .tmp u, .tmp v, .tmp x]) (tmps : Array Value) (P : Program) (w : World) :
    (results fn tmps).run P w = .ok (.tuple #[tmps.getD t undef, tmps.getD u undef, tmps.getD v undef, tmps.getD x undef]) w := by
  simp [results, h]
/-- What the document's finder answers of a digest. -/
def FoundIs (fs : List FileV) (d ys nme : By) (k : Nat) (b : Bool) : Prop :=
  (b = false ∧ ys = [] ∧ nme = [] ∧ k = 0 ∧ ∀ a ∈ fs, ∀ j, j < (hashes a.data).length → (hashes a.data).getD j [] ≠ d) ∨
  (b = true ∧ ∃ i, i < fs.length ∧ (∀ a ∈ fs.take i, ∀ j, j < (hashes a.data).length → (hashes a.data).getD j [] ≠ d) ∧ IsFirst (hashes (fs.getD i file0).data) d k ∧ nme = (fs.getD i file0).name ∧ ys = partI (fs.getD i file0).data (k : Int))
/-- What the loads of Find need. -/
structure S7 (p g n cp : Nat) (o : Nat) (a : FileV) (hs : List By) (bx : Nat) (d : By) (W : World) : Prop where
  cp : W.cell? ⟨p, 0, none⟩ = some (.slice (some ⟨g, 0, none⟩) n cp)
  f : FileAt W g o a
  l : Dgs 0 W a.vl hs
  box : Has W bx 27 (hvec d)
theorem S7.on {p g n cp o bx : Nat} {a : FileV} {hs : List By} {d : By} {W W' : World} (h : S7 p g n cp o a hs bx d W) (hb : Below W.heap.size W W') : S7 p g n cp o a hs bx d W' :=
  ⟨(hb.cell (block_lt_of_cell h.cp)).trans h.cp, ⟨(hb.cell (block_lt_of_cell h.f.c0)).trans h.f.c0, (hb.cell (block_lt_of_cell h.f.c1)).trans h.f.c1, (hb.cell (block_lt_of_cell h.f.c2)).trans h.f.c2⟩, h.l.kept hb (Nat.le_refl _), h.box.on hb⟩
set_option maxRecDepth 100000 in
set_option maxHeartbeats 16000000 in
theorem rfind_any {own : Nat → Prop} {w : World} {p : Nat} {fs : List FileV} (h : RG own w p fs) (hp : 0 < w.heap.size) (d : By) (hd : d.length = 32) (hn8 : fs.length ≤ 1000) :
    Calls Tryd.prog 30 #[.pointer (some ⟨p, 0, none⟩), .agg (hvec d)] w fun e w' => ∃ (u : Value) (ys nme : By) (k : Nat) (b : Bool), e = .returned (.tuple #[u, .string (ba nme), .int .i64 (k : Int), .bool b]) ∧ Fresh w.heap.size w' u ys ∧ Below w.heap.size w w' ∧ FoundIs fs d ys nme k b := by
  obtain ⟨v, h⟩ := h
  obtain ⟨A, cp, hv⟩ := h.row.form
  obtain ⟨n, HN⟩ : ∃ n, Hid (fs.length = n) := ⟨_, rfl⟩
  rw [HN.out] at hv hn8
  subst hv
  have hb1 : Below w.heap.size w (w.alloc (.cells (hvec d) 27)) := (Below.refl _ _).alloc (Nat.le_refl _) _
  have HX1 : Hid (Has (w.alloc (.cells (hvec d) 27)) w.heap.size 27 (hvec d)) := Has.fresh w 27 _
  have HI := hid (h.on hb1)
  have HB1 := hid hb1
  have HPOS := hid hp
  have HDL := hid hd
  obtain ⟨w1, HW1⟩ : ∃ w1, Hid (w.alloc (.cells (hvec d) 27) = w1) := ⟨_, rfl⟩
  have HW1S : Hid (w.heap.size < w1.heap.size) := by show _ < _; rw [← HW1.out]; simp
  rw [HW1.out] at HI HB1 HX1
  clear h hb1 hp hd
  go_enter Tryd.func30, Tryd.ntmps30
  go_wp2
  rw [HW1.out]
  go_loopw [8, 9] (fun v8 _ wr => ∃ i : Nat, i ≤ n ∧ v8 = .int .i64 (i : Int) ∧ Hid (∀ a ∈ fs.take i, ∀ j, j < (hashes a.data).length → (hashes a.data).getD j [] ≠ d) ∧ Hid (Below w1.heap.size w1 wr)) (fun v8 _ _ => n - (intOf v8).toNat)
  case atStart => exact ⟨0, by omega, rfl, (fun a ha => by simp at ha), Below.refl _ _⟩
  case round =>
    obtain ⟨wo, hwo⟩ : ∃ wo, wo = wr := ⟨_, rfl⟩
    subst hwo
    obtain ⟨i, hi, rfl, HNO, HB⟩ := hrel
    have HR := HI.out.on HB.out
    have c0 := HR.cell
    have HHR := hid HR
    clear HR
    by_cases hlt : i < n
    · have hlt2 : (i : Int) < (n : Int) := by omega
      have w1' : IntKind.i64.wrap ((i : Int) + 1) = (i : Int) + 1 := i64in _ (by omega) (by omega)
      have hil : i < fs.length := by rw [HN.out]; exact hlt
      obtain ⟨a, HA⟩ : ∃ a, Hid (fs.getD i file0 = a) := ⟨_, rfl⟩
      have ham : a ∈ fs := by rw [← HA.out, List.getD, List.getElem?_eq_getElem hil]; exact List.getElem_mem _
      obtain ⟨g, c9, hv9, hat⟩ := HHR.out.row.at_ i hil
      rw [HN.out] at hv9
      injection hv9 with hA9 hn9 hc9
      subst hA9 hc9
      clear hn9
      rw [HA.out] at hat
      have hok := HHR.out.ok a ham
      obtain ⟨hs, HHS⟩ : ∃ hs, Hid (hashes a.data = hs) := ⟨_, rfl⟩
      have hl := hok.l
      rw [HHS.out] at hl
      obtain ⟨c, HC⟩ : ∃ c, Hid (hs.length = c) := ⟨_, rfl⟩
      obtain ⟨Al, cl, hvl⟩ := hl.form
      rw [HC.out] at hvl
      have HVL := hid hvl
      have hc32 : c ≤ 32 := by rw [← HC.out, ← HHS.out, hashes_len]; exact cntL_le _ hok.len
      have HS0 : Hid (S7 p g n cp (i * 3) a hs w.heap.size d wo) := ⟨c0, hat, hl, HX1.out.kept HB.out HW1S.out⟩
      have d2 : wo.cell? ⟨g, i * 3 + 2, none⟩ = some (.slice Al c cl) := by rw [← HVL.out]; exact hat.c2
      have HOK := hid hok
      have HTK : Hid (fs.take (i + 1) = fs.take i ++ [a]) := by
        show _ = _
        rw [List.take_succ_eq_append_getElem hil, ← HA.out, List.getD, List.getElem?_eq_getElem hil]; rfl
      clear hat hok hl hvl ham
      go_wp2
      go_loopw [9] (fun v9 wr => ∃ k : Nat, k ≤ c ∧ v9 = .int .i64 (k : Int) ∧ Hid (∀ j, j < k → hs.getD j [] ≠ d) ∧ Hid (Below wo.heap.size wo wr)) (fun v9 _ => c - (intOf v9).toNat)
      case atStart => exact ⟨0, by omega, rfl, (fun j hj => absurd hj (by omega)), Below.refl _ _⟩
      case round =>
        obtain ⟨wk, hwk⟩ : ∃ wk, wk = wr := ⟨_, rfl⟩
        subst hwk
        obtain ⟨k, hk, rfl, HNK, HBK⟩ := hrel
        have hSk := HS0.out.on HBK.out
        have e0 := hSk.cp
        have e2 : wk.cell? ⟨g, i * 3 + 2, none⟩ = some (.slice Al c cl) := by rw [← HVL.out]; exact hSk.f.c2
        by_cases hkc : k < c
        · have hkc2 : (k : Int) < (c : Int) := by omega
          have w2' : IntKind.i64.wrap ((k : Int) + 1) = (k : Int) + 1 := i64in _ (by omega) (by omega)
          have HKI : k < hs.length := by rw [HC.out]; exact hkc
          obtain ⟨e, HE⟩ : ∃ e, Hid (hs[k] = e) := ⟨_, hid rfl⟩
          have HGE : Hid (hs.getD k [] = e) := by show _ = _; rw [List.getD, List.getElem?_eq_getElem HKI, ← HE.out]; rfl
          have HEL : Hid (e.length = 32) := by show _ = _; rw [← HE.out]; exact hSk.l.len _ (List.getElem_mem _)
          have hgl : ∃ gl, Al = some ⟨gl, 0, none⟩ := by
            obtain ⟨g4, c4, hv4, _⟩ := hSk.l.at_ k HKI
            rw [HVL.out] at hv4
            injection hv4 with hv4
            exact ⟨g4, hv4⟩
          obtain ⟨gl, rfl⟩ := hgl
          have HLD : Hid (∀ W, S7 p g n cp (i * 3) a hs w.heap.size d W → (loadVar 27 ⟨gl, k * 32, none⟩).run Tryd.prog W = .ok (.agg (hvec e)) W) := fun W hW => by
            have h9 := hW.l
            rw [HVL.out] at h9
            exact h9.ld k HKI e HE.out
          have HSD : Hid (S7 p g n cp (i * 3) a hs w.heap.size d wk.drew) := hSk.on (Below.refl _ _).drew
          have HBD : Hid (Below wo.heap.size wo wk.drew) := HBK.out.drew
          obtain ⟨b, HBB⟩ : ∃ b, Hid (same8 e d = b) := ⟨_, rfl⟩
          clear hSk
          go_wp2
          refine wp_region_noPanic ?_
          refine wp_region_held_drew (S := S7 p g n cp (i * 3) a hs w.heap.size d) (by kernel_rfl) (HSD.out) (fun hS => ?_)
          refine wpAnyH_take (i := 0) (v := ?_) (by simp only [List.getElem?_toArray, List.getElem?_cons_zero]; rfl) (by kernel_rfl) (by kernel_rfl) (by kernel_rfl) (fun _ _ _ h => h) (Or.inl ⟨by rfl, ?_⟩) (by assumption) ?_
          rotate_left 1
          · intro w hSw
            have k0 := hSw.cp
            have k2 := hSw.f.c2
            rw [HVL.out] at k2
            go_simp
            try with_reducible rfl
          simp only [Act.put, List.setIfInBounds_toArray, List.set_cons_zero, List.set_cons_succ]
          refine wpAnyH_take (i := 1) (v := ?_) (by simp only [List.getElem?_toArray, List.getElem?_cons_zero, List.getElem?_cons_succ]; rfl) (by kernel_rfl) (by kernel_rfl) (by kernel_rfl) (fun _ _ _ h => h) (Or.inl ⟨by rfl, ?_⟩) (by assumption) ?_
          rotate_left 1
          · intro w hSw
            have k0 := hSw.cp
            have k2 := hSw.f.c2
            rw [HVL.out] at k2
            go_simp
            try with_reducible rfl
          simp only [Act.put, List.setIfInBounds_toArray, List.set_cons_zero, List.set_cons_succ]
          refine wpAnyH_take (i := 2) (v := ?_) (by simp only [List.getElem?_toArray, List.getElem?_cons_zero, List.getElem?_cons_succ]; rfl) (by kernel_rfl) (by kernel_rfl) (by kernel_rfl) (fun _ _ _ h => h) (Or.inl ⟨by rfl, ?_⟩) (by assumption) ?_
          rotate_left 1
          · intro w hSw
            have k0 := hSw.cp
            have k2 := hSw.f.c2
            rw [HVL.out] at k2
            go_simp
            try with_reducible rfl
          simp only [Act.put, List.setIfInBounds_toArray, List.set_cons_zero, List.set_cons_succ]
          refine wpAnyH_take (i := 3) (v := ?_) (by simp only [List.getElem?_toArray, List.getElem?_cons_zero, List.getElem?_cons_succ]; rfl) (by kernel_rfl) (by kernel_rfl) (by kernel_rfl) (fun _ _ _ h => h) (Or.inl ⟨by rfl, ?_⟩) (by assumption) ?_
          rotate_left 1
          · intro w hSw
            have k0 := hSw.cp
            have k2 := hSw.f.c2
            rw [HVL.out] at k2
            go_simp
            try with_reducible rfl
          simp only [Act.put, List.setIfInBounds_toArray, List.set_cons_zero, List.set_cons_succ]
          refine wpAnyH_take (i := 4) (v := ?_) (by simp only [List.getElem?_toArray, List.getElem?_cons_zero, List.getElem?_cons_succ]; rfl) (by kernel_rfl) (by kernel_rfl) (by kernel_rfl) (fun _ _ _ h => h) (Or.inl ⟨by rfl, ?_⟩) (by assumption) ?_
          rotate_left 1
          · intro w hSw
            have k0 := hSw.cp
            have k2 := hSw.f.c2
            rw [HVL.out] at k2
            go_simp
            try with_reducible rfl
          simp only [Act.put, List.setIfInBounds_toArray, List.set_cons_zero, List.set_cons_succ]
          refine wpAnyH_take (i := 5) (v := ?_) (by simp only [List.getElem?_toArray, List.getElem?_cons_zero, List.getElem?_cons_succ]; rfl) (by kernel_rfl) (by kernel_rfl) (by kernel_rfl) (fun _ _ _ h => h) (Or.inl ⟨by rfl, ?_⟩) (by assumption) ?_
          rotate_left 1
          · intro w hSw
            have k0 := hSw.cp
            have k2 := hSw.f.c2
            rw [HVL.out] at k2
            go_simp
            try with_reducible rfl
          simp only [Act.put, List.setIfInBounds_toArray, List.set_cons_zero, List.set_cons_succ]
          refine wpAnyH_take (i := 6) (v := ?_) (by simp only [List.getElem?_toArray, List.getElem?_cons_zero, List.getElem?_cons_succ]; rfl) (by kernel_rfl) (by kernel_rfl) (by kernel_rfl) (fun _ _ _ h => h) (Or.inl ⟨by rfl, ?_⟩) (by assumption) ?_
          rotate_left 1
          · intro w hSw
            have k0 := hSw.cp
            have k2 := hSw.f.c2
            rw [HVL.out] at k2
            go_simp
            try with_reducible rfl
          simp only [Act.put, List.setIfInBounds_toArray, List.set_cons_zero, List.set_cons_succ]
          refine wpAnyH_take (i := 7) (v := ?_) (by simp only [List.getElem?_toArray, List.getElem?_cons_zero, List.getElem?_cons_succ]; rfl) (by kernel_rfl) (by kernel_rfl) (by kernel_rfl) (fun _ _ _ h => h) (Or.inl ⟨by rfl, ?_⟩) (by assumption) ?_
          rotate_left 1
          · intro w hSw
            have k0 := hSw.cp
            have k2 := hSw.f.c2
            rw [HVL.out] at k2
            go_simp
            try with_reducible rfl
          simp only [Act.put, List.setIfInBounds_toArray, List.set_cons_zero, List.set_cons_succ]
          refine wpAnyH_take (i := 8) (v := ?_) (by simp only [List.getElem?_toArray, List.getElem?_cons_zero, List.getElem?_cons_succ]; rfl) (by kernel_rfl) (by kernel_rfl) (by kernel_rfl) (fun _ _ _ h => h) (Or.inl ⟨by rfl, ?_⟩) (by assumption) ?_
          rotate_left 1
          · intro w hSw
            have k0 := hSw.cp
            have k2 := hSw.f.c2
            rw [HVL.out] at k2
            go_simp
            try with_reducible rfl
          simp only [Act.put, List.setIfInBounds_toArray, List.set_cons_zero, List.set_cons_succ]
          refine wpAnyH_take (i := 9) (v := ?_) (by simp only [List.getElem?_toArray, List.getElem?_cons_zero, List.getElem?_cons_succ]; rfl) (by kernel_rfl) (by kernel_rfl) (by kernel_rfl) (fun _ _ _ h => h) (Or.inl ⟨by rfl, ?_⟩) (by assumption) ?_
          rotate_left 1
          · intro w hSw
            have k0 := hSw.cp
            have k2 := hSw.f.c2
            rw [HVL.out] at k2
            go_simp
            try with_reducible rfl
          simp only [Act.put, List.setIfInBounds_toArray, List.set_cons_zero, List.set_cons_succ]
          refine' wpAnyH_take (i := 10) (v := _) (by simp only [List.getElem?_toArray, List.getElem?_cons_zero, List.getElem?_cons_succ]; rfl) (by kernel_rfl) (by kernel_rfl) (by kernel_rfl) (fun _ _ _ h => h) (yields_load_h (by rfl) (.tmp 41) rfl gl (k * 32) rfl e (fun w hS => HLD.out w hS)) (by assumption) ?_
          simp only [Act.put, List.setIfInBounds_toArray, List.set_cons_zero, List.set_cons_succ]
          refine' wpAnyH_take (i := 11) (v := _) (by simp only [List.getElem?_toArray, List.getElem?_cons_zero, List.getElem?_cons_succ]; rfl) (by kernel_rfl) (by kernel_rfl) (by kernel_rfl) (fun _ _ _ h => h) (yields_load_h (by rfl) (.tmp 3) rfl w.heap.size 0 rfl d (fun w hS => load_h hS.box HDL.out)) (by assumption) ?_
          simp only [Act.put, List.setIfInBounds_toArray, List.set_cons_zero, List.set_cons_succ]
          refine' wpAnyH_take (i := 12) (v := _) (by simp only [List.getElem?_toArray, List.getElem?_cons_zero, List.getElem?_cons_succ]; rfl) (by kernel_rfl) (by kernel_rfl) (by kernel_rfl) (fun _ _ _ h => h) (yields_eql_h (by rfl) (.tmp 42) (.tmp 43) rfl e d rfl rfl HEL.out HDL.out b HBB.out) (by assumption) ?_
          simp only [Act.put, List.setIfInBounds_toArray, List.set_cons_zero, List.set_cons_succ]
          refine wpAnyH_done (by kernel_rfl) ?_ _
          refine NoPanic.normal ?_
          cases b with
          | false =>
            have HNK2 : Hid (∀ j, j < k + 1 → hs.getD j [] ≠ d) := fun j hj => by
              by_cases hjk : j < k
              · exact HNK.out j hjk
              · obtain rfl : j = k := by omega
                rw [HGE.out]
                intro he
                have := HBB.out
                rw [he, same8_refl] at this
                cases this
            go_wp2
            go_roundw
            case rel => exact ⟨k + 1, by omega, by go_num, HNK2.out, HBD.out⟩
            case measure => simp [intOf]; omega
          | true =>
            have HED : Hid (e = d) := (same8_iff e d).1 HBB.out
            have HFI : Hid (IsFirst hs d k) := ⟨HKI, by rw [HGE.out, HED.out], HNK.out⟩
            have HSE : Hid (S7 p g n cp (i * 3) a hs w.heap.size d wk.drew.drew) := HSD.out.on (Below.refl _ _).drew
            have hbe : Below wo.heap.size wo wk.drew.drew := HBD.out.drew
            have hpe : 0 < wk.drew.drew.heap.size := Nat.lt_of_lt_of_le HPOS.out (Nat.le_trans (Nat.le_trans (Nat.le_of_lt HW1S.out) HB.out.size) hbe.size)
            obtain ⟨Av, cv, bv, hyv, _, _⟩ := (fresh_kept HOK.out.d hbe).bytes hpe
            have hvv := hyv.form
            obtain ⟨nd, HND⟩ : ∃ nd, Hid (a.data.length = nd) := ⟨_, rfl⟩
            rw [HND.out] at hvv
            have HVV := hid hvv
            rw [hvv] at hyv
            have CP := hid (rpart_any _ a.data Av cv bv 0 (k : Int) wk.drew.drew hyv hpe (by have := HOK.out.len; omega))
            have HBW : Hid (Below w.heap.size w wk.drew.drew) := HB1.out.trans ((HB.out.trans (hbe.mono HB.out.size)).mono HB1.out.size)
            obtain ⟨nme, HNM⟩ : ∃ nme, Hid (a.name = nme) := ⟨_, rfl⟩
            clear hbe hpe hyv hvv
            go_wp2
            refine wp_region_noPanic ?_
            refine wp_region_held_drew (S := S7 p g n cp (i * 3) a hs w.heap.size d) (by kernel_rfl) (HSE.out) (fun hS => ?_)
            refine wpAnyH_take (i := 0) (v := ?_) (by simp only [List.getElem?_toArray, List.getElem?_cons_zero]; rfl) (by kernel_rfl) (by kernel_rfl) (by kernel_rfl) (fun _ _ _ h => h) (Or.inl ⟨by rfl, ?_⟩) (by assumption) ?_
            rotate_left 1
            · intro w hSw
              have k0 := hSw.cp
              have k1 := hSw.f.c1
              rw [HVV.out] at k1
              have k3 := hSw.f.c0
              rw [HNM.out] at k3
              go_simp
              try with_reducible rfl
            simp only [Act.put, List.setIfInBounds_toArray, List.set_cons_zero, List.set_cons_succ]
            refine wpAnyH_take (i := 1) (v := ?_) (by simp only [List.getElem?_toArray, List.getElem?_cons_zero, List.getElem?_cons_succ]; rfl) (by kernel_rfl) (by kernel_rfl) (by kernel_rfl) (fun _ _ _ h => h) (Or.inl ⟨by rfl, ?_⟩) (by assumption) ?_
            rotate_left 1
            · intro w hSw
              have k0 := hSw.cp
              have k1 := hSw.f.c1
              rw [HVV.out] at k1
              have k3 := hSw.f.c0
              rw [HNM.out] at k3
              go_simp
              try with_reducible rfl
            simp only [Act.put, List.setIfInBounds_toArray, List.set_cons_zero, List.set_cons_succ]
            refine wpAnyH_take (i := 2) (v := ?_) (by simp only [List.getElem?_toArray, List.getElem?_cons_zero, List.getElem?_cons_succ]; rfl) (by kernel_rfl) (by kernel_rfl) (by kernel_rfl) (fun _ _ _ h => h) (Or.inl ⟨by rfl, ?_⟩) (by assumption) ?_
            rotate_left 1
            · intro w hSw
              have k0 := hSw.cp
              have k1 := hSw.f.c1
              rw [HVV.out] at k1
              have k3 := hSw.f.c0
              rw [HNM.out] at k3
              go_simp
              try with_reducible rfl
            simp only [Act.put, List.setIfInBounds_toArray, List.set_cons_zero, List.set_cons_succ]
            refine wpAnyH_take (i := 3) (v := ?_) (by simp only [List.getElem?_toArray, List.getElem?_cons_zero, List.getElem?_cons_succ]; rfl) (by kernel_rfl) (by kernel_rfl) (by kernel_rfl) (fun _ _ _ h => h) (Or.inl ⟨by rfl, ?_⟩) (by assumption) ?_
            rotate_left 1
            · intro w hSw
              have k0 := hSw.cp
              have k1 := hSw.f.c1
              rw [HVV.out] at k1
              have k3 := hSw.f.c0
              rw [HNM.out] at k3
              go_simp
              try with_reducible rfl
            simp only [Act.put, List.setIfInBounds_toArray, List.set_cons_zero, List.set_cons_succ]
            refine wpAnyH_take (i := 4) (v := ?_) (by simp only [List.getElem?_toArray, List.getElem?_cons_zero, List.getElem?_cons_succ]; rfl) (by kernel_rfl) (by kernel_rfl) (by kernel_rfl) (fun _ _ _ h => h) (Or.inl ⟨by rfl, ?_⟩) (by assumption) ?_
            rotate_left 1
            · intro w hSw
              have k0 := hSw.cp
              have k1 := hSw.f.c1
              rw [HVV.out] at k1
              have k3 := hSw.f.c0
              rw [HNM.out] at k3
              go_simp
              try with_reducible rfl
            simp only [Act.put, List.setIfInBounds_toArray, List.set_cons_zero, List.set_cons_succ]
            refine wpAnyH_take (i := 5) (v := ?_) (by simp only [List.getElem?_toArray, List.getElem?_cons_zero, List.getElem?_cons_succ]; rfl) (by kernel_rfl) (by kernel_rfl) (by kernel_rfl) (fun _ _ _ h => h) (Or.inl ⟨by rfl, ?_⟩) (by assumption) ?_
            rotate_left 1
            · intro w hSw
              have k0 := hSw.cp
              have k1 := hSw.f.c1
              rw [HVV.out] at k1
              have k3 := hSw.f.c0
              rw [HNM.out] at k3
              go_simp
              try with_reducible rfl
            simp only [Act.put, List.setIfInBounds_toArray, List.set_cons_zero, List.set_cons_succ]
            refine wpAnyH_take (i := 6) (v := ?_) (by simp only [List.getElem?_toArray, List.getElem?_cons_zero, List.getElem?_cons_succ]; rfl) (by kernel_rfl) (by kernel_rfl) (by kernel_rfl) (fun _ _ _ h => h) (Or.inl ⟨by rfl, ?_⟩) (by assumption) ?_
            rotate_left 1
            · intro w hSw
              have k0 := hSw.cp
              have k1 := hSw.f.c1
              rw [HVV.out] at k1
              have k3 := hSw.f.c0
              rw [HNM.out] at k3
              go_simp
              try with_reducible rfl
            simp only [Act.put, List.setIfInBounds_toArray, List.set_cons_zero, List.set_cons_succ]
            refine wpAnyH_take (i := 7) (v := ?_) (by simp only [List.getElem?_toArray, List.getElem?_cons_zero, List.getElem?_cons_succ]; rfl) (by kernel_rfl) (by kernel_rfl) (by kernel_rfl) (fun _ _ _ h => h) (Or.inl ⟨by rfl, ?_⟩) (by assumption) ?_
            rotate_left 1
            · intro w hSw
              have k0 := hSw.cp
              have k1 := hSw.f.c1
              rw [HVV.out] at k1
              have k3 := hSw.f.c0
              rw [HNM.out] at k3
              go_simp
              try with_reducible rfl
            simp only [Act.put, List.setIfInBounds_toArray, List.set_cons_zero, List.set_cons_succ]
            refine wpAnyH_take (i := 8) (v := ?_) (by simp only [List.getElem?_toArray, List.getElem?_cons_zero, List.getElem?_cons_succ]; rfl) (by kernel_rfl) (by kernel_rfl) (by kernel_rfl) (fun _ _ _ h => h) (Or.inl ⟨by rfl, ?_⟩) (by assumption) ?_
            rotate_left 1
            · intro w hSw
              have k0 := hSw.cp
              have k1 := hSw.f.c1
              rw [HVV.out] at k1
              have k3 := hSw.f.c0
              rw [HNM.out] at k3
              go_simp
              try with_reducible rfl
            simp only [Act.put, List.setIfInBounds_toArray, List.set_cons_zero, List.set_cons_succ]
            refine wpAnyH_take (i := 10) (v := ?_) (by simp only [List.getElem?_toArray, List.getElem?_cons_zero, List.getElem?_cons_succ]; rfl) (by kernel_rfl) (by kernel_rfl) (by kernel_rfl) (fun _ _ _ h => h) (Or.inl ⟨by rfl, ?_⟩) (by assumption) ?_
            rotate_left 1
            · intro w hSw
              have k0 := hSw.cp
              have k1 := hSw.f.c1
              rw [HVV.out] at k1
              have k3 := hSw.f.c0
              rw [HNM.out] at k3
              go_simp
              try with_reducible rfl
            simp only [Act.put, List.setIfInBounds_toArray, List.set_cons_zero, List.set_cons_succ]
            refine wpAnyH_take (i := 11) (v := ?_) (by simp only [List.getElem?_toArray, List.getElem?_cons_zero, List.getElem?_cons_succ]; rfl) (by kernel_rfl) (by kernel_rfl) (by kernel_rfl) (fun _ _ _ h => h) (Or.inl ⟨by rfl, ?_⟩) (by assumption) ?_
            rotate_left 1
            · intro w hSw
              have k0 := hSw.cp
              have k1 := hSw.f.c1
              rw [HVV.out] at k1
              have k3 := hSw.f.c0
              rw [HNM.out] at k3
              go_simp
              try with_reducible rfl
            simp only [Act.put, List.setIfInBounds_toArray, List.set_cons_zero, List.set_cons_succ]
            refine wpAnyH_take (i := 12) (v := ?_) (by simp only [List.getElem?_toArray, List.getElem?_cons_zero, List.getElem?_cons_succ]; rfl) (by kernel_rfl) (by kernel_rfl) (by kernel_rfl) (fun _ _ _ h => h) (Or.inl ⟨by rfl, ?_⟩) (by assumption) ?_
            rotate_left 1
            · intro w hSw
              have k0 := hSw.cp
              have k1 := hSw.f.c1
              rw [HVV.out] at k1
              have k3 := hSw.f.c0
              rw [HNM.out] at k3
              go_simp
              try with_reducible rfl
            simp only [Act.put, List.setIfInBounds_toArray, List.set_cons_zero, List.set_cons_succ]
            refine wpAnyH_take (i := 13) (v := ?_) (by simp only [List.getElem?_toArray, List.getElem?_cons_zero, List.getElem?_cons_succ]; rfl) (by kernel_rfl) (by kernel_rfl) (by kernel_rfl) (fun _ _ _ h => h) (Or.inl ⟨by rfl, ?_⟩) (by assumption) ?_
            rotate_left 1
            · intro w hSw
              have k0 := hSw.cp
              have k1 := hSw.f.c1
              rw [HVV.out] at k1
              have k3 := hSw.f.c0
              rw [HNM.out] at k3
              go_simp
              try with_reducible rfl
            simp only [Act.put, List.setIfInBounds_toArray, List.set_cons_zero, List.set_cons_succ]
            refine wpAnyH_take (i := 14) (v := ?_) (by simp only [List.getElem?_toArray, List.getElem?_cons_zero, List.getElem?_cons_succ]; rfl) (by kernel_rfl) (by kernel_rfl) (by kernel_rfl) (fun _ _ _ h => h) (Or.inl ⟨by rfl, ?_⟩) (by assumption) ?_
            rotate_left 1
            · intro w hSw
              have k0 := hSw.cp
              have k1 := hSw.f.c1
              rw [HVV.out] at k1
              have k3 := hSw.f.c0
              rw [HNM.out] at k3
              go_simp
              try with_reducible rfl
            simp only [Act.put, List.setIfInBounds_toArray, List.set_cons_zero, List.set_cons_succ]
            refine wpAnyH_take (i := 15) (v := ?_) (by simp only [List.getElem?_toArray, List.getElem?_cons_zero, List.getElem?_cons_succ]; rfl) (by kernel_rfl) (by kernel_rfl) (by kernel_rfl) (fun _ _ _ h => h) (Or.inl ⟨by rfl, ?_⟩) (by assumption) ?_
            rotate_left 1
            · intro w hSw
              have k0 := hSw.cp
              have k1 := hSw.f.c1
              rw [HVV.out] at k1
              have k3 := hSw.f.c0
              rw [HNM.out] at k3
              go_simp
              try with_reducible rfl
            simp only [Act.put, List.setIfInBounds_toArray, List.set_cons_zero, List.set_cons_succ]
            refine wpAnyH_take (i := 16) (v := ?_) (by simp only [List.getElem?_toArray, List.getElem?_cons_zero, List.getElem?_cons_succ]; rfl) (by kernel_rfl) (by kernel_rfl) (by kernel_rfl) (fun _ _ _ h => h) (Or.inl ⟨by rfl, ?_⟩) (by assumption) ?_
            rotate_left 1
            · intro w hSw
              have k0 := hSw.cp
              have k1 := hSw.f.c1
              rw [HVV.out] at k1
              have k3 := hSw.f.c0
              rw [HNM.out] at k3
              go_simp
              try with_reducible rfl
            simp only [Act.put, List.setIfInBounds_toArray, List.set_cons_zero, List.set_cons_succ]
            refine wpAnyH_take (i := 17) (v := ?_) (by simp only [List.getElem?_toArray, List.getElem?_cons_zero, List.getElem?_cons_succ]; rfl) (by kernel_rfl) (by kernel_rfl) (by kernel_rfl) (fun _ _ _ h => h) (Or.inl ⟨by rfl, ?_⟩) (by assumption) ?_
            rotate_left 1
            · intro w hSw
              have k0 := hSw.cp
              have k1 := hSw.f.c1
              rw [HVV.out] at k1
              have k3 := hSw.f.c0
              rw [HNM.out] at k3
              go_simp
              try with_reducible rfl
            simp only [Act.put, List.setIfInBounds_toArray, List.set_cons_zero, List.set_cons_succ]
            refine wpAnyH_take (i := 18) (v := ?_) (by simp only [List.getElem?_toArray, List.getElem?_cons_zero, List.getElem?_cons_succ]; rfl) (by kernel_rfl) (by kernel_rfl) (by kernel_rfl) (fun _ _ _ h => h) (Or.inl ⟨by rfl, ?_⟩) (by assumption) ?_
            rotate_left 1
            · intro w hSw
              have k0 := hSw.cp
              have k1 := hSw.f.c1
              rw [HVV.out] at k1
              have k3 := hSw.f.c0
              rw [HNM.out] at k3
              go_simp
              try with_reducible rfl
            simp only [Act.put, List.setIfInBounds_toArray, List.set_cons_zero, List.set_cons_succ]
            refine wpAnyH_ready (rs := [9]) (by kernel_rfl) (by simp) ?_
            refine AllReadyH.cons (by simp only [List.getElem?_toArray, List.getElem?_cons_zero, List.getElem?_cons_succ]; rfl) (fun K hK => ?_) AllReadyH.nil
            go_simp
            refine (CP.out).mono ?_
            rintro e9 w9 ⟨u9, rfl, hf9, hb9⟩
            have hz1 := HSE.out.on hb9
            refine hK.out _ _ hz1 (fun hS => ?_)
            clear hK K hS
            refine wpAnyH_take (i := 19) (v := ?_) (by simp only [List.getElem?_toArray, List.getElem?_cons_zero, List.getElem?_cons_succ]; rfl) (by kernel_rfl) (by kernel_rfl) (by kernel_rfl) (fun _ _ _ h => h) (Or.inl ⟨by rfl, ?_⟩) (by assumption) ?_
            rotate_left 1
            · intro w hSw
              go_simp
              try with_reducible rfl
            simp only [Act.put, List.setIfInBounds_toArray, List.set_cons_zero, List.set_cons_succ]
            refine wpAnyH_take (i := 20) (v := ?_) (by simp only [List.getElem?_toArray, List.getElem?_cons_zero, List.getElem?_cons_succ]; rfl) (by kernel_rfl) (by kernel_rfl) (by kernel_rfl) (fun _ _ _ h => h) (Or.inl ⟨by rfl, ?_⟩) (by assumption) ?_
            rotate_left 1
            · intro w hSw
              go_simp
              try with_reducible rfl
            simp only [Act.put, List.setIfInBounds_toArray, List.set_cons_zero, List.set_cons_succ]
            refine wpAnyH_take (i := 21) (v := ?_) (by simp only [List.getElem?_toArray, List.getElem?_cons_zero, List.getElem?_cons_succ]; rfl) (by kernel_rfl) (by kernel_rfl) (by kernel_rfl) (fun _ _ _ h => h) (Or.inl ⟨by rfl, ?_⟩) (by assumption) ?_
            rotate_left 1
            · intro w hSw
              go_simp
              try with_reducible rfl
            simp only [Act.put, List.setIfInBounds_toArray, List.set_cons_zero, List.set_cons_succ]
            refine wpAnyH_take (i := 22) (v := ?_) (by simp only [List.getElem?_toArray, List.getElem?_cons_zero, List.getElem?_cons_succ]; rfl) (by kernel_rfl) (by kernel_rfl) (by kernel_rfl) (fun _ _ _ h => h) (Or.inl ⟨by rfl, ?_⟩) (by assumption) ?_
            rotate_left 1
            · intro w hSw
              go_simp
              try with_reducible rfl
            simp only [Act.put, List.setIfInBounds_toArray, List.set_cons_zero, List.set_cons_succ]
            refine wpAnyH_done (by kernel_rfl) ?_ _
            refine NoPanic.normal ?_
            have HRES : Hid (Fresh w.heap.size w9 u9 (partI a.data (k : Int)) ∧ Below w.heap.size w w9) := ⟨Fresh.mono hf9 HBW.out.size, HBW.out.trans (hb9.mono HBW.out.size)⟩
            have HFD : Hid (FoundIs fs d (partI a.data (k : Int)) nme k true) := .inr ⟨rfl, i, hil, HNO.out, by rw [HA.out, HHS.out]; exact HFI.out, by rw [HA.out, HNM.out], by rw [HA.out]⟩
            clear hz1 hf9 hb9
            go_wp2
            refine bodyPost_ret (results_tmp4 rfl _ _ _) rfl ⟨_, _, nme, k, true, rfl, HRES.out.1, HRES.out.2, HFD.out⟩
        · obtain rfl : k = c := by omega
          have HNO2 : Hid (∀ a ∈ fs.take (i + 1), ∀ j, j < (hashes a.data).length → (hashes a.data).getD j [] ≠ d) := fun x hx j hj => by
            rw [HTK.out] at hx
            rcases List.mem_append.1 hx with hx | hx
            · exact HNO.out x hx j hj
            · simp only [List.mem_singleton] at hx
              subst hx
              rw [HHS.out] at hj ⊢
              exact HNK.out j (by rw [HC.out] at hj; exact hj)
          have HBO : Hid (Below w1.heap.size w1 wk) := HB.out.trans (HBK.out.mono HB.out.size)
          clear hSk
          go_wp2
          go_roundw
          case rel => exact ⟨i + 1, by omega, by go_num, HNO2.out, HBO.out⟩
          case measure => simp [intOf]; omega
    · obtain rfl : i = n := by omega
      have HFD : Hid (FoundIs fs d [] [] 0 false) := .inl ⟨rfl, rfl, rfl, rfl, fun a ha => HNO.out a (by rw [List.take_of_length_le (by rw [HN.out]; exact Nat.le_refl _)]; exact ha)⟩
      go_wp2
      refine bodyPost_ret (results_tmp4 rfl _ _ _) rfl ⟨_, [], [], 0, false, rfl, fresh_nil _ _, HB1.out.trans (HB.out.mono HB1.out.size), HFD.out⟩
end Go.Proofs.YtlcdkponegmcdaaDoor
/- Both finders side by side: what each call does; what both answer of a digest. Conditions: the listed table. -/
namespace Go.Proofs.YtlcdkponegmcdaaDoor
open Go.RowKit
theorem forgetk_any {own : Nat → Prop} {w : World} {p : Nat} {F : By → Option By} {b : Nat} (h : FK own w p F b) (hT : Sha.Tab w) (h0 : ¬ own 0) (t : By) (ht : t.length ≤ maxLen) (hb : b ≤ 700000) :
    Calls Tryd.prog 23 #[.pointer (some ⟨p, 0, none⟩), .string (ba t)] w fun e w' => e = .returned (.bool (F t).isSome) ∧ FKP own w p (delF F t) (b + 40) w' := by
  obtain ⟨P, cf, N, keys, h1, h2, h3, h4, h5, h6, h7⟩ := h
  refine (forget_any h1 hT h0 t ht (by omega)).mono ?_
  rintro e w' ⟨rfl, own', k1, k2, k3, k4⟩
  refine ⟨rfl, own', ?_, k2, k3, k4⟩
  have hl : ∀ n xs, delF F t n = some xs → n.length ≤ maxLen ∧ xs.length ≤ 4096 := fun n xs hh => by
    unfold delF at hh
    by_cases en : n = t
    · rw [if_pos en] at hh; cases hh
    · rw [if_neg en] at hh; exact h7 n xs hh
  have hm : ∀ n, n ∈ keys.erase t ↔ (delF F t n).isSome = true := fun n => by
    rw [h4.mem_erase_iff, h6]
    unfold delF
    by_cases en : n = t
    · rw [if_pos en]; simp [en]
    · rw [if_neg en]; simp [en]
  refine ⟨_, _, _, keys.erase t, k1, rep_del h2 t, by omega, h4.erase t, ?_, hm, hl⟩
  unfold fgc
  cases hF : F t with
  | none =>
    have : t ∉ keys := fun hc => by have := (h6 t).1 hc; rw [hF] at this; cases this
    rw [List.erase_of_not_mem this]; exact h5
  | some ys =>
    have : t ∈ keys := (h6 t).2 (by rw [hF]; rfl)
    rw [List.length_erase_of_mem this, h5]
open Classical in
theorem addk_err {own : Nat → Prop} {w : World} {p : Nat} {F : By → Option By} {b : Nat} (h : FK own w p F b) (hT : Sha.Tab w) (h0 : ¬ own 0) (x : ActT) (hx : ActOk x) (v : Value) (A : Option Addr) (cap bb off : Nat) (hy : Bytes w v (dataL x) A cap bb off) (hbb : ¬ own bb) (hb : b ≤ 700000) :
    Calls Tryd.prog 26 #[.pointer (some ⟨p, 0, none⟩), .string x.name, v] w fun e w' => e = .returned (.int .i64 (errL (dataL x))) ∧ FKP own w p (stepF F x) (b + 80) w' := by
  obtain ⟨P, cf, N, keys, h1, h2, h3, h4, h5, h6, h7⟩ := h
  have e : x.name = ba (nm x) := (ba_tl x.name).symm
  rw [e]
  by_cases hg : good x = true
  · refine (add_any h1 hT h0 (nm x) (nm_len hx) v (dataL x) A cap bb off hy hbb (dataL_good hg) (by omega)).mono ?_
    rintro e w' ⟨rfl, own', k1, k2, k3, k4⟩
    refine ⟨by rw [errL, if_pos (dataL_good hg)], own', ?_, k2, k3, k4⟩
    have hs : stepF F x = putF F (nm x) (dataL x) := by unfold stepF; rw [if_pos hg]
    rw [hs]
    have hl : ∀ n xs, putF F (nm x) (dataL x) n = some xs → n.length ≤ maxLen ∧ xs.length ≤ 4096 := fun n xs hh => by
      unfold putF at hh
      by_cases en : n = nm x
      · rw [if_pos en] at hh; injection hh with hh; subst hh; rw [en]; exact ⟨nm_len hx, dataL_good hg⟩
      · rw [if_neg en] at hh; exact h7 n xs hh
    cases hF : F (nm x) with
    | none =>
      refine ⟨_, _, _, nm x :: keys, k1, rep_put h2 _ _, by omega, ?_, ?_, ?_, hl⟩
      · refine List.nodup_cons.2 ⟨fun hc => ?_, h4⟩
        have := (h6 _).1 hc
        rw [hF] at this; cases this
      · unfold fgc; rw [hF]; simp [h5]
      · intro n
        rw [List.mem_cons]
        unfold putF
        by_cases en : n = nm x
        · simp [en]
        · rw [if_neg en, h6]; simp [en]
    | some ys =>
      have hin : nm x ∈ keys := (h6 _).2 (by rw [hF]; rfl)
      refine ⟨_, _, _, keys, k1, rep_put h2 _ _, by omega, h4, ?_, ?_, hl⟩
      · unfold fgc; rw [hF]
        have := List.length_pos_of_mem hin
        simp only; omega
      · intro n
        unfold putF
        by_cases en : n = nm x
        · rw [if_pos en, en]; simp [hin]
        · rw [if_neg en, h6]
  · have hg2 : good x = false := by simpa using hg
    refine (add_long h1 (nm x) v (dataL x) A cap bb off hy (dataL_bad hg2)).mono ?_
    rintro e w' ⟨rfl, rfl⟩
    have hs : stepF F x = F := by unfold stepF; rw [if_neg hg]
    rw [hs]
    exact ⟨by rw [errL, if_neg (by have := dataL_bad hg2; omega)], own, ⟨P, cf, N, keys, h1, h2, by omega, h4, h5, h6, h7⟩, Turn.refl _ _, fun _ h => h, fun _ h => .inl h⟩
/-- What both answer of a digest. -/
theorem found_q {F : By → Option By} {P : By → List Pl} {fs : List FileV} (hR : Rep F P) (hF : FR F fs) {d ys nme : By} {k : Nat} {b : Bool} (h : FoundIs fs d ys nme k b) :
    (b = false ∧ P d = [] ∧ ys = [] ∧ nme = [] ∧ k = 0) ∨ (b = true ∧ ∃ ps xs, P d = (nme, k) :: ps ∧ F nme = some xs ∧ ys = partI xs (k : Int)) := by
  rcases h with ⟨h1, h2, h3, h4, h5⟩ | ⟨h1, i, hi, hno, hf, hn, hy⟩
  · refine .inl ⟨h1, ?_, h2, h3, h4⟩
    cases hP : P d with
    | nil => rfl
    | cons q ps =>
      obtain ⟨t, j⟩ := q
      obtain ⟨xs, k1, k2⟩ := (hR.mem d t j).1 (by rw [hP]; exact List.mem_cons_self ..)
      obtain ⟨a, ha, _, e2⟩ := (hF.mem t xs).1 k1
      rw [← e2] at k2
      exact absurd k2.2.1 (h5 a ha j k2.1)
  · refine .inr ⟨h1, ?_⟩
    have hg : fs.getD i file0 = fs[i] := by rw [List.getD, List.getElem?_eq_getElem hi]; rfl
    rw [hg] at hf hn hy
    have hFn : F nme = some fs[i].data := (hF.mem _ _).2 ⟨fs[i], List.getElem_mem _, hn.symm, rfl⟩
    have hm : (nme, k) ∈ P d := (hR.mem d nme k).2 ⟨_, hFn, hf⟩
    cases hP : P d with
    | nil => rw [hP] at hm; cases hm
    | cons q ps =>
      rw [hP] at hm
      rcases List.mem_cons.1 hm with e | hm2
      · rw [← e]; exact ⟨ps, fs[i].data, rfl, hFn, hy⟩
      · exfalso
        obtain ⟨t, j⟩ := q
        have hlt : cb t nme < 0 := by
          have := hR.srt d
          rw [hP] at this
          exact List.rel_of_pairwise_cons this hm2
        obtain ⟨xs, k1, k2⟩ := (hR.mem d t j).1 (by rw [hP]; exact List.mem_cons_self ..)
        obtain ⟨a, ha, e1, e2⟩ := (hF.mem t xs).1 k1
        rw [← e2] at k2
        obtain ⟨m, hm1, rfl⟩ := List.getElem_of_mem ha
        rcases Nat.lt_trichotomy m i with hmi | hmi | hmi
        · have : fs[m] ∈ fs.take i := by
            rw [List.mem_take_iff_getElem]
            exact ⟨m, by omega, rfl⟩
          exact hno _ this j k2.1 k2.2.1
        · subst hmi
          rw [← e1, ← hn, cb_self] at hlt; omega
        · have := (List.pairwise_iff_getElem.1 hF.srt) i m hi hm1 hmi
          rw [← hn, e1] at this
          rw [cb_swap] at hlt
          omega
theorem findk_any {own : Nat → Prop} {w : World} {p : Nat} {F : By → Option By} {b : Nat} (h : FK own w p F b) {fs : List FileV} (hF : FR F fs) {d ys nme : By} {k : Nat} {is : Bool} (hd : d.length = 32) (hi : FoundIs fs d ys nme k is) :
    Calls Tryd.prog 29 #[.pointer (some ⟨p, 0, none⟩), .agg (hvec d)] w fun e w' => FindPost w ys (nme, k) is e w' := by
  obtain ⟨P, cf, N, keys, h1, h2, h3, h4, h5, h6, h7⟩ := h
  rcases found_q h2 hF hi with ⟨rfl, k1, rfl, rfl, rfl⟩ | ⟨rfl, ps, xs, k1, k2, rfl⟩
  · exact find_none h1 d hd k1
  · exact find_some h1 d hd (nme, k) ps xs k1 k2 (h7 nme xs k2).1
theorem lenk_any {own : Nat → Prop} {w : World} {p : Nat} {F : By → Option By} {b : Nat} (h : FK own w p F b) {fs : List FileV} (hF : FR F fs) :
    Calls Tryd.prog 28 #[.pointer (some ⟨p, 0, none⟩)] w fun e w' => e = .returned (.int .i64 (fs.length : Int)) ∧ w = w' := by
  obtain ⟨P, cf, N, keys, h1, h2, h3, h4, h5, h6, h7⟩ := h
  rw [← fr_len hF keys h4 h6, h5]
  exact len_any h1
theorem found_le {fs : List FileV} {d ys nme : By} {k : Nat} {is : Bool} (hi : FoundIs fs d ys nme k is) : ys.length ≤ 128 := by
  rcases hi with ⟨_, rfl, _⟩ | ⟨_, _, _, _, _, _, rfl⟩
  · simp
  · exact partI_le _ _
/-- Two finders and a row of digests, apart from one another, and from the blocks of av. -/
structure QStI (av : Nat → Prop) (B : Nat) (w wr : World) (ownf owng : Nat → Prop) (pf pg : Nat) (F : By → Option By) (b : Nat) (fs : List FileV) (v : Value) (ds : List By) : Prop where
  f : FK ownf wr pf F b
  g : RG owng wr pg fs
  lf : ∀ k, ownf k → B ≤ k
  lg : ∀ k, owng k → B ≤ k
  ap : ∀ k, ownf k → ¬ owng k
  row : Dgs B wr v ds
  rf : ∀ k, v.ownBlock = some k → ¬ ownf k
  rg : ∀ k, v.ownBlock = some k → ¬ owng k
  avf : ∀ k, av k → ¬ ownf k
  avg : ∀ k, av k → ¬ owng k
  avr : ∀ k, av k → v.ownBlock ≠ some k
  avl : ∀ k, av k → B ≤ k ∧ k < wr.heap.size
  b : Below B w wr
  le : B ≤ wr.heap.size
def QSt (av : Nat → Prop) (B : Nat) (w wr : World) (pf pg : Nat) (F : By → Option By) (b : Nat) (fs : List FileV) (v : Value) (ds : List By) : Prop := ∃ ownf owng, QStI av B w wr ownf owng pf pg F b fs v ds
section
variable {av : Nat → Prop} {B : Nat} {w wr w' : World} {ownf owng : Nat → Prop} {pf pg : Nat} {F : By → Option By} {b : Nat} {fs : List FileV} {v : Value} {ds : List By}
theorem QStI.on (h : QStI av B w wr ownf owng pf pg F b fs v ds) (hb : Below wr.heap.size wr w') : QStI av B w w' ownf owng pf pg F b fs v ds :=
  { h with f := h.f.on hb, g := h.g.on hb, row := h.row.kept hb (Nat.le_refl _), avl := fun k hk => ⟨(h.avl k hk).1, Nat.lt_of_lt_of_le (h.avl k hk).2 hb.size⟩, b := h.b.trans (hb.mono h.le), le := Nat.le_trans h.le hb.size }
theorem QSt.on (h : QSt av B w wr pf pg F b fs v ds) (hb : Below wr.heap.size wr w') : QSt av B w w' pf pg F b fs v ds := by
  obtain ⟨o1, o2, h⟩ := h
  exact ⟨o1, o2, h.on hb⟩
theorem QSt.below (h : QSt av B w wr pf pg F b fs v ds) : Below B w wr ∧ B ≤ wr.heap.size := by
  obtain ⟨o1, o2, h⟩ := h
  exact ⟨h.b, h.le⟩
theorem QSt.row (h : QSt av B w wr pf pg F b fs v ds) : Dgs B wr v ds := by
  obtain ⟨o1, o2, h⟩ := h
  exact h.row
/-- New blocks are apart from all. -/
theorem QSt.avoid (h : QSt av B w wr pf pg F b fs v ds) (hb : Below wr.heap.size wr w') : QSt (fun k => wr.heap.size ≤ k ∧ k < w'.heap.size) B w w' pf pg F b fs v ds := by
  obtain ⟨o1, o2, h⟩ := h
  have h2 := h.on hb
  exact ⟨o1, o2, { h2 with avf := fun k hk hh => by have := h.f.low k hh; omega, avg := fun k hk hh => by have := h.g.low k hh; omega, avr := fun k hk e => by have := (World.ownsRow.lt h.row.own k e).2; omega, avl := fun k hk => ⟨Nat.le_trans h.le hk.1, hk.2⟩ }⟩
theorem QSt.less {av' : Nat → Prop} (h : QSt av B w wr pf pg F b fs v ds) (ha : ∀ k, av' k → av k) : QSt av' B w wr pf pg F b fs v ds := by
  obtain ⟨o1, o2, h⟩ := h
  exact ⟨o1, o2, { h with avf := fun k hk => h.avf k (ha k hk), avg := fun k hk => h.avg k (ha k hk), avr := fun k hk => h.avr k (ha k hk), avl := fun k hk => h.avl k (ha k hk) }⟩
/-- A block of av turned. -/
theorem QSt.mut (h : QSt av B w wr pf pg F b fs v ds) {g : Nat} (hg : Grw g wr w') (ha : av g) : QSt av B w w' pf pg F b fs v ds := by
  obtain ⟨o1, o2, h⟩ := h
  have hk : ∀ k, k < wr.heap.size → k ≠ g → w'.heap[k]? = wr.heap[k]? := fun k hl hne => hg.block k hl (fun e => hne (Option.some.inj e))
  refine ⟨o1, o2, { h with f := ?_, g := ?_, row := ?_, avl := fun k hk => ⟨(h.avl k hk).1, Nat.lt_of_lt_of_le (h.avl k hk).2 hg.size⟩, b := ?_, le := Nat.le_trans h.le hg.size }⟩
  · exact h.f.kept hg.size fun k ho => hk k (h.f.low k ho) (fun e => h.avf g ha (e ▸ ho))
  · exact h.g.kept hg.size fun k ho => hk k (h.g.low k ho) (fun e => h.avg g ha (e ▸ ho))
  · exact ⟨row_of h.row.own fun k ho => hk k (World.ownsRow.lt h.row.own k ho).2 (fun e => h.avr g ha (e ▸ ho)), h.row.len⟩
  · exact Grw.below h.b hg (h.avl g ha).1 h.le
theorem QStI.updf (h : QStI av B w wr ownf owng pf pg F b fs v ds) {F' : By → Option By} {b' : Nat} (hp : FKP ownf wr pf F' b' w') : QSt av B w w' pf pg F' b' fs v ds := by
  obtain ⟨own', k1, k2, k3, k4⟩ := hp
  refine ⟨own', owng, k1, h.g.kept k2.size (fun g ho => k2.block g (h.g.low g ho) (fun hf => h.ap g hf ho)), fun g hg => ?_, h.lg, fun g hg hh => ?_, ?_, fun g hg hh => ?_, h.rg, fun g hg hh => ?_, h.avg, h.avr, fun k hk => ⟨(h.avl k hk).1, Nat.lt_of_lt_of_le (h.avl k hk).2 k2.size⟩, ?_, Nat.le_trans h.le k2.size⟩
  · rcases k4 g hg with x | x
    · exact h.lf g x
    · exact Nat.le_trans h.le x
  · rcases k4 g hg with x | x
    · exact h.ap g x hh
    · have := h.g.low g hh; omega
  · exact ⟨row_of h.row.own fun g hg => k2.block g (World.ownsRow.lt h.row.own g hg).2 (h.rf g hg), h.row.len⟩
  · rcases k4 g hh with x | x
    · exact h.rf g hg x
    · have := (World.ownsRow.lt h.row.own g hg).2; omega
  · rcases k4 g hh with x | x
    · exact h.avf g hg x
    · have := (h.avl g hg).2; omega
  · exact h.b.trans (k2.below h.lf h.le)
theorem QStI.updg (h : QStI av B w wr ownf owng pf pg F b fs v ds) {fs' : List FileV} (hp : RGP owng wr pg fs' w') : QSt av B w w' pf pg F b fs' v ds := by
  obtain ⟨own', k1, k2, k3, k4⟩ := hp
  refine ⟨ownf, own', h.f.kept k2.size (fun g ho => k2.block g (h.f.low g ho) (fun hf => h.ap g ho hf)), k1, h.lf, fun g hg => ?_, fun g hg hh => ?_, ?_, h.rf, fun g hg hh => ?_, h.avf, fun g hg hh => ?_, h.avr, fun k hk => ⟨(h.avl k hk).1, Nat.lt_of_lt_of_le (h.avl k hk).2 k2.size⟩, ?_, Nat.le_trans h.le k2.size⟩
  · rcases k4 g hg with x | x
    · exact h.lg g x
    · exact Nat.le_trans h.le x
  · rcases k4 g hh with x | x
    · exact h.ap g hg x
    · have := h.f.low g hg; omega
  · exact ⟨row_of h.row.own fun g hg => k2.block g (World.ownsRow.lt h.row.own g hg).2 (h.rg g hg), h.row.len⟩
  · rcases k4 g hh with x | x
    · exact h.rg g hg x
    · have := (World.ownsRow.lt h.row.own g hg).2; omega
  · rcases k4 g hh with x | x
    · exact h.avg g hg x
    · have := (h.avl g hg).2; omega
  · exact h.b.trans (k2.below h.lg h.le)
end
section
variable {av : Nat → Prop} {w wr w' : World} {pf pg : Nat} {F : By → Option By} {b : Nat} {fs : List FileV} {v : Value} {ds : List By}
theorem QSt.forget_f (h : QSt av w.heap.size w wr pf pg F b fs v ds) (hT : Sha.Tab w) (t : By) (ht : t.length ≤ maxLen) (hb : b ≤ 700000) :
    Calls Tryd.prog 23 #[.pointer (some ⟨pf, 0, none⟩), .string (ba t)] wr fun e w' => e = .returned (.bool (F t).isSome) ∧ QSt av w.heap.size w w' pf pg (delF F t) (b + 40) fs v ds ∧ ∀ k, av k → w'.heap[k]? = wr.heap[k]? := by
  obtain ⟨o1, o2, h⟩ := h
  refine (forgetk_any h.f (hT.kept h.b hT.pos) (fun e => by have := h.lf 0 e; have := hT.pos; omega) t ht hb).mono ?_
  rintro e w' ⟨rfl, hp⟩
  have hfr : ∀ k, av k → w'.heap[k]? = wr.heap[k]? := fun k hk => by
    obtain ⟨own', _, k2, _⟩ := hp
    exact k2.block k (h.avl k hk).2 (h.avf k hk)
  exact ⟨rfl, h.updf hp, hfr⟩
theorem QSt.forget_g (h : QSt av w.heap.size w wr pf pg F b fs v ds) (t : By) (hn : fs.length ≤ 900) :
    Calls Tryd.prog 24 #[.pointer (some ⟨pg, 0, none⟩), .string (ba t)] wr fun e w' => e = .returned (.bool (fhas fs t)) ∧ QSt av w.heap.size w w' pf pg F b (fdrop fs t) v ds ∧ ∀ k, av k → w'.heap[k]? = wr.heap[k]? := by
  obtain ⟨o1, o2, h⟩ := h
  refine (rforget_any h.g t hn).mono ?_
  rintro e w' ⟨rfl, hp⟩
  have hfr : ∀ k, av k → w'.heap[k]? = wr.heap[k]? := fun k hk => by
    obtain ⟨own', _, k2, _⟩ := hp
    exact k2.block k (h.avl k hk).2 (h.avg k hk)
  exact ⟨rfl, h.updg hp, hfr⟩
/-- A file's bytes in blocks of av, or in none. -/
def DIn (av : Nat → Prop) (W : World) (vd : Value) (xs : By) : Prop := Fresh 0 W vd xs ∧ ∀ k, vd.ownBlock = some k → av k
theorem DIn.out {W : World} {vd : Value} {xs : By} (h : DIn av W vd xs) (hw : 0 < W.heap.size) {own : Nat → Prop} (hn : ∀ k, av k → ¬ own k) (h0 : ¬ own 0) : ∃ A cap bb, Bytes W vd xs A cap bb 0 ∧ ¬ own bb := by
  obtain ⟨A, cap, bb, hy, _, hb⟩ := h.1.bytes hw
  refine ⟨A, cap, bb, hy, fun ho => ?_⟩
  rcases hb with e | ⟨_, e⟩
  · exact hn bb (h.2 bb e) ho
  · rw [e] at ho; exact h0 ho
theorem QSt.add_f (h : QSt av w.heap.size w wr pf pg F b fs v ds) (hT : Sha.Tab w) (x : ActT) (hx : ActOk x) (vd : Value) (hd : DIn av wr vd (dataL x)) (hb : b ≤ 700000) :
    Calls Tryd.prog 26 #[.pointer (some ⟨pf, 0, none⟩), .string x.name, vd] wr fun e w' => e = .returned (.int .i64 (errL (dataL x))) ∧ QSt av w.heap.size w w' pf pg (stepF F x) (b + 80) fs v ds ∧ (∀ k, av k → w'.heap[k]? = wr.heap[k]?) ∧ DIn av w' vd (dataL x) := by
  obtain ⟨o1, o2, h⟩ := h
  have hp := hT.pos
  have h0 : ¬ o1 0 := fun e => by have := h.lf 0 e; omega
  obtain ⟨A, cap, bb, hy, hbb⟩ := hd.out (Nat.lt_of_lt_of_le hp h.le) h.avf h0
  refine (addk_err h.f (hT.kept h.b hp) h0 x hx vd A cap bb 0 hy hbb hb).mono ?_
  rintro e w' ⟨rfl, hp'⟩
  have hfr : ∀ k, av k → w'.heap[k]? = wr.heap[k]? := fun k hk => by
    obtain ⟨own', _, k2, _⟩ := hp'
    exact k2.block k (h.avl k hk).2 (h.avf k hk)
  refine ⟨rfl, h.updf hp', hfr, ?_, hd.2⟩
  obtain ⟨own', _, k2, _⟩ := hp'
  exact row_of hd.1 fun g hg => k2.block g (World.ownsRow.lt hd.1 g hg).2 (h.avf g (hd.2 g hg))
theorem QSt.add_g (h : QSt av w.heap.size w wr pf pg F b fs v ds) (hp : 0 < w.heap.size) (x : ActT) (vd : Value) (hd : DIn av wr vd (dataL x)) (hn : fs.length ≤ 700) :
    Calls Tryd.prog 27 #[.pointer (some ⟨pg, 0, none⟩), .string (ba (nm x)), vd] wr fun e w' => e = .returned (.int .i64 (errL (dataL x))) ∧ (∃ fs', QSt av w.heap.size w w' pf pg F b fs' v ds ∧ fs'.length ≤ fs.length + 1 ∧ ∀ F0, FR F0 fs → FR (stepF F0 x) fs') ∧ (∀ k, av k → w'.heap[k]? = wr.heap[k]?) ∧ DIn av w' vd (dataL x) := by
  obtain ⟨o1, o2, h⟩ := h
  have h0 : ¬ o2 0 := fun e => by have := h.lg 0 e; omega
  have hw := Nat.lt_of_lt_of_le hp h.le
  obtain ⟨A, cap, bb, hy, hbb⟩ := hd.out hw h.avg h0
  by_cases hg : good x = true
  · refine (radd_any h.g hw (nm x) (by omega) vd (dataL x) A cap bb 0 hy hbb (dataL_good hg)).mono ?_
    rintro e w' ⟨rfl, a, e1, e2, hp'⟩
    have hfr : ∀ k, av k → w'.heap[k]? = wr.heap[k]? := fun k hk => by
      obtain ⟨own', _, k2, _⟩ := hp'
      exact k2.block k (h.avl k hk).2 (h.avg k hk)
    refine ⟨by rw [errL, if_pos (dataL_good hg)], ⟨_, h.updg hp', ?_, fun F0 hF0 => ?_⟩, hfr, ?_, hd.2⟩
    · have : ∀ (l : List FileV) (q : FileV), (fins l q).length = l.length + 1 := fun l q => by
        induction l with
        | nil => rfl
        | cons y r ih => rw [fins]; split <;> simp [ih]
      rw [this]
      have := List.length_filter_le (fun a : FileV => !decide (a.name = nm x)) fs
      unfold fdrop
      omega
    · have := fr_put hF0 a
      rw [e1, e2] at this
      unfold stepF
      rw [if_pos hg]
      exact this
    · obtain ⟨own', _, k2, _⟩ := hp'
      exact row_of hd.1 fun g hg => k2.block g (World.ownsRow.lt hd.1 g hg).2 (h.avg g (hd.2 g hg))
  · have hg2 : good x = false := by simpa using hg
    refine (radd_long h.g (nm x) vd (dataL x) A cap bb 0 hy (dataL_bad hg2)).mono ?_
    rintro e w' ⟨rfl, rfl⟩
    refine ⟨by rw [errL, if_neg (by have := dataL_bad hg2; omega)], ⟨fs, ⟨o1, o2, h⟩, by omega, fun F0 hF0 => ?_⟩, fun _ _ => rfl, hd⟩
    unfold stepF
    rw [if_neg hg]; exact hF0
theorem QSt.len_f (h : QSt av w.heap.size w wr pf pg F b fs v ds) (hF : FR F fs) : Calls Tryd.prog 28 #[.pointer (some ⟨pf, 0, none⟩)] wr fun e w' => e = .returned (.int .i64 (fs.length : Int)) ∧ wr = w' := by
  obtain ⟨o1, o2, h⟩ := h
  exact lenk_any h.f hF
theorem QSt.cell (h : QSt av w.heap.size w wr pf pg F b fs v ds) : ∃ A c, wr.cell? ⟨pg, 0, none⟩ = some (.slice A fs.length c) := by
  obtain ⟨o1, o2, h⟩ := h
  obtain ⟨v9, hg⟩ := h.g
  obtain ⟨A, c, e⟩ := hg.row.form
  exact ⟨A, c, by rw [← e]; exact hg.cell⟩
/-- What both answer. -/
def FQ (F : By → Option By) (d ys nme : By) (k : Nat) (b : Bool) : Prop := ∃ P, Rep F P ∧ ((b = false ∧ P d = [] ∧ ys = [] ∧ nme = [] ∧ k = 0) ∨ (b = true ∧ ∃ ps xs, P d = (nme, k) :: ps ∧ F nme = some xs ∧ ys = partI xs (k : Int)))
theorem FQ.uniq {F : By → Option By} {d ys nme ys' nme' : By} {k k' : Nat} {b b' : Bool} (h : FQ F d ys nme k b) (h' : FQ F d ys' nme' k' b') : ys = ys' ∧ nme = nme' ∧ k = k' ∧ b = b' := by
  obtain ⟨P, hR, h⟩ := h
  obtain ⟨P', hR', h'⟩ := h'
  obtain rfl := rep_uniq hR hR'
  rcases h with ⟨rfl, k1, rfl, rfl, rfl⟩ | ⟨rfl, ps, xs, k1, k2, rfl⟩
  · rcases h' with ⟨rfl, _, rfl, rfl, rfl⟩ | ⟨rfl, ps', xs', e1, _⟩
    · exact ⟨rfl, rfl, rfl, rfl⟩
    · rw [k1] at e1; cases e1
  · rcases h' with ⟨rfl, e1, _⟩ | ⟨rfl, ps', xs', e1, e2, rfl⟩
    · rw [k1] at e1; cases e1
    · rw [k1] at e1
      injection e1 with e1 _
      injection e1 with e1 e3
      subst e1 e3
      rw [k2] at e2; injection e2 with e2
      subst e2
      exact ⟨rfl, rfl, rfl, rfl⟩
theorem FQ.le {F : By → Option By} {d ys nme : By} {k : Nat} {b : Bool} (h : FQ F d ys nme k b) : ys.length ≤ 128 := by
  obtain ⟨P, _, ⟨_, _, rfl, _⟩ | ⟨_, _, _, _, _, rfl⟩⟩ := h
  · simp
  · exact partI_le _ _
theorem QSt.find_f (h : QSt av w.heap.size w wr pf pg F b fs v ds) {d : By} (hd : d.length = 32) :
    ∃ (ys nme : By) (k : Nat) (is : Bool), FQ F d ys nme k is ∧ ∀ W av' ds' v', QSt av' w.heap.size w W pf pg F b fs v' ds' → Calls Tryd.prog 29 #[.pointer (some ⟨pf, 0, none⟩), .agg (hvec d)] W fun e w' => FindPost W ys (nme, k) is e w' := by
  obtain ⟨o1, o2, h⟩ := h
  obtain ⟨P, cf, N, keys, h1, h2, h3, h4, h5, h6, h7⟩ := h.f
  cases hP : P d with
  | nil =>
    refine ⟨[], [], 0, false, ⟨P, h2, .inl ⟨rfl, hP, rfl, rfl, rfl⟩⟩, fun W av' ds' v' hW => ?_⟩
    obtain ⟨a1, a2, hW⟩ := hW
    obtain ⟨P', cf', N', keys', g1, g2, _⟩ := hW.f
    obtain rfl := rep_uniq h2 g2
    exact find_none g1 d hd hP
  | cons q ps =>
    obtain ⟨t, j⟩ := q
    obtain ⟨xs, k1, k2⟩ := (h2.mem d t j).1 (by rw [hP]; exact List.mem_cons_self ..)
    refine ⟨partI xs (j : Int), t, j, true, ⟨P, h2, .inr ⟨rfl, ps, xs, hP, k1, rfl⟩⟩, fun W av' ds' v' hW => ?_⟩
    obtain ⟨a1, a2, hW⟩ := hW
    obtain ⟨P', cf', N', keys', g1, g2, _⟩ := hW.f
    obtain rfl := rep_uniq h2 g2
    exact find_some g1 d hd (t, j) ps xs hP k1 (h7 t xs k1).1
theorem QSt.find_g (h : QSt av w.heap.size w wr pf pg F b fs v ds) (hp : 0 < w.heap.size) (hF : FR F fs) {d : By} (hd : d.length = 32) (hn : fs.length ≤ 900) {ys nme : By} {k : Nat} {is : Bool} (hq : FQ F d ys nme k is) :
    Calls Tryd.prog 30 #[.pointer (some ⟨pg, 0, none⟩), .agg (hvec d)] wr fun e w' => ∃ (u : Value), e = .returned (.tuple #[u, .string (ba nme), .int .i64 (k : Int), .bool is]) ∧ Fresh wr.heap.size w' u ys ∧ Below wr.heap.size wr w' := by
  obtain ⟨o1, o2, h⟩ := h
  refine (rfind_any h.g (Nat.lt_of_lt_of_le hp h.le) d hd (by omega)).mono ?_
  rintro e w' ⟨u, ys2, nme2, k2, b2, rfl, hf, hb, hi⟩
  obtain ⟨P, cf, N, keys, h1, h2, _⟩ := h.f
  obtain ⟨rfl, rfl, rfl, rfl⟩ := hq.uniq ⟨P, h2, found_q h2 hF hi⟩
  exact ⟨u, rfl, hf, hb⟩
theorem QSt.setrow (h : QSt av w.heap.size w wr pf pg F b fs v ds) (hb : Below wr.heap.size wr w') {v' : Value} {ds' : List By} (hr : Dgs wr.heap.size w' v' ds') : QSt av w.heap.size w w' pf pg F b fs v' ds' := by
  obtain ⟨o1, o2, h⟩ := h
  have h2 := h.on hb
  exact ⟨o1, o2, { h2 with row := hr.mono h.le, rf := fun k hk hh => by have := (World.ownsRow.lt hr.own k hk).1; have := h.f.low k hh; omega, rg := fun k hk hh => by have := (World.ownsRow.lt hr.own k hk).1; have := h.g.low k hh; omega, avr := fun k hk e => by have := (World.ownsRow.lt hr.own k e).1; have := (h.avl k hk).2; omega }⟩
theorem QSt.app (h : QSt av w.heap.size w wr pf pg F b fs v ds) (cs : List By) (m : Nat) (hm : cs.length = m) (hc : ∀ c ∈ cs, c.length = 32) (g : Nat) (hg : ∀ j u, (hcells cs)[j]? = some u → wr.cell? ⟨g, j, none⟩ = some u) (hn : ds.length + m ≤ 1000) :
    ∃ v' w', (Builtin.append_ #[28, 28] 28 #[v, .slice (some ⟨g, 0, none⟩) m m]).run Tryd.prog wr = .ok v' w' ∧ QSt av w.heap.size w w' pf pg F b fs v' (ds ++ cs) ∧ ∀ k, av k → w'.heap[k]? = wr.heap[k]? := by
  obtain ⟨o1, o2, h⟩ := h
  obtain ⟨i0, hi, hz0, hz1, hz2⟩ := info_parts infoH
  have hl : ∀ (l : List By), (∀ c ∈ l, c.length = 32) → (hcells l).length = l.length * 32 := fun l => by
    induction l with
    | nil => intro _; rfl
    | cons a r ih =>
      intro hh
      show (a.map V8 ++ hcells r).length = _
      rw [List.length_append, List.length_map, hh a (List.mem_cons_self ..), ih (fun c hc => hh c (List.mem_cons_of_mem _ hc)), List.length_cons]
      omega
  have hone : ∀ u ∈ hcells cs, u.oneCell' = true := fun u hu => by
    unfold hcells at hu
    rw [List.mem_flatMap] at hu
    obtain ⟨a, _, hu⟩ := hu
    exact V8_one a u hu
  obtain ⟨v', w', hr, ho, hg', _, hv⟩ := run_append_own_at (P := Tryd.prog) wr w.heap.size 28 28 27 i0 _ 32 32 Tryd.underlying28 hi hz0 hz1 hz2 (by simp [Value.cells, hvec]) (by omega) v ds.length (hcells ds) h.row.own ⟨g, 0, none⟩ m m (hcells cs) (by rw [hl cs hc, hm])
    (fun j u hj => by rw [add_at, Nat.zero_add]; exact hg j u hj) hone (by unfold maxLen; omega) (by omega) h.le
  have hvn : ∀ k, v'.ownBlock = some k → (v.ownBlock = some k ∨ k = wr.heap.size) := fun k hk => by
    rcases hv with e | e
    · exact .inl (e ▸ hk)
    · rw [e] at hk; injection hk with hk; exact .inr hk.symm
  refine ⟨v', w', hr, ⟨o1, o2, { h with f := ?_, g := ?_, row := ⟨?_, ?_⟩, rf := ?_, rg := ?_, avr := ?_, avl := fun k hk => ⟨(h.avl k hk).1, Nat.lt_of_lt_of_le (h.avl k hk).2 hg'.size⟩, b := ?_, le := Nat.le_trans h.le hg'.size }⟩, fun k hk => hg'.block k (h.avl k hk).2 (fun e => h.avr k hk e.symm)⟩
  · exact h.f.kept hg'.size fun k hk => hg'.block k (h.f.low k hk) (fun e => h.rf k e.symm hk)
  · exact h.g.kept hg'.size fun k hk => hg'.block k (h.g.low k hk) (fun e => h.rg k e.symm hk)
  · rw [List.length_append, hm]
    have : hcells (ds ++ cs) = hcells ds ++ hcells cs := by simp [hcells]
    rw [this]; exact ho
  · intro c hc'
    rcases List.mem_append.1 hc' with x | x
    · exact h.row.len c x
    · exact hc c x
  · intro k hk hh
    rcases hvn k hk with e | e
    · exact h.rf k e hh
    · have := h.f.low k hh; omega
  · intro k hk hh
    rcases hvn k hk with e | e
    · exact h.rg k e hh
    · have := h.g.low k hh; omega
  · intro k hk e
    rcases hvn k e with e | e
    · exact h.avr k hk e
    · have := (h.avl k hk).2; omega
  · exact h.b.grown hg' h.le (fun g hg => (World.ownsRow.lt h.row.own g hg).1)
end
end Go.Proofs.YtlcdkponegmcdaaDoor
