/- Several texts in one: TC, TD, TE. Conditions: those said at each. -/
import Derived.Test.YtlbeemlnbpchgaaGreatQK
import Derived.Lib.AppendZeros
import Derived.Lib.ConvBytes
import Derived.Laws.IdiomStrings
/- Bytes in rows that a call owns: appended, and as a text. No conditions but the ones said. -/
namespace Go.Proofs.YtlbeemlnbpchgaaGreat
open Go.RowKit Go.Maps
theorem b8_ofNat (m : Nat) : b8 (UInt8.ofNat m) = ((m % 256 : Nat) : Int) := by simp [b8]
def V8 (x : UInt8) : Value := .int .u8 (b8 x)
/-- The value is a slice over just these bytes. -/
structure Bytes (w : World) (v : Value) (xs : List UInt8) (A : Option Addr) (cap bb off : Nat) : Prop where
  form : v = .slice A xs.length cap
  le : xs.length ≤ cap
  zero : A = none → cap = 0
  at_ : ∀ a, A = some a → ∀ j, j < xs.length → w.cell? (a.add j) = some (V8 (at8 xs j))
  blk : bb < w.heap.size
  src : 0 < xs.length → A = some ⟨bb, off, none⟩
section
variable {w w' : World} {v : Value} {xs : List UInt8} {A : Option Addr} {cap bb off : Nat}
theorem add_at (bb off j : Nat) : (⟨bb, off, none⟩ : Addr).add j = ⟨bb, off + j, none⟩ := by unfold Addr.add; split <;> simp_all
theorem Bytes.nil (w : World) (h : 0 < w.heap.size) : Bytes w (.slice none 0 0) [] none 0 0 0 := ⟨rfl, Nat.le_refl _, fun _ => rfl, (fun _ e => by cases e), h, (fun e => by simp at e)⟩
theorem Bytes.kept {B : Nat} (h : Bytes w v xs A cap bb off) (hb : Below B w w') (hB : w.heap.size ≤ B) : Bytes w' v xs A cap bb off :=
  ⟨h.form, h.le, h.zero, fun a ha j hj => by
    have e := h.at_ a ha j hj
    exact (hb.cell (Nat.lt_of_lt_of_le (block_lt_of_cell e) hB)).trans e, Nat.lt_of_lt_of_le h.blk hb.size, h.src⟩
end
theorem V8_one (xs : List UInt8) : ∀ u ∈ xs.map V8, u.oneCell' = true := by
  intro u hu
  obtain ⟨x, _, rfl⟩ := List.mem_map.1 hu
  rfl
theorem map_get {xs : List UInt8} {j : Nat} {u : Value} (h : (xs.map V8)[j]? = some u) : j < xs.length ∧ u = V8 (at8 xs j) := by
  have hj : j < xs.length := by
    have := (List.getElem?_eq_some_iff.1 h).1
    simpa using this
  refine ⟨hj, ?_⟩
  rw [List.getElem?_map, List.getElem?_eq_getElem hj] at h
  simp at h
  rw [← h, at8, List.getD, List.getElem?_eq_getElem hj]; rfl
theorem get_map {xs : List UInt8} {j : Nat} (h : j < xs.length) : (xs.map V8)[j]? = some (V8 (at8 xs j)) := by
  rw [List.getElem?_map, List.getElem?_eq_getElem h]
  simp [at8, List.getD, List.getElem?_eq_getElem h]
theorem info5 : (Tryz.prog.info? 5).map (fun i => (i.zero, i.size, i.bytes)) = some (some (.int .u8 0), 1, 1) := by kernel_rfl
/-- Bytes in a row that the call owns are a slice over them. -/
theorem own_bytes {w : World} {B : Nat} {v : Value} {ys : List UInt8} {n : Nat} (hn : ys.length = n) (hw : 0 < w.heap.size) (h : w.ownsRow B 5 1 v n (ys.map V8)) : ∃ A cap bb, Bytes w v ys A cap bb 0 ∧ (0 < ys.length → B ≤ bb) ∧ (v.ownBlock = some bb ∨ v.ownBlock = none ∧ bb = 0) := by
  subst hn
  rcases h.2 with ⟨rfl, h2⟩ | ⟨g, c, cur, rfl, hbg, hgg, h4, _⟩
  · obtain rfl : ys = [] := List.eq_nil_of_length_eq_zero (by omega)
    exact ⟨none, 0, 0, Bytes.nil w hw, fun h => by simp at h, .inr ⟨rfl, rfl⟩⟩
  · have hc := h.cells (g := g) rfl
    have hl := (h.lt g rfl).2
    refine ⟨some ⟨g, 0, none⟩, c, g, ⟨rfl, h4, (fun h => by cases h), fun a ha j hj => ?_, hl, fun _ => rfl⟩, fun _ => hbg, .inl rfl⟩
    cases ha
    exact hc j _ (get_map hj)
/-- Bytes appended to a row that the call owns. -/
theorem append_bytes (w : World) (B : Nat) (v : Value) (n : Nat) (xs : List Value) (hown : w.ownsRow B 5 1 v n xs) {src : Value} {ys : List UInt8} {A : Option Addr} {cap bb off : Nat} (hs : Bytes w src ys A cap bb off)
    (hn : n + ys.length ≤ 1000000) (hB : B ≤ w.heap.size) :
    ∃ v' w', (Builtin.append_ #[31, 31] 31 #[v, src]).run Tryz.prog w = .ok v' w' ∧ w'.ownsRow B 5 1 v' (n + ys.length) (xs ++ ys.map V8) ∧ w.grownBy w' v.ownBlock ∧
      (v' = .slice none 0 0 ↔ v = .slice none 0 0 ∧ ys.length = 0) ∧ (v'.ownBlock = v.ownBlock ∨ v'.ownBlock = some w.heap.size) := by
  obtain ⟨i0, hi, hz0, hz1, hz2⟩ := info_parts info5
  cases A with
  | none =>
    have hc := hs.zero rfl
    have hl := hs.le
    have h0 : ys.length = 0 := by omega
    have hy : ys = [] := List.eq_nil_of_length_eq_zero h0
    have e := hs.form
    rw [hc, h0] at e
    rw [e]
    refine ⟨v, w, run_append_owned_none (P := Tryz.prog) w B 31 31 5 i0 1 Tryz.underlying31 hi v n xs hown, ?_, ⟨rfl, rfl, rfl, Nat.le_refl _, fun _ _ _ => rfl⟩, by simp [h0], .inl rfl⟩
    rw [h0, hy]; simpa using hown
  | some a =>
    rw [hs.form]
    exact run_append_own_at (P := Tryz.prog) w B 31 31 5 i0 (.int .u8 0) 1 1 Tryz.underlying31 hi hz0 hz1 hz2 rfl (by omega) v n xs hown a ys.length cap (ys.map V8) (by simp)
      (fun j u hj => by obtain ⟨h1, rfl⟩ := map_get hj; exact hs.at_ a rfl j h1) (V8_one ys) (by unfold maxLen; omega) (by omega) hB
/-- At the list of a plain region's operations. -/
theorem wpList_append_run {P : Program} {ops : Array Oper} {rest : List Oper} {o : Oper} {a : Act} {w : World} {Q : Exit → Act → World → Prop} (hgd : o.guard = none) (s x : Operand) (t tn : TypeId)
    (ho : o.op = .call { callee := .builtin .append, args := #[s, x], argTypes := #[t, tn] })
    (h : ∃ v' w', (Builtin.append_ #[t, tn] o.type #[a.eval s, a.eval x]).run P w = .ok v' w' ∧ wpList P ops Q rest (a.put o.dst v') w') : wpList P ops Q (o :: rest) a w :=
  wpList_plain hgd fun _ hK => by
    obtain ⟨v', w', hr, h⟩ := h
    unfold Oper.wp execOp
    simp only [ho, resolve, invoke, builtin, Sem.run_bind, Sem.run_pure, Result.andThen_ok, List.map_toArray, List.map_cons, List.map_nil, hr]
    exact hK _ _ h
theorem conv_nil (w : World) : (convert 31 9 (.slice none 0 0)).run Tryz.prog w = .ok (.string ⟨#[]⟩) w := by kernel_rfl
theorem conv_back {w : World} {v : Value} {ys : List UInt8} {A : Option Addr} {cap bb off : Nat} (h : Bytes w v ys A cap bb off) : (convert 31 9 v).run Tryz.prog w = .ok (.string (ba ys)) w := by
  have e := h.form
  cases A with
  | none =>
    have hc := h.zero rfl
    have hl := h.le
    have h0 : ys = [] := List.eq_nil_of_length_eq_zero (by omega)
    subst h0
    rw [e, hc]
    exact conv_nil w
  | some a =>
    rw [e]
    have := run_convert_bytes_back (P := Tryz.prog) w 31 9 5 a cap ys Tryz.underlying31 Tryz.underlying5 Tryz.underlying9 (fun j hj => by
      rw [h.at_ a rfl j hj, V8, b8, at8, List.getD, List.getElem?_eq_getElem hj]; rfl)
    exact this
/-- A row of the call's own over just these bytes. -/
def Fresh (B : Nat) (w' : World) (v : Value) (xs : List UInt8) : Prop := w'.ownsRow B 5 1 v xs.length (xs.map V8)
theorem Fresh.bytes {B : Nat} {w : World} {v : Value} {xs : List UInt8} (h : Fresh B w v xs) (hw : 0 < w.heap.size) : ∃ A cap bb, Bytes w v xs A cap bb 0 ∧ (0 < xs.length → B ≤ bb) ∧ (v.ownBlock = some bb ∨ v.ownBlock = none ∧ bb = 0) := own_bytes rfl hw h
theorem Fresh.mono {B B' : Nat} {w : World} {v : Value} {xs : List UInt8} (h : Fresh B w v xs) (hb : B' ≤ B) : Fresh B' w v xs := by
  refine ⟨h.1, ?_⟩
  rcases h.2 with ⟨h1, h2⟩ | ⟨g, c, cur, h1, h2, h3⟩
  · exact .inl ⟨h1, h2⟩
  · exact .inr ⟨g, c, cur, h1, Nat.le_trans hb h2, h3⟩
theorem fresh_nil (B : Nat) (w : World) : Fresh B w (.slice none 0 0) [] := World.ownsRow_nil _ _ _ _
theorem fresh_app {B : Nat} {w : World} {v : Value} {xs : List UInt8} (h : Fresh B w v xs) {src : Value} {ys : List UInt8} {A : Option Addr} {cap bb off : Nat} (hs : Bytes w src ys A cap bb off) (hn : xs.length + ys.length ≤ 1000000) (hB : B ≤ w.heap.size) :
    ∃ v' w', (Builtin.append_ #[31, 31] 31 #[v, src]).run Tryz.prog w = .ok v' w' ∧ Fresh B w' v' (xs ++ ys) ∧ w.grownBy w' v.ownBlock := by
  obtain ⟨v', w', hr, ho, hg, _, _⟩ := append_bytes w B v xs.length (xs.map V8) h hs hn hB
  refine ⟨v', w', hr, ?_, hg⟩
  unfold Fresh
  rw [List.length_append, List.map_append]
  exact ho
theorem fresh_kept {B : Nat} {w w' : World} {v : Value} {xs : List UInt8} (h : Fresh B w v xs) (hb : Below w.heap.size w w') : Fresh B w' v xs := row_of h (fun g hg => hb.block g (World.ownsRow.lt h g hg).2)
theorem index_at (s : ByteArray) (i : Nat) (h : i < s.size) (w : World) : (Instr.index 9 (.string s) (.int .i64 (i : Int))).run Tryz.prog w = .ok (.int .u8 (b8 (at8 (tl s) i))) w := by
  have hi : i < s.data.toList.length := by simpa using h
  rw [run_index_string (P := Tryz.prog) w 9 s .i64 (i : Int) Tryz.underlying9, dif_pos ⟨by omega, by omega⟩]
  have e : s[(i : Int).toNat]'(by simpa using h) = at8 (tl s) i := by
    rw [at8, List.getD, List.getElem?_eq_getElem hi]
    rfl
  rw [e]; rfl
theorem bytes_one (w : World) (z : UInt8) (fr : Nat × Nat) : Bytes (w.alloc (.cells #[.int .u8 (b8 z)] 5 fr)) (.slice (some ⟨w.heap.size, 0, none⟩) 1 1) [z] (some ⟨w.heap.size, 0, none⟩) 1 w.heap.size 0 := by
  refine ⟨rfl, Nat.le_refl _, (fun h => by cases h), fun a ha j hj => ?_, by simp, fun _ => rfl⟩
  cases ha
  rw [add_at, Nat.zero_add, cell_of_row _ w.heap.size j _ 5 fr (heap_alloc_new w _)]
  have hj : j < 1 := hj
  rcases j with _ | j
  · rfl
  · omega
/-- One byte more, behind what the call owns. -/
theorem append_byte (wr : World) (B : Nat) (v : Value) (xs : By) (h : Fresh B wr v xs) (hl : xs.length ≤ 100000) (hB : B ≤ wr.heap.size) (z : UInt8) :
    ∃ v' w', (Builtin.append_ #[31, 31] 31 #[v, .slice (some ⟨wr.heap.size, 0, none⟩) 1 1]).run Tryz.prog (wr.alloc (.cells #[.int .u8 (b8 z)] 5)) = .ok v' w' ∧ Fresh B w' v' (xs ++ [z]) ∧ Below B wr w' := by
  have hb : Below wr.heap.size wr (wr.alloc (.cells #[.int .u8 (b8 z)] 5)) := (Below.refl _ _).alloc (Nat.le_refl _) _
  obtain ⟨v', w', hr, hf, hg⟩ := fresh_app (fresh_kept h hb) (bytes_one wr z (0, 0)) (by simp; omega) (by simp; omega)
  refine ⟨v', w', hr, hf, ?_⟩
  have h2 : Below B wr (wr.alloc (.cells #[.int .u8 (b8 z)] 5)) := (Below.refl _ _).alloc hB _
  exact h2.grown hg (by simp; omega) (fun g hg => (World.ownsRow.lt h g hg).1)
end Go.Proofs.YtlbeemlnbpchgaaGreat
/- Acts: a row of acts as a walk reads it; what each does to a disk; data. Conditions: acts whose numbers and texts fit. -/
namespace Go.Proofs.YtlbeemlnbpchgaaGreat
open Go.RowKit Go.Maps
/-- What is done to a disk: which, two paths, a text, how long, a time, picks. -/
structure ActT where
  dO : Int
  p : By
  q : By
  text : By
  long : Int
  time : Int
  pA : Option Addr
  pc : Nat
  ks : List UInt8
  pg : Nat
  po : Nat
def act0 : ActT := ⟨0, [], [], [], 0, 0, none, 0, [], 0, 0⟩
structure ActOk (x : ActT) : Prop where
  d0 : -9223372036854775808 ≤ x.dO
  d1 : x.dO ≤ 9223372036854775807
  p : x.p.length ≤ 140737488351232
  q : x.q.length ≤ 140737488351232
  text : x.text.length ≤ 140737488351232
  l0 : -9223372036854775808 ≤ x.long
  l1 : x.long ≤ 9223372036854775807
  ks : x.ks.length ≤ maxLen
def actCells (x : ActT) : Array Value := #[.int .i64 x.dO, kS x.p, kS x.q, kS x.text, .int .i64 x.long, .int .i64 x.time, .slice x.pA x.ks.length x.pc]
/-- An act lies there. -/
structure ActAt (w : World) (bb o : Nat) (x : ActT) : Prop where
  c0 : w.cell? ⟨bb, o, none⟩ = some (.int .i64 x.dO)
  c1 : w.cell? ⟨bb, o + 1, none⟩ = some (kS x.p)
  c2 : w.cell? ⟨bb, o + 2, none⟩ = some (kS x.q)
  c3 : w.cell? ⟨bb, o + 3, none⟩ = some (kS x.text)
  c4 : w.cell? ⟨bb, o + 4, none⟩ = some (.int .i64 x.long)
  c5 : w.cell? ⟨bb, o + 5, none⟩ = some (.int .i64 x.time)
  c6 : w.cell? ⟨bb, o + 6, none⟩ = some (.slice x.pA x.ks.length x.pc)
  pk : Pk w x.pA x.ks x.pg x.po
theorem Pk.on {w w' : World} {A : Option Addr} {ks : List UInt8} {g off : Nat} (h : Pk w A ks g off) (hb : Below w.heap.size w w') : Pk w' A ks g off :=
  h.turn (own := fun _ => False) (Turn.of_below hb) (fun _ k => k)
theorem ActAt.on {w w' : World} {bb o : Nat} {x : ActT} (h : ActAt w bb o x) (hb : Below w.heap.size w w') : ActAt w' bb o x := by
  have k : bb < w.heap.size := block_lt_of_cell (a := ⟨bb, o, none⟩) h.c0
  exact ⟨(hb.cell (p := ⟨bb, o, none⟩) k).trans h.c0, (hb.cell (p := ⟨bb, o + 1, none⟩) k).trans h.c1, (hb.cell (p := ⟨bb, o + 2, none⟩) k).trans h.c2, (hb.cell (p := ⟨bb, o + 3, none⟩) k).trans h.c3,
    (hb.cell (p := ⟨bb, o + 4, none⟩) k).trans h.c4, (hb.cell (p := ⟨bb, o + 5, none⟩) k).trans h.c5, (hb.cell (p := ⟨bb, o + 6, none⟩) k).trans h.c6, h.pk.on hb⟩
set_option maxRecDepth 100000 in
theorem ActAt.load {w : World} {bb o : Nat} {x : ActT} (h : ActAt w bb o x) : (loadVar 33 ⟨bb, o, none⟩).run Tryz.prog w = .ok (.agg (actCells x)) w := by
  refine run_loadVar_mid (P := Tryz.prog) w bb o 33 (actCells x).toList _ (fun j u hj => ?_) Tryz.underlying33 rfl (by show _ = some 7; kernel_rfl)
  match j, hj with
  | 0, hj => obtain rfl := Option.some.inj hj; exact h.c0
  | 1, hj => obtain rfl := Option.some.inj hj; exact h.c1
  | 2, hj => obtain rfl := Option.some.inj hj; exact h.c2
  | 3, hj => obtain rfl := Option.some.inj hj; exact h.c3
  | 4, hj => obtain rfl := Option.some.inj hj; exact h.c4
  | 5, hj => obtain rfl := Option.some.inj hj; exact h.c5
  | 6, hj => obtain rfl := Option.some.inj hj; exact h.c6
  | j + 7, hj => simp [actCells] at hj
/-- A row of acts lies there. -/
structure ActsIn (w : World) (A : Option Addr) (n bb off : Nat) (xs : List ActT) : Prop where
  len : xs.length = n
  src : 0 < n → A = some ⟨bb, off, none⟩ ∧ bb < w.heap.size
  at_ : ∀ i, i < n → ActAt w bb (off + i * 7) (xs.getD i act0)
  ok : ∀ x ∈ xs, ActOk x
  low : ∀ x ∈ xs, 0 < x.ks.length → x.pg < w.heap.size
theorem ActsIn.on {w w' : World} {A : Option Addr} {n bb off : Nat} {xs : List ActT} (h : ActsIn w A n bb off xs) (hb : Below w.heap.size w w') : ActsIn w' A n bb off xs :=
  ⟨h.len, fun h0 => ⟨(h.src h0).1, Nat.lt_of_lt_of_le (h.src h0).2 hb.size⟩, fun i hi => (h.at_ i hi).on hb, h.ok, fun x hx h0 => Nat.lt_of_lt_of_le (h.low x hx h0) hb.size⟩
/-- An act that is small. -/
def smallB (x : ActT) : Bool := decide (x.p.length + x.q.length ≤ 1000) && decide (x.text.length ≤ 10000)
/-- How long its data are. -/
def dataN (x : ActT) : Nat := if x.text.length = 0 then 0 else min x.long.toNat 3000
def dataTo (x : ActT) (k : Nat) : By := (List.range k).map fun i => at8 x.text (i % x.text.length)
@[irreducible] def dataL (x : ActT) : By := dataTo x (dataN x)
theorem dataTo_len (x : ActT) (k : Nat) : (dataTo x k).length = k := by simp [dataTo]
theorem dataTo_next (x : ActT) (k : Nat) : dataTo x (k + 1) = dataTo x k ++ [at8 x.text (k % x.text.length)] := by simp [dataTo, List.range_succ]
theorem dataL_len (x : ActT) : (dataL x).length ≤ 3000 := by unfold dataL; rw [dataTo_len]; unfold dataN; split <;> omega
/-- Which it is. -/
def doK (x : ActT) : Int := bits .and .i64 x.dO 15
/-- The effect of an act, if it is one. -/
def effOf (x : ActT) : Option Eff :=
  if doK x = 1 then some (.write x.p (dataL x) x.time) else if doK x = 2 then some (.append x.p (dataL x)) else if doK x = 3 then some (.mkdir x.p) else if doK x = 4 then some (.link x.p (dataL x) x.time)
  else if doK x = 5 then some (.rename x.p x.q) else if doK x = 6 then some (.remove x.p) else none
def actM (M : Mo) (x : ActT) : Int × Mo :=
  match effOf x with
  | some y => doM M y
  | none => if doK x = 7 then (0, crashM M (nats x.ks)) else if doK x = 8 then fuseM M x.long else syncM M
def playM (M : Mo) (xs : List ActT) : Mo := xs.foldl (fun M x => (actM M x).2) M
theorem playM_snoc (M : Mo) (xs : List ActT) (x : ActT) : playM M (xs ++ [x]) = (actM (playM M xs) x).2 := by simp [playM, List.foldl_append]
theorem since_do (M : Mo) (y : Eff) : (doM M y).2.since.length ≤ M.since.length + 1 := by
  unfold doM; split
  · exact Nat.le_succ _
  · split
    · simp
    · exact Nat.le_succ _
theorem since_act (M : Mo) (x : ActT) : (actM M x).2.since.length ≤ M.since.length + 1 := by
  unfold actM
  split
  · exact since_do _ _
  · split
    · exact Nat.zero_le _
    · split
      · unfold fuseM; split
        · exact Nat.le_succ _
        · split <;> exact Nat.le_succ _
      · unfold syncM; split
        · exact Nat.le_succ _
        · exact Nat.zero_le _
theorem since_play (M : Mo) (xs : List ActT) : (playM M xs).since.length ≤ M.since.length + xs.length := by
  induction xs generalizing M with
  | nil => exact Nat.le_refl _
  | cons x xs ih =>
    have h1 := ih (actM M x).2
    have h2 := since_act M x
    show (playM (actM M x).2 xs).since.length ≤ _
    rw [List.length_cons]; omega
theorem room_do (M : Mo) (y : Eff) : (doM M y).2.room = M.room := by unfold doM; split; rfl; split <;> rfl
theorem room_act (M : Mo) (x : ActT) : (actM M x).2.room = M.room := by
  unfold actM
  split
  · exact room_do _ _
  · split
    · rfl
    · split
      · unfold fuseM; split; rfl; split <;> rfl
      · unfold syncM; split <;> rfl
theorem room_play (M : Mo) (xs : List ActT) : (playM M xs).room = M.room := by
  induction xs generalizing M with
  | nil => rfl
  | cons x xs ih => exact (ih _).trans (room_act M x)
end Go.Proofs.YtlbeemlnbpchgaaGreat
/- data: an act's data. Conditions: an act whose numbers and texts fit. -/
namespace Go.Proofs.YtlbeemlnbpchgaaGreat
open Go.RowKit Go.Maps
theorem step_append_run {P : Program} {ops : Array Oper} {o : Oper} {a : Act} {w : World} {K : Act → World → Prop} {Q : Exit → Act → World → Prop} {E : Prop}
    (hw : Region.wanted o (yielded ops a.tmps) = true) (s x : Operand) (t tn : TypeId) (ho : o.op = .call { callee := .builtin .append, args := #[s, x], argTypes := #[t, tn] })
    (vs vx : Value) (hs : a.eval s = vs) (hx : a.eval x = vx) {v' : Value} {w' : World} (hr : (Builtin.append_ #[t, tn] o.type #[vs, vx]).run P w = .ok v' w') (h : K (a.put o.dst v') w') :
    if Region.wanted o (yielded ops a.tmps) = true then Oper.wp P o a w K Q else E := by
  rw [if_pos hw]
  unfold Oper.wp execOp
  simp only [ho, hs, hx, resolve, invoke, builtin, Sem.run_bind, Sem.run_pure, Result.andThen_ok, List.map_toArray, List.map_cons, List.map_nil, hr]
  exact h
theorem rem_nat (a b : Nat) : (a : Int).tmod (b : Int) = ((a % b : Nat) : Int) := by
  rw [Int.tmod_eq_emod_of_nonneg (by omega)]; rfl
set_option maxRecDepth 100000 in
set_option maxHeartbeats 8000000 in
theorem data_any (x : ActT) (hx : ActOk x) (w : World) (hG : Gd w) :
    Calls Tryz.prog 44 #[.agg (actCells x)] w fun e w' => e = .returned (kS (dataL x)) ∧ Below w.heap.size w w' := by
  obtain ⟨m, HM⟩ : ∃ m, Hid (dataN x = m) := ⟨_, rfl⟩
  have HV : Hid (dataL x = dataTo x m) := by show _ = _; unfold dataL; rw [HM.out]
  have HB0 : Hid (Below w.heap.size w (w.alloc (.cells (actCells x) 33))) := (Below.refl _ _).alloc (Nat.le_refl _) _
  have HA0 : Hid (Has (w.alloc (.cells (actCells x) 33)) w.heap.size 33 (actCells x)) := Has.fresh w 33 _
  obtain ⟨L, HL⟩ : ∃ L, Hid (x.long = L) := ⟨_, rfl⟩
  obtain ⟨T, HTX⟩ : ∃ T, Hid (x.text = T) := ⟨_, rfl⟩
  obtain ⟨s, HS⟩ : ∃ s : Nat, Hid (T.length = s) := ⟨_, rfl⟩
  have hmL : m = if s = 0 then 0 else min L.toNat 3000 := by rw [← HL.out, ← HS.out, ← HTX.out]; exact HM.out.symm
  have HAC : Hid (actCells x = #[.int .i64 x.dO, kS x.p, kS x.q, kS T, .int .i64 L, .int .i64 x.time, .slice x.pA x.ks.length x.pc]) := by show _ = _; rw [actCells, HTX.out, HL.out]
  have HSM : Hid ((s : Int) ≤ 9223372036854775807) := by show _ ≤ _; rw [← HS.out, ← HTX.out]; have := hx.text; omega
  have HNX : Hid (∀ k, dataTo x (k + 1) = dataTo x k ++ [at8 T (k % s)]) := fun k => by rw [dataTo_next, HTX.out, HS.out]
  have HDL : Hid (∀ k, (dataTo x k).length = k) := fun k => dataTo_len x k
  have HIX : Hid (∀ i, i < s → ∀ w, (Instr.index 9 (kS T) (.int .i64 (i : Int))).run Tryz.prog w = .ok (.int .u8 (b8 (at8 T i))) w) := fun i h w => index_at (ba T) i (by rw [ba_size, HS.out]; exact h) w
  have HTS : Hid ((ba T).size = s) := by show _ = _; rw [ba_size]; exact HS.out
  have HPOS := hid hG.pos
  rw [HAC.out] at HB0 HA0 ⊢
  clear hx hG
  go_enter Tryz.func44, Tryz.ntmps44
  go_wp2
  go_loopw [3, 4] (fun v3 v4 wr => ∃ k : Nat, k ≤ m ∧ v4 = .int .i64 (k : Int) ∧ Hid (Fresh (w.heap.size + 1) wr v3 (dataTo x k)) ∧ Hid (Has wr w.heap.size 33 #[.int .i64 x.dO, kS x.p, kS x.q, kS T, .int .i64 L, .int .i64 x.time, .slice x.pA x.ks.length x.pc]) ∧ Hid (Below w.heap.size w wr)) (fun _ v4 _ => m - (intOf v4).toNat)
  case atStart => exact ⟨0, by omega, rfl, fresh_nil _ _, HA0.out, HB0.out⟩
  case round =>
    obtain ⟨k, hk, rfl, J1, J2, J3⟩ := hrel
    have c3 : wr.cell? ⟨w.heap.size, 3, none⟩ = some (kS T) := J2.out.at_ 3
    have c4 : wr.cell? ⟨w.heap.size, 4, none⟩ = some (.int .i64 L) := J2.out.at_ 4
    have hs2 : ((ba T).size : Int) = (s : Int) := by rw [HTS.out]
    by_cases hlt : k < m
    · have hs1 : (0 : Int) < (s : Int) := by split at hmL <;> omega
      have hkL : (k : Int) < L := by rw [if_neg (by omega)] at hmL; omega
      have hk5 : (k : Int) < 3000 := by rw [if_neg (by omega)] at hmL; omega
      have w1 : IntKind.i64.wrap ((k : Int) + 1) = (k : Int) + 1 := i64in _ (by omega) (by omega)
      have hin := J2.out.inside
      obtain ⟨j, HJ⟩ : ∃ j, Hid (k % s = j) := ⟨_, rfl⟩
      have hj : j < s := by rw [← HJ.out]; exact Nat.mod_lt _ (by omega)
      obtain ⟨z, HZ⟩ : ∃ z, Hid (at8 T j = z) := ⟨_, rfl⟩
      obtain ⟨v5, w5, hr5, hf5, hb5⟩ := append_byte wr.drew (w.heap.size + 1) u3 (dataTo x k) (fresh_kept J1.out (Below.refl _ _).drew) (by rw [HDL.out]; omega) (by show _ ≤ wr.heap.size; omega) z
      have hnx := HNX.out k
      rw [HJ.out, HZ.out] at hnx
      rw [← hnx] at hf5
      have R5 := hid hr5
      have F5 := hid hf5
      have B5 := hid hb5
      have r2 : (k : Int).tmod (s : Int) = (j : Int) := by rw [← HJ.out]; exact rem_nat k s
      have r3 : ¬ (s : Int) = 0 := by omega
      have hixj := HIX.out j hj
      rw [HZ.out] at hixj
      have J2d : Hid (Has wr.drew w.heap.size 33 #[.int .i64 x.dO, kS x.p, kS x.q, kS T, .int .i64 L, .int .i64 x.time, .slice x.pA x.ks.length x.pc]) := J2.out
      have J3d := hid J3.out.drew
      obtain ⟨bz, HBZ⟩ : ∃ bz, Hid (b8 z = bz) := ⟨_, rfl⟩
      rw [HBZ.out] at hixj R5
      have r4 : ¬ s = 0 := by omega
      have HJ5 : Hid (Has w5 w.heap.size 33 #[.int .i64 x.dO, kS x.p, kS x.q, kS T, .int .i64 L, .int .i64 x.time, .slice x.pA x.ks.length x.pc]) := J2d.out.kept B5.out (by omega)
      have HB5 : Hid (Below w.heap.size w w5) := J3d.out.trans (B5.out.mono (by omega))
      have S3 : Hid (wr.drew.heap.size = wr.heap.size) := rfl
      clear hr5 hf5 hb5 hnx B5
      go_wp2
      refine wp_region_noPanic ?_
      refine wp_region_held_drew (S := fun W => W.cell? ⟨w.heap.size, 3, none⟩ = some (kS T)) (by kernel_rfl) (J2d.out.at_ 3) (fun hS => ?_)
      generalize wr.drew = w3 at *
      refine wpAnyH_take (i := 0) (v := ?_) (by simp only [List.getElem?_toArray, List.getElem?_cons_zero]; rfl) (by kernel_rfl) (by kernel_rfl) (by kernel_rfl) (fun _ _ _ h => h) (Or.inl ⟨by rfl, ?_⟩) (by assumption) ?_
      rotate_left 1
      · intro w hSw
        go_simp
        try with_reducible rfl
      simp only [Act.put, List.setIfInBounds_toArray, List.set_cons_zero, List.set_cons_succ]
      refine wpAnyH_take (i := 1) (v := ?_) (by simp only [List.getElem?_toArray, List.getElem?_cons_zero, List.getElem?_cons_succ]; rfl) (by kernel_rfl) (by kernel_rfl) (by kernel_rfl) (fun _ _ _ h => h) (Or.inl ⟨by rfl, ?_⟩) (by assumption) ?_
      rotate_left 1
      · intro w hSw
        go_simp
        try with_reducible rfl
      simp only [Act.put, List.setIfInBounds_toArray, List.set_cons_zero, List.set_cons_succ]
      refine wpAnyH_take (i := 2) (v := ?_) (by simp only [List.getElem?_toArray, List.getElem?_cons_zero, List.getElem?_cons_succ]; rfl) (by kernel_rfl) (by kernel_rfl) (by kernel_rfl) (fun _ _ _ h => h) (Or.inl ⟨by rfl, ?_⟩) (by assumption) ?_
      rotate_left 1
      · intro w hSw
        go_simp
        try with_reducible rfl
      simp only [Act.put, List.setIfInBounds_toArray, List.set_cons_zero, List.set_cons_succ]
      refine wpAnyH_take (i := 3) (v := ?_) (by simp only [List.getElem?_toArray, List.getElem?_cons_zero, List.getElem?_cons_succ]; rfl) (by kernel_rfl) (by kernel_rfl) (by kernel_rfl) (fun _ _ _ h => h) (Or.inl ⟨by rfl, ?_⟩) (by assumption) ?_
      rotate_left 1
      · intro w hSw
        go_simp
        try with_reducible rfl
      simp only [Act.put, List.setIfInBounds_toArray, List.set_cons_zero, List.set_cons_succ]
      refine wpAnyH_take (i := 4) (v := ?_) (by simp only [List.getElem?_toArray, List.getElem?_cons_zero, List.getElem?_cons_succ]; rfl) (by kernel_rfl) (by kernel_rfl) (by kernel_rfl) (fun _ _ _ h => h) (Or.inl ⟨by rfl, ?_⟩) (by assumption) ?_
      rotate_left 1
      · intro w hSw
        go_simp
        try with_reducible rfl
      simp only [Act.put, List.setIfInBounds_toArray, List.set_cons_zero, List.set_cons_succ]
      refine wpAnyH_take (i := 5) (v := ?_) (by simp only [List.getElem?_toArray, List.getElem?_cons_zero, List.getElem?_cons_succ]; rfl) (by kernel_rfl) (by kernel_rfl) (by kernel_rfl) (fun _ _ _ h => h) (Or.inl ⟨by rfl, ?_⟩) (by assumption) ?_
      rotate_left 1
      · intro w hSw
        go_simp
        try with_reducible rfl
      simp only [Act.put, List.setIfInBounds_toArray, List.set_cons_zero, List.set_cons_succ]
      refine wpAnyH_take (i := 6) (v := ?_) (by simp only [List.getElem?_toArray, List.getElem?_cons_zero, List.getElem?_cons_succ]; rfl) (by kernel_rfl) (by kernel_rfl) (by kernel_rfl) (fun _ _ _ h => h) (Or.inl ⟨by rfl, ?_⟩) (by assumption) ?_
      rotate_left 1
      · intro w hSw
        go_simp
        try with_reducible rfl
      simp only [Act.put, List.setIfInBounds_toArray, List.set_cons_zero, List.set_cons_succ]
      refine wpAnyH_take (i := 7) (v := ?_) (by simp only [List.getElem?_toArray, List.getElem?_cons_zero, List.getElem?_cons_succ]; rfl) (by kernel_rfl) (by kernel_rfl) (by kernel_rfl) (fun _ _ _ h => h) (Or.inl ⟨by rfl, ?_⟩) (by assumption) ?_
      rotate_left 1
      · intro w hSw
        go_simp
        try with_reducible rfl
      simp only [Act.put, List.setIfInBounds_toArray, List.set_cons_zero, List.set_cons_succ]
      refine wpAnyH_take (i := 8) (v := ?_) (by simp only [List.getElem?_toArray, List.getElem?_cons_zero, List.getElem?_cons_succ]; rfl) (by kernel_rfl) (by kernel_rfl) (by kernel_rfl) (fun _ _ _ h => h) (Or.inl ⟨by rfl, ?_⟩) (by assumption) ?_
      rotate_left 1
      · intro w hSw
        go_simp
        try with_reducible rfl
      simp only [Act.put, List.setIfInBounds_toArray, List.set_cons_zero, List.set_cons_succ]
      refine wpAnyH_ready (rs := [9]) (by kernel_rfl) (by simp) ?_
      refine AllReadyH.cons (by simp only [List.getElem?_toArray, List.getElem?_cons_zero, List.getElem?_cons_succ]; rfl) (fun K hK => ?_) (AllReadyH.nil)
      go_simp
      refine hK.out _ _ (((Below.refl _ _).alloc (Nat.le_refl _) _).cell (p := ⟨w.heap.size, 3, none⟩) J2d.out.inside |>.trans (J2d.out.at_ 3)) (fun hS => ?_)
      clear hK K
      refine wpAnyH_ready (rs := [10]) (by kernel_rfl) (by simp) ?_
      refine AllReadyH.cons (by simp only [List.getElem?_toArray, List.getElem?_cons_zero, List.getElem?_cons_succ]; rfl) (fun K hK => ?_) (AllReadyH.nil)
      refine step_append_run (by rfl) (.tmp 21) (.tmp 30) 31 31 rfl u3 (.slice (some ⟨w3.heap.size, 0, none⟩) 1 1) rfl rfl R5.out ?_
      refine hK.out _ _ (HJ5.out.at_ 3) (fun hS => ?_)
      clear hK K
      refine wpAnyH_take (i := 11) (v := ?_) (by simp only [List.getElem?_toArray, List.getElem?_cons_zero, List.getElem?_cons_succ]; rfl) (by kernel_rfl) (by kernel_rfl) (by kernel_rfl) (fun _ _ _ h => h) (Or.inl ⟨by rfl, ?_⟩) (by assumption) ?_
      rotate_left 1
      · intro w hSw
        go_simp
        try with_reducible rfl
      simp only [Act.put, List.setIfInBounds_toArray, List.set_cons_zero, List.set_cons_succ]
      refine wpAnyH_done (by kernel_rfl) ?_ _
      refine NoPanic.normal ?_
      go_wp2
      go_roundw
      case rel => exact ⟨k + 1, by omega, by go_num, F5.out, HJ5.out, HB5.out⟩
      case measure => simp [intOf]; omega
    · obtain rfl : k = m := by omega
      have hend : ¬ (k : Int) < L ∨ ((k : Int) < L ∧ ¬ (k : Int) < 3000) ∨ ((k : Int) < L ∧ (k : Int) < 3000 ∧ ¬ (0 : Int) < (s : Int)) := by split at hmL <;> omega
      have hsz0 : 0 < wr.heap.size := Nat.lt_of_lt_of_le HPOS.out J3.out.size
      obtain ⟨A6, c6, b6, hy6, _⟩ := own_bytes rfl hsz0 J1.out
      have hcv := conv_back hy6
      have hfm := hy6.form
      rw [hfm] at hcv
      rw [hfm]
      have HCV := hid hcv
      have hcv2 := hcv
      clear hmL hy6 hfm hcv
      rcases hend with h1 | ⟨h0, h1⟩ | ⟨h0, h1, h2⟩
      · go_wp2
        go_ret
        exact ⟨by rw [HV.out]; rfl, J3.out⟩
      · go_wp2
        go_ret
        exact ⟨by rw [HV.out]; rfl, J3.out⟩
      · go_wp2
        go_ret
        exact ⟨by rw [HV.out]; rfl, J3.out⟩
theorem yields_loadA {ops : Array Oper} {S : World → Prop} {o : Oper} {a : Act} (hw : Region.wanted o (yielded ops a.tmps) = true) (ty : TypeId) (x : Operand) (ho : o.op = .load ty x) (g off : Nat) (hx : a.eval x = .pointer (some ⟨g, off, none⟩)) (cs : Array Value)
    (hS : ∀ w, S w → (loadVar ty ⟨g, off, none⟩).run Tryz.prog w = .ok (.agg cs) w) : YieldsIf Tryz.prog ops S o (.agg cs) a :=
  .inl ⟨hw, fun w hw' => by
    unfold execOp
    simp only [ho, hx, Instr.loadAt, Instr.sureAddr, Sem.run_bind, Sem.run_pure, Result.andThen_ok, hS w hw']⟩
theorem used_take {L : Tr} {k : Nat} (hk : k < L.length) : usedL (L.take (k + 1)) = usedL (L.take k) + useN L[k].2 := by
  induction L generalizing k with
  | nil => simp at hk
  | cons x L ih =>
    obtain ⟨p, n⟩ := x
    cases k with
    | zero => simp [usedL]
    | succ k =>
      have := ih (k := k) (by simpa using hk)
      simp only [List.take_succ_cons, usedL, List.getElem_cons_succ, this]; omega
theorem used_take_le (L : Tr) (k : Nat) : usedL (L.take k) ≤ usedL L := by
  induction L generalizing k with
  | nil => simp [usedL]
  | cons x L ih =>
    obtain ⟨p, n⟩ := x
    cases k with
    | zero => simp [usedL]
    | succ k => have := ih k; simp only [List.take_succ_cons, usedL]; omega
end Go.Proofs.YtlbeemlnbpchgaaGreat
