/- Acts: a row of acts as a walk reads it; what each does to a disk; data. Conditions: acts whose numbers and texts fit. -/
import Derived.Test.YtlbeemlnbpchgaaGreatXC
namespace Go.Proofs.YtlbeemlnbpchgaaGreat
open Go.RowKit Go.Maps
/-- What is done to a disk: which, two paths, a text, how long, a time, picks. -/
structure ActT where
  dO : Int
  p : By
  q : By
  text : By
  long : Int
  time : Int
  pA : Option Addr
  pc : Nat
  ks : List UInt8
  pg : Nat
  po : Nat
def act0 : ActT := ⟨0, [], [], [], 0, 0, none, 0, [], 0, 0⟩
structure ActOk (x : ActT) : Prop where
  d0 : -9223372036854775808 ≤ x.dO
  d1 : x.dO ≤ 9223372036854775807
  p : x.p.length ≤ 140737488351232
  q : x.q.length ≤ 140737488351232
  text : x.text.length ≤ 140737488351232
  l0 : -9223372036854775808 ≤ x.long
  l1 : x.long ≤ 9223372036854775807
  ks : x.ks.length ≤ maxLen
def actCells (x : ActT) : Array Value := #[.int .i64 x.dO, kS x.p, kS x.q, kS x.text, .int .i64 x.long, .int .i64 x.time, .slice x.pA x.ks.length x.pc]
/-- An act lies there. -/
structure ActAt (w : World) (bb o : Nat) (x : ActT) : Prop where
  c0 : w.cell? ⟨bb, o, none⟩ = some (.int .i64 x.dO)
  c1 : w.cell? ⟨bb, o + 1, none⟩ = some (kS x.p)
  c2 : w.cell? ⟨bb, o + 2, none⟩ = some (kS x.q)
  c3 : w.cell? ⟨bb, o + 3, none⟩ = some (kS x.text)
  c4 : w.cell? ⟨bb, o + 4, none⟩ = some (.int .i64 x.long)
  c5 : w.cell? ⟨bb, o + 5, none⟩ = some (.int .i64 x.time)
  c6 : w.cell? ⟨bb, o + 6, none⟩ = some (.slice x.pA x.ks.length x.pc)
  pk : Pk w x.pA x.ks x.pg x.po
theorem Pk.on {w w' : World} {A : Option Addr} {ks : List UInt8} {g off : Nat} (h : Pk w A ks g off) (hb : Below w.heap.size w w') : Pk w' A ks g off :=
  h.turn (own := fun _ => False) (Turn.of_below hb) (fun _ k => k)
theorem ActAt.on {w w' : World} {bb o : Nat} {x : ActT} (h : ActAt w bb o x) (hb : Below w.heap.size w w') : ActAt w' bb o x := by
  have k : bb < w.heap.size := block_lt_of_cell (a := ⟨bb, o, none⟩) h.c0
  exact ⟨(hb.cell (p := ⟨bb, o, none⟩) k).trans h.c0, (hb.cell (p := ⟨bb, o + 1, none⟩) k).trans h.c1, (hb.cell (p := ⟨bb, o + 2, none⟩) k).trans h.c2, (hb.cell (p := ⟨bb, o + 3, none⟩) k).trans h.c3,
    (hb.cell (p := ⟨bb, o + 4, none⟩) k).trans h.c4, (hb.cell (p := ⟨bb, o + 5, none⟩) k).trans h.c5, (hb.cell (p := ⟨bb, o + 6, none⟩) k).trans h.c6, h.pk.on hb⟩
set_option maxRecDepth 100000 in
theorem ActAt.load {w : World} {bb o : Nat} {x : ActT} (h : ActAt w bb o x) : (loadVar 33 ⟨bb, o, none⟩).run Tryz.prog w = .ok (.agg (actCells x)) w := by
  refine run_loadVar_mid (P := Tryz.prog) w bb o 33 (actCells x).toList _ (fun j u hj => ?_) Tryz.underlying33 rfl (by show _ = some 7; kernel_rfl)
  match j, hj with
  | 0, hj => obtain rfl := Option.some.inj hj; exact h.c0
  | 1, hj => obtain rfl := Option.some.inj hj; exact h.c1
  | 2, hj => obtain rfl := Option.some.inj hj; exact h.c2
  | 3, hj => obtain rfl := Option.some.inj hj; exact h.c3
  | 4, hj => obtain rfl := Option.some.inj hj; exact h.c4
  | 5, hj => obtain rfl := Option.some.inj hj; exact h.c5
  | 6, hj => obtain rfl := Option.some.inj hj; exact h.c6
  | j + 7, hj => simp [actCells] at hj
/-- A row of acts lies there. -/
structure ActsIn (w : World) (A : Option Addr) (n bb off : Nat) (xs : List ActT) : Prop where
  len : xs.length = n
  src : 0 < n → A = some ⟨bb, off, none⟩ ∧ bb < w.heap.size
  at_ : ∀ i, i < n → ActAt w bb (off + i * 7) (xs.getD i act0)
  ok : ∀ x ∈ xs, ActOk x
  low : ∀ x ∈ xs, 0 < x.ks.length → x.pg < w.heap.size
theorem ActsIn.on {w w' : World} {A : Option Addr} {n bb off : Nat} {xs : List ActT} (h : ActsIn w A n bb off xs) (hb : Below w.heap.size w w') : ActsIn w' A n bb off xs :=
  ⟨h.len, fun h0 => ⟨(h.src h0).1, Nat.lt_of_lt_of_le (h.src h0).2 hb.size⟩, fun i hi => (h.at_ i hi).on hb, h.ok, fun x hx h0 => Nat.lt_of_lt_of_le (h.low x hx h0) hb.size⟩
/-- An act that is small. -/
def smallB (x : ActT) : Bool := decide (x.p.length + x.q.length ≤ 1000) && decide (x.text.length ≤ 10000)
/-- How long its data are. -/
def dataN (x : ActT) : Nat := if x.text.length = 0 then 0 else min x.long.toNat 3000
def dataTo (x : ActT) (k : Nat) : By := (List.range k).map fun i => at8 x.text (i % x.text.length)
@[irreducible] def dataL (x : ActT) : By := dataTo x (dataN x)
theorem dataTo_len (x : ActT) (k : Nat) : (dataTo x k).length = k := by simp [dataTo]
theorem dataTo_next (x : ActT) (k : Nat) : dataTo x (k + 1) = dataTo x k ++ [at8 x.text (k % x.text.length)] := by simp [dataTo, List.range_succ]
theorem dataL_len (x : ActT) : (dataL x).length ≤ 3000 := by unfold dataL; rw [dataTo_len]; unfold dataN; split <;> omega
/-- Which it is. -/
def doK (x : ActT) : Int := bits .and .i64 x.dO 15
/-- The effect of an act, if it is one. -/
def effOf (x : ActT) : Option Eff :=
  if doK x = 1 then some (.write x.p (dataL x) x.time) else if doK x = 2 then some (.append x.p (dataL x)) else if doK x = 3 then some (.mkdir x.p) else if doK x = 4 then some (.link x.p (dataL x) x.time)
  else if doK x = 5 then some (.rename x.p x.q) else if doK x = 6 then some (.remove x.p) else none
def actM (M : Mo) (x : ActT) : Int × Mo :=
  match effOf x with
  | some y => doM M y
  | none => if doK x = 7 then (0, crashM M (nats x.ks)) else if doK x = 8 then fuseM M x.long else syncM M
def playM (M : Mo) (xs : List ActT) : Mo := xs.foldl (fun M x => (actM M x).2) M
theorem playM_snoc (M : Mo) (xs : List ActT) (x : ActT) : playM M (xs ++ [x]) = (actM (playM M xs) x).2 := by simp [playM, List.foldl_append]
theorem since_do (M : Mo) (y : Eff) : (doM M y).2.since.length ≤ M.since.length + 1 := by
  unfold doM; split
  · exact Nat.le_succ _
  · split
    · simp
    · exact Nat.le_succ _
theorem since_act (M : Mo) (x : ActT) : (actM M x).2.since.length ≤ M.since.length + 1 := by
  unfold actM
  split
  · exact since_do _ _
  · split
    · exact Nat.zero_le _
    · split
      · unfold fuseM; split
        · exact Nat.le_succ _
        · split <;> exact Nat.le_succ _
      · unfold syncM; split
        · exact Nat.le_succ _
        · exact Nat.zero_le _
theorem since_play (M : Mo) (xs : List ActT) : (playM M xs).since.length ≤ M.since.length + xs.length := by
  induction xs generalizing M with
  | nil => exact Nat.le_refl _
  | cons x xs ih =>
    have h1 := ih (actM M x).2
    have h2 := since_act M x
    show (playM (actM M x).2 xs).since.length ≤ _
    rw [List.length_cons]; omega
theorem room_do (M : Mo) (y : Eff) : (doM M y).2.room = M.room := by unfold doM; split; rfl; split <;> rfl
theorem room_act (M : Mo) (x : ActT) : (actM M x).2.room = M.room := by
  unfold actM
  split
  · exact room_do _ _
  · split
    · rfl
    · split
      · unfold fuseM; split; rfl; split <;> rfl
      · unfold syncM; split <;> rfl
theorem room_play (M : Mo) (xs : List ActT) : (playM M xs).room = M.room := by
  induction xs generalizing M with
  | nil => rfl
  | cons x xs ih => exact (ih _).trans (room_act M x)
end Go.Proofs.YtlbeemlnbpchgaaGreat
