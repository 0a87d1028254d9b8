/- Parts of bytes that come in; bytes appended; two states side by side. No conditions but the ones said. -/
import Derived.Test.YtmdlahmcdgkhkaaDoorZ
import Derived.Maps.AppendAt
import Derived.Deep.Matrix
namespace Go.Proofs.YtmdlahmcdgkhkaaDoor
open Go.RowKit
/-- The value is a slice over just these bytes. -/
structure Bytes (w : World) (v : Value) (xs : List UInt8) (A : Option Addr) (cap bb off : Nat) : Prop where
  form : v = .slice A xs.length cap
  le : xs.length ≤ cap
  zero : A = none → cap = 0
  at_ : ∀ a, A = some a → ∀ j, j < xs.length → w.cell? (a.add j) = some (V8 (at8 xs j))
  blk : bb < w.heap.size
  src : 0 < xs.length → A = some ⟨bb, off, none⟩
theorem Bytes.cells {w : World} {v : Value} {xs : List UInt8} {A : Option Addr} {cap bb off : Nat} (h : Bytes w v xs A cap bb off) (j : Nat) (hj : j < xs.length) : w.cell? ⟨bb, off + j, none⟩ = some (V8 (at8 xs j)) := by
  have e := h.at_ _ (h.src (by omega)) j hj
  have : (⟨bb, off, none⟩ : Addr).add j = ⟨bb, off + j, none⟩ := by unfold Addr.add; split <;> simp_all
  rwa [this] at e
theorem Bytes.kept {w w' : World} {B : Nat} {v : Value} {xs : List UInt8} {A : Option Addr} {cap bb off : Nat} (h : Bytes w v xs A cap bb off) (hb : Below B w w') (hB : w.heap.size ≤ B) : Bytes w' v xs A cap bb off :=
  ⟨h.form, h.le, h.zero, fun a ha j hj => by
    have e := h.at_ a ha j hj
    exact (hb.cell (Nat.lt_of_lt_of_le (block_lt_of_cell e) hB)).trans e, Nat.lt_of_lt_of_le h.blk hb.size, h.src⟩
theorem V8_one (xs : List UInt8) : ∀ u ∈ xs.map V8, u.oneCell' = true := by
  intro u hu
  obtain ⟨x, _, rfl⟩ := List.mem_map.1 hu
  rfl
theorem map_get {xs : List UInt8} {j : Nat} {u : Value} (h : (xs.map V8)[j]? = some u) : j < xs.length ∧ u = V8 (at8 xs j) := by
  have hj : j < xs.length := by
    have := (List.getElem?_eq_some_iff.1 h).1
    simpa using this
  refine ⟨hj, ?_⟩
  rw [List.getElem?_map, List.getElem?_eq_getElem hj] at h
  simp at h
  rw [← h, at8, List.getD, List.getElem?_eq_getElem hj]; rfl
/-- Bytes appended to a row that the call owns. -/
theorem append_bytes (w : World) (B : Nat) (v : Value) (n : Nat) (xs : List Value) (hown : w.ownsRow B 5 1 v n xs) {src : Value} {ys : List UInt8} {A : Option Addr} {cap bb off : Nat} (hs : Bytes w src ys A cap bb off)
    (hn : n + ys.length ≤ 1000000) (hB : B ≤ w.heap.size) :
    ∃ v' w', (Builtin.append_ #[22, 22] 22 #[v, src]).run Tryd.prog w = .ok v' w' ∧ w'.ownsRow B 5 1 v' (n + ys.length) (xs ++ ys.map V8) ∧ w.grownBy w' v.ownBlock ∧
      (v' = .slice none 0 0 ↔ v = .slice none 0 0 ∧ ys.length = 0) ∧ (v'.ownBlock = v.ownBlock ∨ v'.ownBlock = some w.heap.size) := by
  obtain ⟨i0, hi, hz0, hz1, hz2⟩ := info_parts info5
  cases A with
  | none =>
    have hc := hs.zero rfl
    have hl := hs.le
    have h0 : ys.length = 0 := by omega
    have hy : ys = [] := List.eq_nil_of_length_eq_zero h0
    have e := hs.form
    rw [hc, h0] at e
    rw [e]
    refine ⟨v, w, run_append_owned_none (P := Tryd.prog) w B 22 22 5 i0 1 Tryd.underlying22 hi v n xs hown, ?_, ⟨rfl, rfl, rfl, Nat.le_refl _, fun _ _ _ => rfl⟩, by simp [h0], .inl rfl⟩
    rw [h0, hy]; simpa using hown
  | some a =>
    rw [hs.form]
    exact run_append_own_at (P := Tryd.prog) w B 22 22 5 i0 (.int .u8 0) 1 1 Tryd.underlying22 hi hz0 hz1 hz2 rfl (by omega) v n xs hown a ys.length cap (ys.map V8) (by simp)
      (fun j u hj => by obtain ⟨h1, rfl⟩ := map_get hj; exact hs.at_ a rfl j h1) (V8_one ys) (by unfold maxLen; omega) (by omega) hB
/-- A fresh copy. -/
theorem own_append (w : World) {src : Value} {ys : List UInt8} {A : Option Addr} {cap bb off : Nat} (hs : Bytes w src ys A cap bb off) (hn : ys.length ≤ 100000) :
    ∃ g c w', (Builtin.append_ #[22, 22] 22 #[.slice (some ⟨w.heap.size, 0, none⟩) 0 0, src]).run Tryd.prog (w.alloc (.cells #[] 5)) = .ok (.slice (some ⟨g, 0, none⟩) ys.length c) w' ∧
      w'.ownsRow w.heap.size 5 1 (.slice (some ⟨g, 0, none⟩) ys.length c) ys.length (ys.map V8) ∧ Below w.heap.size w w' ∧ w.heap.size ≤ g ∧ g < w'.heap.size := by
  have h0 : (w.alloc (.cells #[] 5)).ownsRow w.heap.size 5 1 (.slice (some ⟨w.heap.size, 0, none⟩) 0 0) 0 [] := World.ownsRow_made w #[] 0 (Nat.le_refl _) (by unfold maxLen; omega) rfl
  have hb0 : Below w.heap.size w (w.alloc (.cells #[] 5)) := (Below.refl _ _).alloc (Nat.le_refl _) _
  obtain ⟨v', w', hr, ho, hg, hnil, hblk⟩ := append_bytes _ _ _ _ _ h0 (hs.kept hb0 (Nat.le_refl _)) (by omega) (by simp)
  have hne : v' ≠ .slice none 0 0 := fun e => by have := (hnil.1 e).1; simp at this
  rw [Nat.zero_add, List.nil_append] at ho
  rcases ho.2 with ⟨h1, _⟩ | ⟨g, c, cur, rfl, hbg, hgg, _⟩
  · exact (hne h1).elim
  · refine ⟨g, c, w', hr, ho, hb0.grown hg (by simp) (fun k hk => by simp [Value.ownBlock] at hk; omega), hbg, (Array.getElem?_eq_some_iff.1 hgg).1⟩
/-- At the list of a plain region's operations. -/
theorem wpList_append_run {P : Program} {ops : Array Oper} {rest : List Oper} {o : Oper} {a : Act} {w : World} {Q : Exit → Act → World → Prop} (hgd : o.guard = none) (s x : Operand) (t : TypeId)
    (ho : o.op = .call { callee := .builtin .append, args := #[s, x], argTypes := #[t, t] })
    (h : ∃ v' w', (Builtin.append_ #[t, t] o.type #[a.eval s, a.eval x]).run P w = .ok v' w' ∧ wpList P ops Q rest (a.put o.dst v') w') : wpList P ops Q (o :: rest) a w :=
  wpList_plain hgd fun _ hK => by
    obtain ⟨v', w', hr, h⟩ := h
    unfold Oper.wp execOp
    simp only [ho, resolve, invoke, builtin, Sem.run_bind, Sem.run_pure, Result.andThen_ok, List.map_toArray, List.map_cons, List.map_nil, hr]
    exact hK _ _ h
/-- Two states and a row of the law's own. -/
structure PI (w0 w : World) (B g1 g2 : Nat) (ys1 ys2 xs : List UInt8) (v : Value) : Prop where
  below : Below w0.heap.size w0 w
  size : B ≤ w.heap.size
  lo1 : w0.heap.size ≤ g1
  lo2 : w0.heap.size ≤ g2
  hi1 : g1 < B
  hi2 : g2 < B
  ne : g1 ≠ g2
  pos : 0 < w0.heap.size
  s1 : Sta w g1 (feed newS ys1)
  s2 : Sta w g2 (feed newS ys2)
  own : w.ownsRow B 5 1 v xs.length (xs.map V8)
section
variable {w0 w w' : World} {B g1 g2 : Nat} {ys1 ys2 xs : List UInt8} {v : Value}
theorem PI.lo (h : Hid (PI w0 w B g1 g2 ys1 ys2 xs v)) : w0.heap.size ≤ B := Nat.le_trans h.out.lo1 (Nat.le_of_lt h.out.hi1)
/-- What leaves all old memory as it is. -/
theorem PI.step (h : Hid (PI w0 w B g1 g2 ys1 ys2 xs v)) (hb : Below w.heap.size w w') : Hid (PI w0 w' B g1 g2 ys1 ys2 xs v) := by
  have k := h.out
  have hs := k.size
  refine ⟨k.below.trans (hb.mono k.below.size), Nat.le_trans k.size hb.size, k.lo1, k.lo2, k.hi1, k.hi2, k.ne, k.pos, k.s1.kept hb (Nat.lt_of_lt_of_le k.hi1 hs), k.s2.kept hb (Nat.lt_of_lt_of_le k.hi2 hs), ?_⟩
  refine k.own.kept (row := none) ⟨hb.os, hb.tape, hb.output, hb.size, fun i hi _ => hb.block i hi⟩ ?_
  cases hv : v.ownBlock <;> simp
/-- What writes into a block apart from all three. -/
theorem PI.far (h : Hid (PI w0 w B g1 g2 ys1 ys2 xs v)) {g : Nat} (hg : Grw g w w') (hB : Hid (B ≤ g)) (hv : Hid (v.ownBlock ≠ some g)) : Hid (PI w0 w' B g1 g2 ys1 ys2 xs v) := by
  have k := h.out
  have hlo := PI.lo h
  have hB' := hB.out
  have h1 := k.hi1
  have h2 := k.hi2
  exact ⟨k.below.trans (below_of_grw hg (by omega) k.below.size), Nat.le_trans k.size hg.size, k.lo1, k.lo2, k.hi1, k.hi2, k.ne, k.pos, Has.grw k.s1 hg (by omega), Has.grw k.s2 hg (by omega), k.own.kept hg (.inr hv.out)⟩
theorem PI.write1 (h : Hid (PI w0 w B g1 g2 ys1 ys2 xs v)) {zs : List UInt8} (hs : Sta w' g1 (feed (feed newS ys1) zs)) (hg : Grw g1 w w') : Hid (PI w0 w' B g1 g2 (ys1 ++ zs) ys2 xs v) := by
  have k := h.out
  have hne := k.ne
  refine ⟨k.below.trans (below_of_grw hg k.lo1 k.below.size), Nat.le_trans k.size hg.size, k.lo1, k.lo2, k.hi1, k.hi2, k.ne, k.pos, by rw [feed_append]; exact hs, Has.grw k.s2 hg (Ne.symm hne), k.own.kept hg (.inr fun e => ?_)⟩
  have := k.own.lt _ e
  have := k.hi1
  omega
theorem PI.write2 (h : Hid (PI w0 w B g1 g2 ys1 ys2 xs v)) {zs : List UInt8} (hs : Sta w' g2 (feed (feed newS ys2) zs)) (hg : Grw g2 w w') : Hid (PI w0 w' B g1 g2 ys1 (ys2 ++ zs) xs v) := by
  have k := h.out
  have hne := k.ne
  refine ⟨k.below.trans (below_of_grw hg k.lo2 k.below.size), Nat.le_trans k.size hg.size, k.lo1, k.lo2, k.hi1, k.hi2, k.ne, k.pos, Has.grw k.s1 hg hne, by rw [feed_append]; exact hs, k.own.kept hg (.inr fun e => ?_)⟩
  have := k.own.lt _ e
  have := k.hi2
  omega
theorem PI.more (h : Hid (PI w0 w B g1 g2 ys1 ys2 xs v)) {zs : List UInt8} {v' : Value} (ho : w'.ownsRow B 5 1 v' (xs.length + zs.length) (xs.map V8 ++ zs.map V8)) (hg : w.grownBy w' v.ownBlock) : Hid (PI w0 w' B g1 g2 ys1 ys2 (xs ++ zs) v') := by
  have k := h.out
  have hlo := PI.lo h
  have h1 := k.hi1
  have h2 := k.hi2
  refine ⟨k.below.grown hg k.below.size (fun j hj => by have := k.own.lt j hj; omega), Nat.le_trans k.size hg.size, k.lo1, k.lo2, k.hi1, k.hi2, k.ne, k.pos,
    (hg.block g1 k.s1.inside (fun e => by have := k.own.lt g1 e.symm; omega)).trans k.s1, (hg.block g2 k.s2.inside (fun e => by have := k.own.lt g2 e.symm; omega)).trans k.s2, ?_⟩
  rw [List.length_append, List.map_append]; exact ho
theorem PI.tab (h : Hid (PI w0 w B g1 g2 ys1 ys2 xs v)) (hT : Hid (Tab w0)) : Tab w := hT.out.kept h.out.below h.out.pos
theorem PI.vform (h : Hid (PI w0 w B g1 g2 ys1 ys2 xs v)) : ∃ A c, v = .slice A xs.length c := by
  rcases h.out.own.2 with ⟨h1, h2⟩ | ⟨g, c, cur, h1, _⟩
  · exact ⟨none, 0, by rw [h1, h2]⟩
  · exact ⟨_, _, h1⟩
/-- The sum of the row. -/
theorem PI.sum (h : Hid (PI w0 w B g1 g2 ys1 ys2 xs v)) (hT : Hid (Tab w0)) (hn : xs.length ≤ 100000) : Calls Tryd.prog 9 #[v] w fun e w' => e = .returned (.agg (bvec (shaL xs))) ∧ Below w.heap.size w w' := by
  have k := h.out
  have hp := Nat.lt_of_lt_of_le k.pos k.below.size
  rcases k.own.2 with ⟨h1, h2⟩ | ⟨g, c, cur, h1, _, hg, hc, _⟩
  · rw [h1]
    exact sum_any 0 0 0 0 none xs w (PI.tab h hT) hp h2 (Nat.le_refl _) (by omega) (fun j hj => by omega) (fun h => by omega)
  · have hown := k.own
    rw [h1] at hown ⊢
    refine sum_any g 0 xs.length c _ xs w (PI.tab h hT) (Array.getElem?_eq_some_iff.1 hg).1 rfl hc (by omega) (fun j hj => ?_) (fun _ => rfl)
    rw [Nat.zero_add, hown.cellAt j (by omega), List.getElem?_map, List.getElem?_eq_getElem hj, at8, List.getD, List.getElem?_eq_getElem hj]; rfl
theorem feed_big (ys : List UInt8) (h : ys.length ≤ 100000) : (feed newS ys).n ≤ 1099511627776 := by rw [feed_n]; show 0 + _ ≤ _; omega
theorem PI.ssum1 (h : Hid (PI w0 w B g1 g2 ys1 ys2 xs v)) (hT : Hid (Tab w0)) (hn : ys1.length ≤ 100000) : Calls Tryd.prog 19 #[.pointer (some ⟨g1, 0, none⟩)] w fun e w' => e = .returned (.agg (bvec (shaL ys1))) ∧ Below w.heap.size w w' :=
  ssum_any g1 (feed newS ys1) w (feed_ok _ _ newS_ok) h.out.s1 (feed_big _ hn) (PI.tab h hT)
theorem PI.ssum2 (h : Hid (PI w0 w B g1 g2 ys1 ys2 xs v)) (hT : Hid (Tab w0)) (hn : ys2.length ≤ 100000) : Calls Tryd.prog 19 #[.pointer (some ⟨g2, 0, none⟩)] w fun e w' => e = .returned (.agg (bvec (shaL ys2))) ∧ Below w.heap.size w w' :=
  ssum_any g2 (feed newS ys2) w (feed_ok _ _ newS_ok) h.out.s2 (feed_big _ hn) (PI.tab h hT)
theorem PI.len1 (h : Hid (PI w0 w B g1 g2 ys1 ys2 xs v)) (n : Nat) (hn : ys1.length = n) : Calls Tryd.prog 18 #[.pointer (some ⟨g1, 0, none⟩)] w fun e w' => e = .returned (.int .i64 (n : Int)) ∧ w = w' := by
  have := len_any g1 (feed newS ys1) (feed_ok _ _ newS_ok) w h.out.s1
  rw [feed_n, hn] at this
  rwa [show newS.n + n = n from Nat.zero_add n] at this
theorem PI.len2 (h : Hid (PI w0 w B g1 g2 ys1 ys2 xs v)) (n : Nat) (hn : ys2.length = n) : Calls Tryd.prog 18 #[.pointer (some ⟨g2, 0, none⟩)] w fun e w' => e = .returned (.int .i64 (n : Int)) ∧ w = w' := by
  have := len_any g2 (feed newS ys2) (feed_ok _ _ newS_ok) w h.out.s2
  rw [feed_n, hn] at this
  rwa [show newS.n + n = n from Nat.zero_add n] at this
theorem PI.w1 (h : Hid (PI w0 w B g1 g2 ys1 ys2 xs v)) (hT : Hid (Tab w0)) {g c m : Nat} {zs : List UInt8} (ho : Hid (w.ownsRow B 5 1 (.slice (some ⟨g, 0, none⟩) m c) m (zs.map V8))) (hn : Hid (ys1.length + m ≤ 100000)) (hm : Hid (zs.length = m)) :
    Calls Tryd.prog 17 #[.pointer (some ⟨g1, 0, none⟩), .slice (some ⟨g, 0, none⟩) m c] w fun e w' => e = .returned (.int .i64 0) ∧ Hid (PI w0 w' B g1 g2 (ys1 ++ zs) ys2 xs v) ∧ Grw g1 w w' := by
  have k := h.out
  have h1 := k.hi1
  have hlo := k.lo1
  have hp := k.pos
  have hg := ho.out.lt g rfl
  have hn' := hn.out
  rcases ho.out.2 with ⟨e, _⟩ | ⟨_, _, _, e, _, _, hc, _⟩
  · simp at e
  · simp only [Value.slice.injEq, Option.some.injEq, Addr.mk.injEq, and_true, true_and] at e
    obtain ⟨rfl, rfl⟩ := e
    refine (write_any g1 (feed newS ys1) g 0 m c _ zs w (feed_ok _ _ newS_ok) k.s1 (by omega) (PI.tab h hT) hm.out hc (by rw [feed_n]; show 0 + _ + _ ≤ _; omega) (fun j hj => ?_) (by omega) (fun _ => rfl)).mono fun e w' ⟨a, b, c⟩ => ⟨a, PI.write1 h b c, c⟩
    have hj2 : j < zs.length := by rw [hm.out]; exact hj
    rw [Nat.zero_add, ho.out.cellAt j (by omega), List.getElem?_map, List.getElem?_eq_getElem hj2, at8, List.getD, List.getElem?_eq_getElem hj2]; rfl
theorem PI.w2 (h : Hid (PI w0 w B g1 g2 ys1 ys2 xs v)) (hT : Hid (Tab w0)) {g c m : Nat} {zs : List UInt8} (ho : Hid (w.ownsRow B 5 1 (.slice (some ⟨g, 0, none⟩) m c) m (zs.map V8))) (hn : Hid (ys2.length + m ≤ 100000)) (hm : Hid (zs.length = m)) :
    Calls Tryd.prog 17 #[.pointer (some ⟨g2, 0, none⟩), .slice (some ⟨g, 0, none⟩) m c] w fun e w' => e = .returned (.int .i64 0) ∧ Hid (PI w0 w' B g1 g2 ys1 (ys2 ++ zs) xs v) ∧ Grw g2 w w' := by
  have k := h.out
  have h1 := k.hi2
  have hlo := k.lo2
  have hp := k.pos
  have hg := ho.out.lt g rfl
  have hn' := hn.out
  rcases ho.out.2 with ⟨e, _⟩ | ⟨_, _, _, e, _, _, hc, _⟩
  · simp at e
  · simp only [Value.slice.injEq, Option.some.injEq, Addr.mk.injEq, and_true, true_and] at e
    obtain ⟨rfl, rfl⟩ := e
    refine (write_any g2 (feed newS ys2) g 0 m c _ zs w (feed_ok _ _ newS_ok) k.s2 (by omega) (PI.tab h hT) hm.out hc (by rw [feed_n]; show 0 + _ + _ ≤ _; omega) (fun j hj => ?_) (by omega) (fun _ => rfl)).mono fun e w' ⟨a, b, c⟩ => ⟨a, PI.write2 h b c, c⟩
    have hj2 : j < zs.length := by rw [hm.out]; exact hj
    rw [Nat.zero_add, ho.out.cellAt j (by omega), List.getElem?_map, List.getElem?_eq_getElem hj2, at8, List.getD, List.getElem?_eq_getElem hj2]; rfl
end
end Go.Proofs.YtmdlahmcdgkhkaaDoor
