/- The document's digest: what its rounds keep. Facts on worlds. -/
import Derived.Test.YtoeomghebgbniaaDoorZK
namespace Go.Proofs.YtoeomghebgbniaaDoor.Sha
open Go.RowKit
/-- What the rounds keep: the state's row, the roots' row, the result's block, the padded bytes, all old memory. -/
structure Env (w : World) (g4 g5 gp : Nat) (st : List (BitVec 32)) (P : List UInt8) (wr : World) : Prop where
  st : Row wr g4 st
  k : Row wr g5 kList
  res : Has wr w.heap.size 34 zero32
  p : ∀ j, j < P.length → wr.cell? ⟨gp, j, none⟩ = some (V8 (at8 P j))
  pin : gp < wr.heap.size
  below : Below w.heap.size w wr
section
variable {w wr w' : World} {g4 g5 gp N : Nat} {st : List (BitVec 32)} {P : List UInt8}
theorem Env.step (h : Env w g4 g5 gp st P wr) (hb : Below wr.heap.size wr w') : Env w g4 g5 gp st P w' :=
  ⟨h.st.kept hb h.st.inside, h.k.kept hb h.k.inside, h.res.kept hb h.res.inside, fun j hj => (hb.cell (p := ⟨gp, j, none⟩) h.pin).trans (h.p j hj), Nat.lt_of_lt_of_le h.pin hb.size, h.below.trans (hb.mono h.below.size)⟩
theorem Env.put (h : Env w g4 g5 gp st P wr) (h4 : g4 ≠ N) (h5 : g5 ≠ N) (h0 : w.heap.size < N) (hp : gp ≠ N) (i : Nat) (v : Value) : Env w g4 g5 gp st P (wr.setCell ⟨N, i, none⟩ v) :=
  ⟨h.st.other (p := ⟨N, i, none⟩) h4 v, h.k.other (p := ⟨N, i, none⟩) h5 v, h.res.other (p := ⟨N, i, none⟩) (by show w.heap.size ≠ N; omega) v,
    fun j hj => (World.cell?_setCell_other wr ⟨N, i, none⟩ ⟨gp, j, none⟩ v (fun e => hp (by injection e; omega))).trans (h.p j hj), by simpa using h.pin, h.below.setCell (p := ⟨N, i, none⟩) (by show w.heap.size ≤ N; omega) v⟩
theorem Env.raise (h : Env w g4 g5 gp st P wr) (h5 : g5 ≠ g4) (h0 : w.heap.size < g4) (hp : gp ≠ g4) (i : Nat) (x : BitVec 32) : Env w g4 g5 gp (st.set i x) P (wr.setCell ⟨g4, i, none⟩ (.int .u32 (u x))) :=
  ⟨h.st.put i x, h.k.other (p := ⟨g4, i, none⟩) h5 _, h.res.other (p := ⟨g4, i, none⟩) (by show w.heap.size ≠ g4; omega) _,
    fun j hj => (World.cell?_setCell_other wr ⟨g4, i, none⟩ ⟨gp, j, none⟩ _ (fun e => hp (by injection e; omega))).trans (h.p j hj), by simpa using h.pin, h.below.setCell (p := ⟨g4, i, none⟩) (by show w.heap.size ≤ g4; omega) _⟩
theorem Env.drawn (h : Env w g4 g5 gp st P wr) (n : Nat) : Env w g4 g5 gp st P (wr.drewN n) :=
  ⟨h.st.drawn n, h.k.drawn n, h.res.drawn n, fun j hj => h.p j hj, h.pin, h.below.drewN' n⟩
theorem Env.more (h : Env w g4 g5 gp st P wr) (o : Obj) : Env w g4 g5 gp st P (wr.alloc o) := h.step ((Below.refl _ _).alloc (Nat.le_refl _) _)
theorem bytes_owned {w : World} {B L : Nat} {v : Value} {P : List UInt8} (h0 : 0 < L) (h : w.ownsRow B 5 1 v L (P.map V8)) : ∃ g c, v = .slice (some ⟨g, 0, none⟩) L c ∧ L ≤ c ∧ B ≤ g ∧ g < w.heap.size ∧ ∀ j, j < P.length → w.cell? ⟨g, j, none⟩ = some (V8 (at8 P j)) := by
  have hc := fun g hg => h.cells (g := g) hg
  have hl := fun g hg => h.lt g hg
  rcases h.2 with ⟨_, h2⟩ | ⟨g, cap, cur, rfl, _, _, h5, _⟩
  · omega
  · refine ⟨g, cap, rfl, h5, (hl g rfl).1, (hl g rfl).2, fun j hj => ?_⟩
    have := hc g rfl j (V8 (at8 P j)) (by rw [List.getElem?_map, List.getElem?_eq_getElem hj]; simp [at8, List.getD, List.getElem?_eq_getElem hj])
    have e : (⟨g, 0, none⟩ : Addr).add j = ⟨g, j, none⟩ := by unfold Addr.add; split <;> simp_all
    rwa [e] at this
/-- The like, ahead of the padded bytes. -/
structure Env0 (w : World) (g4 g5 : Nat) (wr : World) : Prop where
  st : Row wr g4 hList
  k : Row wr g5 kList
  res : Has wr w.heap.size 34 zero32
  below : Below w.heap.size w wr
theorem Env0.env (h : Env0 w g4 g5 wr) (hb : Below wr.heap.size wr w') (hp : gp < w'.heap.size) (hc : ∀ j, j < P.length → w'.cell? ⟨gp, j, none⟩ = some (V8 (at8 P j))) : Env w g4 g5 gp hList P w' :=
  ⟨h.st.kept hb h.st.inside, h.k.kept hb h.k.inside, h.res.kept hb h.res.inside, hc, hp, h.below.trans (hb.mono h.below.size)⟩
def w64 (p : List UInt8) : List (BitVec 32) := (List.range 64).map (wAt (words p 16))
theorem w64_len (p : List UInt8) : (w64 p).length = 64 := by simp [w64]
theorem w64_at (p : List UInt8) (k : Nat) (h : k < 64) : at32 (w64 p) k = wAt (words p 16) k := by simp [w64, at32, List.getD, h]
theorem w64_row (p : List UInt8) : wRow (words p 16) 64 = (w64 p).map V32 := by simp [wRow, w64, V32]
/-- One block of the padded bytes. -/
theorem blk_bytes (h : Env w g4 g5 gp st P wr) (q c : Nat) (hq : 64 * (q + 1) ≤ P.length) (hc : 64 ≤ c) : Bytes wr (.slice (some ⟨gp, 64 * q, none⟩) 64 c) (blk P q) (some ⟨gp, 64 * q, none⟩) c gp (64 * q) := by
  have hb := blk_len P q hq
  refine ⟨by rw [hb], by rw [hb]; exact hc, (fun h => by cases h), fun a ha j hj => ?_, h.pin, fun _ => rfl⟩
  cases ha
  rw [hb] at hj
  have e : (⟨gp, 64 * q, none⟩ : Addr).add j = ⟨gp, 64 * q + j, none⟩ := by unfold Addr.add; split <;> simp_all
  rw [e, h.p (64 * q + j) (by omega)]
  congr 2
  simp [at8, blk, List.getD, List.getElem?_drop, hj]
theorem run8_at (p : List UInt8) (s : S8) (k : Nat) (h : k < 64) : run8 (words p 16) s (k + 1) = stepS (run8 (words p 16) s k) (at32 kList k) (at32 (w64 p) k) := by
  rw [run8_word _ (words_len p 16), w64_at p k h]
end
def z8 : Array Value := #[.int .u32 0, .int .u32 0, .int .u32 0, .int .u32 0, .int .u32 0, .int .u32 0, .int .u32 0, .int .u32 0]
/-- What a block's rounds keep. -/
structure Env2 (w : World) (g4 g5 gp N g12 : Nat) (st : List (BitVec 32)) (P : List UInt8) (W : List (BitVec 32)) (v : List (BitVec 32)) (wr : World) : Prop where
  env : Env w g4 g5 gp st P wr
  row : Row wr g12 W
  v : Has wr N 59 (vec v)
theorem Env2.start {w w6 : World} {g4 g5 gp g12 : Nat} {st : List (BitVec 32)} {P : List UInt8} {W l : List (BitVec 32)} (h : Env w g4 g5 gp st P w6) (hr : Row w6 g12 W) (z : Array Value) (hz : z = z8) :
    ∃ W7, w6.alloc (.cells z 59) = W7 ∧ Env2 w g4 g5 gp w6.heap.size g12 st P W (copied l 0) W7 := by
  subst hz
  exact ⟨_, rfl, h.more _, hr.more _, Has.fresh w6 59 z8⟩
theorem Env2.apart {w w6 : World} {g4 g5 gp g12 : Nat} {st : List (BitVec 32)} {P : List UInt8} {W : List (BitVec 32)} (h : Env w g4 g5 gp st P w6) (hr : Row w6 g12 W) : g4 ≠ w6.heap.size ∧ g5 ≠ w6.heap.size ∧ w.heap.size < w6.heap.size ∧ gp ≠ w6.heap.size ∧ g12 ≠ w6.heap.size := by
  have h1 := h.st.inside; have h2 := h.k.inside; have h3 := h.res.inside; have h4 := h.pin; have h5 := hr.inside
  exact ⟨by omega, by omega, by omega, by omega, by omega⟩
theorem Env2.put {w wr : World} {g4 g5 gp N g12 : Nat} {st : List (BitVec 32)} {P : List UInt8} {W v : List (BitVec 32)} (h : Env2 w g4 g5 gp N g12 st P W v wr) (hd : g4 ≠ N ∧ g5 ≠ N ∧ w.heap.size < N ∧ gp ≠ N ∧ g12 ≠ N) (i : Nat) (x : BitVec 32) :
    Env2 w g4 g5 gp N g12 st P W (v.set i x) (wr.setCell ⟨N, i, none⟩ (.int .u32 (u x))) :=
  ⟨h.env.put hd.1 hd.2.1 hd.2.2.1 hd.2.2.2.1 i _, h.row.other (p := ⟨N, i, none⟩) hd.2.2.2.2 _, by rw [← vec_set]; exact h.v.put i _⟩
theorem Env2.drawn {w wr : World} {g4 g5 gp N g12 : Nat} {st : List (BitVec 32)} {P : List UInt8} {W v : List (BitVec 32)} (h : Env2 w g4 g5 gp N g12 st P W v wr) (n : Nat) : Env2 w g4 g5 gp N g12 st P W v (wr.drewN n) :=
  ⟨h.env.drawn n, h.row.drawn n, h.v.drawn n⟩
theorem Env2.raise {w wr : World} {g4 g5 gp N g12 : Nat} {st : List (BitVec 32)} {P : List UInt8} {W v : List (BitVec 32)} (h : Env2 w g4 g5 gp N g12 st P W v wr) (h5 : g5 ≠ g4) (h0 : w.heap.size < g4) (hp : gp ≠ g4) (h12 : g12 ≠ g4) (hN : N ≠ g4) (i : Nat) (x : BitVec 32) :
    Env2 w g4 g5 gp N g12 (st.set i x) P W v (wr.setCell ⟨g4, i, none⟩ (.int .u32 (u x))) :=
  ⟨h.env.raise h5 h0 hp i x, h.row.other (p := ⟨g4, i, none⟩) h12 _, h.v.other (p := ⟨g4, i, none⟩) hN _⟩
theorem last_box {w wr : World} {g4 g5 gp : Nat} {st : List (BitVec 32)} {P : List UInt8} (h : Env w g4 g5 gp st P wr) (z : Array Value) (hz : z = zero32) :
    ∃ N W, wr.heap.size = N ∧ wr.alloc (.cells z 34) = W ∧ Hid (Row W g4 st) ∧ Hid (Has W w.heap.size 34 zero32) ∧ Hid (Has W N 34 (bvec (digN st 0))) ∧ Hid (Below w.heap.size w W) ∧ Hid (g4 ≠ N ∧ w.heap.size < N) := by
  subst hz
  exact ⟨_, _, rfl, rfl, h.st.more _, h.res.more _, Has.fresh wr 34 zero32, h.below.alloc h.below.size _, by have := h.st.inside; omega, h.res.inside⟩
theorem add4 (a b c d : BitVec 32) : (u a + u b + u c + u d) % 4294967296 = u (a + b + c + d) := by rw [← Int.emod_add_emod, add3, add32]
theorem not32r (x : BitVec 32) : bits .xor .u32 (u x) 4294967295 = u (~~~x) := by
  have h : (4294967295 : Int) = u (BitVec.allOnes 32) := rfl
  rw [h, xor32, BitVec.xor_allOnes]
theorem sx_num2 (s : S8) (kk ww : BitVec 32) :
    (((u s.h + bits BinOp.xor IntKind.u32 (bits BinOp.xor IntKind.u32 (u (rotR s.e 6)) (u (rotR s.e 11))) (u (rotR s.e 25)) +
            bits BinOp.xor IntKind.u32 (bits BinOp.and IntKind.u32 (u s.e) (u s.f)) (bits BinOp.and IntKind.u32 (bits BinOp.xor IntKind.u32 (u s.e) 4294967295) (u s.g)) + u kk) % 4294967296 + u ww) % 4294967296) = u (sx s kk ww) := by
  simp only [xor32, and32, not32r, add4, add32]
  rfl
theorem turned_s (x : BitVec 32) (c : Int) (h : 1 ≤ c ∧ c ≤ 31) (w : World) :
    Calls Tryd.prog 48 #[.int .u32 (u x), .int .i64 c] w fun e w' => e = .returned (.int .u32 (u (rotR x c.toNat))) ∧ w' = w := by
  obtain ⟨n, rfl⟩ := Int.eq_ofNat_of_zero_le (a := c) (by omega)
  exact (turned_any x n (by omega) (by omega) w).mono fun _ _ ⟨h1, h2⟩ => ⟨h1, h2.symm⟩
end Go.Proofs.YtoeomghebgbniaaDoor.Sha
