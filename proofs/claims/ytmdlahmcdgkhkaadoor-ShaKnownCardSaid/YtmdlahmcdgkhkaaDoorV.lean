/- For the law ShaKnown: a state and a zero one side by side, kept from call to call. No conditions. -/
import Derived.Test.YtmdlahmcdgkhkaaDoorT
namespace Go.Proofs.YtmdlahmcdgkhkaaDoor
open Go.RowKit
/-- Old memory is as it was at w0, the table holds, block Z is a state that New did not make. -/
structure KI (w0 w : World) (Z : Nat) : Prop where
  below : Below w0.heap.size w0 w
  tab : Tab w
  pos : 0 < w0.heap.size
  le : w0.heap.size ≤ Z
  zero : w.cell? ⟨Z, 0, none⟩ = some (.bool false)
theorem KI.inside {w0 w : World} {Z : Nat} (h : KI w0 w Z) : Z < w.heap.size := block_lt_of_cell h.zero
theorem KI.step {w0 w w' : World} {Z : Nat} (h : Hid (KI w0 w Z)) (hb : Below w.heap.size w w') : Hid (KI w0 w' Z) :=
  ⟨h.out.below.trans (hb.mono h.out.below.size), h.out.tab.kept hb (Nat.lt_of_lt_of_le h.out.pos h.out.below.size), h.out.pos, h.out.le, (hb.cell (p := ⟨Z, 0, none⟩) h.out.inside).trans h.out.zero⟩
theorem KI.grw {w0 w w' : World} {Z g : Nat} (h : Hid (KI w0 w Z)) (hg : Grw g w w') (hn : Hid (g ≠ Z ∧ w0.heap.size ≤ g)) : Hid (KI w0 w' Z) := by
  have hb : Below w0.heap.size w w' := below_of_grw hg hn.out.2 h.out.below.size
  refine ⟨h.out.below.trans hb, h.out.tab.kept hb h.out.pos, h.out.pos, h.out.le, ?_⟩
  exact (World.cell?_of_block (a := ⟨Z, 0, none⟩) (hg.block Z h.out.inside (fun e => hn.out.1 (Option.some.inj e).symm))).trans h.out.zero
theorem Sta.kept {w w' : World} {g : Nat} {s : SS} (h : Hid (Sta w g s)) (hb : Below w.heap.size w w') : Hid (Sta w' g s) := Has.kept h.out hb (Has.inside h.out)
theorem tab_alloc {w : World} (h : Tab w) (o : Obj) : Tab (w.alloc o) := fun i hi => (World.cell?_alloc_lt w o ⟨0, i, none⟩ h.pos).trans (h i hi)
theorem lit_cells (w : World) (C : List UInt8) (fr : Nat × Nat) (j : Nat) (hj : j < C.length) : (w.alloc (.cells (bvec C) 5 fr)).cell? ⟨w.heap.size, 0 + j, none⟩ = some (.int .u8 (b8 (at8 C j))) := by
  rw [Nat.zero_add, cell_of_row _ w.heap.size j _ 5 fr (heap_alloc_new w _)]
  exact bvec_get C j hj
/-- Write of some bytes of the law's own. -/
theorem write_lit (g : Nat) (s s' : SS) (C : List UInt8) (n : Nat) (hn : C.length = n) (hs' : feed s C = s') (w : World) (fr : Nat × Nat) (hok : s.Ok) (hst : Hid (Sta w g s)) (hg0 : g ≠ 0) (hT : Tab w) (hb : s.n + n ≤ 1000) :
    Calls Tryd.prog 17 #[.pointer (some ⟨g, 0, none⟩), .slice (some ⟨w.heap.size, 0, none⟩) n n] (w.alloc (.cells (bvec C) 5 fr)) fun e w' => e = .returned (.int .i64 0) ∧ Hid (Sta w' g s') ∧ Grw g w w' :=
  (write_any g s w.heap.size 0 n n _ C _ hok (Has.more hst.out _) hg0 (tab_alloc hT _) hn (Nat.le_refl _) (by omega) (fun j hj => lit_cells w C fr j (by omega))
    (by have := Has.inside hst.out; omega) (fun _ => rfl)).mono fun _ _ ⟨h1, h2, h3⟩ => ⟨h1, hs' ▸ h2, (show Grw g w _ from World.grownBy_alloc w _ _).trans h3⟩
theorem write_zero_lit (g : Nat) (v : Value) (w : World) (o : Obj) (h : g < w.heap.size) (c0 : w.cell? ⟨g, 0, none⟩ = some (.bool false)) : Calls Tryd.prog 17 #[.pointer (some ⟨g, 0, none⟩), v] (w.alloc o) fun e w' => e = .returned (.int .i64 1) ∧ w.alloc o = w' :=
  write_zero g v _ ((World.cell?_alloc_lt w o ⟨g, 0, none⟩ h).trans c0)
theorem len_lit (g : Nat) (s : SS) (n : Nat) (hn : s.n = n) (hok : s.Ok) (w : World) (h : Hid (Sta w g s)) : Calls Tryd.prog 18 #[.pointer (some ⟨g, 0, none⟩)] w fun e w' => e = .returned (.int .i64 (n : Int)) ∧ w = w' := by
  rw [← hn]; exact len_any g s hok w h.out
theorem ssum_lit (g : Nat) (s : SS) (x : List UInt8) (hx : fin s = x) (w : World) (hok : s.Ok) (hst : Hid (Sta w g s)) (hn : s.n ≤ 1000) (hT : Tab w) :
    Calls Tryd.prog 19 #[.pointer (some ⟨g, 0, none⟩)] w fun e w' => e = .returned (.agg (bvec x)) ∧ Below w.heap.size w w' := by
  rw [← hx]; exact ssum_any g s w hok hst.out (by omega) hT
def s2 : SS := feed newS [97, 98]
def s3 : SS := feed newS [97, 98, 99]
theorem s2_ok : s2.Ok := feed_ok _ _ newS_ok
theorem s3_ok : s3.Ok := feed_ok _ _ newS_ok
theorem s2_n : s2.n = 2 := by rw [s2, feed_n]; rfl
theorem s3_n : s3.n = 3 := by rw [s3, feed_n]; rfl
theorem s3_of : feed s2 [99] = s3 := by rw [s2, s3, ← feed_append]; rfl
theorem s3_fin : fin s3 = hAbc := by rw [hAbc_eq]; rfl
theorem long_text : textL (shaL [97, 98, 99, 100, 98, 99, 100, 101, 99, 100, 101, 102, 100, 101, 102, 103, 101, 102, 103, 104, 102, 103, 104, 105, 103, 104, 105, 106, 104, 105, 106, 107, 105, 106, 107, 108, 106, 107, 108, 109, 107, 108, 109, 110, 108, 109, 110, 111, 109, 110, 111, 112, 110, 111, 112, 113]) = [50, 52, 56, 100, 54, 97, 54, 49, 100, 50, 48, 54, 51, 56, 98, 56, 101, 53, 99, 48, 50, 54, 57, 51, 48, 99, 51, 101, 54, 48, 51, 57, 97, 51, 51, 99, 101, 52, 53, 57, 54, 52, 102, 102, 50, 49, 54, 55, 102, 54, 101, 99, 101, 100, 100, 52, 49, 57, 100, 98, 48, 54, 99, 49] := by decide +kernel
theorem text_long (w : World) (hT : Tab w) : Calls Tryd.prog 15 #[.string ⟨#[97, 98, 99, 100, 98, 99, 100, 101, 99, 100, 101, 102, 100, 101, 102, 103, 101, 102, 103, 104, 102, 103, 104, 105, 103, 104, 105, 106, 104, 105, 106, 107, 105, 106, 107, 108, 106, 107, 108, 109, 107, 108, 109, 110, 108, 109, 110, 111, 109, 110, 111, 112, 110, 111, 112, 113]⟩] w fun e w' => e = .returned (.string ⟨#[50, 52, 56, 100, 54, 97, 54, 49, 100, 50, 48, 54, 51, 56, 98, 56, 101, 53, 99, 48, 50, 54, 57, 51, 48, 99, 51, 101, 54, 48, 51, 57, 97, 51, 51, 99, 101, 52, 53, 57, 54, 52, 102, 102, 50, 49, 54, 55, 102, 54, 101, 99, 101, 100, 100, 52, 49, 57, 100, 98, 48, 54, 99, 49]⟩) ∧ Below w.heap.size w w' :=
  text_of ⟨#[97, 98, 99, 100, 98, 99, 100, 101, 99, 100, 101, 102, 100, 101, 102, 103, 101, 102, 103, 104, 102, 103, 104, 105, 103, 104, 105, 106, 104, 105, 106, 107, 105, 106, 107, 108, 106, 107, 108, 109, 107, 108, 109, 110, 108, 109, 110, 111, 109, 110, 111, 112, 110, 111, 112, 113]⟩ _ _ rfl (by simp) long_text w hT
theorem lay_zero (w0 w w1 : World) (hb0 : Below w0.heap.size w0 w) (hb : Below w.heap.size w w1) (x : Array Value) : ∃ W2, (w1.alloc (.cells zero32 25)).setRow w1.heap.size x = W2 ∧ Hid (Below w0.heap.size w0 W2) :=
  ⟨_, rfl, ((((hb0.trans (hb.mono hb0.size)).alloc (hb0.trans (hb.mono hb0.size)).size _).rowK (hb0.trans (hb.mono hb0.size)).size _))⟩
theorem ki_start (w0 w : World) (hT : Tab w0) (hb : Hid (Below w0.heap.size w0 w)) : Hid (KI w0 (w.alloc (.cells ((Tryd.prog.built 37 []).getD #[]) 37)) w.heap.size) := by
  have hz : (Tryd.prog.built 37 []).getD #[] = zeroS := by kernel_rfl
  refine ⟨hb.out.alloc hb.out.size _, hT.kept (hb.out.alloc hb.out.size _) hT.pos, hT.pos, hb.out.size, ?_⟩
  rw [cell_of_row _ w.heap.size 0 _ 37 (0, 0) (heap_alloc_new w _), hz]; rfl
end Go.Proofs.YtmdlahmcdgkhkaaDoor
