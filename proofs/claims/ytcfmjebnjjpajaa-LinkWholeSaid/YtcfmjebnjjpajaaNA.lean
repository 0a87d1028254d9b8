/- Bytes in rows, more: rows of the call's own, texts as bytes, bytes appended to nothing, rows of zeros. No conditions but the ones said. -/
import Derived.Test.YtcfmjebnjjpajaaBA
import Derived.ArgAppend
import Derived.Lib.SlBytesConst
namespace Go.Proofs.Ytcfmjebnjjpajaa
open Go.RowKit
def bvec (l : List UInt8) : Array Value := (l.map V8).toArray
theorem bvec_size (l : List UInt8) : (bvec l).size = l.length := by simp [bvec]
theorem bvec_get (l : List UInt8) (i : Nat) (h : i < l.length) : (bvec l)[i]? = some (V8 (at8 l i)) := by
  simp [bvec, at8, List.getElem?_eq_getElem h, List.getD]
theorem bvec_set (l : List UInt8) (i : Nat) (x : UInt8) : (bvec l).setIfInBounds i (V8 x) = bvec (l.set i x) := by
  simp [bvec, List.map_set]
theorem made_bytes (m : Nat) : madeCells #[Value.int .u8 0] m = bvec (List.replicate m 0) := by
  apply Array.ext
  · simp [madeCells, bvec]
  · intro i h1 h2
    simp [madeCells, bvec, Nat.mod_one]; rfl
/-- A row of the call's own over just these bytes. -/
def Fresh (B : Nat) (w' : World) (v : Value) (xs : List UInt8) : Prop := w'.ownsRow B 5 1 v xs.length (xs.map V8)
theorem Fresh.bytes {B : Nat} {w : World} {v : Value} {xs : List UInt8} (h : Fresh B w v xs) (hw : 0 < w.heap.size) : ∃ A cap bb, Bytes w v xs A cap bb 0 ∧ (0 < xs.length → B ≤ bb) ∧ (v.ownBlock = some bb ∨ v.ownBlock = none ∧ bb = 0) := own_bytes rfl hw h
theorem Fresh.mono {B B' : Nat} {w : World} {v : Value} {xs : List UInt8} (h : Fresh B w v xs) (hb : B' ≤ B) : Fresh B' w v xs := by
  refine ⟨h.1, ?_⟩
  rcases h.2 with ⟨h1, h2⟩ | ⟨g, c, cur, h1, h2, h3⟩
  · exact .inl ⟨h1, h2⟩
  · exact .inr ⟨g, c, cur, h1, Nat.le_trans hb h2, h3⟩
theorem conv_string (s : ByteArray) (w : World) : (convert 9 26 (.string s)).run Try.prog w = .ok (.slice (some ⟨w.heap.size, 0, none⟩) s.size (grownCap w s.size 0 5)) (Lib.bytesWorld w 5 s) :=
  Lib.run_convert_string_bytes w 9 26 5 s Try.underlying9 Try.underlying26 Try.underlying5
theorem conv_below (s : ByteArray) (w : World) : Below w.heap.size w (Lib.bytesWorld w 5 s) :=
  ⟨rfl, rfl, rfl, by rw [Lib.bytesWorld_size]; omega, fun j hj => Lib.bytesWorld_at_old w 5 s j hj⟩
theorem conv_bytes (s : ByteArray) (w : World) : Bytes (Lib.bytesWorld w 5 s) (.slice (some ⟨w.heap.size, 0, none⟩) s.size (grownCap w s.size 0 5)) (tl s) (some ⟨w.heap.size, 0, none⟩) (grownCap w s.size 0 5) w.heap.size 0 := by
  refine ⟨by rw [tl_length], by rw [tl_length]; exact grownCap_ge _ _ _ _, (fun h => by cases h), fun a ha j hj => ?_, by rw [Lib.bytesWorld_size]; omega, fun _ => rfl⟩
  cases ha
  rw [tl_length] at hj
  rw [add_at, Nat.zero_add, Lib.bytesWorld_cell w 5 s j hj]; rfl
theorem append_none (w : World) (A0 : Option Addr) {src : Value} {ys : List UInt8} {A : Option Addr} {cap bb off : Nat} (hs : Bytes w src ys A cap bb off) (hn : ys.length ≤ 1000000) :
    ∃ v' w' A' cap' bb', (Builtin.append_ #[26, 26] 26 #[.slice A0 0 0, src]).run Try.prog w = .ok v' w' ∧ Bytes w' v' ys A' cap' bb' 0 ∧ (bb' = 0 ∨ w.heap.size ≤ bb') ∧ Below w.heap.size w w' := by
  obtain ⟨i0, hi, hz0, hz1, hz2⟩ := info_parts info5
  have hpos : 0 < w.heap.size := Nat.lt_of_le_of_lt (Nat.zero_le _) hs.blk
  have hu := Try.underlying26
  rcases Nat.eq_zero_or_pos ys.length with h0 | h0
  · obtain rfl : ys = [] := List.eq_nil_of_length_eq_zero h0
    refine ⟨.slice A0 0 0, w, A0, 0, 0, ?_, ⟨rfl, Nat.le_refl _, fun _ => rfl, fun a _ j hj => absurd hj (by simp), hpos, fun h => absurd h (by simp)⟩, .inl rfl, Below.refl _ _⟩
    rw [hs.form]
    cases A0 <;> cases A <;> simp [Builtin.append_, run_underlying hu, sizeOf, typeInfo, hi, Builtin.lenOf, Builtin.firstCells, loadCells, loadCellsFrom, storeCells]
  · have hA := hs.src h0
    subst hA
    rw [hs.form]
    have fin : ∀ (c : Nat) (olds : List Value), olds = [] → ys.length ≤ c → Bytes (w.drew.alloc (.cells (olds.toArray ++ (ys.map V8).toArray ++ Builtin.zeroCells (Value.int IntKind.u8 0).cells (c - ys.length)) 5)) (.slice (some ⟨w.heap.size, 0, none⟩) ys.length c) ys (some ⟨w.heap.size, 0, none⟩) c w.heap.size 0 := by
      rintro c olds rfl hge
      refine ⟨rfl, hge, (fun h => by cases h), fun a ha j hj => ?_, by simp, fun _ => rfl⟩
      cases ha
      rw [add_at, Nat.zero_add]
      have := Has.at_ (Has.fresh w.drew 5 (([] : List Value).toArray ++ (ys.map V8).toArray ++ Builtin.zeroCells (Value.int IntKind.u8 0).cells (c - ys.length))) j
      refine this.trans ?_
      rw [Array.getElem?_append_left (by simp; exact hj), Array.getElem?_append_right (by simp)]
      simpa using get_map hj
    have hnew : ∀ j u, (ys.map V8)[j]? = some u → w.cell? ((⟨bb, off, none⟩ : Addr).add j) = some u := fun j u hj => by obtain ⟨h1, rfl⟩ := map_get hj; exact hs.at_ _ rfl j h1
    have hge := grownCap_ge w ys.length 0 5
    cases A0 with
    | none =>
      have hr := run_append_nil (P := Try.prog) w 26 26 5 i0 (.int .u8 0) hu hi hz0 ⟨bb, off, none⟩ ys.length cap (ys.map V8) (by rw [List.length_map, hz1, Nat.mul_one]) hnew h0 (by omega) (by rw [hz2]; omega)
      have hf := fin _ [] rfl hge
      rw [show (([] : List Value).toArray ++ (ys.map V8).toArray) = (ys.map V8).toArray by simp] at hf
      exact ⟨_, _, _, _, w.heap.size, hr, hf, .inr (Nat.le_refl _), (Below.refl _ _).drew.alloc (Nat.le_refl _) _⟩
    | some a0 =>
      have hr := run_append_grow (P := Try.prog) w 26 26 5 i0 (.int .u8 0) hu hi hz0 a0 0 0 [] (by simp) (fun j v hj => by simp at hj) ⟨bb, off, none⟩ ys.length cap (ys.map V8) (by rw [List.length_map, hz1, Nat.mul_one]) hnew (by omega) (by omega) (growslice_fits (by omega) (by rw [hz2]; omega))
      rw [Nat.zero_add] at hr
      exact ⟨_, _, _, _, w.heap.size, hr, fin _ [] rfl hge, .inr (Nat.le_refl _), (Below.refl _ _).drew.alloc (Nat.le_refl _) _⟩
theorem cut_text (s : ByteArray) (k : Nat) : ∃ t : ByteArray, t.size ≤ k ∧ ((t = s ∧ (s.size : Int) ≤ (k : Int)) ∨ ((k : Int) < (s.size : Int) ∧ s.extract 0 k = t)) := by
  by_cases h : s.size ≤ k
  · exact ⟨s, h, .inl ⟨rfl, by omega⟩⟩
  · exact ⟨s.extract 0 k, by rw [ByteArray.size_extract]; omega, .inr ⟨by omega, rfl⟩⟩
/-- A row of zeros is made. -/
theorem make_row (m : Nat) (hm : m ≤ 1000000) (w : World) : (Instr.makeSlice 26 (.int .i64 (m : Int)) (.int .i64 (m : Int))).run Try.prog w = .ok (.slice (some ⟨w.heap.size, 0, none⟩) m m) (w.alloc (.cells (bvec (List.replicate m 0)) 5)) := by
  obtain ⟨i0, hi, hz0, hz1, hz2⟩ := info_parts info5
  have := run_make (P := Try.prog) w 26 5 i0 (.int .u8 0) Try.underlying26 hi hz0 .i64 .i64 (m : Int) (m : Int) (by omega) (by omega) (by rw [hz2]; omega) (by omega)
  rw [this]
  simp only [Int.toNat_natCast, hz1, Nat.mul_one]
  rw [show (Value.int IntKind.u8 0).cells = #[Value.int .u8 0] from rfl, made_bytes]
/-- A row that is known is a slice over it. -/
theorem Has.row {w : World} {g : Nat} {zs : List UInt8} {n : Nat} (h : Has w g 5 (bvec zs)) (hn : zs.length = n) : Bytes w (.slice (some ⟨g, 0, none⟩) n n) zs (some ⟨g, 0, none⟩) n g 0 := by
  subst hn
  refine ⟨rfl, Nat.le_refl _, (fun h => by cases h), fun a ha j hj => ?_, h.inside, fun _ => rfl⟩
  cases ha
  rw [add_at, Nat.zero_add]
  exact (h.at_ j).trans (bvec_get zs j hj)
/-- A row that was just laid. -/
theorem lit_bytes (w : World) (xs : List UInt8) (C : Array Value) (n : Nat) (hC : C = bvec xs) (hn : xs.length = n) : Bytes (w.alloc (.cells C 5)) (.slice (some ⟨w.heap.size, 0, none⟩) n n) xs (some ⟨w.heap.size, 0, none⟩) n w.heap.size 0 := by
  subst hn hC
  refine ⟨rfl, Nat.le_refl _, (fun h => by cases h), fun a ha j hj => ?_, by simp, fun _ => rfl⟩
  cases ha
  rw [add_at, Nat.zero_add]
  exact ((Has.fresh w 5 _).at_ j).trans (bvec_get xs j hj)
theorem lit_const (w : World) (xs : List UInt8) (C : Array Value) (n : Nat) (hC : C = bvec xs) (hn : xs.length = n) : Bytes (w.alloc (.cells C 5 (C.size, C.size + 1))) (.slice (some ⟨w.heap.size, 0, none⟩) n n) xs (some ⟨w.heap.size, 0, none⟩) n w.heap.size 0 ∧
    Below w.heap.size w (w.alloc (.cells C 5 (C.size, C.size + 1))) ∧
    (convert 26 26 (.slice (some ⟨w.heap.size, 0, none⟩) n n)).run Try.prog (w.alloc (.cells C 5)) = .ok (.slice (some ⟨w.heap.size, 0, none⟩) n n) (w.alloc (.cells C 5 (C.size, C.size + 1))) := by
  subst hn hC
  refine ⟨⟨rfl, Nat.le_refl _, (fun h => by cases h), fun a ha j hj => ?_, by simp, fun _ => rfl⟩, (Below.refl _ _).alloc (Nat.le_refl _) _, Lib.run_convert_bytes_const w 26 5 _ _ _ Try.underlying26 Try.underlying5⟩
  cases ha
  rw [add_at, Nat.zero_add, World.cell?_alloc_mark]
  exact bvec_get xs j hj
end Go.Proofs.Ytcfmjebnjjpajaa
