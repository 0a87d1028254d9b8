/- slices.Clone, bytes.Put, bytes.PutText: what each call does. Conditions: at most 90000 bytes ahead. -/
import Derived.Test.YtakgbopkkechgaaBD
namespace Go.Proofs.Ytakgbopkkechgaa
open Go.RowKit
/-- A row of the call's own over just these bytes. -/
def Fresh (B : Nat) (w' : World) (v : Value) (xs : List UInt8) : Prop := w'.ownsRow B 5 1 v xs.length (xs.map V8)
theorem Fresh.bytes {B : Nat} {w : World} {v : Value} {xs : List UInt8} (h : Fresh B w v xs) (hw : 0 < w.heap.size) : ∃ A cap bb, Bytes w v xs A cap bb 0 ∧ (0 < xs.length → B ≤ bb) ∧ (v.ownBlock = some bb ∨ v.ownBlock = none ∧ bb = 0) := own_bytes rfl hw h
theorem Fresh.mono {B B' : Nat} {w : World} {v : Value} {xs : List UInt8} (h : Fresh B w v xs) (hb : B' ≤ B) : Fresh B' w v xs := by
  refine ⟨h.1, ?_⟩
  rcases h.2 with ⟨h1, h2⟩ | ⟨g, c, cur, h1, h2, h3⟩
  · exact .inl ⟨h1, h2⟩
  · exact .inr ⟨g, c, cur, h1, Nat.le_trans hb h2, h3⟩
set_option maxRecDepth 100000 in
set_option maxHeartbeats 400000 in
theorem clone_any (v : Value) (xs : List UInt8) (A : Option Addr) (cap bb off : Nat) (hn : xs.length ≤ 100000) (w : World) (h : Bytes w v xs A cap bb off) :
    Calls Try.prog 36 #[v] w fun e w' => ∃ v', e = .returned v' ∧ Fresh w.heap.size w' v' xs ∧ Below w.heap.size w w' := by
  have e0 := h.form
  have q22 : ∀ (w : World) (a : Option Addr) (n c n' c' : Nat), (binOp .eql 22 (.slice a n c) (.slice none n' c')).run Try.prog w = .ok (.bool a.isNone) w := fun w a n c n' c' => Lib.run_eql_slice_nil w _ _ a n c n' c' Try.underlying22
  cases A with
  | none =>
    have hc := h.zero rfl
    have hl := h.le
    obtain rfl : xs = [] := List.eq_nil_of_length_eq_zero (by omega)
    rw [e0, hc]
    clear e0 h hn
    go_enter Try.func36, Try.ntmps36
    go_wp2
    go_ret
    exact ⟨_, rfl, World.ownsRow_nil _ _ _ _, Below.refl _ _⟩
  | some a =>
    rw [e0]
    have hb0 : Below w.heap.size w (w.alloc (.cells #[] 5)) := (Below.refl _ _).alloc (Nat.le_refl _) _
    have h0 : (w.alloc (.cells #[] 5)).ownsRow w.heap.size 5 1 (.slice (some ⟨w.heap.size, 0, none⟩) 0 0) 0 [] := World.ownsRow_made w #[] 0 (Nat.le_refl _) (by unfold maxLen; omega) rfl
    have h1 := h.kept hb0 (Nat.le_refl _)
    rw [e0] at h1
    obtain ⟨v', w', hr, ho, hg, _, _⟩ := append_bytes _ _ _ _ _ h0 h1 (by omega) (by simp)
    have HRR := hid hr
    have HO : Hid (Fresh w.heap.size w' v' xs) := by
      rw [Nat.zero_add, List.nil_append] at ho; exact ho
    have HB : Hid (Below w.heap.size w w') := hb0.grown hg (by simp) (fun k hk => by simp [Value.ownBlock] at hk; omega)
    clear hr ho hg hb0 h0 h1 h hn e0
    go_enter Try.func36, Try.ntmps36
    go_wp2_with (refine wpList_append_run rfl (.tmp 5) (.tmp 6) 22 22 rfl ⟨v', w', HRR.out, ?_⟩)
    go_ret
    exact ⟨_, rfl, HO.out, HB.out⟩
theorem rows_two {w : World} {v0 v1 : Value} {x0 x1 : List UInt8} {A0 A1 : Option Addr} {c0 c1 b0 b1 o0 o1 : Nat} (h0 : Bytes w v0 x0 A0 c0 b0 o0) (h1 : Bytes w v1 x1 A1 c1 b1 o1) :
    Rows1 (w.alloc (.cells #[v0, v1] 22)) w.heap.size [x0, x1] := by
  have hb : Below w.heap.size w (w.alloc (.cells #[v0, v1] 22)) := (Below.refl _ _).alloc (Nat.le_refl _) _
  have hh := Has.fresh w 22 #[v0, v1]
  obtain rfl := h0.form
  obtain rfl := h1.form
  intro i hi
  simp only [List.length_cons, List.length_nil] at hi
  obtain rfl | rfl : i = 0 ∨ i = 1 := by omega
  · exact ⟨A0, _, c0, b0, o0, hh.at_ 0, rfl, h0.kept hb (Nat.le_refl _)⟩
  · exact ⟨A1, _, c1, b1, o1, hh.at_ 1, rfl, h1.kept hb (Nat.le_refl _)⟩
theorem rows_three {w : World} {v0 v1 v2 : Value} {x0 x1 x2 : List UInt8} {A0 A1 A2 : Option Addr} {c0 c1 c2 b0 b1 b2 o0 o1 o2 : Nat} (h0 : Bytes w v0 x0 A0 c0 b0 o0) (h1 : Bytes w v1 x1 A1 c1 b1 o1) (h2 : Bytes w v2 x2 A2 c2 b2 o2) :
    Rows1 (w.alloc (.cells #[v0, v1, v2] 22)) w.heap.size [x0, x1, x2] := by
  have hb : Below w.heap.size w (w.alloc (.cells #[v0, v1, v2] 22)) := (Below.refl _ _).alloc (Nat.le_refl _) _
  have hh := Has.fresh w 22 #[v0, v1, v2]
  obtain rfl := h0.form
  obtain rfl := h1.form
  obtain rfl := h2.form
  intro i hi
  simp only [List.length_cons, List.length_nil] at hi
  obtain rfl | rfl | rfl : i = 0 ∨ i = 1 ∨ i = 2 := by omega
  · exact ⟨A0, _, c0, b0, o0, hh.at_ 0, rfl, h0.kept hb (Nat.le_refl _)⟩
  · exact ⟨A1, _, c1, b1, o1, hh.at_ 1, rfl, h1.kept hb (Nat.le_refl _)⟩
  · exact ⟨A2, _, c2, b2, o2, hh.at_ 2, rfl, h2.kept hb (Nat.le_refl _)⟩
set_option maxRecDepth 100000 in
set_option maxHeartbeats 400000 in
theorem put_any (v : Value) (xs : List UInt8) (A : Option Addr) (cap bb off : Nat) (k : Int) (n : Nat) (hn : n < 18446744073709551616) (hl : xs.length ≤ 90000) (w : World) (h : Bytes w v xs A cap bb off) :
    Calls Try.prog 22 #[v, .int .i64 k, .int .u64 (n : Int)] w fun e w' => ∃ v', e = .returned v' ∧ Fresh w.heap.size w' v' (xs ++ numL k n) ∧ Below w.heap.size w w' := by
  have CN := hid (number_any k n hn w)
  have HB := hid h
  have HP : Hid (0 < w.heap.size) := Nat.lt_of_le_of_lt (Nat.zero_le _) h.blk
  have HL : Hid ([xs, numL k n].flatten.length ≤ 100000) := by
    show _ ≤ _
    have := numL_len k n
    simp; omega
  have HE : Hid ([xs, numL k n].flatten = xs ++ numL k n) := by show _ = _; simp
  obtain rfl := h.form
  clear h hn hl
  go_enter Try.func22, Try.ntmps22
  go_wp2_with (first
    | (go_at_call 29; refine CN.out.mono ?_; rintro e1 w1 ⟨v1, rfl, ho1, hb1⟩
       obtain ⟨A1, c1, b1, hy1, _, _⟩ := own_bytes rfl (Nat.lt_of_lt_of_le HP.out hb1.size) ho1
       obtain rfl := hy1.form
       have R1 := hid (rows_two (HB.out.kept hb1 (Nat.le_refl _)) hy1)
       have B1 := hid hb1
       clear ho1 hb1 hy1)
    | (go_at_call 23; refine (concat_any w1.heap.size 2 2 _ rfl HL.out _ R1.out (by decide)).mono ?_; rintro e2 w2 ⟨v2, rfl, ho2, hb2⟩
       rw [HE.out] at ho2
       have O2 : Hid (Fresh w.heap.size w2 v2 (xs ++ numL k n)) := Fresh.mono (xs := xs ++ numL k n) ho2 (Nat.le_trans B1.out.size (by simp))
       have B2 : Hid (Below w.heap.size w w2) := (B1.out.alloc B1.out.size _).trans (hb2.mono (Nat.le_trans B1.out.size (by simp)))
       clear ho2 hb2 R1 B1))
  go_ret
  exact ⟨_, rfl, O2.out, B2.out⟩
theorem conv_string (s : ByteArray) (w : World) : (convert 9 22 (.string s)).run Try.prog w = .ok (.slice (some ⟨w.heap.size, 0, none⟩) s.size (grownCap w s.size 0 5)) (Lib.bytesWorld w 5 s) :=
  Lib.run_convert_string_bytes w 9 22 5 s Try.underlying9 Try.underlying22 Try.underlying5
theorem conv_below (s : ByteArray) (w : World) : Below w.heap.size w (Lib.bytesWorld w 5 s) :=
  ⟨rfl, rfl, rfl, by rw [Lib.bytesWorld_size]; omega, fun j hj => Lib.bytesWorld_at_old w 5 s j hj⟩
theorem conv_bytes (s : ByteArray) (w : World) : Bytes (Lib.bytesWorld w 5 s) (.slice (some ⟨w.heap.size, 0, none⟩) s.size (grownCap w s.size 0 5)) (tl s) (some ⟨w.heap.size, 0, none⟩) (grownCap w s.size 0 5) w.heap.size 0 := by
  refine ⟨by rw [tl_length], by rw [tl_length]; exact grownCap_ge _ _ _ _, (fun h => by cases h), fun a ha j hj => ?_, by rw [Lib.bytesWorld_size]; omega, fun _ => rfl⟩
  cases ha
  rw [tl_length] at hj
  rw [add_at, Nat.zero_add, Lib.bytesWorld_cell w 5 s j hj]; rfl
/-- A text's bytes. -/
def textL (l : List UInt8) : List UInt8 := numL 2 l.length ++ l
end Go.Proofs.Ytakgbopkkechgaa
