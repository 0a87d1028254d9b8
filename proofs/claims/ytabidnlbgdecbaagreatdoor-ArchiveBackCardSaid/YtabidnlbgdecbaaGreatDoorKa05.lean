/- Several texts in one. Conditions: those said at each. -/
import Derived.Test.YtabidnlbgdecbaaGreatDoorKa00
import Derived.Test.YtabidnlbgdecbaaGreatDoorKa04
import Derived.Deep.RegionLaw
import Derived.Great.BuildSlice
import Derived.Great.FillDense
import Derived.Lib.ParseIntBMem
import Derived.Lib.AtoiErrMem
import Derived.Lib.Hide
import Derived.Laws.Closers25
import Derived.Laws.Closers25b
import Derived.BigCall
import Derived.BigGuard
import Derived.Lib.ItoaNum
set_option linter.unusedSimpArgs false
set_option linter.unusedVariables false
set_option maxRecDepth 100000
namespace Go.Proofs.YtabidnlbgdecbaaGreatDoor
open Go.RowKit
def Fresh (B : Nat) (w' : World) (v : Value) (xs : List UInt8) : Prop := w'.ownsRow B 5 1 v xs.length (xs.map V8)
theorem Fresh.bytes {B : Nat} {w : World} {v : Value} {xs : List UInt8} (h : Fresh B w v xs) (hw : 0 < w.heap.size) : ∃ A cap bb, Bytes w v xs A cap bb 0 ∧ (0 < xs.length → B ≤ bb) ∧ (v.ownBlock = some bb ∨ v.ownBlock = none ∧ bb = 0) := own_bytes rfl hw h
theorem Fresh.mono {B B' : Nat} {w : World} {v : Value} {xs : List UInt8} (h : Fresh B w v xs) (hb : B' ≤ B) : Fresh B' w v xs := by
 refine ⟨h.1, ?_⟩
 rcases h.2 with ⟨h1, h2⟩ | ⟨g, c, cur, h1, h2, h3⟩
 · exact .inl ⟨h1, h2⟩
 · exact .inr ⟨g, c, cur, h1, Nat.le_trans hb h2, h3⟩
set_option maxHeartbeats 400000 in
theorem bclone_any (v : Value) (xs : List UInt8) (A : Option Addr) (cap bb off : Nat) (hn : xs.length ≤ 100000) (w : World) (h : Bytes w v xs A cap bb off) :
 Calls Tryz.prog 116 #[v] w fun e w' => ∃ v', e = .returned v' ∧ Fresh w.heap.size w' v' xs ∧ Below w.heap.size w w' := by
 have e0 := h.form
 have q22 : ∀ (w : World) (a : Option Addr) (n c n' c' : Nat), (binOp .eql 58 (.slice a n c) (.slice none n' c')).run Tryz.prog w = .ok (.bool a.isNone) w := fun w a n c n' c' => Lib.run_eql_slice_nil w _ _ a n c n' c' Tryz.underlying58
 cases A with
 | none =>
  have hc := h.zero rfl
  have hl := h.le
  obtain rfl : xs = [] := List.eq_nil_of_length_eq_zero (by omega)
  rw [e0, hc]
  clear e0 h hn
  go_enter Tryz.func116, Tryz.ntmps116
  go_wp2
  go_ret
  exact ⟨_, rfl, World.ownsRow_nil _ _ _ _, Below.refl _ _⟩
 | some a =>
  rw [e0]
  have hb0 : Below w.heap.size w (w.alloc (.cells #[] 5)) := (Below.refl _ _).alloc (Nat.le_refl _) _
  have h0 : (w.alloc (.cells #[] 5)).ownsRow w.heap.size 5 1 (.slice (some ⟨w.heap.size, 0, none⟩) 0 0) 0 [] := World.ownsRow_made w #[] 0 (Nat.le_refl _) (by unfold maxLen; omega) rfl
  have h1 := h.kept hb0 (Nat.le_refl _)
  rw [e0] at h1
  obtain ⟨v', w', hr, ho, hg, _, _⟩ := append_bytes _ _ _ _ _ h0 h1 (by omega) (by simp)
  have HRR := hid hr
  have HO : Hid (Fresh w.heap.size w' v' xs) := by
   rw [Nat.zero_add, List.nil_append] at ho; exact ho
  have HB : Hid (Below w.heap.size w w') := hb0.grown hg (by simp) (fun k hk => by simp [Value.ownBlock] at hk; omega)
  clear hr ho hg hb0 h0 h1 h hn e0
  go_enter Tryz.func116, Tryz.ntmps116
  go_wp2_with (refine wpList_append_run rfl (.tmp 5) (.tmp 6) 58 58 rfl ⟨v', w', HRR.out, ?_⟩)
  go_ret
  exact ⟨_, rfl, HO.out, HB.out⟩
theorem rows_three {w : World} {v0 v1 v2 : Value} {x0 x1 x2 : List UInt8} {A0 A1 A2 : Option Addr} {c0 c1 c2 b0 b1 b2 o0 o1 o2 : Nat} (h0 : Bytes w v0 x0 A0 c0 b0 o0) (h1 : Bytes w v1 x1 A1 c1 b1 o1) (h2 : Bytes w v2 x2 A2 c2 b2 o2) :
 Rows1 (w.alloc (.cells #[v0, v1, v2] 58)) w.heap.size [x0, x1, x2] := by
 have hb : Below w.heap.size w (w.alloc (.cells #[v0, v1, v2] 58)) := (Below.refl _ _).alloc (Nat.le_refl _) _
 have hh := Has.fresh w 58 #[v0, v1, v2]
 obtain rfl := h0.form
 obtain rfl := h1.form
 obtain rfl := h2.form
 intro i hi
 simp only [List.length_cons, List.length_nil] at hi
 obtain rfl | rfl | rfl : i = 0 ∨ i = 1 ∨ i = 2 := by omega
 · exact ⟨A0, _, c0, b0, o0, hh.at_ 0, rfl, h0.kept hb (Nat.le_refl _)⟩
 · exact ⟨A1, _, c1, b1, o1, hh.at_ 1, rfl, h1.kept hb (Nat.le_refl _)⟩
 · exact ⟨A2, _, c2, b2, o2, hh.at_ 2, rfl, h2.kept hb (Nat.le_refl _)⟩
theorem conv_string (s : ByteArray) (w : World) : (convert 9 58 (.string s)).run Tryz.prog w = .ok (.slice (some ⟨w.heap.size, 0, none⟩) s.size (grownCap w s.size 0 5)) (Lib.bytesWorld w 5 s) :=
 Lib.run_convert_string_bytes w 9 58 5 s Tryz.underlying9 Tryz.underlying58 Tryz.underlying5
theorem conv_below (s : ByteArray) (w : World) : Below w.heap.size w (Lib.bytesWorld w 5 s) :=
 ⟨rfl, rfl, rfl, by rw [Lib.bytesWorld_size]; omega, fun j hj => Lib.bytesWorld_at_old w 5 s j hj⟩
theorem conv_bytes (s : ByteArray) (w : World) : Bytes (Lib.bytesWorld w 5 s) (.slice (some ⟨w.heap.size, 0, none⟩) s.size (grownCap w s.size 0 5)) (tl s) (some ⟨w.heap.size, 0, none⟩) (grownCap w s.size 0 5) w.heap.size 0 := by
 refine ⟨by rw [tl_length], by rw [tl_length]; exact grownCap_ge _ _ _ _, (fun h => by cases h), fun a ha j hj => ?_, by rw [Lib.bytesWorld_size]; omega, fun _ => rfl⟩
 cases ha
 rw [tl_length] at hj
 rw [add_at, Nat.zero_add, Lib.bytesWorld_cell w 5 s j hj]; rfl
def textL (l : List UInt8) : List UInt8 := numL 2 l.length ++ l
set_option maxHeartbeats 400000 in
theorem putText_any (v : Value) (xs : List UInt8) (A : Option Addr) (cap bb off : Nat) (s : ByteArray) (hs : s.size ≤ 65535) (hl : xs.length ≤ 20000) (w : World) (h : Bytes w v xs A cap bb off) :
 Calls Tryz.prog 42 #[v, .string s] w fun e w' => ∃ v', e = .returned (.tuple #[v', .int .i64 0]) ∧ Fresh w.heap.size w' v' (xs ++ textL (tl s)) ∧ Below w.heap.size w w' := by
 have h1 : ¬ (65535 : Int) < (s.size : Int) := by omega
 have CN := hid (number_any 2 s.size (by omega) w)
 have HB := hid h
 have HP : Hid (0 < w.heap.size) := Nat.lt_of_le_of_lt (Nat.zero_le _) h.blk
 have HL : Hid ([xs, numL 2 s.size, tl s].flatten.length ≤ 100000) := by
  show _ ≤ _
  have := numL_len 2 s.size
  simp; omega
 have HE : Hid ([xs, numL 2 s.size, tl s].flatten = xs ++ textL (tl s)) := by show _ = _; rw [textL, tl_length]; simp
 have w1 : IntKind.u64.wrap (s.size : Int) = s.size := u64in _ (by omega)
 have KC := conv_string s
 obtain rfl := h.form
 clear h hs hl
 go_enter Tryz.func42, Tryz.ntmps42
 go_wp2_with (first
  | (go_at_call 82; refine CN.out.mono ?_; rintro e1 w1 ⟨v1, rfl, ho1, hb1⟩
     obtain ⟨A1, c1, b1, hy1, _, _⟩ := own_bytes rfl (Nat.lt_of_lt_of_le HP.out hb1.size) ho1
     obtain rfl := hy1.form
     have R1 := hid (rows_three ((HB.out.kept hb1 (Nat.le_refl _)).kept (conv_below s w1) (Nat.le_refl _)) (hy1.kept (conv_below s w1) (Nat.le_refl _)) (conv_bytes s w1))
     have B1 : Hid (Below w.heap.size w (Lib.bytesWorld w1 5 s)) := hb1.trans ((conv_below s w1).mono hb1.size)
     clear ho1 hb1 hy1)
  | (go_at_call 81; refine (concat_any (Lib.bytesWorld w1 5 s).heap.size 3 3 _ rfl HL.out _ R1.out (by decide)).mono ?_; rintro e2 w2 ⟨v2, rfl, ho2, hb2⟩
     rw [HE.out] at ho2
     have O2 : Hid (Fresh w.heap.size w2 v2 (xs ++ textL (tl s))) := Fresh.mono (xs := xs ++ textL (tl s)) ho2 (Nat.le_trans B1.out.size (by simp))
     have B2 : Hid (Below w.heap.size w w2) := (B1.out.alloc B1.out.size _).trans (hb2.mono (Nat.le_trans B1.out.size (by simp)))
     clear ho2 hb2 R1 B1))
 go_ret2
 exact ⟨_, rfl, O2.out, B2.out⟩
end Go.Proofs.YtabidnlbgdecbaaGreatDoor
namespace Go.Proofs.YtabidnlbgdecbaaGreatDoor
open Go.RowKit
abbrev St := Bool × List UInt8
def Tp (w : World) (g : Nat) (s : St) : Prop := ∃ A cap bb off, Has w g 170 #[.bool true, .bool s.1, .slice A s.2.length cap] ∧ Bytes w (.slice A s.2.length cap) s.2 A cap bb off ∧ bb ≠ g ∧ s.2.length ≤ 100000 ∧ 0 < g
theorem Tp.inside {w : World} {g : Nat} {s : St} (h : Tp w g s) : g < w.heap.size := by obtain ⟨A, cap, bb, off, h1, _⟩ := h; exact h1.inside
theorem Tp.kept {w w' : World} {g : Nat} {s : St} (h : Tp w g s) (hb : Below w.heap.size w w') : Tp w' g s := by
 obtain ⟨A, cap, bb, off, h1, h2, h3, h4⟩ := h
 exact ⟨A, cap, bb, off, h1.kept hb h1.inside, h2.kept hb (Nat.le_refl _), h3, h4⟩
def tear (s : St) : St := (true, s.2)
def errS (s : St) : Int := if s.1 then 4 else 0
set_option maxHeartbeats 400000 in
theorem err_any (g : Nat) (s : St) (w : World) (h : Tp w g s) : Calls Tryz.prog 120 #[.pointer (some ⟨g, 0, none⟩)] w fun e w' => e = .returned (.int .i64 (errS s)) ∧ w = w' := by
 obtain ⟨t, xs⟩ := s
 obtain ⟨A, cap, bb, off, h1, _⟩ := h
 have c0 : w.cell? ⟨g, 0, none⟩ = some (.bool true) := h1.at_ 0
 have c1 : w.cell? ⟨g, 1, none⟩ = some (.bool t) := h1.at_ 1
 clear h1
 cases t
 all_goals
  go_enter Tryz.func120, Tryz.ntmps120
  go_wp2
  go_ret
  exact ⟨rfl, rfl⟩
theorem tear_at {w : World} {g : Nat} {s : St} (h : Tp w g s) : Tp (w.setCell ⟨g, 1, none⟩ (.bool true)) g (tear s) ∧ Grw g w (w.setCell ⟨g, 1, none⟩ (.bool true)) := by
 obtain ⟨A, cap, bb, off, h1, h2, h3, h4⟩ := h
 have hg := Grw.of_set g 1 w (.bool true)
 exact ⟨⟨A, cap, bb, off, h1.put 1 (.bool true), h2.grw hg h3, h3, h4⟩, hg⟩
set_option maxHeartbeats 400000 in
theorem tear_any (g : Nat) (s : St) (w : World) (h : Tp w g s) : Calls Tryz.prog 118 #[.pointer (some ⟨g, 0, none⟩)] w fun e w' => e = .returned (.tuple #[]) ∧ Tp w' g (tear s) ∧ Grw g w w' := by
 have HT := hid (tear_at h)
 have HH := hid h
 obtain ⟨t, xs⟩ := s
 obtain ⟨A, cap, bb, off, h1, _⟩ := h
 have c1 : w.cell? ⟨g, 1, none⟩ = some (.bool t) := h1.at_ 1
 have f1 := h1.free 1
 clear h1
 cases t
 · have CE : Hid (Calls Tryz.prog 120 #[.pointer (some ⟨g, 0, none⟩)] w fun e w' => e = .returned (.int .i64 0) ∧ w = w') := err_any g (false, xs) w HH.out
   go_enter Tryz.func118, Tryz.ntmps118
   go_wp2_with (go_at_call 120; refine CE.out.mono ?_; rintro e w' ⟨rfl, rfl⟩)
   go_end0
   exact ⟨rfl, HT.out.1, HT.out.2⟩
 · have CE : Hid (Calls Tryz.prog 120 #[.pointer (some ⟨g, 0, none⟩)] w fun e w' => e = .returned (.int .i64 4) ∧ w = w') := err_any g (true, xs) w HH.out
   go_enter Tryz.func118, Tryz.ntmps118
   go_wp2_with (go_at_call 120; refine CE.out.mono ?_; rintro e w' ⟨rfl, rfl⟩)
   go_end0
   exact ⟨rfl, HH.out, Grw.refl _ _⟩
set_option maxHeartbeats 400000 in
theorem left_any (g : Nat) (s : St) (w : World) (h : Tp w g s) : Calls Tryz.prog 76 #[.pointer (some ⟨g, 0, none⟩)] w fun e w' => e = .returned (.int .i64 (s.2.length : Int)) ∧ w = w' := by
 have CE := hid (err_any g s w h)
 have HE : Hid (errS s = 4 ∨ errS s = 0) := by show _ ∨ _; unfold errS; split <;> simp
 obtain ⟨A, cap, bb, off, h1, _⟩ := h
 have c1 : w.cell? ⟨g, 2, none⟩ = some (.slice A s.2.length cap) := h1.at_ 2
 clear h1
 generalize errS s = x at CE HE
 rcases HE.out with rfl | rfl
 all_goals
  go_enter Tryz.func76, Tryz.ntmps76
  go_wp2_with (go_at_call 120; refine CE.out.mono ?_; rintro e w' ⟨rfl, rfl⟩)
  go_ret
  exact ⟨rfl, rfl⟩
set_option maxHeartbeats 400000 in
theorem newTape_any (v : Value) (xs : List UInt8) (A : Option Addr) (cap bb off : Nat) (hl : xs.length ≤ 100000) (w : World) (h : Bytes w v xs A cap bb off) :
 Calls Tryz.prog 73 #[v] w fun e w' => ∃ g, e = .returned (.pointer (some ⟨g, 0, none⟩)) ∧ w.heap.size ≤ g ∧ Tp w' g (false, xs) ∧ Below w.heap.size w w' := by
 have CC := hid (bclone_any v xs A cap bb off hl w h)
 have HP : Hid (0 < w.heap.size) := Nat.lt_of_le_of_lt (Nat.zero_le _) h.blk
 have HL := hid hl
 obtain rfl := h.form
 clear h hl
 go_enter Tryz.func73, Tryz.ntmps73
 go_wp2_with (first
  | (go_at_call 116; refine CC.out.mono ?_; rintro e1 w1 ⟨v1, rfl, ho1, hb1⟩
     obtain ⟨A1, c1, b1, hy1, hb, hb2⟩ := ho1.bytes (Nat.lt_of_lt_of_le HP.out hb1.size)
     obtain rfl := hy1.form
     have B1 := hid hb1
     have Y1 := hid hy1
     clear ho1 hb1 hy1 hb hb2))
 go_ret
 refine ⟨w1.heap.size, rfl, B1.out.size, ⟨A1, c1, b1, 0, Has.fresh w1 170 _, Y1.out.kept ((Below.refl _ _).alloc (Nat.le_refl _) _) (Nat.le_refl _), Nat.ne_of_lt Y1.out.blk, HL.out, Nat.lt_of_lt_of_le HP.out B1.out.size⟩, B1.out.alloc B1.out.size _⟩
end Go.Proofs.YtabidnlbgdecbaaGreatDoor
namespace Go.Proofs.YtabidnlbgdecbaaGreatDoor
open Go.RowKit
def valL (l : List UInt8) : Nat := l.foldl (fun a x => 256 * a + x.toNat) 0
theorem valL_snoc (l : List UInt8) (x : UInt8) : valL (l ++ [x]) = 256 * valL l + x.toNat := by simp [valL]
theorem valL_up (l : List UInt8) : ∀ a : Nat, l.foldl (fun a x => 256 * a + x.toNat) a + 1 ≤ (a + 1) * 256 ^ l.length := by
 induction l with
 | nil => intro a; simp
 | cons x l ih =>
  intro a
  have hx := x.toNat_lt
  refine Nat.le_trans (ih (256 * a + x.toNat)) ?_
  rw [List.length_cons, Nat.pow_succ, Nat.mul_comm (256 ^ _) 256, ← Nat.mul_assoc]
  exact Nat.mul_le_mul_right _ (by omega)
theorem valL_lt (l : List UInt8) : valL l < 256 ^ l.length := by
 have := valL_up l 0
 unfold valL; omega
theorem take_snoc (l : List UInt8) (j : Nat) (h : j < l.length) : l.take (j + 1) = l.take j ++ [at8 l j] := by
 rw [List.take_succ_eq_append_getElem h]
 congr 2
 rw [at8, List.getD, List.getElem?_eq_getElem h]; rfl
def nxt (s : St) (k : Int) : Option Nat := if s.1 = false ∧ wid k = true ∧ k ≤ (s.2.length : Int) then some (valL (s.2.take k.toNat)) else none
theorem or_next (a : Nat) (x : UInt8) (h : a < 72057594037927936) : bits .or .u64 (IntKind.u64.wrap ((a : Int) * 256)) (b8 x) = ((256 * a + x.toNat : Nat) : Int) := by
 have hx := x.toNat_lt
 have e1 : IntKind.u64.wrap ((a : Int) * 256) = ((a * 256 : Nat) : Int) := by
  rw [← u64in _ (show a * 256 < 18446744073709551616 by omega), Int.natCast_mul]; rfl
 rw [e1]
 unfold bits b8
 simp only [BitVec.ofInt_natCast]
 have e2 : (BitVec.ofNat 64 (a * 256) ||| BitVec.ofNat 64 x.toNat).toNat = 256 * a + x.toNat := by
  rw [BitVec.toNat_or, BitVec.toNat_ofNat, BitVec.toNat_ofNat, Nat.mod_eq_of_lt (by omega), Nat.mod_eq_of_lt (by omega), Nat.mul_comm]
  exact (Nat.two_pow_add_eq_or_of_lt (i := 8) (by omega) a).symm
 show IntKind.u64.wrap ((BitVec.ofNat 64 (a * 256) ||| BitVec.ofNat 64 x.toNat).toNat : Int) = _
 rw [e2]
 exact u64in _ (by omega)
theorem Bytes.preRun {w : World} {v : Value} {xs : List UInt8} {A : Option Addr} {cap bb off : Nat} (h : Bytes w v xs A cap bb off) (m : Nat) (hm : m ≤ xs.length) (w' : World) :
 (Instr.slice 58 v none (some (.int .i64 (m : Int))) none).run Tryz.prog w' = .ok (.slice A m cap) w' := by
 have he : Tryz.prog.elem 58 = 5 := by kernel_rfl
 have hs : ∀ w, (sizeOf (Tryz.prog.elem 58)).run Tryz.prog w = .ok 1 w := by intro w; rw [he]; kernel_rfl
 have hle := h.le
 rw [h.form, run_slice_h (P := Tryz.prog) w' 58 A xs.length cap (by kernel_rfl) .i64 (m : Int) (by omega) (by omega), hs]
 simp only [Result.andThen, sliced, Int.toNat_natCast, Nat.zero_mul, Nat.sub_zero]
 have e : (A.map fun x => x.add 0) = A := by
  cases A with
  | none => rfl
  | some a => rfl
 rw [e]; split <;> rfl
set_option maxHeartbeats 400000 in
theorem next_torn (g : Nat) (xs : List UInt8) (k : Int) (w : World) (h : Tp w g (true, xs)) : Calls Tryz.prog 117 #[.pointer (some ⟨g, 0, none⟩), .int .i64 k] w fun e w' => e = .returned (.tuple #[.int .u64 0, .bool false]) ∧ w = w' := by
 have CE : Hid (Calls Tryz.prog 120 #[.pointer (some ⟨g, 0, none⟩)] w fun e w' => e = .returned (.int .i64 4) ∧ w = w') := err_any g (true, xs) w h
 clear h
 go_enter Tryz.func117, Tryz.ntmps117
 go_wp2_with (go_at_call 120; refine CE.out.mono ?_; rintro e w' ⟨rfl, rfl⟩)
 go_ret2
 exact ⟨rfl, rfl⟩
set_option maxHeartbeats 400000 in
theorem next_wide (g : Nat) (xs : List UInt8) (k : Int) (hk : wid k = false) (w : World) (h : Tp w g (false, xs)) : Calls Tryz.prog 117 #[.pointer (some ⟨g, 0, none⟩), .int .i64 k] w fun e w' => e = .returned (.tuple #[.int .u64 0, .bool false]) ∧ w = w' := by
 have CE : Hid (Calls Tryz.prog 120 #[.pointer (some ⟨g, 0, none⟩)] w fun e w' => e = .returned (.int .i64 0) ∧ w = w') := err_any g (false, xs) w h
 have CW := hid (isWidth_any k w)
 rw [hk] at CW
 clear h hk
 go_enter Tryz.func117, Tryz.ntmps117
 go_wp2_with (first
  | (go_at_call 120; refine CE.out.mono ?_; rintro e w' ⟨rfl, rfl⟩)
  | (go_at_call 127; refine CW.out.mono ?_; rintro e w' ⟨rfl, rfl⟩))
 go_ret2
 exact ⟨rfl, rfl⟩
set_option maxHeartbeats 400000 in
theorem next_short (g : Nat) (xs : List UInt8) (k : Int) (hk : wid k = true) (hl : (xs.length : Int) < k) (w : World) (h : Tp w g (false, xs)) : Calls Tryz.prog 117 #[.pointer (some ⟨g, 0, none⟩), .int .i64 k] w fun e w' => e = .returned (.tuple #[.int .u64 0, .bool false]) ∧ w = w' := by
 have CE : Hid (Calls Tryz.prog 120 #[.pointer (some ⟨g, 0, none⟩)] w fun e w' => e = .returned (.int .i64 0) ∧ w = w') := err_any g (false, xs) w h
 have CW := hid (isWidth_any k w)
 rw [hk] at CW
 obtain ⟨A, cap, bb, off, h1, _⟩ := h
 have c2 : w.cell? ⟨g, 2, none⟩ = some (.slice A xs.length cap) := h1.at_ 2
 clear h1 hk
 go_enter Tryz.func117, Tryz.ntmps117
 go_wp2_with (first
  | (go_at_call 120; refine CE.out.mono ?_; rintro e w' ⟨rfl, rfl⟩)
  | (go_at_call 127; refine CW.out.mono ?_; rintro e w' ⟨rfl, rfl⟩))
 go_ret2
 exact ⟨rfl, rfl⟩
set_option maxHeartbeats 1000000 in
theorem next_good (g : Nat) (xs : List UInt8) (m : Nat) (hk : wid (m : Int) = true) (hl : m ≤ xs.length) (w : World) (h : Tp w g (false, xs)) :
 Calls Tryz.prog 117 #[.pointer (some ⟨g, 0, none⟩), .int .i64 (m : Int)] w fun e w' => e = .returned (.tuple #[.int .u64 (valL (xs.take m) : Int), .bool true]) ∧ w = w' := by
 have CE : Hid (Calls Tryz.prog 120 #[.pointer (some ⟨g, 0, none⟩)] w fun e w' => e = .returned (.int .i64 0) ∧ w = w') := err_any g (false, xs) w h
 have CW := hid (isWidth_any m w)
 rw [hk] at CW
 obtain ⟨hm0, hm8⟩ : 1 ≤ m ∧ m ≤ 8 := by have := wid_cases hk; omega
 obtain ⟨A, cap, bb, off, h1, h2, _⟩ := h
 have c2 : w.cell? ⟨g, 2, none⟩ = some (.slice A xs.length cap) := h1.at_ 2
 have kp := h2.preRun m hl
 have HC := hid h2.cells
 obtain rfl := h2.src (by show 0 < xs.length; omega)
 have hnl : ¬ (xs.length : Int) < (m : Int) := by omega
 have HL := hid hl
 clear h1 h2 hk hl
 go_enter Tryz.func117, Tryz.ntmps117
 go_wp2_with (first
  | (go_at_call 120; refine CE.out.mono ?_; rintro e w' ⟨rfl, rfl⟩)
  | (go_at_call 127; refine CW.out.mono ?_; rintro e w' ⟨rfl, rfl⟩))
 go_loopw [4, 32] (fun n i wr => ∃ (j y : Nat), j ≤ m ∧ i = .int .i64 (j : Int) ∧ n = .int .u64 (y : Int) ∧ Hid (y = valL (xs.take j)) ∧ w = wr) (fun _ i _ => m - (intOf i).toNat)
 case atStart => exact ⟨0, 0, by omega, rfl, rfl, rfl, rfl⟩
 case round =>
  obtain ⟨j, y, hj, rfl, rfl, HY, rfl⟩ := hrel
  by_cases hlt : j < m
  · have c1 : w.cell? ⟨bb, off + j, none⟩ = some (.int .u8 (b8 (at8 xs j))) := HC.out j (by have := HL.out; show j < xs.length; omega)
    have hb0 := b8_nonneg (at8 xs j)
    have hb1 := b8_lt (at8 xs j)
    have HYB : Hid (y < 72057594037927936) := by
     show _ < _
     rw [HY.out]
     refine Nat.lt_of_lt_of_le (valL_lt _) ?_
     have : (xs.take j).length ≤ 7 := by rw [List.length_take]; omega
     exact Nat.le_trans (Nat.pow_le_pow_right (by omega) this) (by decide)
    have hor := or_next y (at8 xs j) HYB.out
    have HN : Hid (256 * y + (at8 xs j).toNat = valL (xs.take (j + 1))) := by
     show _ = _
     rw [take_snoc _ _ (by have := HL.out; omega), valL_snoc, HY.out]
    go_wp2
    go_roundw
    case rel => exact ⟨j + 1, 256 * y + (at8 xs j).toNat, by omega, by go_num, by push_cast; rfl, HN, trivial⟩
    case measure => simp [intOf]; omega
  · obtain rfl : j = m := by omega
    rw [HY.out]
    go_wp2
    go_ret2
    exact ⟨rfl, rfl⟩
theorem next_any (g : Nat) (s : St) (k : Int) (w : World) (h : Tp w g s) :
 Calls Tryz.prog 117 #[.pointer (some ⟨g, 0, none⟩), .int .i64 k] w fun e w' => e = .returned (.tuple #[.int .u64 ((nxt s k).getD 0 : Nat), .bool (nxt s k).isSome]) ∧ w = w' := by
 obtain ⟨t, xs⟩ := s
 unfold nxt
 cases t
 · rcases hk : wid k with _ | _
   · rw [if_neg (by simp)]; exact next_wide g xs k hk w h
   · by_cases hl : k ≤ (xs.length : Int)
     · rw [if_pos ⟨rfl, rfl, hl⟩]
       obtain ⟨m, rfl⟩ : ∃ m : Nat, k = (m : Int) := ⟨k.toNat, by have := wid_cases hk; omega⟩
       exact next_good g xs m hk (by omega) w h
     · rw [if_neg (fun h => hl h.2.2)]; exact next_short g xs k hk (by omega) w h
 · rw [if_neg (fun h => by cases h.1)]; exact next_torn g xs k w h
theorem nxt_lt (s : St) (k : Int) (n : Nat) (h : nxt s k = some n) : n < 18446744073709551616 ∧ 1 ≤ k ∧ k ≤ 8 ∧ k ≤ (s.2.length : Int) ∧ s.1 = false := by
 unfold nxt at h
 split at h
 · rename_i hc
   obtain ⟨h1, h2, h3⟩ := hc
   have h8 := wid_cases h2
   obtain rfl := Option.some.inj h
   refine ⟨Nat.lt_of_lt_of_le (valL_lt _) ?_, by omega, by omega, h3, h1⟩
   have : (s.2.take k.toNat).length ≤ 8 := by rw [List.length_take]; omega
   exact Nat.le_trans (Nat.pow_le_pow_right (by omega) this) (by decide)
 · cases h
end Go.Proofs.YtabidnlbgdecbaaGreatDoor
namespace Go.Proofs.YtabidnlbgdecbaaGreatDoor
open Go.RowKit
theorem Bytes.drawn {w : World} {v : Value} {xs : List UInt8} {A : Option Addr} {cap bb off : Nat} (h : Bytes w v xs A cap bb off) (n : Nat) : Bytes (w.drewN n) v xs A cap bb off := ⟨h.form, h.le, h.zero, h.at_, h.blk, h.src⟩
theorem append_empty (w : World) {src : Value} {ys : List UInt8} {A : Option Addr} {cap bb off : Nat} (hs : Bytes w src ys A cap bb off) (hn : ys.length ≤ 100000) :
 ∃ v' w' A' cap' bb', (Builtin.append_ #[58, 58] 58 #[.slice A 0 0, src]).run Tryz.prog w = .ok v' w' ∧ Bytes w' v' ys A' cap' bb' 0 ∧ (bb' = 0 ∨ w.heap.size ≤ bb') ∧ Below w.heap.size w w' := by
 obtain ⟨i0, hi, hz0, hz1, hz2⟩ := info_parts info5
 have hpos : 0 < w.heap.size := Nat.lt_of_le_of_lt (Nat.zero_le _) hs.blk
 rcases Nat.eq_zero_or_pos ys.length with h0 | h0
 · obtain rfl : ys = [] := List.eq_nil_of_length_eq_zero h0
   refine ⟨.slice A 0 0, w, A, 0, 0, ?_, ⟨rfl, Nat.le_refl _, fun _ => rfl, fun a _ j hj => absurd hj (by simp), hpos, fun h => absurd h (by simp)⟩, .inl rfl, Below.refl _ _⟩
   rw [hs.form]
   have hu := Tryz.underlying58
   cases A <;> simp [Builtin.append_, run_underlying hu, sizeOf, typeInfo, hi, Builtin.lenOf, Builtin.firstCells, loadCells, loadCellsFrom, storeCells]
 · have hA := hs.src h0
   subst hA
   rw [hs.form]
   have hr := run_append_grow (P := Tryz.prog) w 58 58 5 i0 (.int .u8 0) Tryz.underlying58 hi hz0 ⟨bb, off, none⟩ 0 0 [] (by simp) (fun j v hj => by simp at hj) ⟨bb, off, none⟩ ys.length cap (ys.map V8) (by rw [List.length_map, hz1, Nat.mul_one])
    (fun j u hj => by obtain ⟨h1, rfl⟩ := map_get hj; exact hs.at_ _ rfl j h1) (by omega) (by omega) (growslice_fits (by omega) (by rw [hz2]; omega))
   rw [Nat.zero_add] at hr
   have hge := grownCap_ge w ys.length 0 5
   generalize grownCap w ys.length 0 5 = c at hr hge
   refine ⟨_, _, _, c, w.heap.size, hr, ⟨rfl, hge, (fun h => by cases h), fun a ha j hj => ?_, by simp, fun _ => rfl⟩, .inr (Nat.le_refl _), (Below.refl _ _).drew.alloc (Nat.le_refl _) _⟩
   cases ha
   rw [add_at, Nat.zero_add]
   have := Has.at_ (Has.fresh w.drew 5 (([] : List Value).toArray ++ (ys.map V8).toArray ++ Builtin.zeroCells (Value.int IntKind.u8 0).cells (c - ys.length))) j
   refine this.trans ?_
   rw [Array.getElem?_append_left (by simp; exact hj), Array.getElem?_append_right (by simp)]
   simpa using get_map hj
theorem step_append_run {P : Program} {ops : Array Oper} {o : Oper} {a : Act} {w : World} {K : Act → World → Prop} {Q : Exit → Act → World → Prop} {E : Prop} (hgd : o.guard = none) (s x : Operand) (t tn : TypeId)
 (ho : o.op = .call { callee := .builtin .append, args := #[s, x], argTypes := #[t, tn] })
 (h : ∃ v' w', (Builtin.append_ #[t, tn] o.type #[a.eval s, a.eval x]).run P w = .ok v' w' ∧ K (a.put o.dst v') w') :
 if Region.wanted o (yielded ops a.tmps) = true then Oper.wp P o a w K Q else E := by
 have hw : Region.wanted o (yielded ops a.tmps) = true := by simp [Region.wanted, hgd]
 rw [if_pos hw]
 obtain ⟨v', w', hr, h⟩ := h
 unfold Oper.wp execOp
 simp only [ho, resolve, invoke, builtin, Sem.run_bind, Sem.run_pure, Result.andThen_ok, List.map_toArray, List.map_cons, List.map_nil, hr]
 exact h
theorem Bytes.none_run {A : Option Addr} {n cap : Nat} (w' : World) : (Instr.slice 58 (.slice A n cap) none (some (.int .i64 0)) (some (.int .i64 0))).run Tryz.prog w' = .ok (.slice A 0 0) w' := by
 have he : Tryz.prog.elem 58 = 5 := by kernel_rfl
 have hs : ∀ w, (sizeOf (Tryz.prog.elem 58)).run Tryz.prog w = .ok 1 w := by intro w; rw [he]; kernel_rfl
 rw [run_slice_hm (P := Tryz.prog) w' 58 A n cap (by kernel_rfl) .i64 .i64 0 0 (by omega) (by omega) (by omega), hs]
 simp [Result.andThen, sliced]
def ApartB (B bb : Nat) : Prop := bb = 0 ∨ B ≤ bb
theorem tp_pass {w : World} {g : Nat} {t : Bool} {xs : List UInt8} (h : Tp w g (t, xs)) (m : Nat) (hm : m ≤ xs.length) : ∃ A L cap A2 L2 cap2 bb off, w.cell? ⟨g, 2, none⟩ = some (.slice A L cap) ∧ Hid (xs.length = L) ∧ Hid (Bytes w (.slice A L cap) xs A cap bb off) ∧
 (∀ w : World, (Instr.slice 58 (.slice A L cap) (some (.int .i64 (m : Int))) none none).run Tryz.prog w = .ok (.slice A2 L2 cap2) w) ∧
 Hid (∀ w', Below w.heap.size w w' → Tp (w'.setCell ⟨g, 2, none⟩ (.slice A2 L2 cap2)) g (t, xs.drop m) ∧ Grw g w (w'.setCell ⟨g, 2, none⟩ (.slice A2 L2 cap2)) ∧ w'.cell? ⟨g, 2, none⟩ = some (.slice A L cap) ∧ w'.frozen? ⟨g, 2, none⟩ = false) := by
 obtain ⟨A, cap, bb, off, h1, h2, h3, h4, h5⟩ := h
 obtain ⟨A2, hr2, hb2⟩ := h2.rest m hm
 refine ⟨A, _, cap, A2, _, cap - m, bb, off, h1.at_ 2, rfl, h2, hr2, fun w' hb => ?_⟩
 have hh := h1.kept hb h1.inside
 have hg := Grw.of_set g 2 w' (.slice A2 (xs.drop m).length (cap - m))
 exact ⟨⟨A2, cap - m, bb, off + m, hh.put 2 _, (hb2.kept hb (Nat.le_refl _)).grw hg h3, h3, by show (xs.drop m).length ≤ _; have : xs.length ≤ 100000 := h4; rw [List.length_drop]; omega, h5⟩, (Grw.of_below hb).trans hg, hh.at_ 2, hh.free 2⟩
set_option maxHeartbeats 1000000 in
theorem tcut_any (g : Nat) (t : Bool) (xs : List UInt8) (m : Nat) (hm : m ≤ xs.length) (w : World) (h : Tp w g (t, xs)) :
 Calls Tryz.prog 119 #[.pointer (some ⟨g, 0, none⟩), .int .i64 (m : Int)] w fun e w' => ∃ v A cap bb, e = .returned v ∧ Bytes w' v (xs.take m) A cap bb 0 ∧ ApartB w.heap.size bb ∧ Tp w' g (t, xs.drop m) ∧ Grw g w w' := by
 have HL : Hid (xs.length ≤ 100000 ∧ g < w.heap.size ∧ 0 < g) := ⟨by obtain ⟨_, _, _, _, _, _, _, h4, _⟩ := h; exact h4, h.inside, by obtain ⟨_, _, _, _, _, _, _, _, h5⟩ := h; exact h5⟩
 obtain ⟨A, L, cap, A2, L2, cap2, bb, off, c2, HLE, HB0, hr2, HP⟩ := tp_pass h m hm
 have HC2 : Hid (∀ n, (w.drewN n).cell? ⟨g, 2, none⟩ = some (.slice A L cap)) := fun n => c2
 have kp := HB0.out.preRun m hm
 have k0 := fun w' => Bytes.none_run (A := A) (n := L) (cap := cap) w'
 have HB := hid (HB0.out.pre m hm)
 have HN : Hid ((xs.take m).length ≤ 100000) := by show _ ≤ _; have := HL.out; rw [List.length_take]; omega
 clear h
 go_enter Tryz.func119, Tryz.ntmps119
 go_wp2
 go_region_law (refine step_append_run (by rfl) (.tmp 10) (.tmp 16) 58 58 (by rfl) ?_; obtain ⟨v', w', A', cap', bb', hr, hy, hbb, hb⟩ := append_empty _ (HB.out.drawn _) HN.out; refine ⟨v', w', hr, ?_⟩)
 all_goals
  have Y := hid hy
  have YB : Hid (ApartB w.heap.size bb') := hbb
  have B1 : Hid (Below w.heap.size w w') := ((Below.refl _ _).drewN' 1).trans hb
  clear hr hy hbb hb
  have HQ := hid (HP.out w' B1.out)
  have d2 := HQ.out.2.2.1
  have e2 := HQ.out.2.2.2
  clear c2
  go_wp2
  go_ret
  refine ⟨v', A', cap', bb', rfl, Y.out.grw (Grw.of_set g 2 w' _) ?_, YB.out, HQ.out.1, HQ.out.2.1⟩
  have := HL.out.2
  rcases YB.out with h | h
  · omega
  · omega
end Go.Proofs.YtabidnlbgdecbaaGreatDoor
namespace Go.Proofs.YtabidnlbgdecbaaGreatDoor
open Go.RowKit
def textS (s : St) (most : Int) : List UInt8 × St := match nxt s 2 with
 | some n => if (n : Int) ≤ most ∧ n + 2 ≤ s.2.length then ((s.2.drop 2).take n, (s.1, (s.2.drop 2).drop n)) else ([], tear s)
 | none => ([], tear s)
def bytesS (s : St) (n : Int) : List UInt8 × St := if s.1 = false ∧ 0 ≤ n ∧ n ≤ (s.2.length : Int) then (s.2.take n.toNat, (s.1, s.2.drop n.toNat)) else ([], tear s)
theorem next_none (g : Nat) (s : St) (k : Int) (w : World) (h : Tp w g s) (hn : nxt s k = none) :
 Calls Tryz.prog 117 #[.pointer (some ⟨g, 0, none⟩), .int .i64 k] w fun e w' => e = .returned (.tuple #[.int .u64 0, .bool false]) ∧ w = w' := by
 have := next_any g s k w h
 rw [hn] at this; exact this
theorem next_some (g : Nat) (s : St) (k : Int) (n : Nat) (w : World) (h : Tp w g s) (hn : nxt s k = some n) :
 Calls Tryz.prog 117 #[.pointer (some ⟨g, 0, none⟩), .int .i64 k] w fun e w' => e = .returned (.tuple #[.int .u64 (n : Int), .bool true]) ∧ w = w' := by
 have := next_any g s k w h
 rw [hn] at this; exact this
end Go.Proofs.YtabidnlbgdecbaaGreatDoor
namespace Go.Proofs.YtabidnlbgdecbaaGreatDoor
open Go.RowKit
set_option maxHeartbeats 400000 in
theorem text_torn (g : Nat) (s s' : St) (most : Int) (n : Nat) (ok : Bool) (L cap : Nat) (A : Option Addr) (w : World) (hn : n ≤ 65535) (hc : ok = false ∨ most < (n : Int) ∨ (L : Int) - 2 < (n : Int)) (hL : L ≤ 100000) (hs : tear s = s') (c2 : w.cell? ⟨g, 2, none⟩ = some (.slice A L cap))
 (CN : Hid (Calls Tryz.prog 117 #[.pointer (some ⟨g, 0, none⟩), .int .i64 2] w fun e w' => e = .returned (.tuple #[.int .u64 (n : Int), .bool ok]) ∧ w = w')) (h : Tp w g s) :
 Calls Tryz.prog 74 #[.pointer (some ⟨g, 0, none⟩), .int .i64 most] w fun e w' => e = .returned (.string (ba [])) ∧ Tp w' g s' ∧ Grw g w w' := by
 subst hs
 have CT := hid (tear_any g s w h)
 clear h
 have b3 : IntKind.i64.wrap (n : Int) = n := i64in _ (by omega) (by omega)
 have b4 : IntKind.i64.wrap ((L : Int) - 2) = (L : Int) - 2 := i64in _ (by omega) (by omega)
 cases ok
 · clear hc
   go_enter Tryz.func74, Tryz.ntmps74
   go_wp2_with (first
    | (go_at_call 117; refine CN.out.mono ?_; rintro e w' ⟨rfl, rfl⟩)
    | (go_at_call 118; refine CT.out.mono ?_; rintro e w' ⟨rfl, ht, hg⟩))
   go_ret
   exact ⟨rfl, ht, hg⟩
 · by_cases h1 : most < (n : Int)
   · clear hc
     go_enter Tryz.func74, Tryz.ntmps74
     go_wp2_with (first
      | (go_at_call 117; refine CN.out.mono ?_; rintro e w' ⟨rfl, rfl⟩)
      | (go_at_call 118; refine CT.out.mono ?_; rintro e w' ⟨rfl, ht, hg⟩))
     go_ret
     exact ⟨rfl, ht, hg⟩
   · have h2 : (L : Int) - 2 < (n : Int) := by
      rcases hc with h | h | h
      · cases h
      · exact absurd h h1
      · exact h
     clear hc
     go_enter Tryz.func74, Tryz.ntmps74
     go_wp2_with (first
      | (go_at_call 117; refine CN.out.mono ?_; rintro e w' ⟨rfl, rfl⟩)
      | (go_at_call 118; refine CT.out.mono ?_; rintro e w' ⟨rfl, ht, hg⟩))
     go_ret
     exact ⟨rfl, ht, hg⟩
theorem nxt_two (s : St) (n : Nat) (h : nxt s 2 = some n) : n ≤ 65535 := by
 unfold nxt at h
 split at h
 · obtain rfl := Option.some.inj h
   have h1 := valL_lt (s.2.take (2 : Int).toNat)
   have h2 : (s.2.take (2 : Int).toNat).length ≤ 2 := by rw [List.length_take]; exact Nat.min_le_left _ _
   have h3 : 256 ^ (s.2.take (2 : Int).toNat).length ≤ 256 ^ 2 := Nat.pow_le_pow_right (by omega) h2
   omega
 · cases h
set_option maxHeartbeats 400000 in
theorem text_good (g : Nat) (xs : List UInt8) (most : Int) (n : Nat) (w : World) (hn : n ≤ 65535) (h1 : (n : Int) ≤ most) (h2 : n + 2 ≤ xs.length) (h : Tp w g (false, xs))
 (CN : Hid (Calls Tryz.prog 117 #[.pointer (some ⟨g, 0, none⟩), .int .i64 2] w fun e w' => e = .returned (.tuple #[.int .u64 (n : Int), .bool true]) ∧ w = w')) :
 Calls Tryz.prog 74 #[.pointer (some ⟨g, 0, none⟩), .int .i64 most] w fun e w' => e = .returned (.string (ba ((xs.drop 2).take n))) ∧ Tp w' g (false, (xs.drop 2).drop n) ∧ Grw g w w' := by
 obtain ⟨A, L, cap, A2, L2, cap2, bb, off, c2, HLE, HB0, hr2, HP⟩ := tp_pass h 2 (by omega)
 have HQ := hid (HP.out w (Below.refl _ _))
 have e2 := HQ.out.2.2.2
 have hL : xs.length ≤ 100000 := by obtain ⟨_, _, _, _, _, _, _, h4, _⟩ := h; exact h4
 have b3 : IntKind.i64.wrap (n : Int) = n := i64in _ (by omega) (by omega)
 have b4 : IntKind.i64.wrap ((L : Int) - 2) = (L : Int) - 2 := by have := HLE.out; exact i64in _ (by omega) (by omega)
 have b5 : (n : Int) ≤ (L : Int) - 2 := by have := HLE.out; omega
 have CC := hid (tcut_any g false (xs.drop 2) n (by rw [List.length_drop]; omega) _ HQ.out.1)
 have hr3 : ∀ w : World, (Instr.slice 58 (.slice A L cap) (some (.int .i64 2)) none none).run Tryz.prog w = .ok (.slice A2 L2 cap2) w := hr2
 clear h h2 hL hr2
 go_enter Tryz.func74, Tryz.ntmps74
 go_wp2_with (first
  | (go_at_call 117; refine CN.out.mono ?_; rintro e w' ⟨rfl, rfl⟩)
  | (go_at_call 119; refine CC.out.mono ?_; rintro e w' ⟨v, A', cap', bb', rfl, hy, hap, ht, hg⟩
     have k1 := conv_back hy))
 go_ret
 exact ⟨rfl, ht, HQ.out.2.1.trans hg⟩
theorem text_any (g : Nat) (s : St) (most : Int) (w : World) (h : Tp w g s) :
 Calls Tryz.prog 74 #[.pointer (some ⟨g, 0, none⟩), .int .i64 most] w fun e w' => e = .returned (.string (ba (textS s most).1)) ∧ Tp w' g (textS s most).2 ∧ Grw g w w' := by
 have hL : s.2.length ≤ 100000 := by obtain ⟨_, _, _, _, _, _, _, h4, _⟩ := h; exact h4
 have ⟨A, cap, bb, off, h1, _⟩ := h
 have c2 : w.cell? ⟨g, 2, none⟩ = some (.slice A s.2.length cap) := h1.at_ 2
 rcases hn : nxt s 2 with _ | n
 · rw [textS, hn]
   exact text_torn g s _ most 0 false _ cap A w (by omega) (.inl rfl) hL rfl c2 (next_none g s 2 w h hn) h
 · have hn2 := nxt_two s n hn
   by_cases hc : (n : Int) ≤ most ∧ n + 2 ≤ s.2.length
   · have e : textS s most = ((s.2.drop 2).take n, (s.1, (s.2.drop 2).drop n)) := by rw [textS, hn]; simp only [if_pos hc]
     rw [e]
     obtain ⟨_, _, _, _, h9⟩ := nxt_lt s 2 n hn
     obtain ⟨t, xs⟩ := s
     obtain rfl : t = false := h9
     exact text_good g xs most n w hn2 hc.1 hc.2 h (next_some g _ 2 n w h hn)
   · have e : textS s most = ([], tear s) := by rw [textS, hn]; simp only [if_neg hc]
     rw [e]
     exact text_torn g s _ most n true _ cap A w hn2 (.inr (by omega)) hL rfl c2 (next_some g s 2 n w h hn) h
set_option maxHeartbeats 400000 in
theorem bytes_any (g : Nat) (s : St) (n : Int) (w : World) (h : Tp w g s) :
 Calls Tryz.prog 75 #[.pointer (some ⟨g, 0, none⟩), .int .i64 n] w fun e w' => ∃ v A cap bb, e = .returned v ∧ Bytes w' v (bytesS s n).1 A cap bb 0 ∧ ApartB w.heap.size bb ∧ Tp w' g (bytesS s n).2 ∧ Grw g w w' := by
 have CT := hid (tear_any g s w h)
 have CE := hid (err_any g s w h)
 have HI := hid h.inside
 have ⟨A, cap, bb, off, h1, _⟩ := h
 have c2 : w.cell? ⟨g, 2, none⟩ = some (.slice A s.2.length cap) := h1.at_ 2
 clear h1
 by_cases hc : s.1 = false ∧ 0 ≤ n ∧ n ≤ (s.2.length : Int)
 · have e : bytesS s n = (s.2.take n.toNat, (s.1, s.2.drop n.toNat)) := by rw [bytesS, if_pos hc]
   rw [e]
   obtain ⟨h0, hn0, hn1⟩ := hc
   obtain ⟨m, rfl⟩ : ∃ m : Nat, n = (m : Int) := ⟨n.toNat, by omega⟩
   have CC := hid (tcut_any g s.1 s.2 m (by omega) w h)
   have HE : Hid (errS s = 0) := by show _ = _; rw [errS, h0]; rfl
   rw [HE.out] at CE
   rw [Int.toNat_natCast]
   clear h e h0
   go_enter Tryz.func75, Tryz.ntmps75
   go_wp2_with (first
    | (go_at_call 120; refine CE.out.mono ?_; rintro e w' ⟨rfl, rfl⟩)
    | (go_at_call 119; refine CC.out.mono ?_; rintro e w' ⟨v, A', cap', bb', rfl, hy, hap, ht, hg⟩))
   go_ret
   exact ⟨v, A', cap', bb', rfl, hy, hap, ht, hg⟩
 · have e : bytesS s n = ([], tear s) := by rw [bytesS, if_neg hc]
   rw [e]
   clear e
   obtain ⟨t, xs⟩ := s
   cases t
   · have CE0 : Hid (Calls Tryz.prog 120 #[.pointer (some ⟨g, 0, none⟩)] w fun e w' => e = .returned (.int .i64 0) ∧ w = w') := CE
     clear h CE
     by_cases h1 : n < 0
     · clear hc
       go_enter Tryz.func75, Tryz.ntmps75
       go_wp2_with (first
        | (go_at_call 120; refine CE0.out.mono ?_; rintro e w' ⟨rfl, rfl⟩)
        | (go_at_call 118; refine CT.out.mono ?_; rintro e w' ⟨rfl, ht, hg⟩))
       go_ret
       exact ⟨_, none, 0, 0, rfl, Bytes.nil _ (Nat.lt_of_le_of_lt (Nat.zero_le _) (Nat.lt_of_lt_of_le HI.out hg.size)), .inl rfl, ht, hg⟩
     · have h2 : (xs.length : Int) < n := by simp only [true_and] at hc; omega
       clear hc
       go_enter Tryz.func75, Tryz.ntmps75
       go_wp2_with (first
        | (go_at_call 120; refine CE0.out.mono ?_; rintro e w' ⟨rfl, rfl⟩)
        | (go_at_call 118; refine CT.out.mono ?_; rintro e w' ⟨rfl, ht, hg⟩))
       go_ret
       exact ⟨_, none, 0, 0, rfl, Bytes.nil _ (Nat.lt_of_le_of_lt (Nat.zero_le _) (Nat.lt_of_lt_of_le HI.out hg.size)), .inl rfl, ht, hg⟩
   · have CE0 : Hid (Calls Tryz.prog 120 #[.pointer (some ⟨g, 0, none⟩)] w fun e w' => e = .returned (.int .i64 4) ∧ w = w') := CE
     clear h hc CE
     go_enter Tryz.func75, Tryz.ntmps75
     go_wp2_with (first
      | (go_at_call 120; refine CE0.out.mono ?_; rintro e w' ⟨rfl, rfl⟩)
      | (go_at_call 118; refine CT.out.mono ?_; rintro e w' ⟨rfl, ht, hg⟩))
     go_ret
     exact ⟨_, none, 0, 0, rfl, Bytes.nil _ (Nat.lt_of_le_of_lt (Nat.zero_le _) (Nat.lt_of_lt_of_le HI.out hg.size)), .inl rfl, ht, hg⟩
end Go.Proofs.YtabidnlbgdecbaaGreatDoor
namespace Go.Proofs.YtabidnlbgdecbaaGreatDoor
open Go.RowKit
def cutD : List UInt8 → List UInt8 × List UInt8 × Bool
 | [] => ([], [], false)
 | c :: l => if c = 45 then ([], l, true) else (c :: (cutD l).1, (cutD l).2.1, (cutD l).2.2)
theorem cutD_one (l : List UInt8) : Lib.cut l [45] = cutD l := by
 induction l with
 | nil => rfl
 | cons c l ih =>
  have hge := Lib.index_ge l [45]
  unfold Lib.cut Lib.index cutD
  by_cases hc : c = 45
  · subst hc; rfl
  · have h1 : [45].isPrefixOf (c :: l) = false := by simp [List.isPrefixOf, Ne.symm hc]
    rw [if_neg (show ¬ [45].isPrefixOf (c :: l) = true by rw [h1]; decide), if_neg hc, ← ih]
    unfold Lib.cut
    by_cases hi : Lib.index l [45] = -1
    · rw [hi]; rfl
    · have h0 : (0 : Int) ≤ Lib.index l [45] := by omega
      have h2 : ¬ (Lib.index l [45] == -1) = true := by simpa using hi
      rw [if_neg h2, if_pos h0, if_pos (show (0 : Int) ≤ Lib.index l [45] + 1 by omega)]
      obtain ⟨n, hn⟩ := Int.eq_ofNat_of_zero_le h0
      rw [hn]
      have e : ((n : Int) + 1).toNat = n + 1 := by omega
      simp only [e, Int.toNat_natCast, List.take_succ_cons, List.length_singleton]
      rw [show n + 1 + 1 = (n + 1) + 1 from rfl, List.drop_succ_cons]
theorem cutD_len (l : List UInt8) : (cutD l).1.length ≤ l.length ∧ (cutD l).2.1.length ≤ l.length := by
 induction l with
 | nil => simp [cutD]
 | cons c l ih =>
  unfold cutD
  by_cases h : c = 45
  · simp [h]
  · rw [if_neg h]; simp; omega
theorem cutD_at (d e : List UInt8) (h : 45 ∉ d) : cutD (d ++ 45 :: e) = (d, e, true) := by
 induction d with
 | nil => rfl
 | cons c d ih =>
  have h1 : ¬ c = 45 := fun k => h (by rw [k]; exact List.mem_cons_self)
  have h2 := ih (fun k => h (List.mem_cons_of_mem _ k))
  show (if c = 45 then ([], d ++ 45 :: e, true) else (c :: (cutD (d ++ 45 :: e)).1, (cutD (d ++ 45 :: e)).2.1, (cutD (d ++ 45 :: e)).2.2)) = _
  rw [if_neg h1, h2]
def digB (c : UInt8) : Bool := decide (48 ≤ c.toNat ∧ c.toNat ≤ 57)
def numF : Nat → List UInt8 → Option Nat
 | a, [] => some a
 | a, c :: l => if digB c then numF (a * 10 + (c.toNat - 48)) l else none
def numP (s : List UInt8) : Option Nat := if s = [] then none else numF 0 s
def numA (s : List UInt8) (k : Nat) : Int × Bool := match numP s with
 | some n => ((n : Int), decide (s.length = k))
 | none => (0, false)
def timeA (name : List UInt8) : Int × Bool := ((numA (cutD name).1 10).1, (numA (cutD name).1 10).2 && (numA (cutD name).2.1 4).2)
def digs : Nat → Nat → List UInt8
 | 0, _ => []
 | k + 1, n => digs k (n / 10) ++ [UInt8.ofNat (48 + n % 10)]
theorem digs_len (k n : Nat) : (digs k n).length = k := by
 induction k generalizing n with
 | zero => rfl
 | succ k ih => simp [digs, ih]
theorem numF_app (a : Nat) (l m : List UInt8) : numF a (l ++ m) = match numF a l with | some b => numF b m | none => none := by
 induction l generalizing a with
 | nil => rfl
 | cons c l ih =>
  show numF a (c :: (l ++ m)) = _
  by_cases h : digB c = true
  · rw [numF, if_pos h, ih, show numF a (c :: l) = numF (a * 10 + (c.toNat - 48)) l by rw [numF, if_pos h]]
  · rw [numF, if_neg h, show numF a (c :: l) = none by rw [numF, if_neg h]]
theorem dig_val (d : Nat) (h : d < 10) : digB (UInt8.ofNat (48 + d)) = true ∧ (UInt8.ofNat (48 + d)).toNat - 48 = d := by
 have e : (UInt8.ofNat (48 + d)).toNat = 48 + d := by simp [UInt8.toNat_ofNat']; omega
 unfold digB
 rw [e]
 exact ⟨by simp; omega, by omega⟩
theorem numF_digs (k n a : Nat) (h : n < 10 ^ k) : numF a (digs k n) = some (a * 10 ^ k + n) := by
 induction k generalizing n a with
 | zero => simp at h; subst h; simp [digs, numF]
 | succ k ih =>
  have h1 : n / 10 < 10 ^ k := by rw [Nat.div_lt_iff_lt_mul (by omega)]; rw [Nat.pow_succ] at h; exact h
  obtain ⟨d1, d2⟩ := dig_val (n % 10) (Nat.mod_lt _ (by omega))
  rw [digs, numF_app, ih _ _ h1]
  simp only [numF, if_pos d1, d2]
  rw [Nat.pow_succ]
  congr 1
  have := Nat.div_add_mod n 10
  rw [Nat.add_mul, Nat.mul_assoc]
  omega
def nameA (t i : Nat) : List UInt8 := digs 10 t ++ 45 :: digs 4 i
theorem digs_dig (k n : Nat) : ∀ c ∈ digs k n, 48 ≤ c.toNat ∧ c.toNat ≤ 57 := by
 induction k generalizing n with
 | zero => intro c h; cases h
 | succ k ih =>
  intro c h
  rw [digs, List.mem_append] at h
  rcases h with h | h
  · exact ih _ c h
  · rw [List.mem_singleton] at h
    subst h
    have e : (UInt8.ofNat (48 + n % 10)).toNat = 48 + n % 10 := by
     have := Nat.mod_lt n (show 0 < 10 by omega)
     simp [UInt8.toNat_ofNat']; omega
    rw [e]
    have := Nat.mod_lt n (show 0 < 10 by omega)
    omega
theorem digs_no (k n : Nat) : 45 ∉ digs k n := fun h => by have := (digs_dig k n 45 h).1; revert this; decide
theorem nameTryzlen (t i : Nat) : (nameA t i).length = 15 := by simp [nameA, digs_len]
theorem digs_ne (k n : Nat) (h : 0 < k) : digs k n ≠ [] := fun e => by have := digs_len k n; rw [e] at this; simp at this; omega
theorem timeTryzname (t i : Nat) (ht : t < 10000000000) (hi : i < 10000) : timeA (nameA t i) = ((t : Int), true) := by
 have e1 : numA (digs 10 t) 10 = ((t : Int), true) := by
  unfold numA numP
  rw [if_neg (digs_ne 10 t (by omega)), numF_digs 10 t 0 ht]
  simp [digs_len]
 have e2 : (numA (digs 4 i) 4).2 = true := by
  unfold numA numP
  rw [if_neg (digs_ne 4 i (by omega)), numF_digs 4 i 0 hi]
  simp [digs_len]
 unfold timeA nameA
 rw [cutD_at _ _ (digs_no 10 t)]
 simp only [e1, e2, Bool.and_self]
structure En where
 name : By
 path : By
 time : Int
 size : Int
structure Pol where
 kind : Int
 keep : Int
 age : Int
def nearM (t : Int) : Int := min (max t 0) 4294967295
theorem near_in (t : Int) : 0 ≤ nearM t ∧ nearM t ≤ 4294967295 := by unfold nearM; omega
def leastM (p : Pol) : Int := if p.kind = 2 then 1 else 0
def mostM (p : Pol) : Int := if p.kind = 2 then 100 else 0
def checkM (p : Pol) : Bool := (decide (p.kind = 1) || decide (p.kind = 2) || decide (p.kind = 3)) && decide (leastM p ≤ p.keep) && decide (p.keep ≤ mostM p) && decide (p.age = nearM p.age)
def ageM (now : Int) (e : En) : Int := max 0 (nearM now - nearM e.time)
theorem age_in (now : Int) (e : En) : 0 ≤ ageM now e ∧ ageM now e ≤ 4294967295 := by have := near_in now; have := near_in e.time; unfold ageM; omega
def widthM (a : Int) : Int := if a < 100 then 10 else if a < 1000 then 100 else if a < 10000 then 1000 else 10000
def bucketM (a : Int) : Int × Int := (widthM a, a / widthM a)
def goB (p : Pol) (now : Int) (n i : Nat) (tk : List (Int × Int)) (e : En) : Bool :=
 (decide (p.age ≠ 0) && decide (p.age < ageM now e)) || (decide (p.kind = 2) && decide ((i : Int) < (n : Int) - p.keep)) || (decide (p.kind = 3) && decide (bucketM (ageM now e) ∈ tk))
def goF (p : Pol) (now : Int) (n : Nat) : Nat → List (Int × Int) → List En → List By
 | _, _, [] => []
 | i, tk, e :: l => if goB p now n i tk e then e.name :: goF p now n (i + 1) tk l else goF p now n (i + 1) (bucketM (ageM now e) :: tk) l
def goingM (p : Pol) (now : Int) (l : List En) : List By := goF p now l.length 0 [] l.dropLast
theorem goF_le (p : Pol) (now : Int) (n i : Nat) (tk : List (Int × Int)) (l : List En) : (goF p now n i tk l).length ≤ l.length := by
 induction l generalizing i tk with
 | nil => simp [goF]
 | cons e l ih =>
  unfold goF
  have h1 := ih (i + 1) tk
  have h2 := ih (i + 1) (bucketM (ageM now e) :: tk)
  split <;> simp <;> omega
def openT (n : Nd) : By × St := textS (false, n.data) 160
def openA (name : By) (n : Nd) : Option (En × By) :=
 if (timeA name).2 && decide (n.kind = 1) && mayB (openT n).1 then some (⟨name, (openT n).1, (timeA name).1, ((openT n).2.2.length : Nat)⟩, (openT n).2.2) else none
end Go.Proofs.YtabidnlbgdecbaaGreatDoor
namespace Go.Proofs.YtabidnlbgdecbaaGreatDoor
open Go.RowKit Go.Maps
def en0 : En := ⟨[], [], 0, 0⟩
def enA (x : En) : Array Value := #[kS x.name, kS x.path, .int .i64 x.time, .int .i64 x.size]
def enV (x : En) : Value := .agg #[kS x.name, kS x.path, .int .i64 x.time, .int .i64 x.size]
def ecells (L : List En) : List Value := L.flatMap fun x => (enA x).toList
theorem ecells_snoc (L : List En) (x : En) : ecells (L ++ [x]) = ecells L ++ (enA x).toList := by simp [ecells]
theorem ecells_len (L : List En) : (ecells L).length = L.length * 4 := by
 induction L with
 | nil => rfl
 | cons x r ih =>
  show ((enA x).toList ++ ecells r).length = _
  rw [List.length_append, ih, List.length_cons, Nat.add_mul]
  show 4 + _ = _; omega
theorem ecells_at (L : List En) (k : Nat) (hk : k < L.length) (j : Nat) (hj : j < 4) : (ecells L)[k * 4 + j]? = (enA (L.getD k en0)).toList[j]? := by
 induction L generalizing k with
 | nil => simp at hk
 | cons x r ih =>
  show ((enA x).toList ++ ecells r)[k * 4 + j]? = _
  cases k with
  | zero =>
   rw [List.getElem?_append_left (by show 0 * 4 + j < 4; omega)]
   simp [List.getD]
  | succ k =>
   rw [List.getElem?_append_right (by show 4 ≤ (k + 1) * 4 + j; omega)]
   rw [show (k + 1) * 4 + j - (enA x).toList.length = k * 4 + j by show (k + 1) * 4 + j - 4 = _; omega]
   rw [ih k (by simpa using hk)]
   simp [List.getD]
theorem en_getD {L : List En} {k : Nat} (hk : k < L.length) : L.getD k en0 = L[k] := by rw [List.getD, List.getElem?_eq_getElem hk]; rfl
theorem en_take {L : List En} {k : Nat} (hk : k < L.length) : L.take (k + 1) = L.take k ++ [L.getD k en0] := by rw [en_getD hk]; exact List.take_succ_eq_append_getElem hk
theorem en_drop {L : List En} {k : Nat} (hk : k < L.length) : L.drop k = L.getD k en0 :: L.drop (k + 1) := by rw [en_getD hk]; exact List.drop_eq_getElem_cons hk
def EnR (e : TypeId) (B : Nat) (w : World) (v : Value) (L : List En) : Prop := w.ownsRow B e 4 v L.length (ecells L)
section
variable {e : TypeId} {B : Nat} {w w' : World} {v : Value} {L : List En}
theorem EnR.nil (e : TypeId) (B : Nat) (w : World) : EnR e B w (.slice none 0 0) [] := World.ownsRow_nil _ _ _ _
theorem EnR.form (h : EnR e B w v L) : ∃ A c, v = .slice A L.length c := by
 rcases h.2 with ⟨h1, h2⟩ | ⟨g, c, cur, h1, _⟩
 · exact ⟨none, 0, by rw [h1, h2]⟩
 · exact ⟨some ⟨g, 0, none⟩, c, h1⟩
theorem EnR.on (h : EnR e B w v L) (hb : Below w.heap.size w w') : EnR e B w' v L := row_of h fun g hg => hb.block g (World.ownsRow.lt h g hg).2
theorem EnR.to (h : EnR e B w v L) (hb : ∀ g, v.ownBlock = some g → w'.heap[g]? = w.heap[g]?) : EnR e B w' v L := row_of h hb
theorem EnR.mono {B' : Nat} (h : EnR e B w v L) (hb : B' ≤ B) : EnR e B' w v L := by
 refine ⟨h.1, ?_⟩
 rcases h.2 with h1 | ⟨g, c, cur, h1, h2, h3⟩
 · exact .inl h1
 · exact .inr ⟨g, c, cur, h1, Nat.le_trans hb h2, h3⟩
end
structure EnAt (w : World) (g o : Nat) (x : En) : Prop where
 c0 : w.cell? ⟨g, o, none⟩ = some (kS x.name)
 c1 : w.cell? ⟨g, o + 1, none⟩ = some (kS x.path)
 c2 : w.cell? ⟨g, o + 2, none⟩ = some (.int .i64 x.time)
 c3 : w.cell? ⟨g, o + 3, none⟩ = some (.int .i64 x.size)
theorem EnAt.of {w : World} {g : Nat} {L : List En} (k : Nat) (hk : k < L.length) (h : ∀ j u, (ecells L)[j]? = some u → w.cell? ⟨g, j, none⟩ = some u) : EnAt w g (k * 4) (L.getD k en0) := by
 have hc : ∀ j, j < 4 → ∀ u, (enA (L.getD k en0)).toList[j]? = some u → w.cell? ⟨g, k * 4 + j, none⟩ = some u := fun j hj u hu => h _ _ (by rw [ecells_at L k hk j hj]; exact hu)
 exact ⟨hc 0 (by omega) _ rfl, hc 1 (by omega) _ rfl, hc 2 (by omega) _ rfl, hc 3 (by omega) _ rfl⟩
theorem EnAt.on {w w' : World} {g o : Nat} {x : En} (h : EnAt w g o x) (hb : Below w.heap.size w w') : EnAt w' g o x := by
 have k : g < w.heap.size := block_lt_of_cell (a := ⟨g, o, none⟩) h.c0
 exact ⟨(hb.cell (p := ⟨g, o, none⟩) k).trans h.c0, (hb.cell (p := ⟨g, o + 1, none⟩) k).trans h.c1, (hb.cell (p := ⟨g, o + 2, none⟩) k).trans h.c2, (hb.cell (p := ⟨g, o + 3, none⟩) k).trans h.c3⟩
theorem EnR.at_ {e : TypeId} {B : Nat} {w : World} {v : Value} {L : List En} (h : EnR e B w v L) (k : Nat) (hk : k < L.length) : ∃ g c, v = .slice (some ⟨g, 0, none⟩) L.length c ∧ B ≤ g ∧ EnAt w g (k * 4) (L.getD k en0) := by
 rcases h.2 with ⟨_, h3⟩ | ⟨g, c, cur, h3, hB, h4, h5⟩
 · omega
 · refine ⟨g, c, h3, hB, EnAt.of k hk fun j u hu => ?_⟩
   subst h3
   have := World.ownsRow.cells (g := g) h rfl j u hu
   rwa [add_at, Nat.zero_add] at this
theorem EnAt.load {w : World} {g o : Nat} {x : En} (h : EnAt w g o x) : (loadVar 28 ⟨g, o, none⟩).run Tryz.prog w = .ok (.agg (enA x)) w := by
 refine run_loadVar_mid (P := Tryz.prog) w g o 28 (enA x).toList _ (fun j u hj => ?_) Tryz.underlying28 rfl (by show _ = some 4; kernel_rfl)
 match j, hj with
 | 0, hj => obtain rfl := Option.some.inj hj; exact h.c0
 | 1, hj => obtain rfl := Option.some.inj hj; exact h.c1
 | 2, hj => obtain rfl := Option.some.inj hj; exact h.c2
 | 3, hj => obtain rfl := Option.some.inj hj; exact h.c3
 | j + 4, hj => simp [enA] at hj
theorem infoEn : (Tryz.prog.info? 28).map (fun i => (i.zero, i.size, i.bytes)) = some (some (.agg #[.string ⟨#[]⟩, .string ⟨#[]⟩, .int .i64 0, .int .i64 0]), 4, 48) := by kernel_rfl
theorem append_en (w : World) (B : Nat) (v : Value) (L : List En) (h : EnR 28 B w v L) (x : En) (g : Nat) (hg : Has w g 28 (enA x)) (hn : L.length ≤ 100000) (hB : B ≤ w.heap.size) (ty : TypeId) :
 ∃ v' w', (Builtin.append_ #[24, 24] ty #[v, .slice (some ⟨g, 0, none⟩) 1 1]).run Tryz.prog w = .ok v' w' ∧ EnR 28 B w' v' (L ++ [x]) ∧ w.grownBy w' v.ownBlock ∧ (v'.ownBlock = v.ownBlock ∨ v'.ownBlock = some w.heap.size) := by
 obtain ⟨i0, hi, hz0, hz1, hz2⟩ := info_parts infoEn
 obtain ⟨v', w', hr, ho, hg', _, hv⟩ := run_append_own_at (P := Tryz.prog) w B 24 ty 28 i0 _ 4 48 Tryz.underlying24 hi hz0 hz1 hz2 (by simp [Value.cells]) (by omega) v L.length (ecells L) h ⟨g, 0, none⟩ 1 1 (enA x).toList rfl
  (fun j u hj => by
    rw [add_at, Nat.zero_add, hg.at_ j]
    rw [← Array.getElem?_toList]; exact hj) (fun u hu => by
    simp only [enA, List.mem_cons, List.not_mem_nil, or_false] at hu
    rcases hu with rfl | rfl | rfl | rfl <;> rfl) (by unfold maxLen; omega) (by omega) hB
 refine ⟨v', w', hr, ?_, hg', ?_⟩
 · unfold EnR
   rw [ecells_snoc, List.length_append]; exact ho
 · exact hv
theorem run_build_en (w : World) (x : En) :
 (Instr.buildSlice 24 1 #[(0, Value.agg (enA x))]).run Tryz.prog w = .ok (.slice (some ⟨w.heap.size, 0, none⟩) 1 1) (w.alloc (.cells (enA x) 28)) := by
 have hI : (Tryz.prog.info? 28).map (fun i => (i.size, i.zero)) = some (4, some (.agg #[.string ⟨#[]⟩, .string ⟨#[]⟩, .int .i64 0, .int .i64 0])) := by kernel_rfl
 cases hie : Tryz.prog.info? 28 with
 | none => rw [hie] at hI; cases hI
 | some ie =>
  rw [hie] at hI
  simp only [Option.map_some, Option.some.injEq, Prod.mk.injEq] at hI
  refine run_buildSlice (P := Tryz.prog) w 24 28 1 _ _ ie _ Tryz.underlying24 hie hI.2 (by rw [hI.1]; omega) (by rw [hI.1]; omega) ?_
  rw [hI.1]
  refine (Great.fill_whole (s := 4) (by omega) [Value.agg (enA x)] _ (fun v hv => ?_) (by simp)).trans (by simp [Value.cells])
  simp only [List.mem_singleton] at hv
  subst hv
  rfl
section
variable {ops : Array Oper} {Q : Exit → Act → World → Prop} {a : Act} {w : World} {rest : List Oper} {o : Oper}
theorem wpList_build_en (hw : Region.wanted o (yielded ops a.tmps) = true) (y : Operand) (ho : o.op = .buildSlice 24 1 #[(0, y)]) (p q : By) (t s : Int) (hx : a.eval y = .agg #[kS p, kS q, .int .i64 t, .int .i64 s])
 (h : wpList Tryz.prog ops Q rest (a.put o.dst (.slice (some ⟨w.heap.size, 0, none⟩) 1 1)) (w.alloc (.cells (enA ⟨p, q, t, s⟩) 28))) : wpList Tryz.prog ops Q (o :: rest) a w :=
 wpList_wanted hw fun _ hK => by
  unfold Oper.wp execOp
  have e := run_build_en w ⟨p, q, t, s⟩
  simp only [ho, Sem.run_bind, List.map_toArray, List.map_cons, List.map_nil, hx]
  unfold enA at e
  simp only at e
  rw [e]
  exact hK _ _ h
end
end Go.Proofs.YtabidnlbgdecbaaGreatDoor
namespace Go.Proofs.YtabidnlbgdecbaaGreatDoor
open Go.RowKit Go.Maps
def synV : Value := .tuple #[.int .u64 0, .iface 212 (.int .i64 2)]
def iparV : Option Nat → Value
 | some n => .tuple #[.int .u64 (n : Int), .nilIface]
 | none => synV
theorem pow18 (k : Nat) (h : k ≤ 17) : 10 ^ k ≤ 100000000000000000 := by
 have := Nat.pow_le_pow_right (n := 10) (by omega) h
 exact Nat.le_trans this (by decide)
set_option maxHeartbeats 8000000 in
theorem iparse_any (t : ByteArray) (hne : t.size ≠ 0) (hmax : t.size ≤ 18) (w : World) :
 Calls Tryz.prog 165 #[.string t, .int .i64 10, .int .i64 63] w fun e w' => e = .returned (iparV (numF 0 (tl t))) ∧ w' = Lib.bytesWorld w 5 t := by
 have hemp : t.toList.isEmpty = false := by
  rw [← decide_eq_emptyBytes]
  exact decide_eq_false (fun h => hne (by rw [h]; rfl))
 have hcv := Lib.run_convert_string_bytes (P := Tryz.prog) w 9 58 5 t (u := .string) Tryz.underlying9 Tryz.underlying58 Tryz.underlying5
 have hB : ∀ j, j < t.size → (Lib.bytesWorld w 5 t).cell? ⟨w.heap.size, j, none⟩ = some (.int .u8 (t.data.toList.getD j 0).toNat) := fun j hj => Lib.bytesWorld_cell w 5 t j hj
 obtain ⟨W1, hW1⟩ : ∃ W1, W1 = Lib.bytesWorld w 5 t := ⟨_, rfl⟩
 rw [← hW1] at hcv hB ⊢
 clear hW1
 obtain ⟨bs, hL⟩ : ∃ bs, bs = t.data.toList := ⟨_, rfl⟩
 have hLn : bs.length = t.size := by rw [hL, Lib.size_eq]
 show Calls _ _ _ _ fun e w' => e = .returned (iparV (numF 0 t.data.toList)) ∧ w' = W1
 rw [← hL] at hB ⊢
 clear hL
 have hmv : IntKind.u64.wrap (IntKind.u64.wrap 9223372036854775808 - 1) = 9223372036854775807 := by
  rw [IntKind.wrap_u64, IntKind.wrap_u64]
  decide
 go_enter Tryz.func165, Tryz.ntmps165
 go_wp2
 go_loop [12, 13, 101] (fun vu vn vi => ∃ (k acc : Nat) (a : Int), vu = .bool false ∧ vn = .int .u64 a ∧ vi = .int .i64 k ∧ k ≤ t.size ∧ Hid (a = (acc : Int) ∧ acc < 10 ^ k ∧ numF 0 bs = numF acc (bs.drop k)))
  (fun _ _ vi => t.size - (intOf vi).toNat)
 case atStart => exact ⟨0, 0, 0, rfl, rfl, rfl, by omega, rfl, by decide, rfl⟩
 case round =>
  obtain ⟨k, acc, a, rfl, rfl, rfl, hk, hh⟩ := hrel
  obtain ⟨ha, hacc, hdec⟩ := hh.out
  clear hh
  by_cases hkn : k < t.size
  · have hp := pow18 k (by omega)
    have a0 : 0 ≤ a := by omega
    have a1 : a < 100000000000000000 := by omega
    have hc := hB k hkn
    have hdrop : bs.drop k = bs[k]'(by omega) :: bs.drop (k + 1) := List.drop_eq_getElem_cons (by omega)
    have hget : bs.getD k 0 = bs[k]'(by omega) := by simp [List.getD, List.getElem?_eq_getElem (show k < bs.length by omega)]
    rw [hdrop] at hdec
    rw [hget] at hc
    generalize bs[k]'(by omega) = c at hc hdec
    have hc256 : c.toNat < 256 := c.toNat_lt
    clear hB hdrop hget
    by_cases hdig : 48 ≤ c.toNat ∧ c.toNat ≤ 57
    · have hF : numF acc (c :: bs.drop (k + 1)) = numF (acc * 10 + (c.toNat - 48)) (bs.drop (k + 1)) := by
       have : digB c = true := decide_eq_true hdig
       rw [numF, if_pos this]
      obtain ⟨hd0, hd1⟩ := hdig
      have HN : Hid (a * 10 + ((c.toNat : Int) - 48) = ((acc * 10 + (c.toNat - 48) : Nat) : Int) ∧ acc * 10 + (c.toNat - 48) < 10 ^ (k + 1) ∧ numF 0 bs = numF (acc * 10 + (c.toNat - 48)) (bs.drop (k + 1))) := Lib.hid ⟨by omega, by rw [Nat.pow_succ]; omega, hdec.trans hF⟩
      have icut : a < 1844674407370955162 := by omega
      have iov : a * 10 + ((c.toNat : Int) - 48) ≤ 9223372036854775807 := by omega
      clear hacc hF hdec ha hp
      go_wp2
      refine ⟨⟨k + 1, acc * 10 + (c.toNat - 48), a * 10 + ((c.toNat : Int) - 48), rfl, (by first | rfl | (congr 1; omega)), (by first | rfl | (congr 1; omega)), by omega, HN⟩, by simp [intOf]; omega⟩
    · have hF : numF acc (c :: bs.drop (k + 1)) = none := by
       have : digB c = false := decide_eq_false hdig
       rw [numF, if_neg (by rw [this]; decide)]
      rw [hF] at hdec
      clear hacc hF ha hp
      have hv0 := bits_lo_u8 .or (c.toNat : Int) 32
      have hv1 := bits_hi_u8 .or (c.toNat : Int) 32
      have hu0 := bits_lo_u8 .or 95 32
      have hu1 := bits_hi_u8 .or 95 32
      go_wp2_with (go_at_call 176; refine (Tryz.internal_strconv_lower _ _).mono ?_; rintro e w' ⟨rfl, rfl⟩)
      all_goals go_ret2
      all_goals first | exact ⟨rfl, rfl⟩ | exact ⟨by rw [hdec]; rfl, rfl⟩
  · have hkk : k = t.size := by omega
    subst hkk
    have hF : numF acc (bs.drop t.size) = some acc := by rw [List.drop_eq_nil_of_le (by omega)]; rfl
    rw [hF] at hdec
    subst ha
    clear hacc hF
    go_wp2
    go_ret2
    first | exact ⟨rfl, rfl⟩ | exact ⟨by rw [hdec]; rfl, rfl⟩
set_option maxHeartbeats 4000000 in
theorem iparse_empty (w : World) : Calls Tryz.prog 165 #[.string ⟨#[]⟩, .int .i64 10, .int .i64 63] w fun e w' => e = .returned synV ∧ w' = w := by
 go_enter Tryz.func165, Tryz.ntmps165
 go_wp2
 go_ret2
 exact ⟨rfl, rfl⟩
theorem iparse (s : By) (hmax : s.length ≤ 18) (w : World) : Calls Tryz.prog 165 #[kS s, .int .i64 10, .int .i64 63] w fun e w' => e = .returned (iparV (numP s)) ∧ Below w.heap.size w w' := by
 by_cases h : s = []
 · subst h
   refine (iparse_empty w).mono ?_
   rintro e w' ⟨rfl, rfl⟩
   exact ⟨rfl, Below.refl _ _⟩
 · refine (iparse_any (ba s) (by rw [ba_size]; exact fun k => h (List.eq_nil_of_length_eq_zero k)) (by rw [ba_size]; exact hmax) w).mono ?_
   rintro e w' ⟨rfl, rfl⟩
   refine ⟨?_, conv_below _ _⟩
   rw [tl_ba, numP, if_neg h]
set_option maxHeartbeats 4000000 in
theorem parse_some (s : By) (n : Nat) (hn : numP s = some n) (hmax : s.length ≤ 18) (w : World) : Calls Tryz.prog 149 #[kS s, .int .i64 10, .int .i64 63] w fun e w' => e = .returned (.tuple #[.int .u64 (n : Int), .nilIface]) ∧ Below w.heap.size w w' := by
 have C := iparse s hmax w
 rw [hn] at C
 have C := hid C
 clear hn
 go_enter Tryz.func149, Tryz.ntmps149
 go_wp2_with fail
 refine C.out.mono ?_; rintro e1 w1 ⟨rfl, hb1⟩
 have B1 := hid hb1
 clear hb1
 unfold iparV
 go_wp2
 go_ret2
 exact ⟨rfl, B1.out⟩
set_option maxHeartbeats 4000000 in
theorem parse_none (s : By) (hn : numP s = none) (hmax : s.length ≤ 18) (w : World) (hG : Gd w) : Calls Tryz.prog 149 #[kS s, .int .i64 10, .int .i64 63] w fun e w' => ∃ N, e = .returned (.tuple #[.int .u64 0, .iface 214 (.pointer (some ⟨N, 0, none⟩))]) ∧ Below w.heap.size w w' := by
 have C := iparse s hmax w
 rw [hn] at C
 have C : Hid (Calls Tryz.prog 165 #[kS s, .int .i64 10, .int .i64 63] w fun e w' => e = .returned (.tuple #[.int .u64 0, .iface 212 (.int .i64 2)]) ∧ Below w.heap.size w w') := C
 have HG := hid hG
 have HL : Hid ((ba s).size ≤ 281474976710656) := by show _ ≤ _; rw [ba_size]; omega
 clear hn hG
 go_enter Tryz.func149, Tryz.ntmps149
 go_wp2_with fail
 refine C.out.mono ?_; rintro e1 w1 ⟨rfl, hb1⟩
 have B1 := hid hb1
 have G1 := hid (HG.out.kept hb1)
 clear hb1
 obtain ⟨ev, hv, hev⟩ := G1.out.es
 have CT := hid (Tryz.strconv_toError_syntax ⟨#[80, 97, 114, 115, 101, 85, 105, 110, 116]⟩ (ba s) 10 63 ev w1 HL.out hv hev)
 clear hv hev
 go_wp2_with fail
 refine CT.out.mono ?_
 rintro e2 w2 ⟨N, rfl, h1, h2, h3⟩
 have B2 : Hid (Below w.heap.size w w2) := B1.out.trans (h3.mono B1.out.size)
 clear h1 h2 h3
 go_wp2
 go_ret2
 exact ⟨N, rfl, B2.out⟩
theorem numF_lt (l : By) : ∀ a n, numF a l = some n → n + 1 ≤ (a + 1) * 10 ^ l.length := by
 induction l with
 | nil => intro a n h; simp only [numF, Option.some.injEq] at h; subst h; simp
 | cons c l ih =>
  intro a n h
  rw [numF] at h
  split at h
  · rename_i hc
    have hd : c.toNat - 48 ≤ 9 := by
     have := of_decide_eq_true hc
     omega
    have := ih _ _ h
    rw [List.length_cons, Nat.pow_succ]
    refine Nat.le_trans this ?_
    rw [Nat.mul_comm (10 ^ l.length) 10, ← Nat.mul_assoc]
    exact Nat.mul_le_mul_right _ (by omega)
  · cases h
theorem numP_lt (s : By) (n : Nat) (h : numP s = some n) (h18 : s.length ≤ 18) : n < 1000000000000000000 := by
 unfold numP at h
 split at h
 · cases h
 · have h1 := numF_lt s 0 n h
   have h2 := Nat.pow_le_pow_right (n := 10) (by omega) h18
   have : (10 : Nat) ^ 18 = 1000000000000000000 := by decide
   omega
theorem eqNil_err (w : World) (v : Value) : (binOp .eql 133 (.iface 214 v) .nilIface).run Tryz.prog w = .ok (.bool false) w := by kernel_rfl
theorem eqNil_nil (w : World) : (binOp .eql 133 .nilIface .nilIface).run Tryz.prog w = .ok (.bool true) w := by kernel_rfl
set_option maxHeartbeats 4000000 in
theorem anumber_any (s : By) (k : Nat) (hk : k ≤ 100) (h18 : s.length ≤ 18) (w : World) (hG : Gd w) :
 Calls Tryz.prog 115 #[kS s, .int .i64 (k : Int)] w fun e w' => e = .returned (.tuple #[.int .i64 (numA s k).1, .bool (numA s k).2]) ∧ Below w.heap.size w w' := by
 cases hn : numP s with
 | some n =>
  have hlt := numP_lt s n hn h18
  have C := hid (parse_some s n hn h18 w)
  have HA : Hid (numA s k = ((n : Int), decide (s.length = k))) := by show _ = _; unfold numA; rw [hn]
  have hw : IntKind.i64.wrap (n : Int) = n := i64in _ (by omega) (by omega)
  obtain ⟨m, HM⟩ : ∃ m, Hid (s.length = m) := ⟨_, rfl⟩
  have hz : ((ba s).size : Int) = (m : Int) := by rw [ba_size, HM.out]
  have q1 := eqNil_nil
  rw [HM.out] at HA
  by_cases hmk : m = k
  · have hb : decide ((m : Int) = (k : Int)) = true := decide_eq_true (by omega)
    have HB : Hid (numA s k = ((n : Int), true)) := by show _ = _; rw [HA.out, decide_eq_true hmk]
    clear hn hG h18 hlt HA
    go_enter Tryz.func115, Tryz.ntmps115
    go_wp2_with fail
    refine C.out.mono ?_; rintro e1 w1 ⟨rfl, hb1⟩
    have B1 := hid hb1
    clear hb1
    go_wp2
    go_ret2
    rw [HB.out]
    exact ⟨by first | (simp; done) | (simp; omega), B1.out⟩
  · have hb : decide ((m : Int) = (k : Int)) = false := decide_eq_false (by omega)
    have HB : Hid (numA s k = ((n : Int), false)) := by show _ = _; rw [HA.out, decide_eq_false hmk]
    have hmi : ¬ (m : Int) = (k : Int) := by omega
    clear hn hG h18 hlt HA
    go_enter Tryz.func115, Tryz.ntmps115
    go_wp2_with fail
    refine C.out.mono ?_; rintro e1 w1 ⟨rfl, hb1⟩
    have B1 := hid hb1
    clear hb1
    go_wp2
    go_ret2
    rw [HB.out]
    exact ⟨by first | (simp; done) | (simp; omega), B1.out⟩
 | none =>
  have C := hid (parse_none s hn h18 w hG)
  have HA : Hid (numA s k = (0, false)) := by show _ = _; unfold numA; rw [hn]
  have q1 := eqNil_err
  clear hn hG h18
  go_enter Tryz.func115, Tryz.ntmps115
  go_wp2_with fail
  refine C.out.mono ?_; rintro e1 w1 ⟨N, rfl, hb1⟩
  have B1 := hid hb1
  clear hb1
  go_wp2
  go_ret2
  rw [HA.out]
  exact ⟨rfl, B1.out⟩
theorem cutDash_any (s p q : By) (m : Bool) (h : Hid (cutD s = (p, q, m))) (w : World) (hG : Gd w) (hs : s.length ≤ 4000) :
 Calls Tryz.prog 114 #[kS s, .string ⟨#[45]⟩] w fun e w' => e = .returned (.tuple #[kS p, kS q, .bool m]) ∧ Below w.heap.size w w' := by
 refine (Tryz.strings_Cut_shaped (ba s) ⟨#[45]⟩ w hG.sh (by rw [ba_size]; omega)).mono fun e w' ⟨h1, n, h2⟩ => ⟨?_, by rw [h2]; exact (Below.refl _ _).drewN' n⟩
 have e2 : Lib.cut s [45] = (p, q, m) := (cutD_one _).trans h.out
 rw [h1]
 show Ending.returned (.tuple #[.string (ba (Lib.cut s [45]).1), .string (ba (Lib.cut s [45]).2.1), .bool (Lib.cut s [45]).2.2]) = _
 rw [e2]
set_option maxHeartbeats 4000000 in
theorem timeOf_any (s : By) (h18 : s.length ≤ 18) (w : World) (hG : Gd w) :
 Calls Tryz.prog 72 #[kS s] w fun e w' => e = .returned (.tuple #[.int .i64 (timeA s).1, .bool (timeA s).2]) ∧ Below w.heap.size w w' := by
 obtain ⟨⟨p, q, m⟩, HC⟩ : ∃ r, Hid (cutD s = r) := ⟨_, rfl⟩
 have hl := cutD_len s
 rw [HC.out] at hl
 simp only at hl
 have C1 := hid (cutDash_any s p q m HC w hG (by omega))
 have C2 := hid (fun W hb => anumber_any p 10 (by omega) (by omega) W (hG.kept hb))
 have C3 := hid (fun W hb => anumber_any q 4 (by omega) (by omega) W (hG.kept hb))
 obtain ⟨⟨t, a⟩, HP⟩ : ∃ r, Hid (numA p 10 = r) := ⟨_, rfl⟩
 obtain ⟨⟨t2, b⟩, HQ⟩ : ∃ r, Hid (numA q 4 = r) := ⟨_, rfl⟩
 rw [HP.out] at C2
 rw [HQ.out] at C3
 have HT : Hid (timeA s = (t, a && b)) := by show _ = _; unfold timeA; rw [HC.out]; simp only; rw [HP.out, HQ.out]
 clear hl hG h18
 go_enter Tryz.func72, Tryz.ntmps72
 go_wp2_with fail
 refine C1.out.mono ?_; rintro e1 w1 ⟨rfl, hb1⟩
 have B1 := hid hb1
 clear hb1
 go_wp2_with fail
 refine (C2.out _ B1.out).mono ?_; rintro e2 w2 ⟨rfl, hb2⟩
 have B2 : Hid (Below w.heap.size w w2) := B1.out.trans (hb2.mono B1.out.size)
 clear hb2
 go_wp2_with fail
 refine (C3.out _ B2.out).mono ?_; rintro e3 w3 ⟨rfl, hb3⟩
 have B3 : Hid (Below w.heap.size w w3) := B2.out.trans (hb3.mono B2.out.size)
 clear hb3
 cases a
 · go_wp2
   go_ret2
   rw [HT.out]
   exact ⟨rfl, B3.out⟩
 · go_wp2
   go_ret2
   rw [HT.out]
   exact ⟨rfl, B3.out⟩
theorem repeatZ_any (c : Nat) (hc : c ≤ 4000) (w : World) : Calls Tryz.prog 131 #[.string ⟨#[48]⟩, .int .i64 (c : Int)] w fun e w' => e = .returned (kS (List.replicate c 48)) ∧ Below w.heap.size w w' := by
 refine (Tryz.strings_Repeat ⟨#[48]⟩ c w (by omega) (by show 1 * c ≤ _; omega)).mono fun e w' ⟨h1, h2⟩ => ⟨?_, h2⟩
 rw [h1]
 have : Lib.repeatL [48] c = List.replicate c 48 := by
  have := Lib.repeatL_replicate 48 1 c
  simpa using this
 show Ending.returned (.string ⟨(Lib.repeatL [48] c).toArray⟩) = _
 rw [this]; rfl
theorem fmtInt_any (n : Nat) (h1 : n ≤ 4294967295) (w : World) (hG : Gd w) : Calls Tryz.prog 130 #[.int .i64 (n : Int), .int .i64 10] w fun e w' => e = .returned (kS (Lib.decDigits n)) ∧ Below w.heap.size w w' := by
 refine (Tryz.strconv_FormatInt_10 (n : Int) (by omega) (by omega) w hG.tab).mono fun e w' ⟨h1, k, os, h2⟩ => ⟨?_, ?_⟩
 · rw [h1, Lib.itoa, if_neg (by omega), Int.toNat_natCast]; rfl
 · rw [h2]
   exact ⟨rfl, rfl, rfl, by simp [Sort.grow], fun j hj => by
    show ((w.drewN k).heap ++ os)[j]? = _
    rw [Array.getElem?_append_left (by simpa using hj)]; rfl⟩
theorem dec_len : ∀ (k n : Nat), n < 10 ^ (k + 1) → (Lib.decDigits n).length ≤ k + 1
 | 0, n, h => by rw [Lib.decDigits, dif_pos (by simpa using h)]; simp
 | k + 1, n, h => by
  rw [Lib.decDigits]
  split
  · simp
  · have := dec_len k (n / 10) (by rw [Nat.pow_succ] at h; omega)
    simp; omega
theorem digs_zero : ∀ k, digs k 0 = List.replicate k 48
 | 0 => rfl
 | k + 1 => by rw [digs, Nat.zero_div, digs_zero k, List.replicate_succ']; rfl
theorem digs_dec : ∀ (k n : Nat), n < 10 ^ (k + 1) → digs (k + 1) n = List.replicate (k + 1 - (Lib.decDigits n).length) 48 ++ Lib.decDigits n
 | 0, n, h => by
  have h : n < 10 := by simpa using h
  rw [Lib.decDigits, dif_pos h]
  simp [digs, Nat.mod_eq_of_lt h]
 | k + 1, n, h => by
  rw [digs, Lib.decDigits]
  split
  · rename_i h1
    rw [Nat.div_eq_of_lt h1, digs_zero, Nat.mod_eq_of_lt h1]; rfl
  · have hq : n / 10 < 10 ^ (k + 1) := by rw [Nat.pow_succ] at h; omega
    have hl := dec_len k (n / 10) hq
    rw [digs_dec k (n / 10) hq, List.length_append, List.length_singleton, List.append_assoc]
    congr 2
    omega
set_option maxHeartbeats 4000000 in
theorem padded_any (n : Nat) (h1 : n ≤ 4294967295) (k : Nat) (hk : k ≤ 18) (hn : n < 10 ^ (k + 1)) (w : World) (hG : Gd w) :
 Calls Tryz.prog 84 #[.int .i64 (n : Int), .int .i64 ((k + 1 : Nat) : Int)] w fun e w' => e = .returned (kS (digs (k + 1) n)) ∧ Below w.heap.size w w' := by
 have hl := dec_len k n hn
 have HD := hid (digs_dec k n hn)
 have CF := hid (fmtInt_any n h1 w hG)
 obtain ⟨d, HX⟩ : ∃ d, Hid (Lib.decDigits n = d) := ⟨_, rfl⟩
 rw [HX.out] at hl HD CF
 obtain ⟨l, HL⟩ : ∃ l, Hid (d.length = l) := ⟨_, rfl⟩
 rw [HL.out] at hl HD
 have hz : ((ba d).size : Int) = (l : Int) := by rw [ba_size, HL.out]
 have hz2 : (ba d).size ≤ 4000 := by rw [ba_size, HL.out]; omega
 obtain ⟨c, HC⟩ : ∃ c, Hid (k + 1 - l = c) := ⟨_, rfl⟩
 rw [HC.out] at HD
 obtain ⟨m, hm⟩ : ∃ m, k + 1 = m := ⟨_, rfl⟩
 rw [hm] at hl HD HC ⊢
 have hm2 : m ≤ 19 := by omega
 have hw : IntKind.i64.wrap ((m : Int) - (l : Int)) = (m : Int) - (l : Int) := i64in _ (by omega) (by omega)
 have hc : max (0 : Int) ((m : Int) - (l : Int)) = (c : Int) := by have := HC.out; omega
 have CR := hid (repeatZ_any c (by have := HC.out; omega))
 have hr : (ba (List.replicate c 48)).size ≤ 4000 := by rw [ba_size, List.length_replicate]; have := HC.out; omega
 have HE : Hid (ba (List.replicate c 48) ++ ba d = ba (digs m n)) := by show _ = _; rw [HD.out, ba_append]
 clear hG hn h1 hm hk
 go_enter Tryz.func84, Tryz.ntmps84
 go_wp2_with fail
 refine CF.out.mono ?_; rintro e1 w1 ⟨rfl, hb1⟩
 have B1 := hid hb1
 clear hb1
 go_wp2_with fail
 refine (CR.out _).mono ?_; rintro e2 w2 ⟨rfl, hb2⟩
 have B2 : Hid (Below w.heap.size w w2) := B1.out.trans (hb2.mono B1.out.size)
 clear hb2
 go_wp2
 go_ret
 exact ⟨by show Ending.returned (.string (ba (List.replicate c 48) ++ ba d)) = _; rw [HE.out], B2.out⟩
end Go.Proofs.YtabidnlbgdecbaaGreatDoor
namespace Go.Proofs.YtabidnlbgdecbaaGreatDoor
open Go.RowKit Go.Maps
theorem wrap64_in (x : Int) (h0 : -9223372036854775808 ≤ x) (h : x < 9223372036854775808) : wrap64 x = x := by unfold wrap64; omega
set_option maxHeartbeats 2000000 in
theorem inTime_any (t : Int) (w : World) : Calls Tryz.prog 41 #[.int .i64 t] w fun e w' => e = .returned (.int .i64 (nearM t)) ∧ w = w' := by
 have HN : Hid (nearM t = min (max t 0) 4294967295) := rfl
 go_enter Tryz.func41, Tryz.ntmps41
 go_wp2
 go_ret
 exact ⟨by rw [HN.out]; rfl, rfl⟩
theorem iBucket : (Tryz.prog.info? 111).map (·.size) = some 2 := by kernel_rfl
structure AgS (w : World) (x : En) (W : World) : Prop where
 c : W.cell? ⟨w.heap.size, 2, none⟩ = some (.int .i64 x.time)
 b : Below w.heap.size w W
set_option maxHeartbeats 4000000 in
theorem ageOf_any (x : En) (now : Int) (w : World) : Calls Tryz.prog 61 #[enV x, .int .i64 now] w fun e w' => e = .returned (.int .i64 (ageM now x)) ∧ Below w.heap.size w w' := by
 obtain ⟨p, q, t, s⟩ := x
 have C := hid (fun t w => inTime_any t w)
 obtain ⟨a, HA⟩ : ∃ a, Hid (nearM now = a) := ⟨_, rfl⟩
 obtain ⟨b, HB⟩ : ∃ b, Hid (nearM t = b) := ⟨_, rfl⟩
 have ha := near_in now
 have hb := near_in t
 rw [HA.out] at ha
 rw [HB.out] at hb
 obtain ⟨a0, a1⟩ := ha
 obtain ⟨b0, b1⟩ := hb
 have C1 : Hid (∀ W, Calls Tryz.prog 41 #[.int .i64 now] W fun e w' => e = .returned (.int .i64 a) ∧ W = w') := fun W => by have := C.out now W; rw [HA.out] at this; exact this
 have C2 : Hid (∀ W, Calls Tryz.prog 41 #[.int .i64 t] W fun e w' => e = .returned (.int .i64 b) ∧ W = w') := fun W => by have := C.out t W; rw [HB.out] at this; exact this
 have hw : IntKind.i64.wrap (a - b) = a - b := i64in _ (by omega) (by omega)
 have HM : Hid (ageM now ⟨p, q, t, s⟩ = max 0 (a - b)) := by show _ = _; unfold ageM; rw [HA.out]; simp only [HB.out]
 have P0 : Hid (AgS w ⟨p, q, t, s⟩ ((w.alloc (.cells #[kS p, kS q, .int .i64 t, .int .i64 s] 28)).drew)) :=
  ⟨(Has.fresh w 28 #[kS p, kS q, .int .i64 t, .int .i64 s]).at_ 2, ((Below.refl _ _).alloc (Nat.le_refl _) _).drew⟩
 clear a0 a1 b0 b1 HA HB C
 unfold enV
 go_enter Tryz.func61, Tryz.ntmps61
 go_wp2
 refine wp_region_noPanic ?_
 refine wp_region_held_drew (S := fun W => AgS w ⟨p, q, t, s⟩ W) (by kernel_rfl) (P0.out) (fun hS => ?_)
 refine tkH 0 (v := ?_) (by simp only [lkA, lkB]; rfl) (by kernel_rfl) (fun _ _ _ h => h) (by rfl) (by assumption) ?_ ?_
 rotate_left 1
 · intro w hSw
   go_simp
   with_reducible rfl
 simp only [Act.put, siA, siB, siC]
 refine tkH 2 (v := ?_) (by simp only [lkA, lkB, lkC]; rfl) (by kernel_rfl) (fun _ _ _ h => h) (by rfl) (by assumption) ?_ ?_
 rotate_left 1
 · intro w hSw
   go_simp
   with_reducible rfl
 simp only [Act.put, siA, siB, siC]
 refine tkH 3 (v := ?_) (by simp only [lkA, lkB, lkC]; rfl) (by kernel_rfl) (fun _ _ _ h => h) (by rfl) (by assumption) ?_ ?_
 rotate_left 1
 · intro w hSw
   have e1 := hSw.c
   simp only at e1
   go_simp
   with_reducible rfl
 simp only [Act.put, siA, siB, siC]
 refine wpAnyH_ready (rs := [1]) (by kernel_rfl) (by simp) ?_
 refine AllReadyH.cons (by simp only [lkA, lkB, lkC]; rfl) (fun K hK => ?_) (AllReadyH.nil)
 go_simp
 refine (C1.out _).mono ?_
 rintro e1 w1 ⟨rfl, rfl⟩
 have hz1 := hS
 refine hK.out _ _ hz1 (fun hS => ?_)
 clear hK K hS
 refine wpAnyH_ready (rs := [4]) (by kernel_rfl) (by simp) ?_
 refine AllReadyH.cons (by simp only [lkA, lkB, lkC]; rfl) (fun K hK => ?_) (AllReadyH.nil)
 go_simp
 refine (C2.out _).mono ?_
 rintro e1 w1 ⟨rfl, rfl⟩
 have hz2 := hS
 refine hK.out _ _ hz2 (fun hS => ?_)
 clear hK K hS
 refine tkH 5 (v := ?_) (by simp only [lkA, lkB, lkC]; rfl) (by kernel_rfl) (fun _ _ _ h => h) (by rfl) (by assumption) ?_ ?_
 rotate_left 1
 · intro w hSw
   go_simp
   with_reducible rfl
 simp only [Act.put, siA, siB, siC]
 refine tkH 6 (v := ?_) (by simp only [lkA, lkB, lkC]; rfl) (by kernel_rfl) (fun _ _ _ h => h) (by rfl) (by assumption) ?_ ?_
 rotate_left 1
 · intro w hSw
   go_simp
   with_reducible rfl
 simp only [Act.put, siA, siB, siC]
 refine tkH 7 (v := ?_) (by simp only [lkA, lkB, lkC]; rfl) (by kernel_rfl) (fun _ _ _ h => h) (by rfl) (by assumption) ?_ ?_
 rotate_left 1
 · intro w hSw
   go_simp
   with_reducible rfl
 simp only [Act.put, siA, siB, siC]
 refine wpAnyH_done (by kernel_rfl) ?_ _
 refine NoPanic.normal ?_
 go_wp2
 go_ret
 rw [HM.out]
 exact ⟨rfl, hz2.b⟩
set_option maxHeartbeats 4000000 in
theorem bucketOf_any (a : Int) (w : World) (h0 : 0 ≤ a) (h1 : a ≤ 4294967295) : Calls Tryz.prog 62 #[.int .i64 a] w fun e w' => e = .returned (.agg #[.int .i64 (bucketM a).1, .int .i64 (bucketM a).2]) ∧ Below w.heap.size w w' := by
 have HQ : Hid (∀ d, 10 ≤ d → d ≤ 10000 → wrap64 (a / d) = a / d ∧ IntKind.i64.wrap (a / d) = a / d) := fun d hd hd2 => by
  have k1 : 0 ≤ a / d := Int.ediv_nonneg h0 (by omega)
  have k2 : a / d ≤ a := Int.ediv_le_self _ h0
  exact ⟨wrap64_in _ (by omega) (by omega), i64in _ (by omega) (by omega)⟩
 go_enter Tryz.func62, Tryz.ntmps62
 go_wp2
 go_loopw [3] (fun v wr => ∃ d : Int, v = .int .i64 d ∧ wr = w.alloc (.cells #[.int .i64 0, .int .i64 0] 111) ∧ (d = 10 ∨ d = 100 ∧ 100 ≤ a ∨ d = 1000 ∧ 1000 ≤ a ∨ d = 10000 ∧ 10000 ≤ a))
  (fun v _ => 10000 - (intOf v).toNat)
 case atStart => exact ⟨10, rfl, rfl, .inl rfl⟩
 case round =>
  obtain ⟨d, rfl, rfl, hd⟩ := hrel
  rcases hd with rfl | ⟨rfl, ha⟩ | ⟨rfl, ha⟩ | ⟨rfl, ha⟩
  · by_cases hc : 100 ≤ a
    · go_wp2
      go_roundw
      case rel => exact ⟨100, rfl, trivial, .inr (.inl ⟨rfl, hc⟩)⟩
      case measure => simp [intOf]
    ·
     have HM : Hid (bucketM a = (10, a / 10)) := by show _ = _; unfold bucketM widthM; rw [if_pos (by omega)]
     have hq := HQ.out 10 (by omega) (by omega)
     obtain ⟨q1, q2⟩ := hq
     clear HQ
     go_wp2
     refine bodyPost_ret (results_cell_row rfl _ _ w.heap.size 111 _ (0, 0) _ rfl (Has.fresh _ _ _) Tryz.underlying111 rfl iBucket) rfl ?_
     rw [HM.out]
     exact ⟨rfl, (Below.refl _ _).alloc (Nat.le_refl _) _⟩
  · by_cases hc : 1000 ≤ a
    · go_wp2
      go_roundw
      case rel => exact ⟨1000, rfl, trivial, .inr (.inr (.inl ⟨rfl, hc⟩))⟩
      case measure => simp [intOf]
    ·
     have HM : Hid (bucketM a = (100, a / 100)) := by show _ = _; unfold bucketM widthM; rw [if_neg (by omega), if_pos (by omega)]
     have hq := HQ.out 100 (by omega) (by omega)
     obtain ⟨q1, q2⟩ := hq
     clear HQ
     go_wp2
     refine bodyPost_ret (results_cell_row rfl _ _ w.heap.size 111 _ (0, 0) _ rfl (Has.fresh _ _ _) Tryz.underlying111 rfl iBucket) rfl ?_
     rw [HM.out]
     exact ⟨rfl, (Below.refl _ _).alloc (Nat.le_refl _) _⟩
  · by_cases hc : 10000 ≤ a
    · go_wp2
      go_roundw
      case rel => exact ⟨10000, rfl, trivial, .inr (.inr (.inr ⟨rfl, hc⟩))⟩
      case measure => simp [intOf]
    ·
     have HM : Hid (bucketM a = (1000, a / 1000)) := by show _ = _; unfold bucketM widthM; rw [if_neg (by omega), if_neg (by omega), if_pos (by omega)]
     have hq := HQ.out 1000 (by omega) (by omega)
     obtain ⟨q1, q2⟩ := hq
     clear HQ
     go_wp2
     refine bodyPost_ret (results_cell_row rfl _ _ w.heap.size 111 _ (0, 0) _ rfl (Has.fresh _ _ _) Tryz.underlying111 rfl iBucket) rfl ?_
     rw [HM.out]
     exact ⟨rfl, (Below.refl _ _).alloc (Nat.le_refl _) _⟩
  ·
   have HM : Hid (bucketM a = (10000, a / 10000)) := by show _ = _; unfold bucketM widthM; rw [if_neg (by omega), if_neg (by omega), if_neg (by omega)]
   have hq := HQ.out 10000 (by omega) (by omega)
   obtain ⟨q1, q2⟩ := hq
   clear HQ
   go_wp2
   refine bodyPost_ret (results_cell_row rfl _ _ w.heap.size 111 _ (0, 0) _ rfl (Has.fresh _ _ _) Tryz.underlying111 rfl iBucket) rfl ?_
   rw [HM.out]
   exact ⟨rfl, (Below.refl _ _).alloc (Nat.le_refl _) _⟩
end Go.Proofs.YtabidnlbgdecbaaGreatDoor
