/- A link in the course of a law; caravanlaw12.works: what its call does. Conditions: a heap that has a block. -/
import Derived.Test.YtcfmjebnjjpajaaNI
namespace Go.Proofs.Ytcfmjebnjjpajaa
open Go.RowKit
/-- A link that was made behind the world w0. -/
def Sk (w0 w : World) (p : Nat) (xs : Nat → List UInt8) (e : Nat) (o : Nat → Option Nat) (x : Nat × Nat) : Prop := Below w0.heap.size w0 w ∧ w0.heap.size ≤ p ∧ (∀ k, k < 2 → From w0.heap.size (o k)) ∧ Lk w p xs e o x
section
variable {w0 w w' : World} {p : Nat} {xs : Nat → List UInt8} {e : Nat} {o : Nat → Option Nat} {x : Nat × Nat}
theorem Sk.below (h : Sk w0 w p xs e o x) : Below w0.heap.size w0 w := h.1
theorem Sk.lk (h : Sk w0 w p xs e o x) : Lk w p xs e o x := h.2.2.2
theorem Sk.weak (h : Sk w0 w p xs e o x) : Sk w0 w p xs e o (0, 0) := ⟨h.1, h.2.1, h.2.2.1, h.lk.weak⟩
theorem Sk.kept (h : Sk w0 w p xs e o x) (hb : Below w.heap.size w w') : Sk w0 w' p xs e o x := ⟨h.1.trans (hb.mono h.1.size), h.2.1, h.2.2.1, h.lk.kept hb (Nat.le_refl _)⟩
theorem Sk.alloc (h : Sk w0 w p xs e o x) (y : Obj) : Sk w0 (w.alloc y) p xs e o x := h.kept ((Below.refl _ _).alloc (Nat.le_refl _) _)
theorem Sk.step {xs' : Nat → List UInt8} {e' : Nat} {x' : Nat × Nat} {k : Nat} {o' : Option Nat} (h : Sk w0 w p xs e o x) (hk : k < 2) (hr : Lk w' p xs' e' (upd o k o') x') (hn : Nx (o k) o' w) (hc : Chg p (o k) w w') : Sk w0 w' p xs' e' (upd o k o') x' :=
  ⟨Chg.below h.1 hc h.2.1 (h.2.2.1 k hk) h.1.size, h.2.1, fun j hj => by
    by_cases hjk : j = k
    · subst hjk; rw [upd_at]; exact (h.2.2.1 j hj).nx hn h.1.size
    · rw [upd_ne _ _ hjk]; exact h.2.2.1 j hj, hr⟩
theorem Sk.stepP {xs' : Nat → List UInt8} {e' : Nat} {x' : Nat × Nat} (h : Sk w0 w p xs e o x) (hr : Lk w' p xs' e' o x') (hg : Grw p w w') : Sk w0 w' p xs' e' o x' :=
  ⟨Grw.below h.1 hg h.2.1 h.1.size, h.2.1, h.2.2.1, hr⟩
theorem sk_new (hb : Below w0.heap.size w0 w) (hw : 0 < w.heap.size) : Calls Try.prog 9 #[] w fun e w' => e = .returned (.pointer (some ⟨w.heap.size, 0, none⟩)) ∧ Sk w0 w' w.heap.size (fun _ => []) 0 (fun _ => none) (0, 0) ∧ Below w.heap.size w w' := by
  refine (lnew_any w hw).mono ?_
  rintro e w' ⟨rfl, hr, hb'⟩
  exact ⟨rfl, ⟨hb.trans (hb'.mono hb.size), hb.size, (fun k _ g hg => by cases hg), hr⟩, hb'⟩
theorem sk_send {bv : Value} {ys : List UInt8} {A : Option Addr} {cap bb off : Nat} (k : Nat) (hk : k < 2) (n : Int) (hn : n = 2 - (k : Int)) (h : Sk w0 w p xs e o x) (hs : Bytes w bv ys A cap bb off) (hy : ys.length ≤ 500000) :
    Calls Try.prog 15 #[.pointer (some ⟨p, 0, none⟩), .int .i64 n, bv] w fun ex w' => ex = .returned (.int .i64 (sendE (xs k) ys)) ∧ ∃ o', Sk w0 w' p (upd xs k (sendX (xs k) ys)) e (upd o k o') (0, 0) ∧ Nx (o k) o' w ∧ Chg p (o k) w w' := by
  refine (send_any k hk p n hn bv ys A cap bb off hy xs e o x w h.lk hs).mono ?_
  rintro ex w' ⟨rfl, o', h1, h2, h3⟩
  exact ⟨rfl, o', h.step hk h1 h2 h3, h2, h3⟩
theorem sk_deliver (k : Nat) (hk : k < 2) (n : Int) (hn : n = (k : Int) + 1) (c : Int) (hc : 0 ≤ c) (q : Nat) (hq : (q : Int) = min c ((xs k).length : Int)) (h : Sk w0 w p xs e o x) :
    Calls Try.prog 16 #[.pointer (some ⟨p, 0, none⟩), .int .i64 n, .int .i64 c] w fun ex w' => ∃ A y, ex = .returned (.tuple #[.slice A q q, .int .i64 0]) ∧ Part w' (o k) A q ((xs k).take q) y ∧ Sk w0 w' p (upd xs k ((xs k).drop q)) e o y ∧ Grw p w w' := by
  refine (deliver_any k hk p n hn c hc xs e o x q hq w h.lk).mono ?_
  rintro ex w' ⟨A, y, rfl, h1, h2, h3⟩
  exact ⟨A, y, rfl, h1, h.stepP h2 h3, h3⟩
theorem sk_left (k : Nat) (hk : k < 2) (n : Int) (hn : n = (k : Int) + 1) (h : Sk w0 w p xs e o x) : Calls Try.prog 11 #[.pointer (some ⟨p, 0, none⟩), .int .i64 n] w fun ex w' => ex = .returned (.int .i64 ((xs k).length : Int)) ∧ Sk w0 w' p xs e o x ∧ Below w.heap.size w w' := by
  refine (left_any k hk p n hn xs e o x w h.lk).mono ?_
  rintro ex w' ⟨rfl, hb⟩
  exact ⟨rfl, h.kept hb, hb⟩
theorem sk_epoch (h : Sk w0 w p xs e o x) : Calls Try.prog 13 #[.pointer (some ⟨p, 0, none⟩)] w fun ex w' => ex = .returned (.int .i64 (e : Int)) ∧ w = w' := epoch_any p xs e o x w h.lk
theorem sk_reset (hn : e < 4611686018427387904) (h : Sk w0 w p xs e o x) : Calls Try.prog 17 #[.pointer (some ⟨p, 0, none⟩)] w fun ex w' => ex = .returned (.int .i64 0) ∧ Sk w0 w' p (fun _ => []) (e + 1) (fun _ => none) (0, 0) ∧ Grw p w w' := by
  refine (reset_any p xs e hn o x w h.lk).mono ?_
  rintro ex w' ⟨rfl, h1, h2⟩
  exact ⟨rfl, ⟨Grw.below h.1 h2 h.2.1 h.1.size, h.2.1, (fun k _ g hg => by cases hg), h1⟩, h2⟩
theorem Part.bytes {A : Option Addr} {q : Nat} {zs : List UInt8} {o : Option Nat} (h : Part w o A q zs x) : ∃ off, Bytes w (.slice A q q) zs A q x.1 off := by
  obtain ⟨off, h1, _⟩ := h
  exact ⟨off, h1⟩
theorem Part.ne {A : Option Addr} {q : Nat} {zs : List UInt8} {k : Nat} (h : Part w (o k) A q zs x) (hl : Lk w' p xs e o x) (hk : k < 2) : x.1 ≠ p := by
  obtain ⟨off, _, _, h3⟩ := h
  rcases h3 with ⟨h3, _⟩ | ⟨_, h3, _⟩
  · intro e; exact hl.ne hk (by rw [h3, e])
  · have := hl.pos; omega
end
set_option maxRecDepth 100000 in
set_option maxHeartbeats 2000000 in
theorem works_any (w : World) (hp : 0 < w.heap.size) : Calls Try.prog 14 #[] w fun e w' => e = .returned (.bool true) ∧ Below w.heap.size w w' := by
  have C1 := hid (sk_new (w0 := w) (Below.refl _ _) hp)
  have C2 : Hid (∀ (w1 : World), Sk w w1 w.heap.size (fun _ => []) 0 (fun _ => none) (0, 0) → Calls Try.prog 15 #[.pointer (some ⟨w.heap.size, 0, none⟩), .int .i64 1, .slice (some ⟨w1.heap.size, 0, none⟩) 3 3] (w1.alloc (.cells #[.int .u8 97, .int .u8 98, .int .u8 99] 5 (3, 4))) fun e w' => e = .returned (.int .i64 0) ∧ ∃ xs o, xs 1 = [97, 98, 99] ∧ Sk w w' w.heap.size xs 0 o (0, 0)) := fun w1 h => by
    refine (sk_send 1 (by decide) 1 (by decide) (h.alloc _) (lit_const w1 [97, 98, 99] _ 3 rfl rfl).1 (by decide)).mono ?_
    rintro e w' ⟨rfl, o', hs, _⟩
    exact ⟨rfl, _, _, rfl, hs⟩
  have C3 : Hid (∀ (w1 : World) (xs : Nat → List UInt8) (o : Nat → Option Nat), xs 1 = [97, 98, 99] → Sk w w1 w.heap.size xs 0 o (0, 0) → Calls Try.prog 16 #[.pointer (some ⟨w.heap.size, 0, none⟩), .int .i64 2, .int .i64 2] w1 fun e w' => ∃ A bb off, e = .returned (.tuple #[.slice A 2 2, .int .i64 0]) ∧ Bytes w' (.slice A 2 2) [97, 98] A 2 bb off ∧ bb ≠ w.heap.size ∧ ∃ xs o x, xs 1 = [99] ∧ Sk w w' w.heap.size xs 0 o x) := fun w1 xs o hx h => by
    refine (sk_deliver 1 (by decide) 2 (by decide) 2 (by decide) 2 (by rw [hx]; decide) h).mono ?_
    rintro e w' ⟨A, y, rfl, h1, h2, _⟩
    have hne := h1.ne h2.lk (by decide)
    obtain ⟨off, h3⟩ := h1.bytes
    rw [hx] at h3
    exact ⟨A, _, off, rfl, h3, hne, _, _, _, by rw [upd_at, hx]; rfl, h2⟩
  have C4 : Hid (∀ (w1 : World) (xs : Nat → List UInt8) (o : Nat → Option Nat) (x : Nat × Nat), xs 1 = [99] → Sk w w1 w.heap.size xs 0 o x → Calls Try.prog 16 #[.pointer (some ⟨w.heap.size, 0, none⟩), .int .i64 2, .int .i64 2] w1 fun e w' => ∃ A, e = .returned (.tuple #[.slice A 1 1, .int .i64 0]) ∧ (convert 26 9 (.slice A 1 1)).run Try.prog w' = .ok (.string ⟨#[99]⟩) w' ∧ Grw w.heap.size w1 w' ∧ Below w.heap.size w w') := fun w1 xs o x hx h => by
    refine (sk_deliver 1 (by decide) 2 (by decide) 2 (by decide) 1 (by rw [hx]; decide) h).mono ?_
    rintro e w' ⟨A, y, rfl, h1, h2, h4⟩
    obtain ⟨off, h3⟩ := h1.bytes
    rw [hx] at h3
    exact ⟨A, rfl, conv_back h3, h4, h2.below⟩
  have kc := fun (w : World) (C : Array Value) (n c : Nat) => Lib.run_convert_bytes_const (P := Try.prog) w 26 5 C n c Try.underlying26 Try.underlying5
  clear hp
  go_enter Try.func14, Try.ntmps14
  go_wp2_with (fail)
  refine C1.out.mono ?_
  rintro e1 w1 ⟨rfl, h1, _⟩
  have S1 := hid h1
  clear h1
  go_wp2_with (fail)
  refine (C2.out _ S1.out).mono ?_
  rintro e2 w2 ⟨rfl, xs2, o2, hx2, h2⟩
  have S2 := hid h2
  have X2 := hid hx2
  clear h2 hx2
  go_wp2_with (fail)
  refine (C3.out _ _ _ X2.out S2.out).mono ?_
  rintro e3 w3 ⟨A3, b3, off3, rfl, hy3, hn3, xs3, o3, x3, hx3, h3⟩
  have S3 := hid h3
  have X3 := hid hx3
  have Y3 := hid hy3
  have N3 := hid hn3
  clear h3 hx3 hy3 hn3
  go_wp2_with (fail)
  refine (C4.out _ _ _ _ X3.out S3.out).mono ?_
  rintro e4 w4 ⟨A4, rfl, hc4, hg4, hb4⟩
  have B4 := hid hb4
  have hc3 : (convert 26 9 (.slice A3 2 2)).run Try.prog w4 = .ok (.string ⟨#[97, 98]⟩) w4 := conv_back (Y3.out.grw hg4 N3.out)
  clear hb4 hg4
  go_wp2
  go_ret
  exact ⟨rfl, B4.out⟩
end Go.Proofs.Ytcfmjebnjjpajaa
