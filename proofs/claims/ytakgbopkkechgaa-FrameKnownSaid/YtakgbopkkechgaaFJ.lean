/- A reader in the course of a law; caravanlaw10.works: what its call does. Conditions: a heap that has a block. -/
import Derived.Test.YtakgbopkkechgaaFI
namespace Go.Proofs.Ytakgbopkkechgaa
open Go.RowKit
/-- A reader that was made behind the world w0. -/
def Ses (w0 w : World) (p : Nat) (R : RS) (o : Option Nat) : Prop := Below w0.heap.size w0 w ∧ w0.heap.size ≤ p ∧ From w0.heap.size o ∧ Rd w p R o
section
variable {w0 w w' : World} {p : Nat} {R : RS} {o : Option Nat}
theorem Ses.below (h : Ses w0 w p R o) : Below w0.heap.size w0 w := h.1
theorem Ses.rd (h : Ses w0 w p R o) : Rd w p R o := h.2.2.2
theorem Ses.kept (h : Ses w0 w p R o) (hb : Below w.heap.size w w') : Ses w0 w' p R o :=
  ⟨h.1.trans (hb.mono h.1.size), h.2.1, h.2.2.1, h.2.2.2.kept hb (Nat.le_refl _)⟩
theorem Ses.alloc (h : Ses w0 w p R o) (x : Obj) : Ses w0 (w.alloc x) p R o := h.kept ((Below.refl _ _).alloc (Nat.le_refl _) _)
theorem Ses.step {R' : RS} {o' : Option Nat} (h : Ses w0 w p R o) (hr : Rd w' p R' o') (hn : Nx o o' w) (hc : Chg p o w w') : Ses w0 w' p R' o' :=
  ⟨Chg.below h.1 hc h.2.1 h.2.2.1 h.1.size, h.2.1, h.2.2.1.nx hn h.1.size, hr⟩
theorem ses_new (hb : Below w0.heap.size w0 w) (hw : 0 < w.heap.size) : Calls Try.prog 14 #[] w fun e w' => e = .returned (.pointer (some ⟨w.heap.size, 0, none⟩)) ∧ Ses w0 w' w.heap.size (false, []) none ∧ Below w.heap.size w w' := by
  refine (new_any w hw).mono ?_
  rintro e w' ⟨rfl, hr, hb'⟩
  exact ⟨rfl, ⟨hb.trans (hb'.mono hb.size), hb.size, (fun k hk => by cases hk), hr⟩, hb'⟩
theorem ses_push {bv : Value} {ys : List UInt8} {A : Option Addr} {cap bb off : Nat} (h : Ses w0 w p R o) (hs : Bytes w bv ys A cap bb off) (hn : ys.length ≤ 300000) :
    Calls Try.prog 15 #[.pointer (some ⟨p, 0, none⟩), bv] w fun e w' => e = .returned (.int .i64 (pushE R ys)) ∧ ∃ o', Ses w0 w' p (pushR R ys) o' ∧ Nx o o' w ∧ Chg p o w w' := by
  refine (push_any p R o bv ys A cap bb off hn w h.rd hs).mono ?_
  rintro e w' ⟨rfl, o', hr, hx, hc⟩
  exact ⟨rfl, o', h.step hr hx hc, hx, hc⟩
theorem ses_wait {xs : List UInt8} (h : Ses w0 w p (false, xs) o) (hO : outL xs = .wait) : Calls Try.prog 17 #[.pointer (some ⟨p, 0, none⟩)] w fun e w' => e = .returned (.tuple #[.int .i64 0, .slice none 0 0, .bool false, .int .i64 0]) ∧ Ses w0 w' p (false, xs) o ∧ Below w.heap.size w w' := by
  refine (next_wait p xs o hO w h.rd).mono ?_
  rintro e w' ⟨rfl, hb⟩
  exact ⟨rfl, h.kept hb, hb⟩
theorem ses_stop (h : Ses w0 w p R o) (hO : R.1 = true ∨ outL R.2 = .bad) : Calls Try.prog 17 #[.pointer (some ⟨p, 0, none⟩)] w fun e w' => e = .returned (.tuple #[.int .i64 0, .slice none 0 0, .bool false, .int .i64 4]) ∧ ∃ o', Ses w0 w' p (true, R.2) o' ∧ Nx o o' w ∧ Chg p o w w' := by
  obtain ⟨b, xs⟩ := R
  cases b
  · refine (next_bad p xs o (by simpa using hO) w h.rd).mono ?_
    rintro e w' ⟨rfl, hr, hg⟩
    exact ⟨rfl, none, h.step hr (.inr (.inl rfl)) (Chg.of_grw hg), .inr (.inl rfl), Chg.of_grw hg⟩
  · refine (next_broken p xs o w h.rd).mono ?_
    rintro e w' ⟨rfl, hb⟩
    exact ⟨rfl, o, h.kept hb, .inl rfl, Chg.of_below hb⟩
theorem ses_one {xs : List UInt8} {k : UInt8} {body rest : List UInt8} (h : Ses w0 w p (false, xs) o) (hO : outL xs = .one k body rest) : Calls Try.prog 17 #[.pointer (some ⟨p, 0, none⟩)] w fun e w' =>
    ∃ v A cap bb, e = .returned (.tuple #[.int .i64 (b8 k), v, .bool true, .int .i64 0]) ∧ Bytes w' v body A cap bb 0 ∧ (bb = 0 ∨ w.heap.size ≤ bb) ∧ Ses w0 w' p (false, rest) o ∧ Grw p w w' := by
  refine (next_one p xs o k body rest hO w h.rd).mono ?_
  rintro e w' ⟨v, A, cap, bb, rfl, hy, hbb, hr, hg⟩
  exact ⟨v, A, cap, bb, rfl, hy, hbb, h.step hr (.inl rfl) (Chg.of_grw hg), hg⟩
theorem ses_held (h : Ses w0 w p R o) : Calls Try.prog 19 #[.pointer (some ⟨p, 0, none⟩)] w fun e w' => e = .returned (.int .i64 (R.2.length : Int)) ∧ Ses w0 w' p R o ∧ Below w.heap.size w w' := by
  refine (held_any p R o w h.rd).mono ?_
  rintro e w' ⟨rfl, hb⟩
  exact ⟨rfl, h.kept hb, hb⟩
theorem ses_broken (h : Ses w0 w p R o) : Calls Try.prog 20 #[.pointer (some ⟨p, 0, none⟩)] w fun e w' => e = .returned (.bool R.1) ∧ w = w' := broken_any p R o w h.rd
end
/-- A row that was just laid. -/
theorem lit_bytes (w : World) (xs : List UInt8) (C : Array Value) (n : Nat) (hC : C = bvec xs) (hn : xs.length = n) : Bytes (w.alloc (.cells C 5)) (.slice (some ⟨w.heap.size, 0, none⟩) n n) xs (some ⟨w.heap.size, 0, none⟩) n w.heap.size 0 := by
  subst hn hC
  refine ⟨rfl, Nat.le_refl _, (fun h => by cases h), fun a ha j hj => ?_, by simp, fun _ => rfl⟩
  cases ha
  rw [add_at, Nat.zero_add]
  exact ((Has.fresh w 5 _).at_ j).trans (bvec_get xs j hj)
set_option maxRecDepth 100000 in
set_option maxHeartbeats 2000000 in
theorem works_any (w : World) (hp : 0 < w.heap.size) : Calls Try.prog 13 #[] w fun e w' => e = .returned (.bool true) ∧ Below w.heap.size w w' := by
  have C1 := hid (ses_new (w0 := w) (Below.refl _ _) hp)
  have C2 : Hid (∀ (w1 : World), Ses w w1 w.heap.size (false, []) none → Calls Try.prog 15 #[.pointer (some ⟨w.heap.size, 0, none⟩), .slice (some ⟨w1.heap.size, 0, none⟩) 6 6] (w1.alloc (.cells #[.int .u8 0, .int .u8 0, .int .u8 0, .int .u8 3, .int .u8 5, .int .u8 171] 5)) fun e w' => e = .returned (.int .i64 0) ∧ ∃ o', Ses w w' w.heap.size (false, [0, 0, 0, 3, 5, 171]) o') := fun w1 h => by
    refine (ses_push (h.alloc _) (lit_bytes w1 [0, 0, 0, 3, 5, 171] _ 6 rfl rfl) (by decide)).mono ?_
    rintro e w' ⟨rfl, o', hs, _⟩
    exact ⟨rfl, o', hs⟩
  have C3 : Hid (∀ (w1 : World) (o : Option Nat), Ses w w1 w.heap.size (false, [0, 0, 0, 3, 5, 171]) o → Calls Try.prog 17 #[.pointer (some ⟨w.heap.size, 0, none⟩)] w1 fun e w' => e = .returned (.tuple #[.int .i64 0, .slice none 0 0, .bool false, .int .i64 0]) ∧ Ses w w' w.heap.size (false, [0, 0, 0, 3, 5, 171]) o) := fun w1 o h => by
    refine (ses_wait h (by rfl)).mono ?_
    rintro e w' ⟨rfl, hs, _⟩
    exact ⟨rfl, hs⟩
  have C4 : Hid (∀ (w1 : World) (o : Option Nat), Ses w w1 w.heap.size (false, [0, 0, 0, 3, 5, 171]) o → Calls Try.prog 15 #[.pointer (some ⟨w.heap.size, 0, none⟩), .slice (some ⟨w1.heap.size, 0, none⟩) 1 1] (w1.alloc (.cells #[.int .u8 205] 5)) fun e w' => e = .returned (.int .i64 0) ∧ ∃ o', Ses w w' w.heap.size (false, [0, 0, 0, 3, 5, 171, 205]) o') := fun w1 o h => by
    refine (ses_push (h.alloc _) (lit_bytes w1 [205] _ 1 rfl rfl) (by decide)).mono ?_
    rintro e w' ⟨rfl, o', hs, _⟩
    exact ⟨rfl, o', hs⟩
  have C5 : Hid (∀ (w1 : World) (o : Option Nat), Ses w w1 w.heap.size (false, [0, 0, 0, 3, 5, 171, 205]) o → Calls Try.prog 17 #[.pointer (some ⟨w.heap.size, 0, none⟩)] w1 fun e w' => ∃ A n c, e = .returned (.tuple #[.int .i64 5, .slice A n c, .bool true, .int .i64 0]) ∧ (convert 22 9 (.slice A n c)).run Try.prog w' = .ok (.string ⟨#[171, 205]⟩) w' ∧ Below w.heap.size w w') := fun w1 o h => by
    refine (ses_one h (k := 5) (body := [171, 205]) (rest := []) (by rfl)).mono ?_
    rintro e w' ⟨v, A, cap, bb, rfl, hy, _, hs, _⟩
    have e1 := hy.form
    subst e1
    exact ⟨_, _, _, rfl, conv_back hy, hs.below⟩
  clear hp
  go_enter Try.func13, Try.ntmps13
  go_wp2_with (fail)
  refine C1.out.mono ?_
  rintro e1 w1 ⟨rfl, h1, _⟩
  have S1 := hid h1
  clear h1
  go_wp2_with (fail)
  refine (C2.out _ S1.out).mono ?_
  rintro e2 w2 ⟨rfl, o2, h2⟩
  have S2 := hid h2
  clear h2
  go_wp2_with (fail)
  refine (C3.out _ _ S2.out).mono ?_
  rintro e3 w3 ⟨rfl, h3⟩
  have S3 := hid h3
  clear h3
  go_wp2_with (fail)
  refine (C4.out _ _ S3.out).mono ?_
  rintro e4 w4 ⟨rfl, o4, h4⟩
  have S4 := hid h4
  clear h4
  go_wp2_with (fail)
  refine (C5.out _ _ S4.out).mono ?_
  rintro e5 w5 ⟨A, n, c, rfl, hc, hb⟩
  have B5 := hid hb
  clear hb
  go_wp2
  go_ret
  exact ⟨rfl, B5.out⟩
end Go.Proofs.Ytakgbopkkechgaa
