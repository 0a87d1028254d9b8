/- find, New, Left, Epoch, Reset: what each call does. Conditions: a link, or one that is none. -/
import Derived.Test.YtcfmjebnjjpajaaNC
import Derived.Shelf.Abstract
import Derived.Laws.EntriesVeiled
namespace Go.Proofs.Ytcfmjebnjjpajaa
open Go.RowKit
set_option maxRecDepth 100000 in
set_option maxHeartbeats 400000 in
theorem find_none (v f : Value) (w : World) (h : NoLk w v) : Calls Try.prog 22 #[v, f] w fun e w' => e = .returned (.tuple #[.pointer none, .int .i64 1]) ∧ w = w' := by
  have C := hid (isMade_none v w h)
  clear h
  go_enter Try.func22, Try.ntmps22
  go_wp2_with (go_at_call 25; refine C.out.mono ?_; rintro e w' ⟨rfl, rfl⟩)
  go_ret2
  exact ⟨rfl, rfl⟩
set_option maxRecDepth 100000 in
set_option maxHeartbeats 400000 in
theorem find_bad (p : Nat) (w : World) (c0 : w.cell? ⟨p, 0, none⟩ = some (.bool true)) : Calls Try.prog 22 #[.pointer (some ⟨p, 0, none⟩), .nilFunc] w fun e w' => e = .returned (.tuple #[.pointer none, .int .i64 2]) ∧ w = w' := by
  have C := hid (isMade_any p w c0)
  have hq : ∀ w : World, (binOp .eql 57 .nilFunc .nilFunc).run Try.prog w = .ok (.bool true) w := fun _ => by kernel_rfl
  clear c0
  go_enter Try.func22, Try.ntmps22
  go_wp2_with (go_at_call 25; refine C.out.mono ?_; rintro e w' ⟨rfl, rfl⟩)
  go_ret2
  exact ⟨rfl, rfl⟩
set_option maxRecDepth 100000 in
set_option maxHeartbeats 400000 in
theorem find_any (k : Nat) (hk : k < 2) (p : Nat) (f : Value) (w : World) (c0 : w.cell? ⟨p, 0, none⟩ = some (.bool true)) (hf : PickIs w f k) : Calls Try.prog 22 #[.pointer (some ⟨p, 0, none⟩), f] w fun e w' => e = .returned (.tuple #[.pointer (some ⟨p, 2 + k, none⟩), .int .i64 0]) ∧ Below w.heap.size w w' := by
  obtain ⟨g, rfl, hg⟩ := hf
  have C := hid (isMade_any p w c0)
  have CP := hid (toC_any k hk p g w hg)
  have ek : ∀ (args : Array Value) (w : World), (callFunc 29 args).run Try.prog w = .ok (.enter 29 args) w := enters_of Try.func29 (by kernel_rfl) rfl
  have hq : ∀ (w : World) (fn : Fn) (a b : Array Value), (binOp .eql 57 (.func fn a b) .nilFunc).run Try.prog w = .ok (.bool false) w := fun _ _ _ _ => by kernel_rfl
  clear c0 hg hk
  go_enter Try.func22, Try.ntmps22
  go_wp2_with (first
    | (go_at_call 25; refine C.out.mono ?_; rintro e w' ⟨rfl, rfl⟩)
    | (go_at_fn 29; refine CP.out.mono ?_; rintro e w' ⟨rfl, hb⟩))
  go_ret2
  exact ⟨rfl, hb⟩
set_option maxRecDepth 100000 in
set_option maxHeartbeats 400000 in
theorem lnew_any (w : World) (hw : 0 < w.heap.size) : Calls Try.prog 9 #[] w fun e w' => e = .returned (.pointer (some ⟨w.heap.size, 0, none⟩)) ∧ Lk w' w.heap.size (fun _ => []) 0 (fun _ => none) (0, 0) ∧ Below w.heap.size w w' := by
  have HW := hid hw
  clear hw
  go_enter Try.func9, Try.ntmps9
  go_wp2
  go_ret
  exact ⟨rfl, ⟨fun _ => .slice none 0 0, Has.fresh w 49 _, HW.out, fun k _ => ⟨Que.nil _ _, by simp, by simp⟩, fun g h => by cases h⟩, (Below.refl _ _).alloc (Nat.le_refl _) _⟩
set_option maxRecDepth 100000 in
set_option maxHeartbeats 400000 in
theorem epoch_none (v : Value) (w : World) (h : NoLk w v) : Calls Try.prog 13 #[v] w fun e w' => e = .returned (.int .i64 0) ∧ w = w' := by
  have C := hid (isMade_none v w h)
  clear h
  go_enter Try.func13, Try.ntmps13
  go_wp2_with (go_at_call 25; refine C.out.mono ?_; rintro e w' ⟨rfl, rfl⟩)
  go_ret
  exact ⟨rfl, rfl⟩
set_option maxRecDepth 100000 in
set_option maxHeartbeats 400000 in
theorem epoch_any (p : Nat) (xs : Nat → List UInt8) (n : Nat) (o : Nat → Option Nat) (x : Nat × Nat) (w : World) (h : Lk w p xs n o x) : Calls Try.prog 13 #[.pointer (some ⟨p, 0, none⟩)] w fun e w' => e = .returned (.int .i64 (n : Int)) ∧ w = w' := by
  have C := hid (isMade_any p w h.made)
  have c1 := h.epoch
  clear h
  go_enter Try.func13, Try.ntmps13
  go_wp2_with (go_at_call 25; refine C.out.mono ?_; rintro e w' ⟨rfl, rfl⟩)
  go_ret
  exact ⟨rfl, rfl⟩
set_option maxRecDepth 100000 in
set_option maxHeartbeats 400000 in
theorem left_none (v : Value) (n : Int) (hi : -9223372036854775808 ≤ n ∧ n ≤ 9223372036854775807) (w : World) (h : NoLk w v) : Calls Try.prog 11 #[v, .int .i64 n] w fun e w' => e = .returned (.int .i64 0) ∧ Below w.heap.size w w' := by
  have CT : Hid (Calls Try.prog 23 #[.int .i64 n] w fun e w' => (∃ f, e = .returned f) ∧ Below w.heap.size w w') := by
    by_cases hn : n < 1 ∨ 2 < n
    · refine (to_bad n hn w).mono ?_
      rintro e w' ⟨rfl, hb⟩
      exact ⟨⟨_, rfl⟩, hb⟩
    · refine (to_any (n - 1).toNat (by omega) n (by omega) w).mono ?_
      rintro e w' ⟨⟨f, rfl, _⟩, hb⟩
      exact ⟨⟨_, rfl⟩, hb⟩
  have HN : Hid (∀ w', Below w.heap.size w w' → NoLk w' v) := fun w' hb => by
    rcases h with rfl | ⟨p, e, a, b, rfl, h1⟩
    · exact .inl rfl
    · exact .inr ⟨p, e, a, b, rfl, h1.kept hb h1.inside⟩
  clear hi h
  go_enter Try.func11, Try.ntmps11
  go_wp2_with (first
    | (go_at_call 23; refine CT.out.mono ?_; rintro e w1 ⟨⟨f, rfl⟩, hb⟩; have B1 := hid hb; clear hb)
    | (go_at_call 22; refine (find_none _ _ _ (HN.out _ B1.out)).mono ?_; rintro e w2 ⟨rfl, rfl⟩))
  go_ret
  exact ⟨rfl, B1.out⟩
set_option maxRecDepth 100000 in
set_option maxHeartbeats 400000 in
theorem left_bad (p : Nat) (n : Int) (hn : n < 1 ∨ 2 < n) (xs : Nat → List UInt8) (m : Nat) (o : Nat → Option Nat) (x : Nat × Nat) (w : World) (h : Lk w p xs m o x) : Calls Try.prog 11 #[.pointer (some ⟨p, 0, none⟩), .int .i64 n] w fun e w' => e = .returned (.int .i64 0) ∧ Below w.heap.size w w' := by
  have CT := hid (to_bad n hn w)
  have HL := hid h
  clear hn h
  go_enter Try.func11, Try.ntmps11
  go_wp2_with (first
    | (go_at_call 23; refine CT.out.mono ?_; rintro e w1 ⟨rfl, hb⟩; have B1 := hid hb; clear hb)
    | (go_at_call 22; refine (find_bad p _ (HL.out.kept B1.out (Nat.le_refl _)).made).mono ?_; rintro e w2 ⟨rfl, rfl⟩))
  go_ret
  exact ⟨rfl, B1.out⟩
/-- The stream k's slice lies in the link. -/
theorem Lk.cell {w : World} {p : Nat} {xs : Nat → List UInt8} {e : Nat} {o : Nat → Option Nat} {x : Nat × Nat} (h : Lk w p xs e o x) {k : Nat} (hk : k < 2) : ∃ v, w.cell? ⟨p, 2 + k, none⟩ = some v ∧ w.frozen? ⟨p, 2 + k, none⟩ = false ∧ Que w v (xs k) (o k) x := by
  obtain ⟨v, h1, _, h3, _⟩ := h
  refine ⟨v k, ?_, h1.free _, (h3 k hk).1⟩
  rcases two_cases hk with rfl | rfl
  · exact h1.at_ 2
  · exact h1.at_ 3
set_option maxRecDepth 100000 in
set_option maxHeartbeats 400000 in
theorem left_any (k : Nat) (hk : k < 2) (p : Nat) (n : Int) (hn : n = (k : Int) + 1) (xs : Nat → List UInt8) (m : Nat) (o : Nat → Option Nat) (x : Nat × Nat) (w : World) (h : Lk w p xs m o x) : Calls Try.prog 11 #[.pointer (some ⟨p, 0, none⟩), .int .i64 n] w fun e w' => e = .returned (.int .i64 ((xs k).length : Int)) ∧ Below w.heap.size w w' := by
  have CT := hid (to_any k hk n hn w)
  have HL := hid h
  have HK := hid hk
  have CF : Hid (∀ w1 f, Below w.heap.size w w1 → PickIs w1 f k → Calls Try.prog 22 #[.pointer (some ⟨p, 0, none⟩), f] w1 fun e w' => e = .returned (.tuple #[.pointer (some ⟨p, 2 + k, none⟩), .int .i64 0]) ∧ Below w.heap.size w w' ∧ ∃ A c, w'.cell? ⟨p, 2 + k, none⟩ = some (.slice A (xs k).length c)) := fun w1 f hb hf => by
    have h1 := HL.out.kept hb (Nat.le_refl _)
    refine (find_any k HK.out p f w1 h1.made hf).mono ?_
    rintro e w' ⟨rfl, hb2⟩
    obtain ⟨v, hc, _, hq⟩ := (h1.kept hb2 (Nat.le_refl _)).cell HK.out
    obtain ⟨A, c, rfl⟩ := hq.form
    exact ⟨rfl, hb.trans (hb2.mono hb.size), A, c, hc⟩
  generalize (xs k).length = L at *
  clear hn h hk
  go_enter Try.func11, Try.ntmps11
  go_wp2_with (first
    | (go_at_call 23; refine CT.out.mono ?_; rintro e w1 ⟨⟨f, rfl, hf⟩, hb⟩; have B1 := hid hb; have F1 := hid hf; clear hb hf)
    | (go_at_call 22; refine (CF.out _ _ B1.out F1.out).mono ?_; rintro e w2 ⟨rfl, hb, A, c, hc⟩; have B2 := hid hb; clear hb))
  go_ret
  exact ⟨rfl, B2.out⟩
set_option maxRecDepth 100000 in
set_option maxHeartbeats 400000 in
theorem reset_none (v : Value) (w : World) (h : NoLk w v) : Calls Try.prog 17 #[v] w fun e w' => e = .returned (.int .i64 1) ∧ w = w' := by
  have C := hid (isMade_none v w h)
  clear h
  go_enter Try.func17, Try.ntmps17
  go_wp2_with (go_at_call 25; refine C.out.mono ?_; rintro e w' ⟨rfl, rfl⟩)
  go_ret
  exact ⟨rfl, rfl⟩
set_option maxRecDepth 100000 in
set_option maxHeartbeats 400000 in
theorem reset_any (p : Nat) (xs : Nat → List UInt8) (n : Nat) (hn : n < 4611686018427387904) (o : Nat → Option Nat) (x : Nat × Nat) (w : World) (h : Lk w p xs n o x) : Calls Try.prog 17 #[.pointer (some ⟨p, 0, none⟩)] w fun e w' => e = .returned (.int .i64 0) ∧ Lk w' p (fun _ => []) (n + 1) (fun _ => none) (0, 0) ∧ Grw p w w' := by
  have C := hid (isMade_any p w h.made)
  have c1 := h.epoch
  have HP := hid h.pos
  obtain ⟨v, h1, _, h3, _⟩ := h
  obtain ⟨A, c, ea⟩ := (h3 0 (by omega)).1.form
  obtain ⟨B, d, eb⟩ := (h3 1 (by omega)).1.form
  rw [ea, eb] at h1
  have H1 := hid h1
  have f1 := h1.free 1
  have f2 := h1.free 2
  have f3 := h1.free 3
  have c2 : w.cell? ⟨p, 2, none⟩ = _ := h1.at_ 2
  have c3 : w.cell? ⟨p, 3, none⟩ = _ := h1.at_ 3
  have hw : wrap64 ((n : Int) + 1) = ((n + 1 : Nat) : Int) := by simp [wrap64]; omega
  clear h1 h3 ea eb hn
  go_enter Try.func17, Try.ntmps17
  go_wp2_with (go_at_call 25; refine C.out.mono ?_; rintro e w' ⟨rfl, rfl⟩)
  go_ret
  have K := ((H1.out.put 2 (.slice none 0 0)).put 3 (.slice none 0 0)).put 1 (.int .i64 ((n : Int) + 1))
  refine ⟨rfl, ⟨fun _ => .slice none 0 0, ?_, HP.out, fun k _ => ⟨Que.nil _ _, by simp, by simp⟩, fun g h => by cases h⟩, ((Grw.of_set p 2 w _).trans (Grw.of_set p 3 _ _)).trans (Grw.of_set p 1 _ _)⟩
  exact K
end Go.Proofs.Ytcfmjebnjjpajaa
