/- (*Reader).ready, Broken, Held, NewReader: what each call does. Conditions: a reader, or one that is none. -/
import Derived.Test.YtakgbopkkechgaaFB
namespace Go.Proofs.Ytakgbopkkechgaa
open Go.RowKit
def stE (R : RS) : Int := if R.1 then 4 else 0
/-- The value is a pointer to a reader that is none. -/
def NoRd (w : World) (v : Value) : Prop := v = .pointer none ∨ ∃ p h l, v = .pointer (some ⟨p, 0, none⟩) ∧ Has w p 61 #[.bool false, h, l]
set_option maxRecDepth 100000 in
set_option maxHeartbeats 400000 in
theorem ready_none (v : Value) (w : World) (h : NoRd w v) : Calls Try.prog 25 #[v] w fun e w' => e = .returned (.int .i64 1) ∧ w = w' := by
  rcases h with rfl | ⟨p, h, l, rfl, h1⟩
  · go_enter Try.func25, Try.ntmps25
    go_wp2
    go_ret
    exact ⟨rfl, rfl⟩
  · have c0 := h1.at_ 0
    simp at c0
    go_enter Try.func25, Try.ntmps25
    go_wp2
    go_ret
    exact ⟨rfl, rfl⟩
set_option maxRecDepth 100000 in
set_option maxHeartbeats 400000 in
theorem ready_any (p : Nat) (R : RS) (o : Option Nat) (w : World) (h : Rd w p R o) : Calls Try.prog 25 #[.pointer (some ⟨p, 0, none⟩)] w fun e w' => e = .returned (.int .i64 (stE R)) ∧ w = w' := by
  obtain ⟨b, xs⟩ := R
  obtain ⟨v, l, h1, h2, h3, h4⟩ := h
  have c0 : w.cell? ⟨p, 0, none⟩ = some (.bool true) := h1.at_ 0
  have c2 : w.cell? ⟨p, 2, none⟩ = some (.int .i64 l) := h1.at_ 2
  clear h1
  rcases h4 with ⟨hb, hl, _, _⟩ | ⟨hb, _, hl, h0, _⟩
  · simp only at hb hl
    subst hb
    subst hl
    go_enter Try.func25, Try.ntmps25
    go_wp2
    go_ret
    exact ⟨rfl, rfl⟩
  · simp only at hb hl h0
    subst hb
    have l0 : (0 : Int) < l := by omega
    clear hl h0
    go_enter Try.func25, Try.ntmps25
    go_wp2
    go_ret
    exact ⟨rfl, rfl⟩
set_option maxRecDepth 100000 in
set_option maxHeartbeats 400000 in
theorem broken_none (v : Value) (w : World) (h : NoRd w v) : Calls Try.prog 20 #[v] w fun e w' => e = .returned (.bool false) ∧ w = w' := by
  have C := hid (ready_none v w h)
  clear h
  go_enter Try.func20, Try.ntmps20
  go_wp2_with (go_at_call 25; refine C.out.mono ?_; rintro e w' ⟨rfl, rfl⟩)
  go_ret
  exact ⟨rfl, rfl⟩
set_option maxRecDepth 100000 in
set_option maxHeartbeats 400000 in
theorem held_none (v : Value) (w : World) (h : NoRd w v) : Calls Try.prog 19 #[v] w fun e w' => e = .returned (.int .i64 0) ∧ w = w' := by
  have C := hid (ready_none v w h)
  clear h
  go_enter Try.func19, Try.ntmps19
  go_wp2_with (go_at_call 25; refine C.out.mono ?_; rintro e w' ⟨rfl, rfl⟩)
  go_ret
  exact ⟨rfl, rfl⟩
set_option maxRecDepth 100000 in
set_option maxHeartbeats 400000 in
theorem broken_any (p : Nat) (R : RS) (o : Option Nat) (w : World) (h : Rd w p R o) : Calls Try.prog 20 #[.pointer (some ⟨p, 0, none⟩)] w fun e w' => e = .returned (.bool R.1) ∧ w = w' := by
  have C := hid (ready_any p R o w h)
  clear h
  obtain ⟨b, xs⟩ := R
  cases b
  all_goals
    simp only [stE, Bool.false_eq_true, if_false, if_true] at C
    go_enter Try.func20, Try.ntmps20
    go_wp2_with (go_at_call 25; refine C.out.mono ?_; rintro e w' ⟨rfl, rfl⟩)
    go_ret
    exact ⟨rfl, rfl⟩
set_option maxRecDepth 100000 in
set_option maxHeartbeats 1000000 in
theorem held_any (p : Nat) (R : RS) (o : Option Nat) (w : World) (h : Rd w p R o) : Calls Try.prog 19 #[.pointer (some ⟨p, 0, none⟩)] w fun e w' => e = .returned (.int .i64 (R.2.length : Int)) ∧ Below w.heap.size w w' := by
  have C := hid (ready_any p R o w h)
  obtain ⟨b, xs⟩ := R
  obtain ⟨v, l, h1, h2, h3, h4⟩ := h
  have c1 : w.cell? ⟨p, 1, none⟩ = some v := h1.at_ 1
  have c2 : w.cell? ⟨p, 2, none⟩ = some (.int .i64 l) := h1.at_ 2
  have HC1 : Hid (∀ n, (w.drewN n).cell? ⟨p, 1, none⟩ = some v) := fun n => c1
  have HC2 : Hid (∀ n, (w.drewN n).cell? ⟨p, 2, none⟩ = some (.int .i64 l)) := fun n => c2
  clear h1
  rcases h4 with ⟨hb, hl, hq, _⟩ | ⟨hb, hv, hl, h0, _⟩
  · simp only at hb hl
    subst hb
    subst hl
    obtain ⟨A, cap, rfl⟩ := hq.form
    have ex : wrap64 (xs.length : Int) = xs.length := by
      have : xs.length ≤ 131072 := h2
      simp [wrap64]; omega
    clear hq h2
    simp only at *
    generalize xs.length = L at *
    simp only [stE, Bool.false_eq_true, if_false] at C
    go_enter Try.func19, Try.ntmps19
    go_wp2_with (go_at_call 25; refine C.out.mono ?_; rintro e w' ⟨rfl, rfl⟩)
    go_quiet (fail)
    go_wp2
    go_ret
    exact ⟨by show Ending.returned (.int .i64 (wrap64 _)) = _; rw [ex], (Below.refl _ _).drewN' _⟩
  · simp only at hb hl h0
    subst hb
    subst hv
    have ex : wrap64 l = xs.length := by
      have : xs.length ≤ 131072 := h2
      rw [hl]
      simp [wrap64]; omega
    clear h2 h0 hl
    simp only at *
    generalize xs.length = L at *
    simp only [stE, if_true] at C
    go_enter Try.func19, Try.ntmps19
    go_wp2_with (go_at_call 25; refine C.out.mono ?_; rintro e w' ⟨rfl, rfl⟩)
    go_quiet (fail)
    go_wp2
    go_ret
    exact ⟨by show Ending.returned (.int .i64 (wrap64 _)) = _; rw [ex], (Below.refl _ _).drewN' _⟩
end Go.Proofs.Ytakgbopkkechgaa
