/- A tape: what lies in its block; Err, Tear, Left, NewTape: what each call does. Conditions: a tape that NewTape made. -/
import Derived.Test.YtakgbopkkechgaaBE
namespace Go.Proofs.Ytakgbopkkechgaa
open Go.RowKit
def ptr (g : Nat) : Value := .pointer (some ⟨g, 0, none⟩)
/-- Torn or not, and the bytes that are left. -/
abbrev St := Bool × List UInt8
/-- A tape lies in block g. -/
def Tp (w : World) (g : Nat) (s : St) : Prop := ∃ A cap bb off, Has w g 77 #[.bool true, .bool s.1, .slice A s.2.length cap] ∧ Bytes w (.slice A s.2.length cap) s.2 A cap bb off ∧ bb ≠ g ∧ s.2.length ≤ 100000 ∧ 0 < g
theorem Tp.inside {w : World} {g : Nat} {s : St} (h : Tp w g s) : g < w.heap.size := by obtain ⟨A, cap, bb, off, h1, _⟩ := h; exact h1.inside
theorem Tp.kept {w w' : World} {g : Nat} {s : St} (h : Tp w g s) (hb : Below w.heap.size w w') : Tp w' g s := by
  obtain ⟨A, cap, bb, off, h1, h2, h3, h4⟩ := h
  exact ⟨A, cap, bb, off, h1.kept hb h1.inside, h2.kept hb (Nat.le_refl _), h3, h4⟩
def tear (s : St) : St := (true, s.2)
def errS (s : St) : Int := if s.1 then 4 else 0
set_option maxRecDepth 100000 in
set_option maxHeartbeats 400000 in
theorem err_any (g : Nat) (s : St) (w : World) (h : Tp w g s) : Calls Try.prog 37 #[.pointer (some ⟨g, 0, none⟩)] w fun e w' => e = .returned (.int .i64 (errS s)) ∧ w = w' := by
  obtain ⟨t, xs⟩ := s
  obtain ⟨A, cap, bb, off, h1, _⟩ := h
  have c0 : w.cell? ⟨g, 0, none⟩ = some (.bool true) := h1.at_ 0
  have c1 : w.cell? ⟨g, 1, none⟩ = some (.bool t) := h1.at_ 1
  clear h1
  cases t
  all_goals
    go_enter Try.func37, Try.ntmps37
    go_wp2
    go_ret
    exact ⟨rfl, rfl⟩
theorem tear_at {w : World} {g : Nat} {s : St} (h : Tp w g s) : Tp (w.setCell ⟨g, 1, none⟩ (.bool true)) g (tear s) ∧ Grw g w (w.setCell ⟨g, 1, none⟩ (.bool true)) := by
  obtain ⟨A, cap, bb, off, h1, h2, h3, h4⟩ := h
  have hg := Grw.of_set g 1 w (.bool true)
  exact ⟨⟨A, cap, bb, off, h1.put 1 (.bool true), h2.grw hg h3, h3, h4⟩, hg⟩
set_option maxRecDepth 100000 in
set_option maxHeartbeats 400000 in
theorem tear_any (g : Nat) (s : St) (w : World) (h : Tp w g s) : Calls Try.prog 39 #[.pointer (some ⟨g, 0, none⟩)] w fun e w' => e = .returned (.tuple #[]) ∧ Tp w' g (tear s) ∧ Grw g w w' := by
  have HT := hid (tear_at h)
  have HH := hid h
  obtain ⟨t, xs⟩ := s
  obtain ⟨A, cap, bb, off, h1, _⟩ := h
  have c1 : w.cell? ⟨g, 1, none⟩ = some (.bool t) := h1.at_ 1
  have f1 := h1.free 1
  clear h1
  cases t
  · have CE : Hid (Calls Try.prog 37 #[.pointer (some ⟨g, 0, none⟩)] w fun e w' => e = .returned (.int .i64 0) ∧ w = w') := err_any g (false, xs) w HH.out
    go_enter Try.func39, Try.ntmps39
    go_wp2_with (go_at_call 37; refine CE.out.mono ?_; rintro e w' ⟨rfl, rfl⟩)
    go_end0
    exact ⟨rfl, HT.out.1, HT.out.2⟩
  · have CE : Hid (Calls Try.prog 37 #[.pointer (some ⟨g, 0, none⟩)] w fun e w' => e = .returned (.int .i64 4) ∧ w = w') := err_any g (true, xs) w HH.out
    go_enter Try.func39, Try.ntmps39
    go_wp2_with (go_at_call 37; refine CE.out.mono ?_; rintro e w' ⟨rfl, rfl⟩)
    go_end0
    exact ⟨rfl, HH.out, Grw.refl _ _⟩
set_option maxRecDepth 100000 in
set_option maxHeartbeats 400000 in
theorem left_any (g : Nat) (s : St) (w : World) (h : Tp w g s) : Calls Try.prog 33 #[.pointer (some ⟨g, 0, none⟩)] w fun e w' => e = .returned (.int .i64 (s.2.length : Int)) ∧ w = w' := by
  have CE := hid (err_any g s w h)
  have HE : Hid (errS s = 4 ∨ errS s = 0) := by show _ ∨ _; unfold errS; split <;> simp
  obtain ⟨A, cap, bb, off, h1, _⟩ := h
  have c1 : w.cell? ⟨g, 2, none⟩ = some (.slice A s.2.length cap) := h1.at_ 2
  clear h1
  generalize errS s = x at CE HE
  rcases HE.out with rfl | rfl
  all_goals
    go_enter Try.func33, Try.ntmps33
    go_wp2_with (go_at_call 37; refine CE.out.mono ?_; rintro e w' ⟨rfl, rfl⟩)
    go_ret
    exact ⟨rfl, rfl⟩
set_option maxRecDepth 100000 in
set_option maxHeartbeats 400000 in
theorem newTape_any (v : Value) (xs : List UInt8) (A : Option Addr) (cap bb off : Nat) (hl : xs.length ≤ 100000) (w : World) (h : Bytes w v xs A cap bb off) :
    Calls Try.prog 32 #[v] w fun e w' => ∃ g, e = .returned (.pointer (some ⟨g, 0, none⟩)) ∧ w.heap.size ≤ g ∧ Tp w' g (false, xs) ∧ Below w.heap.size w w' := by
  have CC := hid (clone_any v xs A cap bb off hl w h)
  have HP : Hid (0 < w.heap.size) := Nat.lt_of_le_of_lt (Nat.zero_le _) h.blk
  have HL := hid hl
  obtain rfl := h.form
  clear h hl
  go_enter Try.func32, Try.ntmps32
  go_wp2_with (first
    | (go_at_call 36; refine CC.out.mono ?_; rintro e1 w1 ⟨v1, rfl, ho1, hb1⟩
       obtain ⟨A1, c1, b1, hy1, hb, hb2⟩ := ho1.bytes (Nat.lt_of_lt_of_le HP.out hb1.size)
       obtain rfl := hy1.form
       have B1 := hid hb1
       have Y1 := hid hy1
       clear ho1 hb1 hy1 hb hb2))
  go_ret
  refine ⟨w1.heap.size, rfl, B1.out.size, ⟨A1, c1, b1, 0, Has.fresh w1 77 _, Y1.out.kept ((Below.refl _ _).alloc (Nat.le_refl _) _) (Nat.le_refl _), Nat.ne_of_lt Y1.out.blk, HL.out, Nat.lt_of_lt_of_le HP.out B1.out.size⟩, B1.out.alloc B1.out.size _⟩
end Go.Proofs.Ytakgbopkkechgaa
