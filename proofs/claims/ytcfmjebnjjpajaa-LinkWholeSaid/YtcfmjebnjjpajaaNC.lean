/- A link in memory; isMade, streamTo, streamFrom, find: what each call does. Conditions: a link, or one that is none. -/
import Derived.Test.YtcfmjebnjjpajaaNB
import Derived.Deep.RegionHeld3
namespace Go.Proofs.Ytcfmjebnjjpajaa
open Go.RowKit
/-- The function f, but a at k. -/
def upd {T : Type} (f : Nat → T) (k : Nat) (a : T) : Nat → T := fun j => if j = k then a else f j
theorem upd_at {T : Type} (f : Nat → T) (k : Nat) (a : T) : upd f k a k = a := if_pos rfl
theorem upd_ne {T : Type} (f : Nat → T) {k j : Nat} (a : T) (h : j ≠ k) : upd f k a j = f j := if_neg h
/-- A link lies in block p: what is in flight, in the rows o, the epoch. -/
def Lk (w : World) (p : Nat) (xs : Nat → List UInt8) (e : Nat) (o : Nat → Option Nat) (x : Nat × Nat) : Prop :=
  ∃ v : Nat → Value, Has w p 49 #[.bool true, .int .i64 (e : Int), v 0, v 1] ∧ 0 < p ∧ (∀ k, k < 2 → Que w (v k) (xs k) (o k) x ∧ o k ≠ some p ∧ (xs k).length ≤ 262144) ∧ ∀ g, o 0 = some g → o 1 ≠ some g
/-- The value is a pointer to a link that is none. -/
def NoLk (w : World) (v : Value) : Prop := v = .pointer none ∨ ∃ p e a b, v = .pointer (some ⟨p, 0, none⟩) ∧ Has w p 49 #[.bool false, e, a, b]
section
variable {w w' : World} {p : Nat} {xs : Nat → List UInt8} {e : Nat} {o : Nat → Option Nat} {x : Nat × Nat}
theorem Lk.inside (h : Lk w p xs e o x) : p < w.heap.size := by obtain ⟨v, h1, _⟩ := h; exact h1.inside
theorem Lk.pos (h : Lk w p xs e o x) : 0 < p := by obtain ⟨v, _, h1, _⟩ := h; exact h1
theorem Lk.row (h : Lk w p xs e o x) {k g : Nat} (hk : k < 2) (hg : o k = some g) : g < w.heap.size := by obtain ⟨v, _, _, h1, _⟩ := h; exact (h1 k hk).1.inside hg
theorem Lk.ne (h : Lk w p xs e o x) {k : Nat} (hk : k < 2) : o k ≠ some p := by obtain ⟨v, _, _, h1, _⟩ := h; exact (h1 k hk).2.1
theorem Lk.len (h : Lk w p xs e o x) {k : Nat} (hk : k < 2) : (xs k).length ≤ 262144 := by obtain ⟨v, _, _, h1, _⟩ := h; exact (h1 k hk).2.2
theorem Lk.weak (h : Lk w p xs e o x) : Lk w p xs e o (0, 0) := by
  obtain ⟨v, h1, h2, h3, h4⟩ := h
  exact ⟨v, h1, h2, fun k hk => ⟨(h3 k hk).1.weak, (h3 k hk).2⟩, h4⟩
theorem Lk.made (h : Lk w p xs e o x) : w.cell? ⟨p, 0, none⟩ = some (.bool true) := by obtain ⟨v, h1, _⟩ := h; exact h1.at_ 0
theorem Lk.epoch (h : Lk w p xs e o x) : w.cell? ⟨p, 1, none⟩ = some (.int .i64 (e : Int)) := by obtain ⟨v, h1, _⟩ := h; exact h1.at_ 1
theorem Lk.same (h : Lk w p xs e o x) (hp : w'.heap[p]? = w.heap[p]?) (hb : ∀ k g, k < 2 → o k = some g → w'.heap[g]? = w.heap[g]?) : Lk w' p xs e o x := by
  obtain ⟨v, h1, h2, h3, h4⟩ := h
  exact ⟨v, hp.trans h1, h2, fun k hk => ⟨(h3 k hk).1.same (fun g hg => hb k g hk hg), (h3 k hk).2⟩, h4⟩
theorem Lk.kept {B : Nat} (h : Lk w p xs e o x) (hb : Below B w w') (hB : w.heap.size ≤ B) : Lk w' p xs e o x :=
  h.same (hb.block p (Nat.lt_of_lt_of_le h.inside hB)) (fun _ g hk hg => hb.block g (Nat.lt_of_lt_of_le (h.row hk hg) hB))
/-- A byte of the part is stored. -/
theorem Lk.store (h : Lk w p xs e o x) {i : Nat} (hi : i < x.2) (hx : x.1 ≠ p) (y : Value) : Lk (w.setCell ⟨x.1, i, none⟩ y) p xs e o x := by
  obtain ⟨v, h1, h2, h3, h4⟩ := h
  exact ⟨v, h1.other (Ne.symm hx) _, h2, fun k hk => ⟨(h3 k hk).1.store hi y, (h3 k hk).2⟩, h4⟩
end
theorem two_cases {k : Nat} (h : k < 2) : k = 0 ∨ k = 1 := by omega
set_option maxRecDepth 100000 in
set_option maxHeartbeats 400000 in
theorem isMade_none (v : Value) (w : World) (h : NoLk w v) : Calls Try.prog 25 #[v] w fun e w' => e = .returned (.bool false) ∧ w = w' := by
  rcases h with rfl | ⟨p, e, a, b, rfl, h1⟩
  · go_enter Try.func25, Try.ntmps25
    go_wp2
    go_ret
    exact ⟨rfl, rfl⟩
  · have c0 := h1.at_ 0
    simp at c0
    go_enter Try.func25, Try.ntmps25
    go_wp2
    go_ret
    exact ⟨rfl, rfl⟩
set_option maxRecDepth 100000 in
set_option maxHeartbeats 400000 in
theorem isMade_any (p : Nat) (w : World) (c0 : w.cell? ⟨p, 0, none⟩ = some (.bool true)) : Calls Try.prog 25 #[.pointer (some ⟨p, 0, none⟩)] w fun e w' => e = .returned (.bool true) ∧ w = w' := by
  go_enter Try.func25, Try.ntmps25
  go_wp2
  go_ret
  exact ⟨rfl, rfl⟩
/-- The value is a function that picks the stream k. -/
def PickIs (w : World) (f : Value) (k : Nat) : Prop := ∃ g, f = .func (.func 29) #[] #[.pointer (some ⟨g, 0, none⟩)] ∧ Has w g 3 #[.int .i64 ((k : Int) + 1)]
set_option maxRecDepth 100000 in
set_option maxHeartbeats 400000 in
theorem to_any (k : Nat) (hk : k < 2) (n : Int) (hn : n = (k : Int) + 1) (w : World) : Calls Try.prog 23 #[.int .i64 n] w fun e w' => (∃ f, e = .returned f ∧ PickIs w' f k) ∧ Below w.heap.size w w' := by
  have hmf : ∀ (fn : Fn) (first cap : Array Value) (w : World), (Instr.makeFunc fn first cap).run Try.prog w = .ok (.func fn first cap) w := fun _ _ _ _ => rfl
  have h1 : ¬ n < 1 := by omega
  have h2 : ¬ 2 < n := by omega
  have HN := hid hn
  clear hk hn
  go_enter Try.func23, Try.ntmps23
  go_wp2
  go_ret
  refine ⟨⟨_, rfl, w.heap.size, rfl, ?_⟩, (Below.refl _ _).alloc (Nat.le_refl _) _⟩
  rw [← HN.out]
  exact Has.fresh w 3 _
set_option maxRecDepth 100000 in
set_option maxHeartbeats 400000 in
theorem to_bad (n : Int) (hn : n < 1 ∨ 2 < n) (w : World) : Calls Try.prog 23 #[.int .i64 n] w fun e w' => e = .returned .nilFunc ∧ Below w.heap.size w w' := by
  have hmf : ∀ (fn : Fn) (first cap : Array Value) (w : World), (Instr.makeFunc fn first cap).run Try.prog w = .ok (.func fn first cap) w := fun _ _ _ _ => rfl
  by_cases h1 : n < 1
  · clear hn
    go_enter Try.func23, Try.ntmps23
    go_wp2
    go_ret
    exact ⟨rfl, (Below.refl _ _).alloc (Nat.le_refl _) _⟩
  · have h2 : 2 < n := by omega
    clear hn
    go_enter Try.func23, Try.ntmps23
    go_wp2
    go_ret
    exact ⟨rfl, (Below.refl _ _).alloc (Nat.le_refl _) _⟩
set_option maxRecDepth 100000 in
set_option maxHeartbeats 400000 in
theorem from_any (k : Nat) (hk : k < 2) (n : Int) (hn : n = 2 - (k : Int)) (w : World) : Calls Try.prog 26 #[.int .i64 n] w fun e w' => (∃ f, e = .returned f ∧ PickIs w' f k) ∧ Below w.heap.size w w' := by
  have hw : wrap64 (3 - n) = 3 - n := by simp [wrap64]; omega
  have C := hid (to_any k hk (3 - n) (by omega) w)
  clear hk hn
  go_enter Try.func26, Try.ntmps26
  go_wp2_with (go_at_call 23; refine C.out.mono ?_; rintro e w' ⟨⟨f, rfl, hf⟩, hb⟩)
  go_ret
  exact ⟨⟨f, rfl, hf⟩, hb⟩
set_option maxRecDepth 100000 in
set_option maxHeartbeats 400000 in
theorem from_bad (n : Int) (hn : n < 1 ∨ 2 < n) (hi : -9223372036854775808 ≤ n ∧ n ≤ 9223372036854775807) (w : World) : Calls Try.prog 26 #[.int .i64 n] w fun e w' => e = .returned .nilFunc ∧ Below w.heap.size w w' := by
  obtain ⟨m, hm⟩ : ∃ m, wrap64 (3 - n) = m := ⟨_, rfl⟩
  have hm2 : m < 1 ∨ 2 < m := by rw [← hm]; simp [wrap64]; omega
  have C := hid (to_bad m hm2 w)
  clear hm2 hn hi
  go_enter Try.func26, Try.ntmps26
  go_wp2_with (go_at_call 23; refine C.out.mono ?_; rintro e w' ⟨rfl, hb⟩)
  go_ret
  exact ⟨rfl, hb⟩
set_option maxRecDepth 100000 in
set_option maxHeartbeats 400000 in
theorem toC_any (k : Nat) (hk : k < 2) (p g : Nat) (w : World) (hg : Has w g 3 #[.int .i64 ((k : Int) + 1)]) : Calls Try.prog 29 #[.pointer (some ⟨p, 0, none⟩), .pointer (some ⟨g, 0, none⟩)] w fun e w' => e = .returned (.pointer (some ⟨p, 2 + k, none⟩)) ∧ Below w.heap.size w w' := by
  have c0 : w.cell? ⟨g, 0, none⟩ = some (.int .i64 ((k : Int) + 1)) := hg.at_ 0
  have HC : Hid (∀ n, (w.drewN n).cell? ⟨g, 0, none⟩ = some (.int .i64 ((k : Int) + 1))) := fun n => c0
  clear hg
  rcases two_cases hk with rfl | rfl
  all_goals
    clear hk
    go_enter Try.func29, Try.ntmps29
    go_wp2
    go_quiet (fail)
    go_wp2
    go_ret
    exact ⟨rfl, (Below.refl _ _).drewN' _⟩
end Go.Proofs.Ytcfmjebnjjpajaa
