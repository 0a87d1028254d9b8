/- The document's link: flight, set, Left, Send, Deliver, Reset: what each call does. Conditions: a link; at most 500000 bytes that come in. -/
import Derived.Test.YtcfmjebnjjpajaaNG
namespace Go.Proofs.Ytcfmjebnjjpajaa
open Go.RowKit
/-- The document's link lies in block q: what is in flight, in the blocks b, the epoch. -/
def Dq (w : World) (q : Nat) (xs : Nat → List UInt8) (e : Nat) (b : Nat → Nat) : Prop :=
  ∃ v : Nat → Value, Has w q 28 #[v 0, v 1, .int .i64 (e : Int)] ∧ ∀ k, k < 2 → (∃ A cap off, Bytes w (v k) (xs k) A cap (b k) off) ∧ b k ≠ q ∧ (xs k).length ≤ 262144
section
variable {w w' : World} {q : Nat} {xs : Nat → List UInt8} {e : Nat} {b : Nat → Nat}
theorem Dq.inside (h : Dq w q xs e b) : q < w.heap.size := by obtain ⟨v, h1, _⟩ := h; exact h1.inside
theorem Dq.blk (h : Dq w q xs e b) {k : Nat} (hk : k < 2) : b k < w.heap.size := by obtain ⟨v, _, h1⟩ := h; obtain ⟨⟨_, _, _, h2⟩, _⟩ := h1 k hk; exact h2.blk
theorem Dq.ne (h : Dq w q xs e b) {k : Nat} (hk : k < 2) : b k ≠ q := by obtain ⟨v, _, h1⟩ := h; exact (h1 k hk).2.1
theorem Dq.len (h : Dq w q xs e b) {k : Nat} (hk : k < 2) : (xs k).length ≤ 262144 := by obtain ⟨v, _, h1⟩ := h; exact (h1 k hk).2.2
theorem Dq.kept {B : Nat} (h : Dq w q xs e b) (hb : Below B w w') (hB : w.heap.size ≤ B) : Dq w' q xs e b := by
  obtain ⟨v, h1, h2⟩ := h
  exact ⟨v, h1.kept hb (Nat.lt_of_lt_of_le h1.inside hB), fun k hk => ⟨by obtain ⟨⟨A, c, o, h3⟩, _⟩ := h2 k hk; exact ⟨A, c, o, h3.kept hb hB⟩, (h2 k hk).2⟩⟩
theorem Dq.chg {p : Nat} {o : Option Nat} (h : Dq w q xs e b) (hc : Chg p o w w') (h1 : q ≠ p) (h2 : o ≠ some q) (h3 : ∀ k, k < 2 → b k ≠ p ∧ o ≠ some (b k)) : Dq w' q xs e b := by
  obtain ⟨v, k1, k2⟩ := h
  exact ⟨v, k1.chg hc h1 h2, fun k hk => ⟨by obtain ⟨⟨A, c, o, h4⟩, _⟩ := k2 k hk; exact ⟨A, c, o, h4.chg hc (h3 k hk).1 (h3 k hk).2⟩, (k2 k hk).2⟩⟩
theorem Dq.epoch (h : Dq w q xs e b) : w.cell? ⟨q, 2, none⟩ = some (.int .i64 (e : Int)) := by obtain ⟨v, h1, _⟩ := h; exact h1.at_ 2
theorem Dq.cell (h : Dq w q xs e b) {k : Nat} (hk : k < 2) : ∃ A n cap off, w.cell? ⟨q, k, none⟩ = some (.slice A n cap) ∧ w.frozen? ⟨q, k, none⟩ = false ∧ Bytes w (.slice A n cap) (xs k) A cap (b k) off ∧ n = (xs k).length := by
  obtain ⟨v, h1, h2⟩ := h
  obtain ⟨⟨A, c, off, h3⟩, _⟩ := h2 k hk
  have ev := h3.form
  refine ⟨A, _, c, off, ?_, h1.free _, ev ▸ h3, rfl⟩
  rw [← ev]
  rcases two_cases hk with rfl | rfl
  · exact h1.at_ 0
  · exact h1.at_ 1
end
/-- A stream's slice is stored. -/
theorem dq_put {w w1 : World} {q : Nat} {xs : Nat → List UInt8} {e : Nat} {b : Nat → Nat} (h : Dq w q xs e b) (hb : Below w.heap.size w w1) {k : Nat} (hk : k < 2) {v' : Value} {zs : List UInt8} {A : Option Addr} {cap b' off : Nat} (hy : Bytes w1 v' zs A cap b' off) (hn : b' ≠ q) (hl : zs.length ≤ 262144) :
    Dq (w1.setCell ⟨q, k, none⟩ v') q (upd xs k zs) e (upd b k b') := by
  obtain ⟨v, h1, h2⟩ := h.kept hb (Nat.le_refl _)
  have hg := Grw.of_set q k w1 v'
  refine ⟨upd v k v', ?_, fun j hj => ?_⟩
  · have := h1.put k v'
    rcases two_cases hk with rfl | rfl
    · exact this
    · exact this
  · by_cases hjk : j = k
    · subst hjk
      rw [upd_at, upd_at, upd_at]
      exact ⟨⟨A, cap, off, hy.grw hg hn⟩, hn, hl⟩
    · rw [upd_ne _ _ hjk, upd_ne _ _ hjk, upd_ne _ _ hjk]
      obtain ⟨⟨A, c, o, h3⟩, h4, h5⟩ := h2 j hj
      exact ⟨⟨A, c, o, h3.grw hg h4⟩, h4, h5⟩
/-- Bytes appended to nothing. -/
theorem append_new (w : World) {src : Value} {ys : List UInt8} {A : Option Addr} {cap bb off : Nat} (hs : Bytes w src ys A cap bb off) (hn : ys.length ≤ 1000000) :
    ∃ v' w', (Builtin.append_ #[26, 26] 26 #[.slice none 0 0, src]).run Try.prog w = .ok v' w' ∧ Fresh w.heap.size w' v' ys ∧ Below w.heap.size w w' := by
  obtain ⟨v', w', hr, ho, hg, _, _⟩ := append_bytes w w.heap.size (.slice none 0 0) 0 [] (World.ownsRow_nil _ _ _ _) hs (by omega) (Nat.le_refl _)
  rw [List.nil_append, Nat.zero_add] at ho
  exact ⟨v', w', hr, ho, (Below.refl _ _).grown hg (Nat.le_refl _) (fun k hk => by cases hk)⟩
/-- Bytes appended to a row of the call's own. -/
theorem append_more {B : Nat} {w : World} {v : Value} {xs : List UInt8} (hf : Fresh B w v xs) {src : Value} {ys : List UInt8} {A : Option Addr} {cap bb off : Nat} (hs : Bytes w src ys A cap bb off) (hn : xs.length + ys.length ≤ 1000000) (hB : B ≤ w.heap.size) :
    ∃ v' w', (Builtin.append_ #[26, 26] 26 #[v, src]).run Try.prog w = .ok v' w' ∧ Fresh B w' v' (xs ++ ys) ∧ Below B w w' := by
  obtain ⟨v', w', hr, ho, hg, _, _⟩ := append_bytes w B v xs.length (xs.map V8) hf hs hn hB
  rw [← List.map_append, ← List.length_append] at ho
  refine ⟨v', w', hr, ho, (Below.refl _ _).grown hg hB (fun k hk => ?_)⟩
  exact (hf.lt k hk).1
set_option maxRecDepth 100000 in
set_option maxHeartbeats 400000 in
theorem flight_bad (q : Nat) (n : Int) (hn : n ≠ 1 ∧ n ≠ 2) (w : World) : Calls Try.prog 24 #[.pointer (some ⟨q, 0, none⟩), .int .i64 n] w fun e w' => e = .returned (.slice none 0 0) ∧ w = w' := by
  obtain ⟨h1, h2⟩ := hn
  go_enter Try.func24, Try.ntmps24
  go_wp2
  go_ret
  exact ⟨rfl, rfl⟩
set_option maxRecDepth 100000 in
set_option maxHeartbeats 400000 in
theorem flight_any (k : Nat) (hk : k < 2) (q : Nat) (n : Int) (hn : n = (k : Int) + 1) (A : Option Addr) (l cap : Nat) (w : World) (hc : w.cell? ⟨q, k, none⟩ = some (.slice A l cap)) : Calls Try.prog 24 #[.pointer (some ⟨q, 0, none⟩), .int .i64 n] w fun e w' => e = .returned (.slice A l cap) ∧ w = w' := by
  rcases two_cases hk with rfl | rfl
  all_goals
    simp at hn
    subst hn
    go_enter Try.func24, Try.ntmps24
    go_wp2
    go_ret
    exact ⟨rfl, rfl⟩
set_option maxRecDepth 100000 in
set_option maxHeartbeats 400000 in
theorem set_any (k : Nat) (hk : k < 2) (q : Nat) (n : Int) (hn : n = (k : Int) + 1) (B : Option Addr) (l1 cap1 : Nat) (A : Option Addr) (l cap : Nat) (w : World) (hc : w.cell? ⟨q, k, none⟩ = some (.slice A l cap)) (hf : w.frozen? ⟨q, k, none⟩ = false) : Calls Try.prog 28 #[.pointer (some ⟨q, 0, none⟩), .int .i64 n, .slice B l1 cap1] w fun e w' => e = .returned (.tuple #[]) ∧ w' = w.setCell ⟨q, k, none⟩ (.slice B l1 cap1) := by
  rcases two_cases hk with rfl | rfl
  all_goals
    simp at hn
    subst hn
    go_enter Try.func28, Try.ntmps28
    go_wp2
    go_end0
    exact ⟨rfl, rfl⟩
set_option maxRecDepth 100000 in
set_option maxHeartbeats 400000 in
theorem rleft_bad (q : Nat) (n : Int) (hn : n < 1 ∨ 2 < n) (w : World) : Calls Try.prog 12 #[.pointer (some ⟨q, 0, none⟩), .int .i64 n] w fun e w' => e = .returned (.int .i64 0) ∧ w = w' := by
  have C := hid (flight_bad q n (by omega) w)
  clear hn
  go_enter Try.func12, Try.ntmps12
  go_wp2_with (go_at_call 24; refine C.out.mono ?_; rintro e w' ⟨rfl, rfl⟩)
  go_ret
  exact ⟨rfl, rfl⟩
set_option maxRecDepth 100000 in
set_option maxHeartbeats 400000 in
theorem rleft_any (k : Nat) (hk : k < 2) (q : Nat) (n : Int) (hn : n = (k : Int) + 1) (xs : Nat → List UInt8) (m : Nat) (b : Nat → Nat) (w : World) (h : Dq w q xs m b) : Calls Try.prog 12 #[.pointer (some ⟨q, 0, none⟩), .int .i64 n] w fun e w' => e = .returned (.int .i64 ((xs k).length : Int)) ∧ w = w' := by
  obtain ⟨A, l, c, off, hc, _, _, rfl⟩ := h.cell hk
  have C := hid (flight_any k hk q n hn _ _ _ w hc)
  clear hn h hk hc
  go_enter Try.func12, Try.ntmps12
  go_wp2_with (go_at_call 24; refine C.out.mono ?_; rintro e w' ⟨rfl, rfl⟩)
  go_ret
  exact ⟨rfl, rfl⟩
set_option maxRecDepth 100000 in
set_option maxHeartbeats 400000 in
theorem rreset_any (q : Nat) (xs : Nat → List UInt8) (n : Nat) (hn : n < 4611686018427387904) (b : Nat → Nat) (w : World) (hp : 0 < q) (h : Dq w q xs n b) : Calls Try.prog 21 #[.pointer (some ⟨q, 0, none⟩)] w fun e w' => e = .returned (.tuple #[]) ∧ Dq w' q (fun _ => []) (n + 1) (fun _ => 0) ∧ Grw q w w' := by
  have c2 := h.epoch
  obtain ⟨A0, l0, cc0, o0, d0, _⟩ := h.cell (k := 0) (by decide)
  obtain ⟨A1, l1, cc1, o1, d1, _⟩ := h.cell (k := 1) (by decide)
  obtain ⟨v, h1, _⟩ := h
  have H1 := hid h1
  have HP := hid hp
  have f0 := h1.free 0
  have f1 := h1.free 1
  have f2 := h1.free 2
  have hw : wrap64 ((n : Int) + 1) = ((n + 1 : Nat) : Int) := by simp [wrap64]; omega
  clear h1 hn hp
  go_enter Try.func21, Try.ntmps21
  go_wp2
  go_end0
  have K := ((H1.out.put 0 (.slice none 0 0)).put 1 (.slice none 0 0)).put 2 (.int .i64 ((n : Int) + 1))
  refine ⟨rfl, ⟨fun _ => .slice none 0 0, K, fun k _ => ⟨⟨none, 0, 0, Bytes.nil _ (Nat.lt_of_le_of_lt (Nat.zero_le _) K.inside)⟩, Nat.ne_of_lt HP.out, by simp⟩⟩, ((Grw.of_set q 0 w _).trans (Grw.of_set q 1 _ _)).trans (Grw.of_set q 2 _ _)⟩
end Go.Proofs.Ytcfmjebnjjpajaa
