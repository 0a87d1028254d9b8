/- Deliver: what a call does. Conditions: a link, or one that is none. -/
import Derived.Test.YtcfmjebnjjpajaaNE
namespace Go.Proofs.Ytcfmjebnjjpajaa
open Go.RowKit
set_option maxRecDepth 100000 in
set_option maxHeartbeats 400000 in
theorem deliver_none (v : Value) (n c : Int) (w : World) (h : NoLk w v) : Calls Try.prog 16 #[v, .int .i64 n, .int .i64 c] w fun e w' => e = .returned (.tuple #[.slice none 0 0, .int .i64 1]) ∧ Below w.heap.size w w' := by
  have CT := hid (to_some n w)
  have HN := hid h
  clear h
  go_enter Try.func16, Try.ntmps16
  go_wp2_with (first
    | (go_at_call 23; refine CT.out.mono ?_; rintro e w1 ⟨⟨f, rfl⟩, hb⟩; have B1 := hid hb; clear hb)
    | (go_at_call 22; refine (find_none _ _ _ (HN.out.kept B1.out)).mono ?_; rintro e w2 ⟨rfl, rfl⟩))
  go_ret2
  exact ⟨rfl, B1.out⟩
set_option maxRecDepth 100000 in
set_option maxHeartbeats 400000 in
theorem deliver_bad (p : Nat) (n : Int) (hn : n < 1 ∨ 2 < n) (c : Int) (xs : Nat → List UInt8) (m : Nat) (o : Nat → Option Nat) (x : Nat × Nat) (w : World) (h : Lk w p xs m o x) : Calls Try.prog 16 #[.pointer (some ⟨p, 0, none⟩), .int .i64 n, .int .i64 c] w fun e w' => e = .returned (.tuple #[.slice none 0 0, .int .i64 2]) ∧ Below w.heap.size w w' := by
  have CT := hid (to_bad n hn w)
  have HL := hid h
  clear hn h
  go_enter Try.func16, Try.ntmps16
  go_wp2_with (first
    | (go_at_call 23; refine CT.out.mono ?_; rintro e w1 ⟨rfl, hb⟩; have B1 := hid hb; clear hb)
    | (go_at_call 22; refine (find_bad p _ (HL.out.kept B1.out (Nat.le_refl _)).made).mono ?_; rintro e w2 ⟨rfl, rfl⟩))
  go_ret2
  exact ⟨rfl, B1.out⟩
set_option maxRecDepth 100000 in
set_option maxHeartbeats 400000 in
theorem deliver_neg (k : Nat) (hk : k < 2) (p : Nat) (n : Int) (hn : n = (k : Int) + 1) (c : Int) (hc : c < 0) (xs : Nat → List UInt8) (m : Nat) (o : Nat → Option Nat) (x : Nat × Nat) (w : World) (h : Lk w p xs m o x) : Calls Try.prog 16 #[.pointer (some ⟨p, 0, none⟩), .int .i64 n, .int .i64 c] w fun e w' => e = .returned (.tuple #[.slice none 0 0, .int .i64 2]) ∧ Below w.heap.size w w' := by
  have CT := hid (to_any k hk n hn w)
  have HL := hid h
  have HK := hid hk
  clear hn h hk
  go_enter Try.func16, Try.ntmps16
  go_wp2_with (first
    | (go_at_call 23; refine CT.out.mono ?_; rintro e w1 ⟨⟨f, rfl, hf⟩, hb⟩; have B1 := hid hb; have F1 := hid hf; clear hb hf)
    | (go_at_call 22; refine (find_any k HK.out p _ _ (HL.out.kept B1.out (Nat.le_refl _)).made F1.out).mono ?_; rintro e w2 ⟨rfl, hb2⟩; have B2 := hid hb2; clear hb2))
  go_ret2
  exact ⟨rfl, B1.out.trans (B2.out.mono B1.out.size)⟩
/-- The part that was delivered: its bytes, which lie in the row x.1, ahead of x.2, and may be written. -/
def Part (w : World) (o : Option Nat) (A : Option Addr) (q : Nat) (zs : List UInt8) (x : Nat × Nat) : Prop :=
  ∃ off, Bytes w (.slice A q q) zs A q x.1 off ∧ x.2 = off + q ∧ (o = some x.1 ∧ Wrt w x.1 off q ∨ o = none ∧ x.1 = 0 ∧ q = 0)
set_option maxRecDepth 100000 in
set_option maxHeartbeats 2000000 in
theorem deliver_any (k : Nat) (hk : k < 2) (p : Nat) (n : Int) (hn : n = (k : Int) + 1) (c : Int) (hc : 0 ≤ c) (xs : Nat → List UInt8) (m : Nat) (o : Nat → Option Nat) (x : Nat × Nat) (q : Nat) (hq : (q : Int) = min c ((xs k).length : Int)) (w : World) (h : Lk w p xs m o x) :
    Calls Try.prog 16 #[.pointer (some ⟨p, 0, none⟩), .int .i64 n, .int .i64 c] w fun e w' => ∃ A y, e = .returned (.tuple #[.slice A q q, .int .i64 0]) ∧ Part w' (o k) A q ((xs k).take q) y ∧ Lk w' p (upd xs k ((xs k).drop q)) m o y ∧ Grw p w w' := by
  have CT := hid (to_any k hk n hn w)
  have HL := hid h.weak
  have HK := hid hk
  have HQL : Hid (q ≤ (xs k).length) := by show _ ≤ _; omega
  have CF : Hid (∀ w1 f, Below w.heap.size w w1 → PickIs w1 f k → Calls Try.prog 22 #[.pointer (some ⟨p, 0, none⟩), f] w1 fun e w' => e = .returned (.tuple #[.pointer (some ⟨p, 2 + k, none⟩), .int .i64 0]) ∧ Below w.heap.size w w' ∧ ∃ v, w'.cell? ⟨p, 2 + k, none⟩ = some v ∧ w'.frozen? ⟨p, 2 + k, none⟩ = false ∧ Que w' v (xs k) (o k) (0, 0)) := fun w1 f hb hf => by
    have h1 := HL.out.kept hb (Nat.le_refl _)
    refine (find_any k HK.out p f w1 h1.made hf).mono ?_
    rintro e w' ⟨rfl, hb2⟩
    obtain ⟨v, hc, hf, hq⟩ := (h1.kept hb2 (Nat.le_refl _)).cell HK.out
    exact ⟨rfl, hb.trans (hb2.mono hb.size), v, hc, hf, hq⟩
  have HLN : Hid ((xs k).length ≤ 262144) := h.len hk
  obtain ⟨L, hL⟩ : ∃ L, (xs k).length = L := ⟨_, rfl⟩
  have HLL := hid hL
  rw [hL] at hq
  have gc : ¬ c < 0 := by omega
  have hcase : (c = (q : Int) ∧ (q : Int) ≤ (L : Int)) ∨ (q = L ∧ (L : Int) < c) := by omega
  clear h hk hn hL hq
  rcases hcase with ⟨rfl, g1⟩ | ⟨rfl, g1⟩
  all_goals
    go_enter Try.func16, Try.ntmps16
    go_wp2_with (first
      | (go_at_call 23; refine CT.out.mono ?_; rintro e w1 ⟨⟨f, rfl, hf⟩, hb⟩; have B1 := hid hb; have F1 := hid hf; clear hb hf)
      | (go_at_call 22; refine (CF.out _ _ B1.out F1.out).mono ?_; rintro e w2 ⟨rfl, hb, v, hc2, hf2, hq2⟩
         have B2 := hid hb
         obtain ⟨A, A2, cc2, g, off, hr1, hr2, hy, hq3, hw3⟩ := hq2.cut q HQL.out (Nat.lt_of_le_of_lt (Nat.zero_le _) (HL.out.kept hb (Nat.le_refl _)).inside)
         obtain ⟨Av, cv, rfl⟩ := hq2.form
         have HQ3 := hid hq3
         have HLD : Hid (((xs k).drop q).length ≤ 262144) := by show _ ≤ _; rw [List.length_drop]; have := HLN.out; omega
         rw [HLL.out] at hr1 hr2 hc2
         have HY := hid hy
         have HW3 := hid hw3
         have HL2 := hid (HL.out.kept hb (Nat.le_refl _))
         clear hb hq2 hy hq3 hw3))
    refine bodyPost_ret (results_tmp2 rfl _ _ _) rfl ?_
    have HX : ∀ j, j < 2 → j ≠ k → o j ≠ some g ∨ (g, off + q) = (0, 0) := fun j hj hjk => by
      rcases HW3.out with ⟨h1, _⟩ | ⟨h1, h2, h3, h4⟩
      · left
        obtain ⟨_, _, _, _, h4⟩ := HL2.out
        rcases two_cases hj with rfl | rfl <;> rcases two_cases HK.out with rfl | rfl
        · exact absurd rfl hjk
        · exact fun e => h4 g e h1
        · exact fun e => h4 g h1 e
        · exact absurd rfl hjk
      · right; rw [h2, h3, h4]
    obtain ⟨z1, z2⟩ := lk_put HL2.out HK.out (w1 := w2) ⟨rfl, rfl, rfl, Nat.le_refl _, fun _ _ _ => rfl⟩ HQ3.out (.inl rfl) HLD.out HX
    rw [upd_self] at z1
    rw [List.length_drop] at z1
    refine ⟨A, (g, off + q), rfl, ?_, z1, (Grw.of_below B2.out).trans (Grw.of_set p (2 + k) w2 _)⟩
    have hgp : g ≠ p := by
      rcases HW3.out with ⟨h1, _⟩ | ⟨_, h1, _⟩
      · intro e; exact HL2.out.ne HK.out (by rw [h1, e])
      · have := HL2.out.pos; omega
    refine ⟨off, HY.out.grw (Grw.of_set p (2 + k) w2 _) hgp, rfl, ?_⟩
    rcases HW3.out with ⟨h1, h2⟩ | h1
    · exact .inl ⟨h1, h2.same (Below.heap_setCell w2 ⟨p, 2 + k, none⟩ _ g hgp)⟩
    · exact .inr ⟨h1.1, h1.2.1, h1.2.2.1⟩
end Go.Proofs.Ytcfmjebnjjpajaa
