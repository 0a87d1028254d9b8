/- The law LinkFull: what its call does. Conditions: a heap that has a block. -/
import Derived.Test.YtcfmjebnjjpajaaNJ
namespace Go.Proofs.Ytcfmjebnjjpajaa
open Go.RowKit
theorem wrap64_small (x : Int) (h0 : 0 ≤ x) (h : x < 4611686018427387904) : wrap64 x = x := by simp [wrap64]; omega
theorem tmod_nat (n m k : Nat) (h : m = n % k) : (n : Int).tmod (k : Int) = (m : Int) := by rw [Int.tmod_eq_emod_of_nonneg (by omega), h]; exact (Int.natCast_emod n k).symm
/-- A row of zeros, of which its length alone is said. -/
theorem make_some (m : Nat) (hm : m ≤ 1000000) : ∃ (zs : List UInt8) (C : Array Value), zs.length = m ∧ (∀ w : World, (Instr.makeSlice 26 (.int .i64 (m : Int)) (.int .i64 (m : Int))).run Try.prog w = .ok (.slice (some ⟨w.heap.size, 0, none⟩) m m) (w.alloc (.cells C 5))) ∧
    ∀ w : World, Bytes (w.alloc (.cells C 5)) (.slice (some ⟨w.heap.size, 0, none⟩) m m) zs (some ⟨w.heap.size, 0, none⟩) m w.heap.size 0 :=
  ⟨List.replicate m 0, bvec (List.replicate m 0), by simp, fun w => make_row m hm w, fun w => lit_bytes w _ _ m rfl (by simp)⟩
theorem full_send (xs zs : List UInt8) (h m : Nat) (hx : xs.length = h) (hz : zs.length = m) : ∃ (e : Int) (k : Nat), sendE xs zs = e ∧ (sendX xs zs).length = k ∧ ((e = 0 ∧ k = h + m ∧ (h : Int) + (m : Int) ≤ 262144) ∨ (e = 7 ∧ k = h ∧ ¬ (h : Int) + (m : Int) ≤ 262144)) := by
  by_cases hc : 262144 < h + m
  · exact ⟨7, h, by simp [sendE, hx, hz, hc], by simp [sendX, hx, hz, hc], .inr ⟨rfl, rfl, by omega⟩⟩
  · exact ⟨0, h + m, by simp [sendE, hx, hz, hc], by simp [sendX, hx, hz, hc], .inl ⟨rfl, rfl, by omega⟩⟩
set_option maxRecDepth 100000 in
set_option maxHeartbeats 2000000 in
theorem full_law (n1 n2 : Nat) (w : World) (hp : 0 < w.heap.size) : Calls Try.prog 6 #[.int .u32 (n1 : Int), .int .u32 (n2 : Int)] w fun e w' => e = .returned (.bool true) ∧ Below w.heap.size w w' := by
  obtain ⟨a, ha⟩ : ∃ m : Nat, m = n1 % 270000 := ⟨_, rfl⟩
  obtain ⟨b, hb⟩ : ∃ m : Nat, m = n2 % 270000 := ⟨_, rfl⟩
  have ha4 : a < 270000 := by omega
  have hb4 : b < 270000 := by omega
  have la : a ≤ 1000000 := by omega
  have lb : b ≤ 1000000 := by omega
  have w1 : IntKind.u32.wrap (a : Int) = (a : Int) := by simp [IntKind.wrap, IntKind.signed, IntKind.bits]; omega
  have w2 : IntKind.u32.wrap (b : Int) = (b : Int) := by simp [IntKind.wrap, IntKind.signed, IntKind.bits]; omega
  have w3 : IntKind.i64.wrap (a : Int) = (a : Int) := i64in _ (by omega) (by omega)
  have w4 : IntKind.i64.wrap (b : Int) = (b : Int) := i64in _ (by omega) (by omega)
  have w5 : wrap64 ((a : Int) + (b : Int)) = (a : Int) + (b : Int) := wrap64_small _ (by omega) (by omega)
  obtain ⟨za, Ca, hza, hma, hya⟩ := make_some a la
  obtain ⟨zb, Cb, hzb, hmb, hyb⟩ := make_some b lb
  have HYA := hid hya
  have HYB := hid hyb
  have HP := hid hp
  obtain ⟨e1, k1, p1, r1, c1⟩ := full_send [] za 0 a rfl hza
  obtain ⟨y1, hy1⟩ : ∃ y, sendX [] za = y := ⟨_, rfl⟩
  rw [hy1] at r1
  obtain ⟨e2, k2, p2, r2, c2⟩ := full_send y1 zb k1 b r1 hzb
  have hz3a : za.length ≤ 500000 := hza ▸ Nat.le_of_lt (Nat.lt_trans ha4 (by decide))
  have hz3b : zb.length ≤ 500000 := hzb ▸ Nat.le_of_lt (Nat.lt_trans hb4 (by decide))
  have CN := hid (sk_new (w0 := w) (Below.refl _ _) hp)
  have C1 : Hid (∀ (W : World), Sk w W w.heap.size (fun _ => []) 0 (fun _ => none) (0, 0) → Calls Try.prog 15 #[.pointer (some ⟨w.heap.size, 0, none⟩), .int .i64 1, .slice (some ⟨W.heap.size, 0, none⟩) a a] (W.alloc (.cells Ca 5)) fun e w' => e = .returned (.int .i64 e1) ∧ ∃ xs o, xs 1 = y1 ∧ xs 0 = [] ∧ Sk w w' w.heap.size xs 0 o (0, 0)) := fun W h => by
    refine (sk_send 1 (by decide) 1 (by decide) (h.alloc _) (HYA.out W) hz3a).mono ?_
    rintro e w' ⟨rfl, o', hs, _⟩
    exact ⟨by rw [p1], _, _, hy1, rfl, hs⟩
  have C2 : Hid (∀ (W : World) (xs : Nat → List UInt8) (o : Nat → Option Nat), xs 1 = y1 → xs 0 = [] → Sk w W w.heap.size xs 0 o (0, 0) → Calls Try.prog 15 #[.pointer (some ⟨w.heap.size, 0, none⟩), .int .i64 1, .slice (some ⟨W.heap.size, 0, none⟩) b b] (W.alloc (.cells Cb 5)) fun e w' => e = .returned (.int .i64 e2) ∧ ∃ xs o, (xs 1).length = k2 ∧ (xs 0).length = 0 ∧ Sk w w' w.heap.size xs 0 o (0, 0)) := fun W xs o hx1 hx0 h => by
    refine (sk_send 1 (by decide) 1 (by decide) (h.alloc _) (HYB.out W) hz3b).mono ?_
    rintro e w' ⟨rfl, o', hs, _⟩
    rw [hx1] at hs ⊢
    exact ⟨by rw [p2], _, _, by rw [upd_at]; exact r2, by rw [upd_ne _ _ (by decide), hx0]; rfl, hs⟩
  have C3 : Hid (∀ (W : World) (xs : Nat → List UInt8) (o : Nat → Option Nat), (xs 1).length = k2 → Sk w W w.heap.size xs 0 o (0, 0) → Calls Try.prog 11 #[.pointer (some ⟨w.heap.size, 0, none⟩), .int .i64 2] W fun e w' => e = .returned (.int .i64 (k2 : Int)) ∧ Sk w w' w.heap.size xs 0 o (0, 0)) := fun W xs o hx h => by
    refine (sk_left 1 (by decide) 2 (by decide) h).mono ?_
    rintro e w' ⟨rfl, hs, _⟩
    exact ⟨by rw [hx], hs⟩
  have C4 : Hid (∀ (W : World) (xs : Nat → List UInt8) (o : Nat → Option Nat), (xs 0).length = 0 → Sk w W w.heap.size xs 0 o (0, 0) → Calls Try.prog 11 #[.pointer (some ⟨w.heap.size, 0, none⟩), .int .i64 1] W fun e w' => e = .returned (.int .i64 0) ∧ Below w.heap.size w w') := fun W xs o hx h => by
    refine (sk_left 0 (by decide) 1 (by decide) h).mono ?_
    rintro e w' ⟨rfl, hs, _⟩
    exact ⟨by rw [hx]; rfl, hs.below⟩
  have m1 : (n1 : Int).tmod 270000 = (a : Int) := tmod_nat n1 a 270000 ha
  have m2 : (n2 : Int).tmod 270000 = (b : Int) := tmod_nat n2 b 270000 hb
  clear ha hb
  clear hyb hya hza hzb hz3a hz3b p1 p2 r1 r2 hp hy1
  clear ha4 hb4 la lb
  rcases c1 with ⟨rfl, rfl, g1⟩ | ⟨rfl, rfl, g1⟩
  all_goals rcases c2 with ⟨rfl, rfl, g2⟩ | ⟨rfl, rfl, g2⟩
  all_goals
    simp only [Nat.zero_add, Int.natCast_zero, Int.zero_add, Int.natCast_add] at g1 g2 C2 C3
    go_enter Try.func6, Try.ntmps6
    go_wp2_with (fail)
    refine CN.out.mono ?_
    rintro e1 w1 ⟨rfl, h1, _⟩
    have S1 := hid h1
    clear h1
    go_wp2_with (fail)
    refine (C1.out _ S1.out).mono ?_
    rintro e2 w2 ⟨rfl, x2, o2, q1, q0, h2⟩
    have S2 := hid h2
    have Q1 := hid q1
    have Q0 := hid q0
    clear h2 q1 q0
    go_wp2_with (fail)
    refine (C2.out _ _ _ Q1.out Q0.out S2.out).mono ?_
    rintro e3 w3 ⟨rfl, x3, o3, q1, q0, h3⟩
    have S3 := hid h3
    have R1 := hid q1
    have R0 := hid q0
    clear h3 q1 q0
    go_wp2_with (fail)
    refine (C3.out _ _ _ R1.out S3.out).mono ?_
    rintro e4 w4 ⟨rfl, h4⟩
    have S4 := hid h4
    clear h4
    go_wp2_with (fail)
    refine (C4.out _ _ _ R0.out S4.out).mono ?_
    rintro e5 w5 ⟨rfl, hb5⟩
    have B5 := hid hb5
    have CW := hid (works_any w5 (Nat.lt_of_lt_of_le HP.out B5.out.size))
    clear hb5
    go_wp2_with (fail)
    refine CW.out.mono ?_
    rintro e6 w6 ⟨rfl, hb6⟩
    have B6 : Hid (Below w.heap.size w w6) := B5.out.trans (hb6.mono B5.out.size)
    clear hb6
    go_wp2
    go_ret
    exact ⟨rfl, B6.out⟩
end Go.Proofs.Ytcfmjebnjjpajaa
