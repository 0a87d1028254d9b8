/- The law FrameFull: what its call does. Conditions: a heap that has a block. -/
import Derived.Test.YtakgbopkkechgaaFM
namespace Go.Proofs.Ytakgbopkkechgaa
open Go.RowKit
theorem wrap64_small (x : Int) (h0 : 0 ≤ x) (h : x < 4611686018427387904) : wrap64 x = x := by simp [wrap64]; omega
/-- A row of zeros, of which its length alone is said. -/
theorem make_some (m : Nat) (hm : m ≤ 200000) : ∃ (zs : List UInt8) (C : Array Value), zs.length = m ∧ (∀ w : World, (Instr.makeSlice 22 (.int .i64 (m : Int)) (.int .i64 (m : Int))).run Try.prog w = .ok (.slice (some ⟨w.heap.size, 0, none⟩) m m) (w.alloc (.cells C 5))) ∧
    ∀ w : World, Bytes (w.alloc (.cells C 5)) (.slice (some ⟨w.heap.size, 0, none⟩) m m) zs (some ⟨w.heap.size, 0, none⟩) m w.heap.size 0 :=
  ⟨List.replicate m 0, bvec (List.replicate m 0), by simp, fun w => make_row m hm w, fun w => lit_bytes w _ _ m rfl (by simp)⟩
theorem full_first (zs : List UInt8) (m : Nat) (hz : zs.length = m) : ∃ (e : Int) (k : Nat) (ys : List UInt8), pushE (false, []) zs = e ∧ pushR (false, []) zs = (false, ys) ∧ ys.length = k ∧ ((e = 0 ∧ k = m ∧ (m : Int) ≤ 131072) ∨ (e = 3 ∧ k = 0 ∧ 131072 < (m : Int))) := by
  by_cases hc : 131072 < m
  · exact ⟨3, 0, [], by simp [pushE, hz, hc], by simp [pushR, hz, hc], rfl, .inr ⟨rfl, rfl, by omega⟩⟩
  · exact ⟨0, m, zs, by simp [pushE, hz, hc], by simp [pushR, hz, hc], hz, .inl ⟨rfl, rfl, by omega⟩⟩
theorem full_push (xs zs : List UInt8) (h m : Nat) (hx : xs.length = h) (hz : zs.length = m) : ∃ (e : Int) (k : Nat) (ys : List UInt8), pushE (false, xs) zs = e ∧ pushR (false, xs) zs = (false, ys) ∧ ys.length = k ∧ ((e = 0 ∧ k = h + m ∧ (h : Int) + (m : Int) ≤ 131072) ∨ (e = 3 ∧ k = h ∧ 131072 < (h : Int) + (m : Int))) := by
  by_cases hc : 131072 < h + m
  · exact ⟨3, h, xs, by simp [pushE, hx, hz, hc], by simp [pushR, hx, hz, hc], hx, .inr ⟨rfl, rfl, by omega⟩⟩
  · exact ⟨0, h + m, xs ++ zs, by simp [pushE, hx, hz, hc], by simp [pushR, hx, hz, hc], by rw [List.length_append, hx, hz], .inl ⟨rfl, rfl, by omega⟩⟩
theorem tmod_nat (n m k : Nat) (h : m = n % k) : (n : Int).tmod (k : Int) = (m : Int) := by rw [Int.tmod_eq_emod_of_nonneg (by omega), h]; exact (Int.natCast_emod n k).symm
set_option maxRecDepth 100000 in
set_option maxHeartbeats 4000000 in
theorem full_law (n1 n2 : Nat) (w : World) (hp : 0 < w.heap.size) : Calls Try.prog 9 #[.int .u32 (n1 : Int), .int .u32 (n2 : Int)] w fun e w' => e = .returned (.bool true) ∧ Below w.heap.size w w' := by
  obtain ⟨a, ha⟩ : ∃ m : Nat, m = n1 % 140000 := ⟨_, rfl⟩
  obtain ⟨b, hb⟩ : ∃ m : Nat, m = n2 % 140000 := ⟨_, rfl⟩
  have ha4 : a < 140000 := by omega
  have hb4 : b < 140000 := by omega
  have la : a ≤ 200000 := by omega
  have lb : b ≤ 200000 := by omega
  have w1 : IntKind.u32.wrap (a : Int) = (a : Int) := by simp [IntKind.wrap, IntKind.signed, IntKind.bits]; omega
  have w2 : IntKind.u32.wrap (b : Int) = (b : Int) := by simp [IntKind.wrap, IntKind.signed, IntKind.bits]; omega
  have w3 : IntKind.i64.wrap (a : Int) = (a : Int) := i64in _ (by omega) (by omega)
  have w4 : IntKind.i64.wrap (b : Int) = (b : Int) := i64in _ (by omega) (by omega)
  have w5 : wrap64 ((a : Int) + (b : Int)) = (a : Int) + (b : Int) := wrap64_small _ (by omega) (by omega)
  obtain ⟨za, Ca, hza, hma, hya⟩ := make_some a la
  obtain ⟨zb, Cb, hzb, hmb, hyb⟩ := make_some b lb
  have HYA := hid hya
  have HYB := hid hyb
  have HP := hid hp
  obtain ⟨e1, k1, y1, p1, r1, l1, c1⟩ := full_first za a hza
  obtain ⟨e2, k2, y2, p2, r2, l2, c2⟩ := full_push y1 zb k1 b l1 hzb
  have hz3a : za.length ≤ 300000 := hza ▸ Nat.le_trans la (by decide)
  have hz3b : zb.length ≤ 300000 := hzb ▸ Nat.le_trans lb (by decide)
  have CN := hid (ses_new (w0 := w) (Below.refl _ _) hp)
  have C1 : Hid (∀ (W : World), Ses w W w.heap.size (false, []) none → Calls Try.prog 15 #[.pointer (some ⟨w.heap.size, 0, none⟩), .slice (some ⟨W.heap.size, 0, none⟩) a a] (W.alloc (.cells Ca 5)) fun e w' => e = .returned (.int .i64 e1) ∧ ∃ o', Ses w w' w.heap.size (false, y1) o') := fun W h => by
    refine (ses_push (h.alloc _) (HYA.out W) hz3a).mono ?_
    rintro e w' ⟨rfl, o', hs, _⟩
    rw [r1] at hs
    exact ⟨by rw [p1], o', hs⟩
  have C2 : Hid (∀ (W : World) (o : Option Nat), Ses w W w.heap.size (false, y1) o → Calls Try.prog 15 #[.pointer (some ⟨w.heap.size, 0, none⟩), .slice (some ⟨W.heap.size, 0, none⟩) b b] (W.alloc (.cells Cb 5)) fun e w' => e = .returned (.int .i64 e2) ∧ ∃ o', Ses w w' w.heap.size (false, y2) o') := fun W o h => by
    refine (ses_push (h.alloc _) (HYB.out W) hz3b).mono ?_
    rintro e w' ⟨rfl, o', hs, _⟩
    rw [r2] at hs
    exact ⟨by rw [p2], o', hs⟩
  have C3 : Hid (∀ (W : World) (o : Option Nat), Ses w W w.heap.size (false, y2) o → Calls Try.prog 19 #[.pointer (some ⟨w.heap.size, 0, none⟩)] W fun e w' => e = .returned (.int .i64 (k2 : Int)) ∧ Below w.heap.size w w') := fun W o h => by
    refine (ses_held h).mono ?_
    rintro e w' ⟨rfl, hs, _⟩
    exact ⟨by rw [← l2], hs.below⟩
  have m1 : (n1 : Int).tmod 140000 = (a : Int) := tmod_nat n1 a 140000 ha
  have m2 : (n2 : Int).tmod 140000 = (b : Int) := tmod_nat n2 b 140000 hb
  clear ha hb
  clear hyb hya hza hzb hz3a hz3b p1 p2 r1 r2 l1 l2 hp
  clear ha4 hb4 la lb
  rcases c1 with ⟨rfl, rfl, g1⟩ | ⟨rfl, rfl, g1⟩
  all_goals rcases c2 with ⟨rfl, rfl, g2⟩ | ⟨rfl, rfl, g2⟩
  all_goals
    try simp only [Int.natCast_zero, Int.zero_add] at g2 C2 C3
    go_enter Try.func9, Try.ntmps9
    go_wp2_with (fail)
    refine CN.out.mono ?_
    rintro e1 w1 ⟨rfl, h1, _⟩
    have S1 := hid h1
    clear h1
    go_wp2_with (fail)
    refine (C1.out _ S1.out).mono ?_
    rintro e2 w2 ⟨rfl, o2, h2⟩
    have S2 := hid h2
    clear h2
    go_wp2_with (fail)
    refine (C2.out _ _ S2.out).mono ?_
    rintro e3 w3 ⟨rfl, o3, h3⟩
    have S3 := hid h3
    clear h3
    go_wp2_with (fail)
    refine (C3.out _ _ S3.out).mono ?_
    rintro e4 w4 ⟨rfl, hb4⟩
    have B4 := hid hb4
    have CW := hid (works_any w4 (Nat.lt_of_lt_of_le HP.out B4.out.size))
    clear hb4
    go_wp2_with (fail)
    refine CW.out.mono ?_
    rintro e5 w5 ⟨rfl, hb5⟩
    have B5 : Hid (Below w.heap.size w w5) := B4.out.trans (hb5.mono B4.out.size)
    clear hb5
    go_wp2
    go_ret
    exact ⟨rfl, B5.out⟩
end Go.Proofs.Ytakgbopkkechgaa
