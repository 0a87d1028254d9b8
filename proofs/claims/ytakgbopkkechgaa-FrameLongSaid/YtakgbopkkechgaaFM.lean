/- The law FrameLong: what its call does. Conditions: a heap that has a block. -/
import Derived.Test.YtakgbopkkechgaaFL
namespace Go.Proofs.Ytakgbopkkechgaa
open Go.RowKit
/-- A row of zeros is made. -/
theorem make_row (m : Nat) (hm : m ≤ 200000) (w : World) : (Instr.makeSlice 22 (.int .i64 (m : Int)) (.int .i64 (m : Int))).run Try.prog w = .ok (.slice (some ⟨w.heap.size, 0, none⟩) m m) (w.alloc (.cells (bvec (List.replicate m 0)) 5)) := by
  obtain ⟨i0, hi, hz0, hz1, hz2⟩ := info_parts info5
  have := run_make (P := Try.prog) w 22 5 i0 (.int .u8 0) Try.underlying22 hi hz0 .i64 .i64 (m : Int) (m : Int) (by omega) (by omega) (by rw [hz2]; omega) (by omega)
  rw [this]
  simp only [Int.toNat_natCast, hz1, Nat.mul_one]
  rw [show (Value.int IntKind.u8 0).cells = #[Value.int .u8 0] from rfl, made_bytes]
/-- A row that is known is a slice over it. -/
theorem Has.row {w : World} {g : Nat} {zs : List UInt8} {n : Nat} (h : Has w g 5 (bvec zs)) (hn : zs.length = n) : Bytes w (.slice (some ⟨g, 0, none⟩) n n) zs (some ⟨g, 0, none⟩) n g 0 := by
  subst hn
  refine ⟨rfl, Nat.le_refl _, (fun h => by cases h), fun a ha j hj => ?_, h.inside, fun _ => rfl⟩
  cases ha
  rw [add_at, Nat.zero_add]
  exact (h.at_ j).trans (bvec_get zs j hj)
set_option maxRecDepth 100000 in
set_option maxHeartbeats 2000000 in
theorem long_law (kb : UInt8) (n : Nat) (hn : n < 65536) (c : UInt8) (w : World) (hp : 0 < w.heap.size) : Calls Try.prog 4 #[.int .u8 (b8 kb), .int .u16 (n : Int), .int .u8 (b8 c)] w fun e w' => e = .returned (.bool true) ∧ Below w.heap.size w w' := by
  obtain ⟨m, hm⟩ : ∃ m : Nat, m = n % 40000 := ⟨_, rfl⟩
  have hm4 : m ≤ 40000 := by omega
  have m1 : (n : Int).tmod 40000 = (m : Int) := by rw [Int.tmod_eq_emod_of_nonneg (by omega)]; omega
  have w1 : IntKind.i64.wrap (n : Int) = (n : Int) := i64in _ (by omega) (by omega)
  have w2 : IntKind.i64.wrap (m : Int) = (m : Int) := i64in _ (by omega) (by omega)
  have hmk := make_row m (by omega)
  obtain ⟨r, hr⟩ : ∃ r : Nat, r = kb.toNat % 9 := ⟨_, rfl⟩
  have hr9 : r < 9 := by omega
  have m2 : (b8 kb).tmod 9 = (r : Int) := by have := b8_nonneg kb; rw [Int.tmod_eq_emod_of_nonneg this]; unfold b8; omega
  have w3 : IntKind.u8.wrap (r : Int) = (r : Int) := by simp [IntKind.wrap, IntKind.signed, IntKind.bits]; omega
  have w4 : IntKind.i64.wrap (r : Int) = (r : Int) := i64in _ (by omega) (by omega)
  have HW6 : Hid (∀ j : Nat, j ≤ 40000 → wrap64 ((j : Int) + 1) = ((j + 1 : Nat) : Int)) := by intro j hj; simp [wrap64]; omega
  have HP := hid hp
  have HM : Hid (m ≤ 40000) := hm4
  clear hm hr hp hn hm4
  go_enter Try.func4, Try.ntmps4
  go_wp2_with (fail)
  go_loopw [8] (fun i wr => ∃ (j : Nat) (zs : List UInt8), j ≤ m ∧ i = .int .i64 (j : Int) ∧ Hid (zs.length = m) ∧ Hid (Has wr w.heap.size 5 (bvec zs)) ∧ Hid (Below w.heap.size w wr)) (fun i _ => m - (intOf i).toNat)
  case atStart => exact ⟨0, List.replicate m 0, by omega, rfl, by show _ = _; simp, Has.fresh _ _ _, (Below.refl _ _).alloc (Nat.le_refl _) _⟩
  case round =>
    obtain ⟨j, zs, hj, rfl, HZ, HO, HB⟩ := hrel
    by_cases hlt : j < m
    · have c1 := (HO.out.at_ j).trans (bvec_get _ j (by rw [HZ.out]; exact hlt))
      have f1 := HO.out.free j
      have hm4 := HM.out
      go_wp2
      go_roundw
      case rel =>
        refine ⟨j + 1, zs.set j c, by omega, by go_num, by show _ = _; rw [List.length_set]; exact HZ.out, ?_, HB.out.setCell (p := ⟨w.heap.size, j, none⟩) (Nat.le_refl _) _⟩
        have := HO.out.put j (V8 c)
        rw [bvec_set] at this
        exact this
      case measure => simp [intOf]; omega
    · obtain rfl : j = m := by omega
      have Y := hid (HO.out.row HZ.out)
      have HP1 : Hid (0 < wr.heap.size) := Nat.lt_of_lt_of_le HP.out HB.out.size
      have C1 : Hid (∀ k : Int, Calls Try.prog 11 #[.int .i64 k, .slice (some ⟨w.heap.size, 0, none⟩) j j] wr fun e w' => ∃ v', e = .returned (.tuple #[v', .int .i64 (putE k zs)]) ∧ Fresh wr.heap.size w' v' (putL k zs) ∧ Below wr.heap.size wr w') := fun k => fput_any k _ zs _ _ _ _ wr Y.out
      have C2 : Hid (∀ (k : Int) (w1 : World), Below wr.heap.size wr w1 → Calls Try.prog 12 #[.int .i64 k, .slice (some ⟨w.heap.size, 0, none⟩) j j] w1 fun e w' => ∃ v', e = .returned (.tuple #[v', .int .i64 (putE k zs)]) ∧ Fresh w1.heap.size w' v' (putL k zs) ∧ Below w1.heap.size w1 w') := fun k w1 hb => rput_any k _ zs _ _ _ _ w1 (Y.out.kept hb (Nat.le_refl _))
      go_wp2_with (fail)
      refine (C1.out _).mono ?_
      rintro e1 w1 ⟨v1, rfl, hf1, hb1⟩
      have B1 := hid hb1
      obtain ⟨A1, c1, b1, y1, _, _⟩ := hf1.bytes (Nat.lt_of_lt_of_le HP1.out B1.out.size)
      have Y1 := hid y1
      have ey1 := y1.form
      subst ey1
      clear hf1 hb1 y1
      go_wp2_with (fail)
      refine (C2.out _ _ B1.out).mono ?_
      rintro e2 w2 ⟨v2, rfl, hf2, hb2⟩
      have B2 : Hid (Below w.heap.size w w2) := (HB.out.trans (B1.out.mono HB.out.size)).trans (hb2.mono (Nat.le_trans HB.out.size B1.out.size))
      obtain ⟨A2, c2, b2, y2, _, _⟩ := hf2.bytes (Nat.lt_of_lt_of_le HP.out B2.out.size)
      have k2 := conv_back y2
      have ey2 := y2.form
      subst ey2
      have k1 := conv_back (Y1.out.kept hb2 (Nat.le_refl _))
      have CW := hid (works_any w2 (Nat.lt_of_lt_of_le HP.out B2.out.size))
      generalize putE (1 + (r : Int)) zs = x at *
      generalize putL (1 + (r : Int)) zs = L at *
      generalize L.length = nL at *
      clear hf2 hb2 y2
      go_wp2_with (fail)
      refine CW.out.mono ?_
      rintro e3 w3 ⟨rfl, hb3⟩
      have B3 : Hid (Below w.heap.size w w3) := B2.out.trans (hb3.mono B2.out.size)
      clear hb3
      go_wp2
      go_ret
      exact ⟨rfl, B3.out⟩
end Go.Proofs.Ytakgbopkkechgaa
