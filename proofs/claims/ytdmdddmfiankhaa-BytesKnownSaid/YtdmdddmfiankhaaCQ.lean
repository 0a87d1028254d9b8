/- Tapes that are none; texts and rows that are too long; literals. No conditions. -/
import Derived.Test.YtdmdddmfiankhaaCM
import Derived.Lib.SlBytesConst
namespace Go.Proofs.Ytdmdddmfiankhaa
open Go.RowKit
/-- What answers that it is none. -/
def NoTape (p : Value) (w : World) : Prop := Calls Try.prog 27 #[p] w fun e w' => e = .returned (.int .i64 1) ∧ w = w'
set_option maxRecDepth 100000 in
set_option maxHeartbeats 400000 in
theorem none_nil (w : World) : NoTape (.pointer none) w := by
  unfold NoTape
  go_enter Try.func27, Try.ntmps27
  go_wp2
  go_ret
  exact ⟨rfl, rfl⟩
set_option maxRecDepth 100000 in
set_option maxHeartbeats 400000 in
theorem none_empty (w : World) (g : Nat) (h : Has w g 76 #[.bool false, .bool false, .slice none 0 0]) : NoTape (.pointer (some ⟨g, 0, none⟩)) w := by
  have c0 : w.cell? ⟨g, 0, none⟩ = some (.bool false) := h.at_ 0
  clear h
  unfold NoTape
  go_enter Try.func27, Try.ntmps27
  go_wp2
  go_ret
  exact ⟨rfl, rfl⟩
set_option maxRecDepth 100000 in
set_option maxHeartbeats 400000 in
theorem none_tear (p : Value) (w : World) (h : Hid (NoTape p w)) : Calls Try.prog 35 #[p] w fun e w' => e = .returned (.tuple #[]) ∧ w = w' := by
  go_enter Try.func35, Try.ntmps35
  go_wp2_with (go_at_call 27; refine Calls.mono h.out ?_; rintro e w' ⟨rfl, rfl⟩)
  go_end0
  exact ⟨rfl, rfl⟩
set_option maxRecDepth 100000 in
set_option maxHeartbeats 400000 in
theorem none_left (p : Value) (w : World) (h : Hid (NoTape p w)) : Calls Try.prog 25 #[p] w fun e w' => e = .returned (.int .i64 0) ∧ w = w' := by
  go_enter Try.func25, Try.ntmps25
  go_wp2_with (go_at_call 27; refine Calls.mono h.out ?_; rintro e w' ⟨rfl, rfl⟩)
  go_ret
  exact ⟨rfl, rfl⟩
set_option maxRecDepth 100000 in
set_option maxHeartbeats 400000 in
theorem none_next (p : Value) (w : World) (k : Int) (h : Hid (NoTape p w)) : Calls Try.prog 48 #[p, .int .i64 k] w fun e w' => e = .returned (.tuple #[.int .u64 0, .bool false]) ∧ w = w' := by
  go_enter Try.func48, Try.ntmps48
  go_wp2_with (go_at_call 27; refine Calls.mono h.out ?_; rintro e w' ⟨rfl, rfl⟩)
  go_ret2
  exact ⟨rfl, rfl⟩
set_option maxRecDepth 100000 in
set_option maxHeartbeats 400000 in
theorem none_num (p : Value) (w : World) (k : Int) (h : Hid (NoTape p w)) : Calls Try.prog 23 #[p, .int .i64 k] w fun e w' => e = .returned (.int .u64 0) ∧ w = w' := by
  have C1 := hid (none_next p w k h)
  have C2 := hid (none_tear p w h)
  go_enter Try.func23, Try.ntmps23
  go_wp2_with (first
    | (go_at_call 48; refine C1.out.mono ?_; rintro e w' ⟨rfl, rfl⟩)
    | (go_at_call 35; refine C2.out.mono ?_; rintro e w' ⟨rfl, rfl⟩))
  go_ret
  exact ⟨rfl, rfl⟩
set_option maxRecDepth 100000 in
set_option maxHeartbeats 400000 in
theorem none_end (p : Value) (w : World) (h : Hid (NoTape p w)) : Calls Try.prog 33 #[p] w fun e w' => e = .returned (.int .i64 1) ∧ w = w' := by
  have C1 := hid (none_left p w h)
  go_enter Try.func33, Try.ntmps33
  go_wp2_with (first
    | (go_at_call 25; refine C1.out.mono ?_; rintro e w' ⟨rfl, rfl⟩)
    | (go_at_call 27; refine Calls.mono h.out ?_; rintro e w' ⟨rfl, rfl⟩))
  go_ret
  exact ⟨rfl, rfl⟩
set_option maxRecDepth 100000 in
set_option maxHeartbeats 400000 in
theorem none_bytes (p : Value) (w : World) (k : Int) (h : Hid (NoTape p w)) : Calls Try.prog 32 #[p, .int .i64 k] w fun e w' => e = .returned (.slice none 0 0) ∧ w = w' := by
  have C2 := hid (none_tear p w h)
  go_enter Try.func32, Try.ntmps32
  go_wp2_with (first
    | (go_at_call 27; refine Calls.mono h.out ?_; rintro e w' ⟨rfl, rfl⟩)
    | (go_at_call 35; refine C2.out.mono ?_; rintro e w' ⟨rfl, rfl⟩))
  go_ret
  exact ⟨rfl, rfl⟩
set_option maxRecDepth 100000 in
set_option maxHeartbeats 400000 in
theorem putRowInt_long (v : Value) (A : Option Addr) (n c : Nat) (f : Value) (hn : 65535 < n) (w : World) : Calls Try.prog 40 #[v, .slice A n c, f] w fun e w' => e = .returned (.tuple #[.slice none 0 0, .int .i64 3]) ∧ w = w' := by
  have h1 : (65535 : Int) < (n : Int) := by omega
  clear hn
  go_enter Try.func40, Try.ntmps40
  go_wp2
  go_ret2
  exact ⟨rfl, rfl⟩
theorem make_big : ∃ (C : Array Value) (s : ByteArray), 65535 < s.size ∧ (∀ w : World, (Instr.makeSlice 24 (.int .i64 65536) (.int .i64 65536)).run Try.prog w = .ok (.slice (some ⟨w.heap.size, 0, none⟩) 65536 65536) (w.alloc (.cells C 5))) ∧
    ∀ w : World, (convert 24 9 (.slice (some ⟨w.heap.size, 0, none⟩) 65536 65536)).run Try.prog (w.alloc (.cells C 5)) = .ok (.string s) (w.alloc (.cells C 5)) := by
  obtain ⟨i0, hi, hz0, hz1, hz2⟩ := info_parts info5
  obtain ⟨m, hm⟩ : ∃ m : Nat, m = 65536 := ⟨_, rfl⟩
  refine ⟨bvec (List.replicate m 0), ba (List.replicate m 0), by rw [ba_size, List.length_replicate]; omega, fun w => ?_, fun w => ?_⟩
  · have := run_make (P := Try.prog) w 24 5 i0 (.int .u8 0) Try.underlying24 hi hz0 .i64 .i64 (m : Int) (m : Int) (by omega) (by omega) (by rw [hz2]; omega) (by omega)
    rw [show (65536 : Int) = (m : Int) by omega, this]
    simp only [Int.toNat_natCast, hz1, Nat.mul_one]
    rw [show (Value.int IntKind.u8 0).cells = #[Value.int .u8 0] from rfl, made_bytes, hm]
  · refine conv_back (A := some ⟨w.heap.size, 0, none⟩) (cap := 65536) (bb := w.heap.size) (off := 0) ⟨by rw [List.length_replicate, hm], by rw [List.length_replicate]; omega, (fun h => by cases h), fun a ha j hj => ?_, by simp, fun _ => rfl⟩
    cases ha
    rw [add_at, Nat.zero_add]
    exact (Has.at_ (Has.fresh w 5 _) j).trans (bvec_get _ _ hj)
theorem infoInt : (Try.prog.info? 3).map (fun i => (i.zero, i.size, i.bytes)) = some (some (.int .i64 0), 1, 8) := by kernel_rfl
theorem make_ints : ∃ (C : Array Value), ∀ w : World, (Instr.makeSlice 70 (.int .i64 65536) (.int .i64 65536)).run Try.prog w = .ok (.slice (some ⟨w.heap.size, 0, none⟩) 65536 65536) (w.alloc (.cells C 3)) := by
  obtain ⟨i0, hi, hz0, hz1, hz2⟩ := info_parts infoInt
  obtain ⟨m, hm⟩ : ∃ m : Nat, m = 65536 := ⟨_, rfl⟩
  refine ⟨madeCells (Value.int .i64 0).cells m, fun w => ?_⟩
  have := run_make (P := Try.prog) w 70 3 i0 (.int .i64 0) Try.underlying70 hi hz0 .i64 .i64 (m : Int) (m : Int) (by omega) (by omega) (by rw [hz2]; omega) (by omega)
  rw [show (65536 : Int) = (m : Int) by omega, this]
  simp only [Int.toNat_natCast, hz1, Nat.mul_one]
  rw [hm]
/-- Each of two tapes stays where the other one turns. -/
theorem Tp.beside {w w' : World} {g gq : Nat} {s sq : St} (h : Hid (Tp w g s)) (hq : Hid (Tp w gq sq)) (hne : Hid (g ≠ gq)) (hg : Grw gq w w') : Hid (Tp w' g s) := by
  obtain ⟨A, cap, bb, off, h1, h2, h3, h4, h5⟩ := h.out
  obtain ⟨A', cap', bb', off', k1, _⟩ := hq.out
  have hz := h2.zero
  obtain ⟨t, xs⟩ := s
  rcases Nat.eq_zero_or_pos xs.length with h0 | h0
  · obtain rfl : xs = [] := List.eq_nil_of_length_eq_zero h0
    exact ⟨A, cap, 0, 0, h1.grw hg hne.out, Bytes.empty hz (Nat.lt_of_le_of_lt (Nat.zero_le _) (Nat.lt_of_lt_of_le h1.inside hg.size)), Nat.ne_of_lt h5, h4, h5⟩
  · refine ⟨A, cap, bb, off, h1.grw hg hne.out, h2.grw hg (h2.apart h0 k1 fun i x e => ?_), h3, h4, h5⟩
    match i, e with
    | 0, e => simp [V8] at e
    | 1, e => simp [V8] at e
    | 2, e => simp [V8] at e
    | i + 3, e => simp at e
/-- A literal of bytes, plain and as a constant text's. -/
theorem lit_plain (w : World) (xs : List UInt8) (C : Array Value) (n : Nat) (hC : C = bvec xs) (hn : xs.length = n) : Bytes (w.alloc (.cells C 5)) (.slice (some ⟨w.heap.size, 0, none⟩) n n) xs (some ⟨w.heap.size, 0, none⟩) n w.heap.size 0 := by
  subst hn hC
  refine ⟨rfl, Nat.le_refl _, (fun h => by cases h), fun a ha j hj => ?_, by simp, fun _ => rfl⟩
  cases ha
  rw [add_at, Nat.zero_add]
  exact (Has.at_ (Has.fresh w 5 _) j).trans (bvec_get _ _ hj)
theorem lit_text (w : World) : Bytes (w.alloc (.cells #[.int .u8 0, .int .u8 2, .int .u8 97, .int .u8 98] 5 (4, 5))) (.slice (some ⟨w.heap.size, 0, none⟩) 4 4) [0, 2, 97, 98] (some ⟨w.heap.size, 0, none⟩) 4 w.heap.size 0 ∧
    (convert 24 24 (.slice (some ⟨w.heap.size, 0, none⟩) 4 4)).run Try.prog (w.alloc (.cells #[.int .u8 0, .int .u8 2, .int .u8 97, .int .u8 98] 5)) = .ok (.slice (some ⟨w.heap.size, 0, none⟩) 4 4) (w.alloc (.cells #[.int .u8 0, .int .u8 2, .int .u8 97, .int .u8 98] 5 (4, 5))) := by
  refine ⟨⟨rfl, Nat.le_refl _, (fun h => by cases h), fun a ha j hj => ?_, by simp, fun _ => rfl⟩, Lib.run_convert_bytes_const w 24 5 _ _ _ Try.underlying24 Try.underlying5⟩
  cases ha
  rw [add_at, Nat.zero_add, World.cell?_alloc_mark]
  exact bvec_get [0, 2, 97, 98] j hj
end Go.Proofs.Ytdmdddmfiankhaa
