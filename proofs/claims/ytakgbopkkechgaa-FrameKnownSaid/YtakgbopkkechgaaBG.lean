/- A tape's next number: what (*Tape).next answers. Conditions: a tape that NewTape made. -/
import Derived.Test.YtakgbopkkechgaaBF
namespace Go.Proofs.Ytakgbopkkechgaa
open Go.RowKit
/-- What bytes say as a number, the highest first. -/
def valL (l : List UInt8) : Nat := l.foldl (fun a x => 256 * a + x.toNat) 0
theorem valL_snoc (l : List UInt8) (x : UInt8) : valL (l ++ [x]) = 256 * valL l + x.toNat := by simp [valL]
theorem valL_up (l : List UInt8) : ∀ a : Nat, l.foldl (fun a x => 256 * a + x.toNat) a + 1 ≤ (a + 1) * 256 ^ l.length := by
  induction l with
  | nil => intro a; simp
  | cons x l ih =>
    intro a
    have hx := x.toNat_lt
    refine Nat.le_trans (ih (256 * a + x.toNat)) ?_
    rw [List.length_cons, Nat.pow_succ, Nat.mul_comm (256 ^ _) 256, ← Nat.mul_assoc]
    exact Nat.mul_le_mul_right _ (by omega)
theorem valL_lt (l : List UInt8) : valL l < 256 ^ l.length := by
  have := valL_up l 0
  unfold valL; omega
theorem take_snoc (l : List UInt8) (j : Nat) (h : j < l.length) : l.take (j + 1) = l.take j ++ [at8 l j] := by
  rw [List.take_succ_eq_append_getElem h]
  congr 2
  rw [at8, List.getD, List.getElem?_eq_getElem h]; rfl
/-- The number that is next, if there is one. -/
def nxt (s : St) (k : Int) : Option Nat := if s.1 = false ∧ wid k = true ∧ k ≤ (s.2.length : Int) then some (valL (s.2.take k.toNat)) else none
theorem or_next (a : Nat) (x : UInt8) (h : a < 72057594037927936) : bits .or .u64 (IntKind.u64.wrap ((a : Int) * 256)) (b8 x) = ((256 * a + x.toNat : Nat) : Int) := by
  have hx := x.toNat_lt
  have e1 : IntKind.u64.wrap ((a : Int) * 256) = ((a * 256 : Nat) : Int) := by
    rw [← u64in _ (show a * 256 < 18446744073709551616 by omega), Int.natCast_mul]; rfl
  rw [e1]
  unfold bits b8
  simp only [BitVec.ofInt_natCast]
  have e2 : (BitVec.ofNat 64 (a * 256) ||| BitVec.ofNat 64 x.toNat).toNat = 256 * a + x.toNat := by
    rw [BitVec.toNat_or, BitVec.toNat_ofNat, BitVec.toNat_ofNat, Nat.mod_eq_of_lt (by omega), Nat.mod_eq_of_lt (by omega), Nat.mul_comm]
    exact (Nat.two_pow_add_eq_or_of_lt (i := 8) (by omega) a).symm
  show IntKind.u64.wrap ((BitVec.ofNat 64 (a * 256) ||| BitVec.ofNat 64 x.toNat).toNat : Int) = _
  rw [e2]
  exact u64in _ (by omega)
theorem Bytes.preRun {w : World} {v : Value} {xs : List UInt8} {A : Option Addr} {cap bb off : Nat} (h : Bytes w v xs A cap bb off) (m : Nat) (hm : m ≤ xs.length) (w' : World) :
    (Instr.slice 22 v none (some (.int .i64 (m : Int))) none).run Try.prog w' = .ok (.slice A m cap) w' := by
  have he : Try.prog.elem 22 = 5 := by kernel_rfl
  have hs : ∀ w, (sizeOf (Try.prog.elem 22)).run Try.prog w = .ok 1 w := by intro w; rw [he]; kernel_rfl
  have hle := h.le
  rw [h.form, run_slice_h (P := Try.prog) w' 22 A xs.length cap (by kernel_rfl) .i64 (m : Int) (by omega) (by omega), hs]
  simp only [Result.andThen, sliced, Int.toNat_natCast, Nat.zero_mul, Nat.sub_zero]
  have e : (A.map fun x => x.add 0) = A := by
    cases A with
    | none => rfl
    | some a => rfl
  rw [e]; split <;> rfl
set_option maxRecDepth 100000 in
set_option maxHeartbeats 400000 in
theorem next_torn (g : Nat) (xs : List UInt8) (k : Int) (w : World) (h : Tp w g (true, xs)) : Calls Try.prog 38 #[.pointer (some ⟨g, 0, none⟩), .int .i64 k] w fun e w' => e = .returned (.tuple #[.int .u64 0, .bool false]) ∧ w = w' := by
  have CE : Hid (Calls Try.prog 37 #[.pointer (some ⟨g, 0, none⟩)] w fun e w' => e = .returned (.int .i64 4) ∧ w = w') := err_any g (true, xs) w h
  clear h
  go_enter Try.func38, Try.ntmps38
  go_wp2_with (go_at_call 37; refine CE.out.mono ?_; rintro e w' ⟨rfl, rfl⟩)
  go_ret2
  exact ⟨rfl, rfl⟩
set_option maxRecDepth 100000 in
set_option maxHeartbeats 400000 in
theorem next_wide (g : Nat) (xs : List UInt8) (k : Int) (hk : wid k = false) (w : World) (h : Tp w g (false, xs)) : Calls Try.prog 38 #[.pointer (some ⟨g, 0, none⟩), .int .i64 k] w fun e w' => e = .returned (.tuple #[.int .u64 0, .bool false]) ∧ w = w' := by
  have CE : Hid (Calls Try.prog 37 #[.pointer (some ⟨g, 0, none⟩)] w fun e w' => e = .returned (.int .i64 0) ∧ w = w') := err_any g (false, xs) w h
  have CW := hid (isWidth_any k w)
  rw [hk] at CW
  clear h hk
  go_enter Try.func38, Try.ntmps38
  go_wp2_with (first
    | (go_at_call 37; refine CE.out.mono ?_; rintro e w' ⟨rfl, rfl⟩)
    | (go_at_call 35; refine CW.out.mono ?_; rintro e w' ⟨rfl, rfl⟩))
  go_ret2
  exact ⟨rfl, rfl⟩
set_option maxRecDepth 100000 in
set_option maxHeartbeats 400000 in
theorem next_short (g : Nat) (xs : List UInt8) (k : Int) (hk : wid k = true) (hl : (xs.length : Int) < k) (w : World) (h : Tp w g (false, xs)) : Calls Try.prog 38 #[.pointer (some ⟨g, 0, none⟩), .int .i64 k] w fun e w' => e = .returned (.tuple #[.int .u64 0, .bool false]) ∧ w = w' := by
  have CE : Hid (Calls Try.prog 37 #[.pointer (some ⟨g, 0, none⟩)] w fun e w' => e = .returned (.int .i64 0) ∧ w = w') := err_any g (false, xs) w h
  have CW := hid (isWidth_any k w)
  rw [hk] at CW
  obtain ⟨A, cap, bb, off, h1, _⟩ := h
  have c2 : w.cell? ⟨g, 2, none⟩ = some (.slice A xs.length cap) := h1.at_ 2
  clear h1 hk
  go_enter Try.func38, Try.ntmps38
  go_wp2_with (first
    | (go_at_call 37; refine CE.out.mono ?_; rintro e w' ⟨rfl, rfl⟩)
    | (go_at_call 35; refine CW.out.mono ?_; rintro e w' ⟨rfl, rfl⟩))
  go_ret2
  exact ⟨rfl, rfl⟩
set_option maxRecDepth 100000 in
set_option maxHeartbeats 1000000 in
theorem next_good (g : Nat) (xs : List UInt8) (m : Nat) (hk : wid (m : Int) = true) (hl : m ≤ xs.length) (w : World) (h : Tp w g (false, xs)) :
    Calls Try.prog 38 #[.pointer (some ⟨g, 0, none⟩), .int .i64 (m : Int)] w fun e w' => e = .returned (.tuple #[.int .u64 (valL (xs.take m) : Int), .bool true]) ∧ w = w' := by
  have CE : Hid (Calls Try.prog 37 #[.pointer (some ⟨g, 0, none⟩)] w fun e w' => e = .returned (.int .i64 0) ∧ w = w') := err_any g (false, xs) w h
  have CW := hid (isWidth_any m w)
  rw [hk] at CW
  obtain ⟨hm0, hm8⟩ : 1 ≤ m ∧ m ≤ 8 := by have := wid_cases hk; omega
  obtain ⟨A, cap, bb, off, h1, h2, _⟩ := h
  have c2 : w.cell? ⟨g, 2, none⟩ = some (.slice A xs.length cap) := h1.at_ 2
  have kp := h2.preRun m hl
  have HC := hid h2.cells
  obtain rfl := h2.src (by show 0 < xs.length; omega)
  have hnl : ¬ (xs.length : Int) < (m : Int) := by omega
  have HL := hid hl
  clear h1 h2 hk hl
  go_enter Try.func38, Try.ntmps38
  go_wp2_with (first
    | (go_at_call 37; refine CE.out.mono ?_; rintro e w' ⟨rfl, rfl⟩)
    | (go_at_call 35; refine CW.out.mono ?_; rintro e w' ⟨rfl, rfl⟩))
  go_loopw [4, 32] (fun n i wr => ∃ (j y : Nat), j ≤ m ∧ i = .int .i64 (j : Int) ∧ n = .int .u64 (y : Int) ∧ Hid (y = valL (xs.take j)) ∧ w = wr) (fun _ i _ => m - (intOf i).toNat)
  case atStart => exact ⟨0, 0, by omega, rfl, rfl, rfl, rfl⟩
  case round =>
    obtain ⟨j, y, hj, rfl, rfl, HY, rfl⟩ := hrel
    by_cases hlt : j < m
    · have c1 : w.cell? ⟨bb, off + j, none⟩ = some (.int .u8 (b8 (at8 xs j))) := HC.out j (by have := HL.out; show j < xs.length; omega)
      have hb0 := b8_nonneg (at8 xs j)
      have hb1 := b8_lt (at8 xs j)
      have HYB : Hid (y < 72057594037927936) := by
        show _ < _
        rw [HY.out]
        refine Nat.lt_of_lt_of_le (valL_lt _) ?_
        have : (xs.take j).length ≤ 7 := by rw [List.length_take]; omega
        exact Nat.le_trans (Nat.pow_le_pow_right (by omega) this) (by decide)
      have hor := or_next y (at8 xs j) HYB.out
      have HN : Hid (256 * y + (at8 xs j).toNat = valL (xs.take (j + 1))) := by
        show _ = _
        rw [take_snoc _ _ (by have := HL.out; omega), valL_snoc, HY.out]
      go_wp2
      go_roundw
      case rel => exact ⟨j + 1, 256 * y + (at8 xs j).toNat, by omega, by go_num, by push_cast; rfl, HN, trivial⟩
      case measure => simp [intOf]; omega
    · obtain rfl : j = m := by omega
      rw [HY.out]
      go_wp2
      go_ret2
      exact ⟨rfl, rfl⟩
theorem next_any (g : Nat) (s : St) (k : Int) (w : World) (h : Tp w g s) :
    Calls Try.prog 38 #[.pointer (some ⟨g, 0, none⟩), .int .i64 k] w fun e w' => e = .returned (.tuple #[.int .u64 ((nxt s k).getD 0 : Nat), .bool (nxt s k).isSome]) ∧ w = w' := by
  obtain ⟨t, xs⟩ := s
  unfold nxt
  cases t
  · rcases hk : wid k with _ | _
    · rw [if_neg (by simp)]; exact next_wide g xs k hk w h
    · by_cases hl : k ≤ (xs.length : Int)
      · rw [if_pos ⟨rfl, rfl, hl⟩]
        obtain ⟨m, rfl⟩ : ∃ m : Nat, k = (m : Int) := ⟨k.toNat, by have := wid_cases hk; omega⟩
        exact next_good g xs m hk (by omega) w h
      · rw [if_neg (fun h => hl h.2.2)]; exact next_short g xs k hk (by omega) w h
  · rw [if_neg (fun h => by cases h.1)]; exact next_torn g xs k w h
theorem nxt_lt (s : St) (k : Int) (n : Nat) (h : nxt s k = some n) : n < 18446744073709551616 ∧ 1 ≤ k ∧ k ≤ 8 ∧ k ≤ (s.2.length : Int) ∧ s.1 = false := by
  unfold nxt at h
  split at h
  · rename_i hc
    obtain ⟨h1, h2, h3⟩ := hc
    have h8 := wid_cases h2
    obtain rfl := Option.some.inj h
    refine ⟨Nat.lt_of_lt_of_le (valL_lt _) ?_, by omega, by omega, h3, h1⟩
    have : (s.2.take k.toNat).length ≤ 8 := by rw [List.length_take]; omega
    exact Nat.le_trans (Nat.pow_le_pow_right (by omega) this) (by decide)
  · cases h
end Go.Proofs.Ytakgbopkkechgaa
