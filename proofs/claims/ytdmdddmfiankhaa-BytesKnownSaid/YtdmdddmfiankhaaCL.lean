/- A tape whose bytes lie below a bound, so that what is made above it leaves them: Err, Tear, Num, Below, takeOne. Conditions: a tape that NewTape made. -/
import Derived.Test.YtdmdddmfiankhaaCF
namespace Go.Proofs.Ytdmdddmfiankhaa.Low
open Go.RowKit
/-- A tape lies in block g, its bytes below N. -/
def Tp (N : Nat) (w : World) (g : Nat) (s : St) : Prop := ∃ A cap bb off, Has w g 76 #[.bool true, .bool s.1, .slice A s.2.length cap] ∧ Bytes w (.slice A s.2.length cap) s.2 A cap bb off ∧ bb ≠ g ∧ s.2.length ≤ 100000 ∧ 0 < g ∧ (0 < s.2.length → bb < N)
theorem Tp.inside {w : World} {N g : Nat} {s : St} (h : Tp N w g s) : g < w.heap.size := by obtain ⟨A, cap, bb, off, h1, _⟩ := h; exact h1.inside
theorem Tp.kept {w w' : World} {N g : Nat} {s : St} (h : Tp N w g s) (hb : Below w.heap.size w w') : Tp N w' g s := by
  obtain ⟨A, cap, bb, off, h1, h2, h3, h4⟩ := h
  exact ⟨A, cap, bb, off, h1.kept hb h1.inside, h2.kept hb (Nat.le_refl _), h3, h4⟩
set_option maxRecDepth 100000 in
set_option maxHeartbeats 400000 in
theorem err_any {N : Nat} (g : Nat) (s : St) (w : World) (h : Tp N w g s) : Calls Try.prog 27 #[.pointer (some ⟨g, 0, none⟩)] w fun e w' => e = .returned (.int .i64 (errS s)) ∧ w = w' := by
  obtain ⟨t, xs⟩ := s
  obtain ⟨A, cap, bb, off, h1, _⟩ := h
  have c0 : w.cell? ⟨g, 0, none⟩ = some (.bool true) := h1.at_ 0
  have c1 : w.cell? ⟨g, 1, none⟩ = some (.bool t) := h1.at_ 1
  clear h1
  cases t
  all_goals
    go_enter Try.func27, Try.ntmps27
    go_wp2
    go_ret
    exact ⟨rfl, rfl⟩
theorem tear_at {w : World} {N g : Nat} {s : St} (h : Tp N w g s) : Tp N (w.setCell ⟨g, 1, none⟩ (.bool true)) g (tear s) ∧ Grw g w (w.setCell ⟨g, 1, none⟩ (.bool true)) := by
  obtain ⟨A, cap, bb, off, h1, h2, h3, h4⟩ := h
  have hg := Grw.of_set g 1 w (.bool true)
  exact ⟨⟨A, cap, bb, off, h1.put 1 (.bool true), h2.grw hg h3, h3, h4⟩, hg⟩
set_option maxRecDepth 100000 in
set_option maxHeartbeats 400000 in
theorem tear_any {N : Nat} (g : Nat) (s : St) (w : World) (h : Tp N w g s) : Calls Try.prog 35 #[.pointer (some ⟨g, 0, none⟩)] w fun e w' => e = .returned (.tuple #[]) ∧ Tp N w' g (tear s) ∧ Grw g w w' := by
  have HT := hid (tear_at h)
  have HH := hid h
  obtain ⟨t, xs⟩ := s
  obtain ⟨A, cap, bb, off, h1, _⟩ := h
  have c1 : w.cell? ⟨g, 1, none⟩ = some (.bool t) := h1.at_ 1
  have f1 := h1.free 1
  clear h1
  cases t
  · have CE : Hid (Calls Try.prog 27 #[.pointer (some ⟨g, 0, none⟩)] w fun e w' => e = .returned (.int .i64 0) ∧ w = w') := err_any g (false, xs) w HH.out
    go_enter Try.func35, Try.ntmps35
    go_wp2_with (go_at_call 27; refine CE.out.mono ?_; rintro e w' ⟨rfl, rfl⟩)
    go_end0
    exact ⟨rfl, HT.out.1, HT.out.2⟩
  · have CE : Hid (Calls Try.prog 27 #[.pointer (some ⟨g, 0, none⟩)] w fun e w' => e = .returned (.int .i64 4) ∧ w = w') := err_any g (true, xs) w HH.out
    go_enter Try.func35, Try.ntmps35
    go_wp2_with (go_at_call 27; refine CE.out.mono ?_; rintro e w' ⟨rfl, rfl⟩)
    go_end0
    exact ⟨rfl, HH.out, Grw.refl _ _⟩
set_option maxRecDepth 100000 in
set_option maxHeartbeats 400000 in
theorem next_torn {N : Nat} (g : Nat) (xs : List UInt8) (k : Int) (w : World) (h : Tp N w g (true, xs)) : Calls Try.prog 48 #[.pointer (some ⟨g, 0, none⟩), .int .i64 k] w fun e w' => e = .returned (.tuple #[.int .u64 0, .bool false]) ∧ w = w' := by
  have CE : Hid (Calls Try.prog 27 #[.pointer (some ⟨g, 0, none⟩)] w fun e w' => e = .returned (.int .i64 4) ∧ w = w') := err_any g (true, xs) w h
  clear h
  go_enter Try.func48, Try.ntmps48
  go_wp2_with (go_at_call 27; refine CE.out.mono ?_; rintro e w' ⟨rfl, rfl⟩)
  go_ret2
  exact ⟨rfl, rfl⟩
set_option maxRecDepth 100000 in
set_option maxHeartbeats 400000 in
theorem next_wide {N : Nat} (g : Nat) (xs : List UInt8) (k : Int) (hk : wid k = false) (w : World) (h : Tp N w g (false, xs)) : Calls Try.prog 48 #[.pointer (some ⟨g, 0, none⟩), .int .i64 k] w fun e w' => e = .returned (.tuple #[.int .u64 0, .bool false]) ∧ w = w' := by
  have CE : Hid (Calls Try.prog 27 #[.pointer (some ⟨g, 0, none⟩)] w fun e w' => e = .returned (.int .i64 0) ∧ w = w') := err_any g (false, xs) w h
  have CW := hid (isWidth_any k w)
  rw [hk] at CW
  clear h hk
  go_enter Try.func48, Try.ntmps48
  go_wp2_with (first
    | (go_at_call 27; refine CE.out.mono ?_; rintro e w' ⟨rfl, rfl⟩)
    | (go_at_call 60; refine CW.out.mono ?_; rintro e w' ⟨rfl, rfl⟩))
  go_ret2
  exact ⟨rfl, rfl⟩
set_option maxRecDepth 100000 in
set_option maxHeartbeats 400000 in
theorem next_short {N : Nat} (g : Nat) (xs : List UInt8) (k : Int) (hk : wid k = true) (hl : (xs.length : Int) < k) (w : World) (h : Tp N w g (false, xs)) : Calls Try.prog 48 #[.pointer (some ⟨g, 0, none⟩), .int .i64 k] w fun e w' => e = .returned (.tuple #[.int .u64 0, .bool false]) ∧ w = w' := by
  have CE : Hid (Calls Try.prog 27 #[.pointer (some ⟨g, 0, none⟩)] w fun e w' => e = .returned (.int .i64 0) ∧ w = w') := err_any g (false, xs) w h
  have CW := hid (isWidth_any k w)
  rw [hk] at CW
  obtain ⟨A, cap, bb, off, h1, _⟩ := h
  have c2 : w.cell? ⟨g, 2, none⟩ = some (.slice A xs.length cap) := h1.at_ 2
  clear h1 hk
  go_enter Try.func48, Try.ntmps48
  go_wp2_with (first
    | (go_at_call 27; refine CE.out.mono ?_; rintro e w' ⟨rfl, rfl⟩)
    | (go_at_call 60; refine CW.out.mono ?_; rintro e w' ⟨rfl, rfl⟩))
  go_ret2
  exact ⟨rfl, rfl⟩
set_option maxRecDepth 100000 in
set_option maxHeartbeats 1000000 in
theorem next_good {N : Nat} (g : Nat) (xs : List UInt8) (m : Nat) (hk : wid (m : Int) = true) (hl : m ≤ xs.length) (w : World) (h : Tp N w g (false, xs)) :
    Calls Try.prog 48 #[.pointer (some ⟨g, 0, none⟩), .int .i64 (m : Int)] w fun e w' => e = .returned (.tuple #[.int .u64 (valL (xs.take m) : Int), .bool true]) ∧ w = w' := by
  have CE : Hid (Calls Try.prog 27 #[.pointer (some ⟨g, 0, none⟩)] w fun e w' => e = .returned (.int .i64 0) ∧ w = w') := err_any g (false, xs) w h
  have CW := hid (isWidth_any m w)
  rw [hk] at CW
  obtain ⟨hm0, hm8⟩ : 1 ≤ m ∧ m ≤ 8 := by have := wid_cases hk; omega
  obtain ⟨A, cap, bb, off, h1, h2, _⟩ := h
  have c2 : w.cell? ⟨g, 2, none⟩ = some (.slice A xs.length cap) := h1.at_ 2
  have kp := h2.preRun m hl
  have HC := hid h2.cells
  obtain rfl := h2.src (by show 0 < xs.length; omega)
  have hnl : ¬ (xs.length : Int) < (m : Int) := by omega
  have HL := hid hl
  clear h1 h2 hk hl
  go_enter Try.func48, Try.ntmps48
  go_wp2_with (first
    | (go_at_call 27; refine CE.out.mono ?_; rintro e w' ⟨rfl, rfl⟩)
    | (go_at_call 60; refine CW.out.mono ?_; rintro e w' ⟨rfl, rfl⟩))
  go_loopw [4, 32] (fun n i wr => ∃ (j y : Nat), j ≤ m ∧ i = .int .i64 (j : Int) ∧ n = .int .u64 (y : Int) ∧ Hid (y = valL (xs.take j)) ∧ w = wr) (fun _ i _ => m - (intOf i).toNat)
  case atStart => exact ⟨0, 0, by omega, rfl, rfl, rfl, rfl⟩
  case round =>
    obtain ⟨j, y, hj, rfl, rfl, HY, rfl⟩ := hrel
    by_cases hlt : j < m
    · have c1 : w.cell? ⟨bb, off + j, none⟩ = some (.int .u8 (b8 (at8 xs j))) := HC.out j (by have := HL.out; show j < xs.length; omega)
      have hb0 := b8_nonneg (at8 xs j)
      have hb1 := b8_lt (at8 xs j)
      have HYB : Hid (y < 72057594037927936) := by
        show _ < _
        rw [HY.out]
        refine Nat.lt_of_lt_of_le (valL_lt _) ?_
        have : (xs.take j).length ≤ 7 := by rw [List.length_take]; omega
        exact Nat.le_trans (Nat.pow_le_pow_right (by omega) this) (by decide)
      have hor := or_next y (at8 xs j) HYB.out
      have HN : Hid (256 * y + (at8 xs j).toNat = valL (xs.take (j + 1))) := by
        show _ = _
        rw [take_snoc _ _ (by have := HL.out; omega), valL_snoc, HY.out]
      go_wp2
      go_roundw
      case rel => exact ⟨j + 1, 256 * y + (at8 xs j).toNat, by omega, by go_num, by push_cast; rfl, HN, trivial⟩
      case measure => simp [intOf]; omega
    · obtain rfl : j = m := by omega
      rw [HY.out]
      go_wp2
      go_ret2
      exact ⟨rfl, rfl⟩
theorem next_any {N : Nat} (g : Nat) (s : St) (k : Int) (w : World) (h : Tp N w g s) :
    Calls Try.prog 48 #[.pointer (some ⟨g, 0, none⟩), .int .i64 k] w fun e w' => e = .returned (.tuple #[.int .u64 ((nxt s k).getD 0 : Nat), .bool (nxt s k).isSome]) ∧ w = w' := by
  obtain ⟨t, xs⟩ := s
  unfold nxt
  cases t
  · rcases hk : wid k with _ | _
    · rw [if_neg (by simp)]; exact next_wide g xs k hk w h
    · by_cases hl : k ≤ (xs.length : Int)
      · rw [if_pos ⟨rfl, rfl, hl⟩]
        obtain ⟨m, rfl⟩ : ∃ m : Nat, k = (m : Int) := ⟨k.toNat, by have := wid_cases hk; omega⟩
        exact next_good g xs m hk (by omega) w h
      · rw [if_neg (fun h => hl h.2.2)]; exact next_short g xs k hk (by omega) w h
  · rw [if_neg (fun h => by cases h.1)]; exact next_torn g xs k w h
/-- The tape when m bytes have been passed. -/
theorem tp_pass {w : World} {N g : Nat} {t : Bool} {xs : List UInt8} (h : Tp N w g (t, xs)) (m : Nat) (hm : m ≤ xs.length) : ∃ A L cap A2 L2 cap2 bb off, w.cell? ⟨g, 2, none⟩ = some (.slice A L cap) ∧ Hid (xs.length = L) ∧ Hid (Bytes w (.slice A L cap) xs A cap bb off) ∧
    (∀ w : World, (Instr.slice 24 (.slice A L cap) (some (.int .i64 (m : Int))) none none).run Try.prog w = .ok (.slice A2 L2 cap2) w) ∧
    Hid (∀ w', Below w.heap.size w w' → Tp N (w'.setCell ⟨g, 2, none⟩ (.slice A2 L2 cap2)) g (t, xs.drop m) ∧ Grw g w (w'.setCell ⟨g, 2, none⟩ (.slice A2 L2 cap2)) ∧ w'.cell? ⟨g, 2, none⟩ = some (.slice A L cap) ∧ w'.frozen? ⟨g, 2, none⟩ = false) := by
  obtain ⟨A, cap, bb, off, h1, h2, h3, h4, h5⟩ := h
  obtain ⟨A2, hr2, hb2⟩ := h2.rest m hm
  refine ⟨A, _, cap, A2, _, cap - m, bb, off, h1.at_ 2, rfl, h2, hr2, fun w' hb => ?_⟩
  have hh := h1.kept hb h1.inside
  have hg := Grw.of_set g 2 w' (.slice A2 (xs.drop m).length (cap - m))
  exact ⟨⟨A2, cap - m, bb, off + m, hh.put 2 _, (hb2.kept hb (Nat.le_refl _)).grw hg h3, h3, by show (xs.drop m).length ≤ _; have : xs.length ≤ 100000 := h4; rw [List.length_drop]; omega, h5.1, fun h0 => h5.2 (by have h0 : 0 < (xs.drop m).length := h0; rw [List.length_drop] at h0; show 0 < xs.length; omega)⟩, (Grw.of_below hb).trans hg, hh.at_ 2, hh.free 2⟩
theorem next_none {N : Nat} (g : Nat) (s : St) (k : Int) (w : World) (h : Tp N w g s) (hn : nxt s k = none) :
    Calls Try.prog 48 #[.pointer (some ⟨g, 0, none⟩), .int .i64 k] w fun e w' => e = .returned (.tuple #[.int .u64 0, .bool false]) ∧ w = w' := by
  have := next_any g s k w h
  rw [hn] at this; exact this
theorem next_some {N : Nat} (g : Nat) (s : St) (k : Int) (n : Nat) (w : World) (h : Tp N w g s) (hn : nxt s k = some n) :
    Calls Try.prog 48 #[.pointer (some ⟨g, 0, none⟩), .int .i64 k] w fun e w' => e = .returned (.tuple #[.int .u64 (n : Int), .bool true]) ∧ w = w' := by
  have := next_any g s k w h
  rw [hn] at this; exact this
set_option maxRecDepth 100000 in
set_option maxHeartbeats 400000 in
theorem num_any {N : Nat} (g : Nat) (s : St) (k : Int) (w : World) (h : Tp N w g s) :
    Calls Try.prog 23 #[.pointer (some ⟨g, 0, none⟩), .int .i64 k] w fun e w' => e = .returned (.int .u64 ((numS s k).1 : Nat)) ∧ Tp N w' g (numS s k).2 ∧ Grw g w w' := by
  have CT := hid (tear_any g s w h)
  rcases hn : nxt s k with _ | n
  · have CN := hid (next_none g s k w h hn)
    rw [numS, hn]
    clear hn h
    go_enter Try.func23, Try.ntmps23
    go_wp2_with (first
      | (go_at_call 48; refine CN.out.mono ?_; rintro e w' ⟨rfl, rfl⟩)
      | (go_at_call 35; refine CT.out.mono ?_; rintro e w' ⟨rfl, ht, hg⟩))
    go_ret
    exact ⟨rfl, ht, hg⟩
  · have CN := hid (next_some g s k n w h hn)
    obtain ⟨h0, h1, h8, hl, h9⟩ := nxt_lt s k n hn
    rw [numS, hn]
    obtain ⟨m, rfl⟩ : ∃ m : Nat, k = (m : Int) := ⟨k.toNat, by omega⟩
    obtain ⟨A, L, cap, A2, L2, cap2, bb, off, c2, HLE, HB0, hr2, HP⟩ := tp_pass (t := s.1) (xs := s.2) h m (by omega)
    have HQ := hid (HP.out w (Below.refl _ _))
    have e2 := HQ.out.2.2.2
    clear hn h hl h0 h9
    go_enter Try.func23, Try.ntmps23
    go_wp2_with (go_at_call 48; refine CN.out.mono ?_; rintro e w' ⟨rfl, rfl⟩)
    go_ret
    exact ⟨rfl, by rw [Int.toNat_natCast]; exact HQ.out.1, HQ.out.2.1⟩
set_option maxRecDepth 100000 in
set_option maxHeartbeats 400000 in
theorem below_any {N : Nat} (g : Nat) (s : St) (k : Int) (most : Nat) (w : World) (h : Tp N w g s) :
    Calls Try.prog 36 #[.pointer (some ⟨g, 0, none⟩), .int .i64 k, .int .u64 (most : Int)] w fun e w' => e = .returned (.int .i64 ((belowS s k most).1 : Nat)) ∧ Tp N w' g (belowS s k most).2 ∧ Grw g w w' := by
  have CT := hid (tear_any g s w h)
  rcases hn : nxt s k with _ | n
  · have CN := hid (next_none g s k w h hn)
    rw [belowS, hn]
    clear hn h
    go_enter Try.func36, Try.ntmps36
    go_wp2_with (first
      | (go_at_call 48; refine CN.out.mono ?_; rintro e w' ⟨rfl, rfl⟩)
      | (go_at_call 35; refine CT.out.mono ?_; rintro e w' ⟨rfl, ht, hg⟩))
    go_ret
    exact ⟨rfl, ht, hg⟩
  · have CN := hid (next_some g s k n w h hn)
    obtain ⟨h0, h1, h8, hl, h9⟩ := nxt_lt s k n hn
    rw [belowS, hn]
    obtain ⟨m, rfl⟩ : ∃ m : Nat, k = (m : Int) := ⟨k.toNat, by omega⟩
    obtain ⟨A, L, cap, A2, L2, cap2, bb, off, c2, HLE, HB0, hr2, HP⟩ := tp_pass (t := s.1) (xs := s.2) h m (by omega)
    have HQ := hid (HP.out w (Below.refl _ _))
    have e2 := HQ.out.2.2.2
    by_cases hc : n ≤ most ∧ n ≤ 4611686018427387904
    · simp only [if_pos hc]
      have b1 : (n : Int) ≤ (most : Int) := by omega
      have b2 : (n : Int) ≤ 4611686018427387904 := by omega
      have b3 : IntKind.i64.wrap (n : Int) = n := i64in _ (by omega) (by omega)
      clear hn h hl hc h0 h9
      go_enter Try.func36, Try.ntmps36
      go_wp2_with (go_at_call 48; refine CN.out.mono ?_; rintro e w' ⟨rfl, rfl⟩)
      all_goals
        go_ret
        exact ⟨rfl, by first | exact HQ.out.1 | (rw [Int.toNat_natCast]; exact HQ.out.1), HQ.out.2.1⟩
    · simp only [if_neg hc]
      by_cases hq : (4611686018427387904 : Int) < (most : Int)
      · have b1 : (4611686018427387904 : Int) < (n : Int) := by omega
        clear hn h hl hc h0 h9
        go_enter Try.func36, Try.ntmps36
        go_wp2_with (first
          | (go_at_call 48; refine CN.out.mono ?_; rintro e w' ⟨rfl, rfl⟩)
          | (go_at_call 35; refine CT.out.mono ?_; rintro e w' ⟨rfl, ht, hg⟩))
        go_ret
        exact ⟨rfl, ht, hg⟩
      · have b1 : (most : Int) < (n : Int) := by omega
        clear hn h hl hc h0 h9
        go_enter Try.func36, Try.ntmps36
        go_wp2_with (first
          | (go_at_call 48; refine CN.out.mono ?_; rintro e w' ⟨rfl, rfl⟩)
          | (go_at_call 35; refine CT.out.mono ?_; rintro e w' ⟨rfl, ht, hg⟩))
        go_ret
        exact ⟨rfl, ht, hg⟩
set_option maxRecDepth 100000 in
set_option maxHeartbeats 400000 in
theorem rowsC_any {N : Nat} (g gx : Nat) (s : St) (most width : Int) (w : World) (ht : Tp N w g s) (hx : Has w gx 38 #[.int .i64 most, .int .i64 width]) :
    Calls Try.prog 22 #[.pointer (some ⟨g, 0, none⟩), .pointer (some ⟨gx, 0, none⟩)] w fun e w' => e = .returned (.int .u64 ((numS s width).1 : Nat)) ∧ Tp N w' g (numS s width).2 ∧ Grw g w w' := by
  have CN := hid (num_any g s width w ht)
  have c1 : w.cell? ⟨gx, 1, none⟩ = some (.int .i64 width) := hx.at_ 1
  clear ht hx
  go_enter Try.func22, Try.ntmps22
  go_wp2_with (go_at_call 23; refine CN.out.mono ?_; rintro e1 w1 ⟨rfl, ht, hg⟩)
  go_ret
  exact ⟨rfl, ht, hg⟩
set_option maxRecDepth 100000 in
set_option maxHeartbeats 400000 in
theorem knownC_any {N : Nat} (g : Nat) (s : St) (w : World) (ht : Tp N w g s) :
    Calls Try.prog 39 #[.pointer (some ⟨g, 0, none⟩)] w fun e w' => e = .returned (.int .u64 ((numS s 1).1 : Nat)) ∧ Tp N w' g (numS s 1).2 ∧ Grw g w w' := by
  have CN := hid (num_any g s 1 w ht)
  clear ht
  go_enter Try.func39, Try.ntmps39
  go_wp2_with (go_at_call 23; refine CN.out.mono ?_; rintro e1 w1 ⟨rfl, ht, hg⟩)
  go_ret
  exact ⟨rfl, ht, hg⟩
set_option maxRecDepth 100000 in
set_option maxHeartbeats 400000 in
theorem takeRows_any {N : Nat} (g gx : Nat) (s : St) (most width : Int) (w : World) (ht : Tp N w g s) (hx : Has w gx 38 #[.int .i64 most, .int .i64 width]) :
    Calls Try.prog 47 #[.pointer (some ⟨g, 0, none⟩), .func (.func 22) #[] #[.pointer (some ⟨gx, 0, none⟩)]] w fun e w' => e = .returned (.int .u64 ((numS s width).1 : Nat)) ∧ Tp N w' g (numS s width).2 ∧ Grw g w w' := by
  have hb : Below w.heap.size w (w.alloc (.cells #[.pointer (some ⟨g, 0, none⟩)] 41)) := (Below.refl _ _).alloc (Nat.le_refl _) _
  have CN := hid (rowsC_any g gx s most width _ (ht.kept hb) (hx.kept hb hx.inside))
  have HB := hid hb
  have hf := hmf
  clear ht hx hb
  go_enter_defers Try.func47, Try.ntmps47
  go_wp2_with (go_at_call 22; refine CN.out.mono ?_; rintro e1 w1 ⟨rfl, ht, hg⟩)
  refine leaves_cons (f := 62) (args := #[.pointer (some ⟨w.heap.size, 0, none⟩)]) (by simp) (by simp [go_sem]) ?_
  refine (idle_take _ _).mono ?_
  rintro e u' w'' ⟨rfl, rfl, rfl⟩
  simp [Leaves, settle, results, Try.results47, go_sem]
  exact ⟨ht, (Grw.of_below HB.out).trans hg⟩
set_option maxRecDepth 100000 in
set_option maxHeartbeats 400000 in
theorem takeKnown_any {N : Nat} (g : Nat) (s : St) (w : World) (ht : Tp N w g s) :
    Calls Try.prog 47 #[.pointer (some ⟨g, 0, none⟩), .func (.func 39) #[] #[]] w fun e w' => e = .returned (.int .u64 ((numS s 1).1 : Nat)) ∧ Tp N w' g (numS s 1).2 ∧ Grw g w w' := by
  have hb : Below w.heap.size w (w.alloc (.cells #[.pointer (some ⟨g, 0, none⟩)] 41)) := (Below.refl _ _).alloc (Nat.le_refl _) _
  have CN := hid (knownC_any g s _ (ht.kept hb))
  have HB := hid hb
  have hf := hmf
  clear ht hb
  go_enter_defers Try.func47, Try.ntmps47
  go_wp2_with (go_at_call 39; refine CN.out.mono ?_; rintro e1 w1 ⟨rfl, ht, hg⟩)
  refine leaves_cons (f := 62) (args := #[.pointer (some ⟨w.heap.size, 0, none⟩)]) (by simp) (by simp [go_sem]) ?_
  refine (idle_take _ _).mono ?_
  rintro e u' w'' ⟨rfl, rfl, rfl⟩
  simp [Leaves, settle, results, Try.results47, go_sem]
  exact ⟨ht, (Grw.of_below HB.out).trans hg⟩
theorem Tp.up {w : World} {g : Nat} {s : St} (h : Go.Proofs.Ytdmdddmfiankhaa.Tp w g s) : Tp w.heap.size w g s := by
  obtain ⟨A, cap, bb, off, h1, h2, h3, h4, h5⟩ := h
  exact ⟨A, cap, bb, off, h1, h2, h3, h4, h5, fun _ => h2.blk⟩
theorem Tp.down {N : Nat} {w : World} {g : Nat} {s : St} (h : Tp N w g s) : Go.Proofs.Ytdmdddmfiankhaa.Tp w g s := by
  obtain ⟨A, cap, bb, off, h1, h2, h3, h4, h5, _⟩ := h
  exact ⟨A, cap, bb, off, h1, h2, h3, h4, h5⟩
/-- What is made above the bound leaves it. -/
theorem Tp.low {N : Nat} {w w' : World} {g : Nat} {s : St} (h : Tp N w g s) (hg : g < N) (hb : Below N w w') : Tp N w' g s := by
  obtain ⟨A, cap, bb, off, h1, h2, h3, h4, h5, h6⟩ := h
  have hz := h2.zero
  obtain ⟨t, xs⟩ := s
  have k1 := h1.kept hb hg
  rcases Nat.eq_zero_or_pos xs.length with h0 | h0
  · obtain rfl : xs = [] := List.eq_nil_of_length_eq_zero h0
    exact ⟨A, cap, 0, 0, k1, Bytes.empty hz (Nat.lt_of_le_of_lt (Nat.zero_le _) k1.inside), Nat.ne_of_lt h5, h4, h5, fun h => absurd h (by simp)⟩
  · refine ⟨A, cap, bb, off, k1, ⟨h2.form, h2.le, h2.zero, fun a ha j hj => ?_, Nat.lt_of_lt_of_le h2.blk hb.size, h2.src⟩, h3, h4, h5, h6⟩
    have e := h2.at_ a ha j hj
    have h7 := h2.src h0
    rw [ha] at h7
    obtain rfl := Option.some.inj h7
    rw [add_at] at e ⊢
    exact (hb.cell (p := ⟨bb, off + j, none⟩) (h6 h0)).trans e
end Go.Proofs.Ytdmdddmfiankhaa.Low
