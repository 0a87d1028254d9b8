/- The law BytesTorn: what its call does. Conditions: a heap that has a block. -/
import Derived.Test.YtdmdddmfiankhaaBTB
namespace Go.Proofs.Ytdmdddmfiankhaa
open Go.RowKit
theorem nxt_torn (xs : List UInt8) (k : Int) : nxt (true, xs) k = none := by simp [nxt]
set_option maxRecDepth 100000 in
set_option maxHeartbeats 400000 in
theorem rowInt_torn (g : Nat) (xs : List UInt8) (most : Int) (hm : I64 most) (f : Value) (w : World) (h : Tp w g (true, xs)) :
    Calls Try.prog 37 #[.pointer (some ⟨g, 0, none⟩), .int .i64 most, f] w fun e w' => e = .returned (.slice none 0 0) ∧ Tp w' g (true, xs) ∧ Grw g w w' := by
  have CT : Hid (Calls Try.prog 35 #[.pointer (some ⟨g, 0, none⟩)] w fun e w' => e = .returned (.tuple #[]) ∧ Tp w' g (true, xs) ∧ Grw g w w') := tear_any g _ w h
  by_cases h0 : most < 0
  · clear h hm
    go_enter Try.func37, Try.ntmps37
    go_wp2_with (first
      | (go_at_call 35; refine CT.out.mono ?_; rintro e w' ⟨rfl, ht, hg⟩))
    go_ret
    exact ⟨rfl, ht, hg⟩
  · obtain ⟨m, rfl⟩ : ∃ m : Nat, most = (m : Int) := ⟨most.toNat, by omega⟩
    have w1 := u64in m (by unfold I64 at hm; omega)
    have CB : Hid (Calls Try.prog 36 #[.pointer (some ⟨g, 0, none⟩), .int .i64 2, .int .u64 (m : Int)] w fun e w' => e = .returned (.int .i64 0) ∧ Tp w' g (true, xs) ∧ Grw g w w') := by
      have := below_any g (true, xs) 2 m w h
      rw [belowS, nxt_torn] at this; exact this
    clear h hm
    go_enter Try.func37, Try.ntmps37
    go_wp2_with (first
      | (go_at_call 36; refine CB.out.mono ?_; rintro e w' ⟨rfl, ht, hg⟩))
    have HT := hid ht
    have HG := hid hg
    clear ht hg
    go_loopw [7, 17] (fun v i wr => v = .slice none 0 0 ∧ i = .int .i64 0 ∧ w' = wr) (fun _ _ _ => 0)
    case atStart => exact ⟨rfl, rfl, rfl⟩
    case round =>
      obtain ⟨rfl, rfl, rfl⟩ := hrel
      go_wp2
      go_ret
      exact ⟨rfl, HT.out, HG.out⟩
theorem AsksIn.at_ {w w' : World} {A : Option Addr} {n bb off : Nat} {xs : List (Int × Int × Nat)} (h : AsksIn w A n bb off xs) (hb : Below w.heap.size w w') (j : Nat) (hj : j < n) {x : Int × Int × Nat} (hx : xs.getD j (0, 0, 0) = x) : AskAt w' bb (off + j * 3) x := by
  rw [← hx]; exact (h.2.2 j hj).kept hb (Nat.le_refl _)
set_option maxRecDepth 100000 in
set_option maxHeartbeats 1000000 in
theorem torn_any (s0 : ByteArray) (A : Option Addr) (n cap bb off : Nat) (l : List (Int × Int × Nat)) (w : World) (hp : 0 < w.heap.size) (hl : AsksIn w A n bb off l) :
    Calls Try.prog 10 #[.string s0, .slice A n cap] w fun e w' => e = .returned (.bool true) ∧ Below w.heap.size w w' := by
  have HP := hid hp
  have HA := hid hl
  obtain ⟨s, HS⟩ : ∃ s, Hid (ba ((tl s0).take 200) = s) := ⟨_, rfl⟩
  have CA := hid (cut_any s0 200 (by omega) w)
  rw [HS.out] at CA
  have hsz : s.size ≤ 200 := by rw [← HS.out, ba_size, List.length_take]; omega
  obtain ⟨wa, HWA⟩ : ∃ wa, Lib.bytesWorld w 5 s = wa := ⟨_, rfl⟩
  obtain ⟨co, HCO⟩ : ∃ co, grownCap w s.size 0 5 = co := ⟨_, rfl⟩
  have yo : Bytes wa (.slice (some ⟨w.heap.size, 0, none⟩) s.size co) (tl s) (some ⟨w.heap.size, 0, none⟩) co w.heap.size 0 := by rw [← HWA, ← HCO]; exact conv_bytes s w
  have BA : Hid (Below w.heap.size w wa) := by rw [← HWA]; exact conv_below s w
  have KC : (convert 9 24 (.string s)).run Try.prog w = .ok (.slice (some ⟨w.heap.size, 0, none⟩) s.size co) wa := by rw [← HWA, ← HCO]; exact conv_string s w
  obtain ⟨xs, HX⟩ : ∃ xs, Hid (tl s = xs) := ⟨_, rfl⟩
  have hxl : xs.length = s.size := by rw [← HX.out, tl_length]
  rw [HX.out] at yo
  have CT := hid (newTape_any _ xs _ _ _ _ (by omega) wa yo)
  have C0 : Hid (∀ w1 g, Tp w1 g (false, xs) → Calls Try.prog 35 #[.pointer (some ⟨g, 0, none⟩)] w1 fun e w' => e = .returned (.tuple #[]) ∧ Tp w' g (true, xs) ∧ Grw g w1 w') := fun w1 g h => tear_any g _ w1 h
  have C1 : Hid (∀ w1 g, Tp w1 g (true, xs) → Calls Try.prog 23 #[.pointer (some ⟨g, 0, none⟩), .int .i64 4] w1 fun e w' => e = .returned (.int .u64 0) ∧ Tp w' g (true, xs) ∧ Grw g w1 w') := fun w1 g h => by
    have := num_any g _ 4 w1 h; rw [numS, nxt_torn] at this; exact this
  have C2 : Hid (∀ w1 g (m : Nat), Tp w1 g (true, xs) → Calls Try.prog 36 #[.pointer (some ⟨g, 0, none⟩), .int .i64 2, .int .u64 (m : Int)] w1 fun e w' => e = .returned (.int .i64 0) ∧ Tp w' g (true, xs) ∧ Grw g w1 w') := fun w1 g m h => by
    have := below_any g _ 2 m w1 h; rw [belowS, nxt_torn] at this; exact this
  have C3 : Hid (∀ w1 g (m : Int), Tp w1 g (true, xs) → Calls Try.prog 34 #[.pointer (some ⟨g, 0, none⟩), .int .i64 m] w1 fun e w' => e = .returned (.string ⟨#[]⟩) ∧ Tp w' g (true, xs) ∧ Grw g w1 w') := fun w1 g m h => by
    have := text_any g _ m w1 h; rw [textS, nxt_torn] at this; exact this
  have C4 : Hid (∀ w1 g (m : Int), Tp w1 g (true, xs) → Calls Try.prog 32 #[.pointer (some ⟨g, 0, none⟩), .int .i64 m] w1 fun e w' => ∃ A c, e = .returned (.slice A 0 c) ∧ Tp w' g (true, xs) ∧ Grw g w1 w') := fun w1 g m h => by
    refine (bytes_any g _ m w1 h).mono ?_
    rintro e w' ⟨v, A, c, bb, rfl, hy, _, ht, hg⟩
    have e1 : bytesS (true, xs) m = ([], (true, xs)) := by rw [bytesS, if_neg (fun h => by cases h.1)]; rfl
    rw [e1] at hy ht
    exact ⟨A, c, by rw [hy.form]; rfl, ht, hg⟩
  have C5 : Hid (∀ w1 g, Tp w1 g (true, xs) → Calls Try.prog 33 #[.pointer (some ⟨g, 0, none⟩)] w1 fun e w' => e = .returned (.int .i64 4) ∧ Tp w' g (true, xs) ∧ Grw g w1 w') := fun w1 g h => by
    have e1 : endS (true, xs) = (true, xs) := by unfold endS tear; split <;> rfl
    have := end_any g _ w1 h; rw [e1] at this; exact this
  have C6 : Hid (∀ w1 g (m : Int) f, I64 m → Tp w1 g (true, xs) → Calls Try.prog 37 #[.pointer (some ⟨g, 0, none⟩), .int .i64 m, f] w1 fun e w' => e = .returned (.slice none 0 0) ∧ Tp w' g (true, xs) ∧ Grw g w1 w') := fun w1 g m f hm h => rowInt_torn g xs m hm f w1 h
  have C7 : Hid (∀ w1 g, Tp w1 g (true, xs) → Calls Try.prog 25 #[.pointer (some ⟨g, 0, none⟩)] w1 fun e w' => e = .returned (.int .i64 (s.size : Int)) ∧ w1 = w') := fun w1 g h => by
    have := left_any g _ w1 h; rw [hxl] at this; exact this
  have C8 : Hid (∀ w1 g, Tp w1 g (true, xs) → Calls Try.prog 27 #[.pointer (some ⟨g, 0, none⟩)] w1 fun e w' => e = .returned (.int .i64 4) ∧ w1 = w') := fun w1 g h => err_any g _ w1 h
  clear hp hl yo hsz HWA HCO hxl
  go_enter Try.func10, Try.ntmps10
  go_wp2_with (first
    | (go_at_call 12; refine CA.out.mono ?_; rintro e1 w1 ⟨rfl, rfl⟩)
    | (go_at_call 20; refine CT.out.mono ?_; rintro e2 w2 ⟨g, rfl, hg, ht, hb2⟩
       have G2 : Hid (w.heap.size ≤ g) := Nat.le_trans BA.out.size hg
       have T2 := hid ht
       have B2 : Hid (Below w.heap.size w w2) := BA.out.trans (hb2.mono BA.out.size)
       clear hg ht hb2)
    | (go_at_call 35; refine (C0.out _ _ T2.out).mono ?_; rintro e3 w3 ⟨rfl, ht, hg⟩
       have T3 := hid ht
       have B3 : Hid (Below w.heap.size w w3) := Grw.below B2.out hg G2.out B2.out.size
       clear ht hg T2 B2))
  clear KC
  go_loopw [6] (fun i wr => ∃ j : Nat, j ≤ n ∧ i = .int .i64 (j : Int) ∧ Hid (Tp wr g (true, xs)) ∧ Hid (Below w.heap.size w wr)) (fun i _ => n - (intOf i).toNat)
  case atStart => exact ⟨0, by omega, rfl, T3, B3⟩
  case round =>
    obtain ⟨j, hj, rfl, HT, HB⟩ := hrel
    by_cases hlt : j < n
    · by_cases h30 : (j : Int) < 30
      · obtain ⟨hAe, _⟩ := HA.out.2.1 (by omega)
        subst hAe
        obtain ⟨x0, x1, x2, HXJ⟩ : ∃ x0 x1 x2, Hid (l.getD j (0, 0, 0) = (x0, x1, x2)) := ⟨_, _, _, rfl⟩
        have HAT : Hid (∀ w', Below w.heap.size w w' → AskAt w' bb (off + j * 3) (x0, x1, x2)) := fun w' hb => HA.out.at_ hb j hlt HXJ.out
        have HI : Hid (I64 x1) := (HAT.out _ HB.out).2.2.2.2.1
        go_wp2_with (first
          | (go_at_call 23; refine (C1.out _ _ HT.out).mono ?_; rintro e1 w1 ⟨rfl, ht, hg⟩
             have T1 := hid ht
             have B1 : Hid (Below w.heap.size w w1) := Grw.below HB.out hg G2.out HB.out.size
             have d1 := (HAT.out w1 B1.out).2.2.1
             clear ht hg)
          | (go_at_call 36; refine (C2.out _ _ _ T1.out).mono ?_; rintro e2 w2 ⟨rfl, ht, hg⟩
             have T2 := hid ht
             have B2 : Hid (Below w.heap.size w w2) := Grw.below B1.out hg G2.out B1.out.size
             have d2 := (HAT.out w2 B2.out).2.1
             clear ht hg T1 B1 d1)
          | (go_at_call 34; refine (C3.out _ _ _ T2.out).mono ?_; rintro e3 w3 ⟨rfl, ht, hg⟩
             have T3 := hid ht
             have B3 : Hid (Below w.heap.size w w3) := Grw.below B2.out hg G2.out B2.out.size
             have d3 := (HAT.out w3 B3.out).2.1
             clear ht hg T2 B2 d2)
          | (go_at_call 32; refine (C4.out _ _ _ T3.out).mono ?_; rintro e4 w4 ⟨A4, c4, rfl, ht, hg⟩
             have T4 := hid ht
             have B4 : Hid (Below w.heap.size w w4) := Grw.below B3.out hg G2.out B3.out.size
             clear ht hg T3 B3 d3)
          | (go_at_call 33; refine (C5.out _ _ T4.out).mono ?_; rintro e5 w5 ⟨rfl, ht, hg⟩
             have T5 := hid ht
             have B5 : Hid (Below w.heap.size w w5) := Grw.below B4.out hg G2.out B4.out.size
             have d5 := (HAT.out w5 B5.out).2.1
             clear ht hg T4 B4)
          | (go_at_call 37; refine (C6.out _ _ _ _ HI.out T5.out).mono ?_; rintro e6 w6 ⟨rfl, ht, hg⟩
             have T6 := hid ht
             have B6 : Hid (Below w.heap.size w w6) := Grw.below B5.out hg G2.out B5.out.size
             clear ht hg T5 B5 d5)
          | (go_at_call 25; refine (C7.out _ _ T6.out).mono ?_; rintro e7 w7 ⟨rfl, rfl⟩))
        go_roundw
        case rel => exact ⟨j + 1, by omega, by go_num, T6, B6⟩
        case measure => simp [intOf]; omega
      · have CW := hid (works_any wr (Nat.lt_of_lt_of_le HP.out HB.out.size))
        go_wp2_with (first
          | (go_at_call 27; refine (C8.out _ _ HT.out).mono ?_; rintro e7 w7 ⟨rfl, rfl⟩)
          | (go_at_call 17; refine CW.out.mono ?_; rintro e8 w8 ⟨rfl, hb8⟩))
        go_ret
        exact ⟨rfl, HB.out.trans (hb8.mono HB.out.size)⟩
    · obtain rfl : j = n := by omega
      have CW := hid (works_any wr (Nat.lt_of_lt_of_le HP.out HB.out.size))
      clear hlt
      go_wp2_with (first
        | (go_at_call 27; refine (C8.out _ _ HT.out).mono ?_; rintro e7 w7 ⟨rfl, rfl⟩)
        | (go_at_call 17; refine CW.out.mono ?_; rintro e8 w8 ⟨rfl, hb8⟩))
      go_ret
      exact ⟨rfl, HB.out.trans (hb8.mono HB.out.size)⟩
end Go.Proofs.Ytdmdddmfiankhaa
