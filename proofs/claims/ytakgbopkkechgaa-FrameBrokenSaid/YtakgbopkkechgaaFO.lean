/- The law FrameBroken: what its call does. Conditions: a heap that has a block. -/
import Derived.Test.YtakgbopkkechgaaFL
namespace Go.Proofs.Ytakgbopkkechgaa
open Go.RowKit
/-- The four bytes of a number. -/
theorem four_bytes (n : Nat) : numL 4 n = [lowB n 3, lowB n 2, lowB n 1, lowB n 0] := by
  rw [numL, if_pos (by decide)]; rfl
theorem four_cells (n : Nat) (hn : n < 4294967296) : #[Value.int .u8 ((n : Int) / 16777216), Value.int .u8 ((n : Int) / 65536 % 256), Value.int .u8 ((n : Int) / 256 % 256), Value.int .u8 ((n : Int) % 256)] = bvec (numL 4 n) := by
  rw [four_bytes]
  have e3 : ((n : Int) / 16777216) = b8 (lowB n 3) := by rw [lowB, b8_ofNat]; omega
  have e2 : ((n : Int) / 65536 % 256) = b8 (lowB n 2) := by rw [lowB, b8_ofNat]; omega
  have e1 : ((n : Int) / 256 % 256) = b8 (lowB n 1) := by rw [lowB, b8_ofNat]; omega
  have e0 : ((n : Int) % 256) = b8 (lowB n 0) := by rw [lowB, b8_ofNat]; omega
  rw [e0, e1, e2, e3]; rfl
theorem four_cnt (n : Nat) (hn : n < 4294967296) (xs : List UInt8) : cnt (numL 4 n ++ xs) = n := by
  rw [cnt, List.take_left' (num4_len _), val_numL 4 (by decide)]
  exact Nat.mod_eq_of_lt hn
theorem four_bad (n : Nat) (hn : n < 4294967296) (h : n = 0 ∨ 16385 < n) : outL (numL 4 n) = .bad := by
  have := four_cnt n hn []
  rw [List.append_nil] at this
  rw [outL, if_neg (by rw [num4_len]; omega), this, if_pos h]
/-- What is asked of the reader, whatever the four bytes. -/
def Asks (w : World) (t : ByteArray) (CC : Array Value) : Prop :=
  ∃ R1 R2 : RS,
  Hid (∀ W : World, Ses w W w.heap.size (false, []) none → Calls Try.prog 15 #[.pointer (some ⟨w.heap.size, 0, none⟩), .slice (some ⟨W.heap.size, 0, none⟩) 4 4] (W.alloc (.cells CC 5)) fun e w' => e = .returned (.int .i64 0) ∧ ∃ o', Ses w w' w.heap.size R1 o') ∧
  Hid (∀ (W : World) (o : Option Nat), Ses w W w.heap.size R1 o → Calls Try.prog 17 #[.pointer (some ⟨w.heap.size, 0, none⟩)] W fun e w' => e = .returned (.tuple #[.int .i64 0, .slice none 0 0, .bool false, .int .i64 4]) ∧ ∃ o', Ses w w' w.heap.size R2 o') ∧
  Hid (∀ (W : World) (o : Option Nat), Ses w W w.heap.size R2 o → Calls Try.prog 15 #[.pointer (some ⟨w.heap.size, 0, none⟩), .slice (some ⟨W.heap.size, 0, none⟩) t.size (grownCap W t.size 0 5)] (Lib.bytesWorld W 5 t) fun e w' => e = .returned (.int .i64 4) ∧ ∃ o', Ses w w' w.heap.size R2 o') ∧
  Hid (∀ (W : World) (o : Option Nat), Ses w W w.heap.size R2 o → Calls Try.prog 17 #[.pointer (some ⟨w.heap.size, 0, none⟩)] W fun e w' => e = .returned (.tuple #[.int .i64 0, .slice none 0 0, .bool false, .int .i64 4]) ∧ ∃ o', Ses w w' w.heap.size R2 o') ∧
  Hid (∀ (W : World) (o : Option Nat), Ses w W w.heap.size R2 o → Calls Try.prog 20 #[.pointer (some ⟨w.heap.size, 0, none⟩)] W fun e w' => e = .returned (.bool true) ∧ W = w') ∧
  Hid (∀ (W : World) (o : Option Nat), Ses w W w.heap.size R2 o → Calls Try.prog 19 #[.pointer (some ⟨w.heap.size, 0, none⟩)] W fun e w' => e = .returned (.int .i64 4) ∧ Below w.heap.size w w')
theorem asks_any (w : World) (t : ByteArray) (ht : t.size ≤ 300) (n : Nat) (hn : n < 4294967296) (h : n = 0 ∨ 16385 < n) (CC : Array Value) (hC : CC = bvec (numL 4 n)) : Asks w t CC := by
  refine ⟨(false, numL 4 n), (true, numL 4 n), fun W hs => ?_, fun W o hs => ?_, fun W o hs => ?_, fun W o hs => ?_, fun W o hs => ?_, fun W o hs => ?_⟩
  · refine (ses_push (hs.alloc _) (lit_bytes W (numL 4 n) CC 4 hC (num4_len n)) (by rw [num4_len]; omega)).mono ?_
    rintro e w' ⟨rfl, o', h2, _⟩
    have e1 : pushE (false, []) (numL 4 n) = 0 := by simp [pushE, num4_len]
    have e2 : pushR (false, []) (numL 4 n) = (false, numL 4 n) := by simp [pushR, num4_len]
    rw [e2] at h2
    exact ⟨by rw [e1], o', h2⟩
  · refine (ses_stop hs (.inr (four_bad n hn h))).mono ?_
    rintro e w' ⟨rfl, o', h2, _⟩
    exact ⟨rfl, o', h2⟩
  · refine (ses_push (hs.kept (conv_below t W)) (conv_bytes t W) (by rw [tl_length]; omega)).mono ?_
    rintro e w' ⟨rfl, o', h2, _⟩
    exact ⟨rfl, o', h2⟩
  · refine (ses_stop hs (.inl rfl)).mono ?_
    rintro e w' ⟨rfl, o', h2, _⟩
    exact ⟨rfl, o', h2⟩
  · exact ses_broken hs
  · refine (ses_held hs).mono ?_
    rintro e w' ⟨rfl, h2, _⟩
    exact ⟨by rw [num4_len]; rfl, h2.below⟩
set_option maxRecDepth 100000 in
set_option maxHeartbeats 4000000 in
theorem broken_law (s : ByteArray) (n : Nat) (hn : n < 4294967296) (w : World) (hp : 0 < w.heap.size) : Calls Try.prog 8 #[.string s, .int .u32 (n : Int)] w fun e w' => e = .returned (.bool true) ∧ Below w.heap.size w w' := by
  obtain ⟨t, ht, hc⟩ := cut_text s 300
  have CN := hid (ses_new (w0 := w) (Below.refl _ _) hp)
  have HP := hid hp
  have KC := conv_string t
  by_cases hr : 1 ≤ n ∧ n ≤ 16385
  · have h1 : (1 : Int) ≤ (n : Int) := by omega
    have h2 : (n : Int) ≤ 16385 := by omega
    obtain ⟨R1, R2, C1, C2, C3, C4, C5, C6⟩ := asks_any w t ht 0 (by omega) (.inl rfl) #[.int .u8 0, .int .u8 0, .int .u8 0, .int .u8 0] (by rfl)
    clear hr ht hp hn
    rcases hc with ⟨rfl, hs⟩ | ⟨hs, e0⟩
    all_goals
      go_enter Try.func8, Try.ntmps8
      go_wp2_with (fail)
      refine CN.out.mono ?_
      rintro e1 w1 ⟨rfl, h1, _⟩
      have S1 := hid h1
      clear h1
      go_wp2_with (fail)
      refine (C1.out _ S1.out).mono ?_
      rintro e2 w2 ⟨rfl, o2, h2⟩
      have S2 := hid h2
      clear h2
      go_wp2_with (fail)
      refine (C2.out _ _ S2.out).mono ?_
      rintro e3 w3 ⟨rfl, o3, h3⟩
      have S3 := hid h3
      clear h3
      go_wp2_with (fail)
      refine (C3.out _ _ S3.out).mono ?_
      rintro e4 w4 ⟨rfl, o4, h4⟩
      have S4 := hid h4
      clear h4
      go_wp2_with (fail)
      refine (C4.out _ _ S4.out).mono ?_
      rintro e5 w5 ⟨rfl, o5, h5⟩
      have S5 := hid h5
      clear h5
      go_wp2_with (fail)
      refine (C5.out _ _ S5.out).mono ?_
      rintro e6 w6 ⟨rfl, rfl⟩
      go_wp2_with (fail)
      refine (C6.out _ _ S5.out).mono ?_
      rintro e7 w7 ⟨rfl, hb7⟩
      have B7 := hid hb7
      have CW := hid (works_any w7 (Nat.lt_of_lt_of_le HP.out B7.out.size))
      clear hb7
      go_wp2_with (fail)
      refine CW.out.mono ?_
      rintro e8 w8 ⟨rfl, hb8⟩
      have B8 : Hid (Below w.heap.size w w8) := B7.out.trans (hb8.mono B7.out.size)
      clear hb8
      go_wp2
      go_ret
      exact ⟨rfl, B8.out⟩
  · by_cases h0 : n = 0
    · subst h0
      obtain ⟨R1, R2, C1, C2, C3, C4, C5, C6⟩ := asks_any w t ht 0 (by omega) (.inl rfl) #[.int .u8 0, .int .u8 0, .int .u8 0, .int .u8 0] (by rfl)
      clear hr ht hp hn
      rcases hc with ⟨rfl, hs⟩ | ⟨hs, e0⟩
      all_goals
        go_enter Try.func8, Try.ntmps8
        go_wp2_with (fail)
        refine CN.out.mono ?_
        rintro e1 w1 ⟨rfl, h1, _⟩
        have S1 := hid h1
        clear h1
        go_wp2_with (fail)
        refine (C1.out _ S1.out).mono ?_
        rintro e2 w2 ⟨rfl, o2, h2⟩
        have S2 := hid h2
        clear h2
        go_wp2_with (fail)
        refine (C2.out _ _ S2.out).mono ?_
        rintro e3 w3 ⟨rfl, o3, h3⟩
        have S3 := hid h3
        clear h3
        go_wp2_with (fail)
        refine (C3.out _ _ S3.out).mono ?_
        rintro e4 w4 ⟨rfl, o4, h4⟩
        have S4 := hid h4
        clear h4
        go_wp2_with (fail)
        refine (C4.out _ _ S4.out).mono ?_
        rintro e5 w5 ⟨rfl, o5, h5⟩
        have S5 := hid h5
        clear h5
        go_wp2_with (fail)
        refine (C5.out _ _ S5.out).mono ?_
        rintro e6 w6 ⟨rfl, rfl⟩
        go_wp2_with (fail)
        refine (C6.out _ _ S5.out).mono ?_
        rintro e7 w7 ⟨rfl, hb7⟩
        have B7 := hid hb7
        have CW := hid (works_any w7 (Nat.lt_of_lt_of_le HP.out B7.out.size))
        clear hb7
        go_wp2_with (fail)
        refine CW.out.mono ?_
        rintro e8 w8 ⟨rfl, hb8⟩
        have B8 : Hid (Below w.heap.size w w8) := B7.out.trans (hb8.mono B7.out.size)
        clear hb8
        go_wp2
        go_ret
        exact ⟨rfl, B8.out⟩
    · have h1 : (1 : Int) ≤ (n : Int) := by omega
      have h2 : ¬ (n : Int) ≤ 16385 := by omega
      have h3 : (0 : Int) ≤ (n : Int) := by omega
      obtain ⟨R1, R2, C1, C2, C3, C4, C5, C6⟩ := asks_any w t ht n hn (by omega) _ (four_cells n hn)
      clear hr h0 ht hp
      rcases hc with ⟨rfl, hs⟩ | ⟨hs, e0⟩
      all_goals
        go_enter Try.func8, Try.ntmps8
        go_wp2_with (fail)
        refine CN.out.mono ?_
        rintro e1 w1 ⟨rfl, h1, _⟩
        have S1 := hid h1
        clear h1
        go_wp2_with (fail)
        refine (C1.out _ S1.out).mono ?_
        rintro e2 w2 ⟨rfl, o2, h2⟩
        have S2 := hid h2
        clear h2
        go_wp2_with (fail)
        refine (C2.out _ _ S2.out).mono ?_
        rintro e3 w3 ⟨rfl, o3, h3⟩
        have S3 := hid h3
        clear h3
        go_wp2_with (fail)
        refine (C3.out _ _ S3.out).mono ?_
        rintro e4 w4 ⟨rfl, o4, h4⟩
        have S4 := hid h4
        clear h4
        go_wp2_with (fail)
        refine (C4.out _ _ S4.out).mono ?_
        rintro e5 w5 ⟨rfl, o5, h5⟩
        have S5 := hid h5
        clear h5
        go_wp2_with (fail)
        refine (C5.out _ _ S5.out).mono ?_
        rintro e6 w6 ⟨rfl, rfl⟩
        go_wp2_with (fail)
        refine (C6.out _ _ S5.out).mono ?_
        rintro e7 w7 ⟨rfl, hb7⟩
        have B7 := hid hb7
        have CW := hid (works_any w7 (Nat.lt_of_lt_of_le HP.out B7.out.size))
        clear hb7
        go_wp2_with (fail)
        refine CW.out.mono ?_
        rintro e8 w8 ⟨rfl, hb8⟩
        have B8 : Hid (Below w.heap.size w w8) := B7.out.trans (hb8.mono B7.out.size)
        clear hb8
        go_wp2
        go_ret
        exact ⟨rfl, B8.out⟩
end Go.Proofs.Ytakgbopkkechgaa
