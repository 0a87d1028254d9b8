/- (*Tape).Text, Bytes, End: what each call does. Conditions: a tape that NewTape made. -/
import Derived.Test.YtdmdddmfiankhaaBI
namespace Go.Proofs.Ytdmdddmfiankhaa
open Go.RowKit
theorem Grw.trans_below {g : Nat} {a b c : World} (h : Grw g a b) (k : Grw g b c) : Grw g a c := h.trans k
set_option maxRecDepth 100000 in
set_option maxHeartbeats 400000 in
theorem text_torn (g : Nat) (s s' : St) (most : Int) (n : Nat) (ok : Bool) (L cap : Nat) (A : Option Addr) (w : World) (hn : n ≤ 65535) (hc : ok = false ∨ most < (n : Int) ∨ (L : Int) - 2 < (n : Int)) (hL : L ≤ 100000) (hs : tear s = s') (c2 : w.cell? ⟨g, 2, none⟩ = some (.slice A L cap))
    (CN : Hid (Calls Try.prog 48 #[.pointer (some ⟨g, 0, none⟩), .int .i64 2] w fun e w' => e = .returned (.tuple #[.int .u64 (n : Int), .bool ok]) ∧ w = w')) (h : Tp w g s) :
    Calls Try.prog 34 #[.pointer (some ⟨g, 0, none⟩), .int .i64 most] w fun e w' => e = .returned (.string (ba [])) ∧ Tp w' g s' ∧ Grw g w w' := by
  subst hs
  have CT := hid (tear_any g s w h)
  clear h
  have b3 : IntKind.i64.wrap (n : Int) = n := i64in _ (by omega) (by omega)
  have b4 : IntKind.i64.wrap ((L : Int) - 2) = (L : Int) - 2 := i64in _ (by omega) (by omega)
  cases ok
  · clear hc
    go_enter Try.func34, Try.ntmps34
    go_wp2_with (first
      | (go_at_call 48; refine CN.out.mono ?_; rintro e w' ⟨rfl, rfl⟩)
      | (go_at_call 35; refine CT.out.mono ?_; rintro e w' ⟨rfl, ht, hg⟩))
    go_ret
    exact ⟨rfl, ht, hg⟩
  · by_cases h1 : most < (n : Int)
    · clear hc
      go_enter Try.func34, Try.ntmps34
      go_wp2_with (first
        | (go_at_call 48; refine CN.out.mono ?_; rintro e w' ⟨rfl, rfl⟩)
        | (go_at_call 35; refine CT.out.mono ?_; rintro e w' ⟨rfl, ht, hg⟩))
      go_ret
      exact ⟨rfl, ht, hg⟩
    · have h2 : (L : Int) - 2 < (n : Int) := by
        rcases hc with h | h | h
        · cases h
        · exact absurd h h1
        · exact h
      clear hc
      go_enter Try.func34, Try.ntmps34
      go_wp2_with (first
        | (go_at_call 48; refine CN.out.mono ?_; rintro e w' ⟨rfl, rfl⟩)
        | (go_at_call 35; refine CT.out.mono ?_; rintro e w' ⟨rfl, ht, hg⟩))
      go_ret
      exact ⟨rfl, ht, hg⟩
theorem nxt_two (s : St) (n : Nat) (h : nxt s 2 = some n) : n ≤ 65535 := by
  unfold nxt at h
  split at h
  · obtain rfl := Option.some.inj h
    have h1 := valL_lt (s.2.take (2 : Int).toNat)
    have h2 : (s.2.take (2 : Int).toNat).length ≤ 2 := by rw [List.length_take]; exact Nat.min_le_left _ _
    have h3 : 256 ^ (s.2.take (2 : Int).toNat).length ≤ 256 ^ 2 := Nat.pow_le_pow_right (by omega) h2
    omega
  · cases h
set_option maxRecDepth 100000 in
set_option maxHeartbeats 400000 in
theorem text_good (g : Nat) (xs : List UInt8) (most : Int) (n : Nat) (w : World) (hn : n ≤ 65535) (h1 : (n : Int) ≤ most) (h2 : n + 2 ≤ xs.length) (h : Tp w g (false, xs))
    (CN : Hid (Calls Try.prog 48 #[.pointer (some ⟨g, 0, none⟩), .int .i64 2] w fun e w' => e = .returned (.tuple #[.int .u64 (n : Int), .bool true]) ∧ w = w')) :
    Calls Try.prog 34 #[.pointer (some ⟨g, 0, none⟩), .int .i64 most] w fun e w' => e = .returned (.string (ba ((xs.drop 2).take n))) ∧ Tp w' g (false, (xs.drop 2).drop n) ∧ Grw g w w' := by
  obtain ⟨A, L, cap, A2, L2, cap2, bb, off, c2, HLE, HB0, hr2, HP⟩ := tp_pass h 2 (by omega)
  have HQ := hid (HP.out w (Below.refl _ _))
  have e2 := HQ.out.2.2.2
  have hL : xs.length ≤ 100000 := by obtain ⟨_, _, _, _, _, _, _, h4, _⟩ := h; exact h4
  have b3 : IntKind.i64.wrap (n : Int) = n := i64in _ (by omega) (by omega)
  have b4 : IntKind.i64.wrap ((L : Int) - 2) = (L : Int) - 2 := by have := HLE.out; exact i64in _ (by omega) (by omega)
  have b5 : (n : Int) ≤ (L : Int) - 2 := by have := HLE.out; omega
  have CC := hid (tcut_any g false (xs.drop 2) n (by rw [List.length_drop]; omega) _ HQ.out.1)
  have hr3 : ∀ w : World, (Instr.slice 24 (.slice A L cap) (some (.int .i64 2)) none none).run Try.prog w = .ok (.slice A2 L2 cap2) w := hr2
  clear h h2 hL hr2
  go_enter Try.func34, Try.ntmps34
  go_wp2_with (first
    | (go_at_call 48; refine CN.out.mono ?_; rintro e w' ⟨rfl, rfl⟩)
    | (go_at_call 56; refine CC.out.mono ?_; rintro e w' ⟨v, A', cap', bb', rfl, hy, hap, ht, hg⟩
       have k1 := conv_back hy))
  go_ret
  exact ⟨rfl, ht, HQ.out.2.1.trans hg⟩
theorem text_any (g : Nat) (s : St) (most : Int) (w : World) (h : Tp w g s) :
    Calls Try.prog 34 #[.pointer (some ⟨g, 0, none⟩), .int .i64 most] w fun e w' => e = .returned (.string (ba (textS s most).1)) ∧ Tp w' g (textS s most).2 ∧ Grw g w w' := by
  have hL : s.2.length ≤ 100000 := by obtain ⟨_, _, _, _, _, _, _, h4, _⟩ := h; exact h4
  have ⟨A, cap, bb, off, h1, _⟩ := h
  have c2 : w.cell? ⟨g, 2, none⟩ = some (.slice A s.2.length cap) := h1.at_ 2
  rcases hn : nxt s 2 with _ | n
  · rw [textS, hn]
    exact text_torn g s _ most 0 false _ cap A w (by omega) (.inl rfl) hL rfl c2 (next_none g s 2 w h hn) h
  · have hn2 := nxt_two s n hn
    by_cases hc : (n : Int) ≤ most ∧ n + 2 ≤ s.2.length
    · have e : textS s most = ((s.2.drop 2).take n, (s.1, (s.2.drop 2).drop n)) := by rw [textS, hn]; simp only [if_pos hc]
      rw [e]
      obtain ⟨_, _, _, _, h9⟩ := nxt_lt s 2 n hn
      obtain ⟨t, xs⟩ := s
      obtain rfl : t = false := h9
      exact text_good g xs most n w hn2 hc.1 hc.2 h (next_some g _ 2 n w h hn)
    · have e : textS s most = ([], tear s) := by rw [textS, hn]; simp only [if_neg hc]
      rw [e]
      exact text_torn g s _ most n true _ cap A w hn2 (.inr (by omega)) hL rfl c2 (next_some g s 2 n w h hn) h
set_option maxRecDepth 100000 in
set_option maxHeartbeats 400000 in
theorem bytes_any (g : Nat) (s : St) (n : Int) (w : World) (h : Tp w g s) :
    Calls Try.prog 32 #[.pointer (some ⟨g, 0, none⟩), .int .i64 n] w fun e w' => ∃ v A cap bb, e = .returned v ∧ Bytes w' v (bytesS s n).1 A cap bb 0 ∧ Apart w.heap.size bb ∧ Tp w' g (bytesS s n).2 ∧ Grw g w w' := by
  have CT := hid (tear_any g s w h)
  have CE := hid (err_any g s w h)
  have HI := hid h.inside
  have ⟨A, cap, bb, off, h1, _⟩ := h
  have c2 : w.cell? ⟨g, 2, none⟩ = some (.slice A s.2.length cap) := h1.at_ 2
  clear h1
  by_cases hc : s.1 = false ∧ 0 ≤ n ∧ n ≤ (s.2.length : Int)
  · have e : bytesS s n = (s.2.take n.toNat, (s.1, s.2.drop n.toNat)) := by rw [bytesS, if_pos hc]
    rw [e]
    obtain ⟨h0, hn0, hn1⟩ := hc
    obtain ⟨m, rfl⟩ : ∃ m : Nat, n = (m : Int) := ⟨n.toNat, by omega⟩
    have CC := hid (tcut_any g s.1 s.2 m (by omega) w h)
    have HE : Hid (errS s = 0) := by show _ = _; rw [errS, h0]; rfl
    rw [HE.out] at CE
    rw [Int.toNat_natCast]
    clear h e h0
    go_enter Try.func32, Try.ntmps32
    go_wp2_with (first
      | (go_at_call 27; refine CE.out.mono ?_; rintro e w' ⟨rfl, rfl⟩)
      | (go_at_call 56; refine CC.out.mono ?_; rintro e w' ⟨v, A', cap', bb', rfl, hy, hap, ht, hg⟩))
    go_ret
    exact ⟨v, A', cap', bb', rfl, hy, hap, ht, hg⟩
  · have e : bytesS s n = ([], tear s) := by rw [bytesS, if_neg hc]
    rw [e]
    clear e
    obtain ⟨t, xs⟩ := s
    cases t
    · have CE0 : Hid (Calls Try.prog 27 #[.pointer (some ⟨g, 0, none⟩)] w fun e w' => e = .returned (.int .i64 0) ∧ w = w') := CE
      clear h CE
      by_cases h1 : n < 0
      · clear hc
        go_enter Try.func32, Try.ntmps32
        go_wp2_with (first
          | (go_at_call 27; refine CE0.out.mono ?_; rintro e w' ⟨rfl, rfl⟩)
          | (go_at_call 35; refine CT.out.mono ?_; rintro e w' ⟨rfl, ht, hg⟩))
        go_ret
        exact ⟨_, none, 0, 0, rfl, Bytes.nil _ (Nat.lt_of_le_of_lt (Nat.zero_le _) (Nat.lt_of_lt_of_le HI.out hg.size)), .inl rfl, ht, hg⟩
      · have h2 : (xs.length : Int) < n := by simp only [true_and] at hc; omega
        clear hc
        go_enter Try.func32, Try.ntmps32
        go_wp2_with (first
          | (go_at_call 27; refine CE0.out.mono ?_; rintro e w' ⟨rfl, rfl⟩)
          | (go_at_call 35; refine CT.out.mono ?_; rintro e w' ⟨rfl, ht, hg⟩))
        go_ret
        exact ⟨_, none, 0, 0, rfl, Bytes.nil _ (Nat.lt_of_le_of_lt (Nat.zero_le _) (Nat.lt_of_lt_of_le HI.out hg.size)), .inl rfl, ht, hg⟩
    · have CE0 : Hid (Calls Try.prog 27 #[.pointer (some ⟨g, 0, none⟩)] w fun e w' => e = .returned (.int .i64 4) ∧ w = w') := CE
      clear h hc CE
      go_enter Try.func32, Try.ntmps32
      go_wp2_with (first
        | (go_at_call 27; refine CE0.out.mono ?_; rintro e w' ⟨rfl, rfl⟩)
        | (go_at_call 35; refine CT.out.mono ?_; rintro e w' ⟨rfl, ht, hg⟩))
      go_ret
      exact ⟨_, none, 0, 0, rfl, Bytes.nil _ (Nat.lt_of_le_of_lt (Nat.zero_le _) (Nat.lt_of_lt_of_le HI.out hg.size)), .inl rfl, ht, hg⟩
set_option maxRecDepth 100000 in
set_option maxHeartbeats 400000 in
theorem end_any (g : Nat) (s : St) (w : World) (h : Tp w g s) :
    Calls Try.prog 33 #[.pointer (some ⟨g, 0, none⟩)] w fun e w' => e = .returned (.int .i64 (errS (endS s))) ∧ Tp w' g (endS s) ∧ Grw g w w' := by
  have CT := hid (tear_any g s w h)
  have CE := hid (err_any g s w h)
  have CE2 : Hid (∀ w', Tp w' g (tear s) → Calls Try.prog 27 #[.pointer (some ⟨g, 0, none⟩)] w' fun e w2 => e = .returned (.int .i64 (errS (tear s))) ∧ w' = w2) := fun w' h' => err_any g _ w' h'
  have CL := hid (left_any g s w h)
  have HH := hid h
  by_cases h0 : s.2.length = 0
  · have e : endS s = s := by rw [endS, if_pos h0]
    rw [e]
    rw [h0] at CL
    clear h e h0
    go_enter Try.func33, Try.ntmps33
    go_wp2_with (first
      | (go_at_call 25; refine CL.out.mono ?_; rintro e w' ⟨rfl, rfl⟩)
      | (go_at_call 27; refine CE.out.mono ?_; rintro e w' ⟨rfl, rfl⟩))
    go_ret
    exact ⟨rfl, HH.out, Grw.refl _ _⟩
  · have e : endS s = tear s := by rw [endS, if_neg h0]
    rw [e]
    have hp : (0 : Int) < (s.2.length : Int) := by omega
    clear h e h0
    go_enter Try.func33, Try.ntmps33
    go_wp2_with (first
      | (go_at_call 25; refine CL.out.mono ?_; rintro e w' ⟨rfl, rfl⟩)
      | (go_at_call 35; refine CT.out.mono ?_; rintro e w' ⟨rfl, ht, hg⟩
         have HT := hid ht
         clear ht)
      | (go_at_call 27; refine (CE2.out _ HT.out).mono ?_; rintro e w2 ⟨rfl, rfl⟩))
    go_ret
    exact ⟨rfl, HT.out, hg⟩
end Go.Proofs.Ytdmdddmfiankhaa
