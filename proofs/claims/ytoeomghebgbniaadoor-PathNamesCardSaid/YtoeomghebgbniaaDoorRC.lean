/- The document's Conflict (caravanref02). Conditions: at most 4000 bytes. -/
import Derived.Test.YtoeomghebgbniaaDoorRA
import Derived.Test.YtoeomghebgbniaaDoorPH
namespace Go.Proofs.YtoeomghebgbniaaDoor
open Go.RowKit
theorem trim_ext (s : ByteArray) : Lib.trimSuffix (tl s) (extS s) = (tl s).take (s.size - (extS s).length) := by
  have h := lastDot_le s
  have hd : ∃ n, extS s = (tl s).drop n := by
    unfold extS
    split
    · exact ⟨s.size, by rw [List.drop_eq_nil_of_le (by rw [tl_length]; exact Nat.le_refl _)]⟩
    · exact ⟨_, rfl⟩
  obtain ⟨n, hn⟩ := hd
  rw [Lib.trimSuffix, hn, if_pos (show Lib.hasSuffix (tl s) ((tl s).drop n) = true from List.isSuffixOf_iff_suffix.2 (List.drop_suffix n _)), tl_length]
set_option maxRecDepth 100000 in
set_option maxHeartbeats 1000000 in
theorem rconflict_no (s : ByteArray) (t y : Int) (h : mayB (tl s) = false) (w : World) (hs : s.size ≤ 4000) :
    Calls Tryd.prog 8 #[.string s, .int .i64 t, .int .i64 y] w fun e w' => e = .returned (.tuple #[.string ⟨#[]⟩, .bool false]) ∧ Below w.heap.size w w' := by
  have HM : Hid (∀ W, Calls Tryd.prog 19 #[.string s] W fun e w' => e = .returned (.bool false) ∧ Below W.heap.size W w') := fun W => rmay_v s false h W hs
  clear h
  go_enter Tryd.func8, Tryd.ntmps8
  go_wp2_with fail
  refine (HM.out _).mono ?_; rintro e1 w1 ⟨rfl, hb1⟩; have B1 := hid hb1; clear hb1
  go_wp2
  go_ret2
  exact ⟨rfl, B1.out⟩
set_option maxRecDepth 100000 in
set_option maxHeartbeats 1000000 in
theorem rconflict_bad (s : ByteArray) (t y : Int) (h : mayB (tl s) = true) (hb : okTB t y = false) (w : World) (hs : s.size ≤ 4000) :
    Calls Tryd.prog 8 #[.string s, .int .i64 t, .int .i64 y] w fun e w' => e = .returned (.tuple #[.string ⟨#[]⟩, .bool false]) ∧ Below w.heap.size w w' := by
  have HM : Hid (∀ W, Calls Tryd.prog 19 #[.string s] W fun e w' => e = .returned (.bool true) ∧ Below W.heap.size W w') := fun W => rmay_v s true h W hs
  have HO : Hid (¬ (0 ≤ t ∧ t ≤ 4294967295 ∧ 1 ≤ y ∧ y ≤ 16)) := by
    show ¬ _; intro ⟨h1, h2, h3, h4⟩; simp [okTB, h1, h2, h3, h4] at hb
  clear h hb
  by_cases h1 : t < 0 <;> by_cases h2 : 4294967295 < t <;> by_cases h3 : y < 1 <;> by_cases h4 : 16 < y <;> first | (exfalso; have := HO.out; omega) | skip
  all_goals
    go_enter Tryd.func8, Tryd.ntmps8
    go_wp2_with fail
    refine (HM.out _).mono ?_; rintro e1 w1 ⟨rfl, hb1⟩; have B1 := hid hb1; clear hb1
    go_wp2
    go_ret2
    exact ⟨rfl, B1.out⟩
set_option maxRecDepth 100000 in
set_option maxHeartbeats 1000000 in
theorem rconflict_yes (s : ByteArray) (t y : Nat) (h : mayB (tl s) = true) (h2 : t ≤ 4294967295) (h3 : 1 ≤ y) (h4 : y ≤ 16) (w : World) (hs : s.size ≤ 300) :
    Calls Tryd.prog 8 #[.string s, .int .i64 (t : Int), .int .i64 (y : Int)] w fun e w' => e = .returned (.tuple #[.string (ba (conflictL (tl s) t y)), .bool true]) ∧ Below w.heap.size w w' := by
  obtain ⟨a, HA⟩ : ∃ a, Hid (ba (aheadL (tl s)) = a) := ⟨_, rfl⟩
  obtain ⟨b, HB⟩ : ∃ b, Hid (ba (lastP (tl s)) = b) := ⟨_, rfl⟩
  have has : a.size ≤ 300 := by rw [← HA.out, ba_size]; have := aheadL_len (tl s); rw [tl_length] at this; omega
  have hbs : b.size ≤ 300 := by rw [← HB.out, ba_size]; have := lastP_len (tl s); rw [tl_length] at this; omega
  have C0 : Hid (∀ W, Calls Tryd.prog 19 #[.string s] W fun e w' => e = .returned (.bool true) ∧ Below W.heap.size W w') := fun W => rmay_v s true h W (by omega)
  have C1 : Hid (∀ W, Calls Tryd.prog 20 #[.string s] W fun e w' => e = .returned (.string b) ∧ Below W.heap.size W w') := by intro W; rw [← HB.out]; exact rlast_any s W (by omega)
  have C2 : Hid (∀ W, Calls Tryd.prog 24 #[.string s] W fun e w' => e = .returned (.string a) ∧ Below W.heap.size W w') := by intro W; rw [← HA.out]; exact rahead_any s W (by omega)
  obtain ⟨x, HX⟩ : ∃ x, Hid (ba (extS b) = x) := ⟨_, rfl⟩
  have hxs : x.size ≤ 8 ∧ x.size ≤ b.size := by rw [← HX.out, ba_size]; exact extS_len b
  have C3 : Hid (∀ W, Calls Tryd.prog 28 #[.string b] W fun e w' => e = .returned (.string x) ∧ W = w') := by intro W; rw [← HX.out]; exact rext_any b W (by omega)
  obtain ⟨p, HP⟩ : ∃ p, Hid (ba (padL (t : Int) 10) = p) := ⟨_, rfl⟩
  obtain ⟨q, HQ⟩ : ∃ q, Hid (ba (padL (y : Int) 2) = q) := ⟨_, rfl⟩
  have ep : digs t 10 = padL (t : Int) 10 := digs_pad t 9 (by omega)
  have eq : digs y 2 = padL (y : Int) 2 := digs_pad y 1 (by omega)
  have hps : p.size = 10 := by rw [← HP.out, ba_size, ← ep, digs_len]
  have hqs : q.size = 2 := by rw [← HQ.out, ba_size, ← eq, digs_len]
  have C4 : Hid (∀ W, Calls Tryd.prog 29 #[.int .i64 (t : Int), .int .i64 10] W fun e w' => e = .returned (.string p) ∧ Below W.heap.size W w') := by
    intro W; rw [← HP.out, ← ep]; exact rdigits_any t 10 h2 (by omega) W
  have C5 : Hid (∀ W, Calls Tryd.prog 29 #[.int .i64 (y : Int), .int .i64 2] W fun e w' => e = .returned (.string q) ∧ Below W.heap.size W w') := by
    intro W; rw [← HQ.out, ← eq]; exact rdigits_any y 2 (by omega) (by omega) W
  clear ep eq h
  obtain ⟨m, em, EM⟩ : ∃ m : Nat, (b.size : Int) - (x.size : Int) = (m : Int) ∧ Hid (b.size - x.size = m) := ⟨b.size - x.size, by omega, rfl⟩
  obtain ⟨n, en, EN⟩ : ∃ n : Nat, (20 : Int) - (x.size : Int) = (n : Int) ∧ Hid (20 - x.size = n) := ⟨20 - x.size, by omega, rfl⟩
  have hm1 : (m : Int) ≤ (b.size : Int) := by omega
  obtain ⟨z, HZ⟩ : ∃ z, Hid (b.extract 0 m = z) := ⟨_, rfl⟩
  have hzs : z.size = m := by rw [← HZ.out]; simp; omega
  have HT : Hid (Lib.trimSuffix (tl b) (tl x) = tl z) := by
    show _ = _; rw [← HX.out, tl_ba, trim_ext, ← HZ.out, ba_take, tl_ba, ← EM.out, ← HX.out, ba_size]
  have gt : ¬ (t : Int) < 0 := by omega
  have gt2 : ¬ (4294967295 : Int) < (t : Int) := by omega
  have gy : ¬ (y : Int) < 1 := by omega
  have gy2 : ¬ (16 : Int) < (y : Int) := by omega
  obtain ⟨v, HVv⟩ : ∃ v, Hid (ba ((tl z).take n) = v) := ⟨_, rfl⟩
  have hvs : v.size ≤ 300 := by rw [← HVv.out, ba_size, List.length_take, tl_length]; omega
  have hfin : Hid (ba (conflictL (tl s) t y) = ba (besideL (tl a) (tl (v ++ (⟨#[46, 115, 121, 110, 99, 45, 99, 111, 110, 102, 108, 105, 99, 116, 45]⟩ : ByteArray) ++ p ++ (⟨#[45]⟩ : ByteArray) ++ q ++ x)))) := by
    show _ = _
    have e1 : (extS b).length = x.size := by rw [← HX.out, ba_size]
    have e2 : ba (lastP (tl s)) = b := HB.out
    have e3 : Lib.trimSuffix (lastP (tl s)) (extS b) = tl z := by
      rw [← HT.out, ← e2, tl_ba, ← HX.out, tl_ba, e2]
    have e4 : tl x = extS b := by rw [← HX.out, tl_ba]
    have e5 : tl p = padL (t : Int) 10 := by rw [← HP.out, tl_ba]
    have e6 : tl q = padL (y : Int) 2 := by rw [← HQ.out, tl_ba]
    have e7 : tl v = (tl z).take n := by rw [← HVv.out, tl_ba]
    have e8 : tl a = aheadL (tl s) := by rw [← HA.out, tl_ba]
    have e9 : ∀ c d : ByteArray, tl (c ++ d) = tl c ++ tl d := by intro c d; simp [tl]
    rw [conflictL, clashL, stemL, e2, e3, e1, EN.out, e8]
    simp only [e9, e4, e5, e6, e7]
    rw [show tl ⟨#[46, 115, 121, 110, 99, 45, 99, 111, 110, 102, 108, 105, 99, 116, 45]⟩ = markL from rfl, show tl ⟨#[45]⟩ = [45] from rfl]
    simp only [List.append_assoc, List.singleton_append]
  have z1 := HZ.out
  by_cases hb : (n : Int) < (z.size : Int)
  · have hn1 : (n : Int) ≤ (z.size : Int) := by omega
    have v1 : z.extract 0 n = v := by rw [← HVv.out, ba_take]
    go_enter Tryd.func8, Tryd.ntmps8
    go_wp2_with fail
    refine (C0.out _).mono ?_; rintro e1 w1 ⟨rfl, hb1⟩; have B1 := hid hb1; clear hb1
    go_wp2_with fail
    refine (C1.out _).mono ?_; rintro e2 w2 ⟨rfl, hb2⟩; have B2 : Hid (Below w.heap.size w w2) := B1.out.trans (hb2.mono B1.out.size); clear hb2
    go_wp2_with fail
    refine (C3.out _).mono ?_; rintro e3 w3 ⟨rfl, rfl⟩
    go_wp2_with fail
    refine (C2.out _).mono ?_; rintro e4 w4 ⟨rfl, hb4⟩; have B4 : Hid (Below w.heap.size w w4) := B2.out.trans (hb4.mono B2.out.size); clear hb4
    go_wp2_with fail
    refine (C4.out _).mono ?_; rintro e5 w5 ⟨rfl, hb5⟩; have B5 : Hid (Below w.heap.size w w5) := B4.out.trans (hb5.mono B4.out.size); clear hb5
    go_wp2_with fail
    refine (C5.out _).mono ?_; rintro e6 w6 ⟨rfl, hb6⟩; have B6 : Hid (Below w.heap.size w w6) := B5.out.trans (hb6.mono B5.out.size); clear hb6
    go_wp2_with fail
    refine (rbeside_any a _ _ (by omega) (by
      have k1 : (⟨#[46, 115, 121, 110, 99, 45, 99, 111, 110, 102, 108, 105, 99, 116, 45]⟩ : ByteArray).size = 15 := rfl
      have k2 : (⟨#[45]⟩ : ByteArray).size = 1 := rfl
      simp only [ByteArray.size_append, k1, k2]; omega)).mono ?_; rintro e7 w7 ⟨rfl, rfl⟩
    go_wp2
    go_ret2
    exact ⟨ret_str2 (by rw [hfin.out]; simp [tl]), B6.out⟩
  · have HVz : Hid (v = z) := by
      show _ = _
      rw [← HVv.out, List.take_of_length_le (by rw [tl_length]; omega), ba_tl]
    have hfin2 := hfin
    clear hfin
    rw [HVz.out] at hfin2
    have hfin := hfin2
    clear hfin2
    go_enter Tryd.func8, Tryd.ntmps8
    go_wp2_with fail
    refine (C0.out _).mono ?_; rintro e1 w1 ⟨rfl, hb1⟩; have B1 := hid hb1; clear hb1
    go_wp2_with fail
    refine (C1.out _).mono ?_; rintro e2 w2 ⟨rfl, hb2⟩; have B2 : Hid (Below w.heap.size w w2) := B1.out.trans (hb2.mono B1.out.size); clear hb2
    go_wp2_with fail
    refine (C3.out _).mono ?_; rintro e3 w3 ⟨rfl, rfl⟩
    go_wp2_with fail
    refine (C2.out _).mono ?_; rintro e4 w4 ⟨rfl, hb4⟩; have B4 : Hid (Below w.heap.size w w4) := B2.out.trans (hb4.mono B2.out.size); clear hb4
    go_wp2_with fail
    refine (C4.out _).mono ?_; rintro e5 w5 ⟨rfl, hb5⟩; have B5 : Hid (Below w.heap.size w w5) := B4.out.trans (hb5.mono B4.out.size); clear hb5
    go_wp2_with fail
    refine (C5.out _).mono ?_; rintro e6 w6 ⟨rfl, hb6⟩; have B6 : Hid (Below w.heap.size w w6) := B5.out.trans (hb6.mono B5.out.size); clear hb6
    go_wp2_with fail
    refine (rbeside_any a _ _ (by omega) (by
      have k1 : (⟨#[46, 115, 121, 110, 99, 45, 99, 111, 110, 102, 108, 105, 99, 116, 45]⟩ : ByteArray).size = 15 := rfl
      have k2 : (⟨#[45]⟩ : ByteArray).size = 1 := rfl
      simp only [ByteArray.size_append, k1, k2]; omega)).mono ?_; rintro e7 w7 ⟨rfl, rfl⟩
    go_wp2
    go_ret2
    exact ⟨ret_str2 (by rw [hfin.out]; simp [tl]), B6.out⟩
end Go.Proofs.YtoeomghebgbniaaDoor
