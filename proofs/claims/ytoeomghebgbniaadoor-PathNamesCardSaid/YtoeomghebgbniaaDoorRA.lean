/- The document's parts of names (caravanref02.beside, ext, Digits, digit, IsTemp). Conditions: at most 4000 bytes. -/
import Derived.Test.YtoeomghebgbniaaDoorQB
import Derived.Laws.IdiomStrings
namespace Go.Proofs.YtoeomghebgbniaaDoor
open Go.RowKit
set_option maxRecDepth 100000 in
set_option maxHeartbeats 400000 in
theorem rbeside_any (a c : ByteArray) (w : World) (ha : a.size ≤ 4000) (hc : c.size ≤ 4000) :
    Calls Tryd.prog 23 #[.string a, .string c] w fun e w' => e = .returned (.string (ba (besideL (tl a) (tl c)))) ∧ w = w' := by
  by_cases h : a.toList = []
  · have HV : Hid (besideL (tl a) (tl c) = tl c) := by show _ = _; rw [besideL, if_pos (by rw [← toList_tl, h])]
    go_enter Tryd.func23, Tryd.ntmps23
    go_wp2
    go_ret
    exact ⟨ret_str (by rw [HV.out, ba_tl]), rfl⟩
  · have h' : a.toList.isEmpty = false := by simpa using h
    have HV : Hid (besideL (tl a) (tl c) = tl a ++ 47 :: tl c) := by show _ = _; rw [besideL, if_neg (by rw [← toList_tl]; exact h)]
    go_enter Tryd.func23, Tryd.ntmps23
    go_wp2
    go_ret
    refine ⟨ret_str ?_, rfl⟩
    rw [HV.out]
    apply ByteArray.ext; apply Array.ext'; simp [ba, tl]
theorem dot_yes {s : ByteArray} {k : Nat} (hk : k < s.size) (h : lastDot s ≤ k) (h6 : at8 (tl s) k = 46) : lastDot s = k := by
  unfold lastDot at h ⊢
  rcases Lib.lastIndexByte_spec s 46 with ⟨_, hn⟩ | ⟨i, hi, he, _, hn⟩
  · exact absurd (by rw [data_at s k hk, h6]; rfl) (hn k hk)
  · rw [he] at h ⊢
    rcases Nat.lt_or_ge i k with hl | hl
    · exact absurd (by rw [data_at s k hk, h6]; rfl) (hn k hl hk)
    · omega
theorem dot_no {s : ByteArray} {k : Nat} (hk : k < s.size) (h : lastDot s ≤ k) (h6 : at8 (tl s) k ≠ 46) : lastDot s ≤ (k : Int) - 1 := by
  unfold lastDot at h ⊢
  rcases Lib.lastIndexByte_spec s 46 with ⟨he, _⟩ | ⟨i, hi, he, h7, _⟩
  · rw [he]; omega
  · rw [he] at h ⊢
    rcases Nat.lt_or_ge i k with hl | hl
    · omega
    · obtain rfl : i = k := by omega
      rw [data_at s i hk] at h7
      exact absurd (UInt8.toNat_inj.1 (by show _ = 46; omega)) h6
set_option maxRecDepth 100000 in
set_option maxHeartbeats 1000000 in
theorem rext_any (s : ByteArray) (w : World) (hs : s.size ≤ 4000) :
    Calls Tryd.prog 28 #[.string s] w fun e w' => e = .returned (.string (ba (extS s))) ∧ w = w' := by
  have HE0 : Hid (lastDot s ≤ 0 → extS s = []) := by show _ → _; intro h; unfold extS; rw [if_pos (Or.inl h)]
  have HD := hid (fun k hk h => dot_yes (s := s) (k := k) hk h)
  have HN := hid (fun k hk h => dot_no (s := s) (k := k) hk h)
  have H0 : Hid (lastDot s ≤ (s.size : Int) - 1) := by show _ ≤ _; have := (lastDot_le s).1; omega
  go_enter Tryd.func28, Tryd.ntmps28
  go_wp2
  go_loopw [3] (fun i wr => ∃ k : Nat, k ≤ s.size ∧ i = .int .i64 ((k : Int) - 1) ∧ Hid (lastDot s ≤ (k : Int) - 1) ∧ w = wr)
    (fun i _ => (intOf i + 1).toNat)
  case atStart => exact ⟨s.size, Nat.le_refl _, rfl, H0, rfl⟩
  case round =>
    obtain ⟨k1, hk1, rfl, HL, rfl⟩ := hrel
    by_cases hlt : 1 < k1
    · obtain ⟨k, rfl⟩ : ∃ k, k1 = k + 1 := ⟨k1 - 1, by omega⟩
      have hk : k < s.size := by omega
      have ek : ((k + 1 : Nat) : Int) - 1 = (k : Int) := by omega
      rw [ek] at HL ⊢
      have i1 := index_str s k hk
      have HX := hid (HD.out k hk HL.out)
      have HY := hid (HN.out k hk HL.out)
      have HK := hid hk
      have g0 : (0 : Int) < (k : Int) := by omega
      have g1 : (k : Int) ≤ (s.size : Int) := by omega
      generalize at8 (tl s) k = x at i1 HX HY
      by_cases h6 : b8 x = 46
      · have hx : x = 46 := b8_inj h6
        have t1 : (b8 x == 46) = true := by simp [h6]
        have HZ := hid (HX.out hx)
        clear h6
        by_cases h8 : (s.size : Int) - (k : Int) ≤ 8
        · have HV : Hid (extS s = (tl s).drop k) := by
            show _ = _; unfold extS; rw [HZ.out, if_neg (by omega)]; rfl
          clear HX HY HD HN
          go_wp2
          go_ret
          exact ⟨ret_str (by rw [HV.out, ← ba_drop]), rfl⟩
        · have HV : Hid (extS s = []) := by show _ = _; unfold extS; rw [HZ.out, if_pos (Or.inr (by omega))]
          clear HX HY HD HN
          go_wp2
          go_ret
          exact ⟨ret_str (by rw [HV.out]; rfl), rfl⟩
      · have hx : x ≠ 46 := fun e => h6 (by rw [e]; rfl)
        have t1 : (b8 x == 46) = false := by simp [h6]
        have HZ := hid (HY.out hx)
        clear h6 HX HY
        go_wp2
        go_roundw
        case rel => exact ⟨k, by omega, rfl, HZ, trivial⟩
        case measure => simp [intOf]
    · have g0 : ¬ (0 : Int) < (k1 : Int) - 1 := by omega
      have HV : Hid (extS s = []) := by show _ = _; exact HE0.out (by have := HL.out; omega)
      go_wp2
      go_ret
      exact ⟨ret_str (by rw [HV.out]; rfl), rfl⟩
/-- A number's last digits, so many of them. -/
def digs : Nat → Nat → List UInt8
  | _, 0 => []
  | n, m + 1 => digs (n / 10) m ++ [UInt8.ofNat (48 + n % 10)]
theorem digs_zero (m : Nat) : digs 0 m = List.replicate m 48 := by
  induction m with
  | zero => rfl
  | succ m ih => rw [digs, show 0 / 10 = 0 from rfl, ih, List.replicate_succ']; rfl
theorem digs_len (n m : Nat) : (digs n m).length = m := by
  induction m generalizing n with
  | zero => rfl
  | succ m ih => rw [digs, List.length_append, ih]; rfl
theorem digs_dec (m : Nat) : ∀ n, n < 10 ^ (m + 1) → digs n (m + 1) = List.replicate (m + 1 - (Lib.decDigits n).length) 48 ++ Lib.decDigits n := by
  induction m with
  | zero =>
    intro n h
    have h : n < 10 := by simpa using h
    rw [Lib.decDigits_one h, digs, digs, Nat.mod_eq_of_lt h]; rfl
  | succ m ih =>
    intro n h
    by_cases h1 : n < 10
    · rw [Lib.decDigits_one h1, digs, Nat.div_eq_of_lt h1, digs_zero, Nat.mod_eq_of_lt h1]; rfl
    · rw [digs, ih (n / 10) (by rw [Nat.pow_succ] at h; omega)]
      have e : Lib.decDigits n = Lib.decDigits (n / 10) ++ [UInt8.ofNat (48 + n % 10)] := by
        conv => lhs; rw [Lib.decDigits, dif_neg h1]
      rw [e, List.length_append, List.length_singleton, List.append_assoc]
      congr 2
      omega
theorem digs_pad (n m : Nat) (h : n < 10 ^ (m + 1)) : digs n (m + 1) = padL n (m + 1) := by
  rw [digs_dec m n h, padL, Lib.itoa, if_neg (by omega), Int.toNat_natCast]
theorem dig_num (d : Nat) (h : d < 10) : (48 : Int) + (d : Int) = b8 (UInt8.ofNat (48 + d)) := by
  unfold b8
  rw [show (UInt8.ofNat (48 + d)).toNat = 48 + d by simp; omega]; omega
set_option maxRecDepth 100000 in
set_option maxHeartbeats 1000000 in
theorem rdigits_any (n m : Nat) (hn : n ≤ 4294967295) (hm : m ≤ 100) (w : World) :
    Calls Tryd.prog 29 #[.int .i64 (n : Int), .int .i64 (m : Int)] w fun e w' => e = .returned (.string (ba (digs n m))) ∧ Below w.heap.size w w' := by
  go_enter Tryd.func29, Tryd.ntmps29
  go_wp2
  go_loopw [0, 5, 6] (fun nv ov i wr => ∃ k q : Nat, ∃ o : ByteArray, k ≤ m ∧ q ≤ 4294967295 ∧ nv = .int .i64 (q : Int) ∧ ov = .string o ∧ i = .int .i64 (k : Int) ∧ Hid (digs n m = digs q (m - k) ++ tl o) ∧ Hid (o.size ≤ k) ∧ Hid (Below w.heap.size w wr))
    (fun _ _ i _ => m - (intOf i).toNat)
  case atStart => exact ⟨0, n, ⟨#[]⟩, by omega, hn, rfl, rfl, rfl, by show _ = _; rw [show tl ⟨#[]⟩ = [] from rfl, List.append_nil]; rfl, Nat.le_refl 0, Below.refl _ _⟩
  case round =>
    obtain ⟨k, q, o, hk, hq, rfl, rfl, rfl, HV, HO, HB⟩ := hrel
    by_cases hlt : k < m
    · obtain ⟨d, e1, HD⟩ : ∃ d : Nat, (q : Int).tmod 10 = (d : Int) ∧ Hid (q % 10 = d ∧ d < 10) := ⟨q % 10, by rw [Int.tmod_eq_emod_of_nonneg (by omega)]; omega, rfl, by omega⟩
      obtain ⟨q2, e2, HQ⟩ : ∃ d : Nat, (q : Int).tdiv 10 = (d : Int) ∧ Hid (q / 10 = d) := ⟨q / 10, by rw [Int.tdiv_eq_ediv_of_nonneg (by omega)]; omega, rfl⟩
      obtain ⟨x, HX⟩ : ∃ x, Hid (UInt8.ofNat (48 + d) = x) := ⟨_, rfl⟩
      have e3 : (48 : Int) + (d : Int) = b8 x := by rw [← HX.out]; exact dig_num d HD.out.2
      have b1 := b8_nonneg x
      have b2 := b8_lt x
      have hw1 : IntKind.i64.wrap (b8 x) = b8 x := i64in _ (by omega) (by omega)
      have hw2 : IntKind.u8.wrap (b8 x) = b8 x := by simp [IntKind.wrap, IntKind.signed, IntKind.bits]; omega
      have hos : o.size ≤ 4000 := by have := HO.out; omega
      have hcv : (convert 36 9 (.slice (some ⟨wr.heap.size, 0, none⟩) 1 1)).run Tryd.prog (wr.alloc (.cells #[.int .u8 (b8 x)] 5)) = .ok (.string ⟨#[x]⟩) (wr.alloc (.cells #[.int .u8 (b8 x)] 5)) := by
        have := run_convert_bytes_back (P := Tryd.prog) (wr.alloc (.cells #[.int .u8 (b8 x)] 5)) 36 9 5 ⟨wr.heap.size, 0, none⟩ 1 [x] Tryd.underlying36 Tryd.underlying5 Tryd.underlying9 (fun j hj => by
          obtain rfl : j = 0 := by simpa using hj
          exact (Has.fresh wr 5 #[.int .u8 (b8 x)]).at_ 0)
        exact this
      have hq2 : q2 ≤ q := by have := HQ.out; omega
      have HN : Hid (digs n m = digs q2 (m - (k + 1)) ++ tl ((⟨#[x]⟩ : ByteArray) ++ o)) := by
        show _ = _
        rw [HV.out, show m - k = m - (k + 1) + 1 by omega, digs, HQ.out, HD.out.1, HX.out, List.append_assoc]
        congr 1
      go_wp2
      go_roundw
      case rel => exact ⟨k + 1, q2, _, by omega, by omega, rfl, rfl, by go_num, HN, by show _ ≤ _; have := HO.out; rw [ByteArray.size_append, show (⟨#[x]⟩ : ByteArray).size = 1 from rfl]; omega, HB.out.alloc HB.out.size _⟩
      case measure => simp [intOf]; omega
    · obtain rfl : k = m := by omega
      go_wp2
      go_ret
      refine ⟨ret_str ?_, HB.out⟩
      rw [HV.out, Nat.sub_self, digs, List.nil_append, ba_tl]
set_option maxHeartbeats 400000 in
theorem rpdigit_any (c : UInt8) (w : World) : Calls Tryd.prog 33 #[.int .u8 (b8 c)] w fun e w' => e = .returned (.bool (decide (48 ≤ b8 c) && decide (b8 c ≤ 57))) ∧ w' = w := by
  by_cases h1 : 48 ≤ b8 c <;> by_cases h2 : b8 c ≤ 57
  all_goals
    have HV := hid (show (decide (48 ≤ b8 c) && decide (b8 c ≤ 57)) = _ by simp only [h1, h2, decide_true, decide_false, Bool.and_true, Bool.and_false]; rfl)
    go_enter Tryd.func33, Tryd.ntmps33
    go_wp2
    go_ret
    exact ⟨ret_bool (by simp [h1, h2]), rfl⟩
set_option maxRecDepth 100000 in
set_option maxHeartbeats 400000 in
theorem risTemp_any (s : ByteArray) (w : World) (hs : s.size ≤ 4000) :
    Calls Tryd.prog 10 #[.string s] w fun e w' => e = .returned (.bool (isTempB (tl s))) ∧ Below w.heap.size w w' := by
  obtain ⟨r, HR⟩ : ∃ r, Hid (ba (lastP (tl s)) = r) := ⟨_, rfl⟩
  have HC : Hid (∀ W, Calls Tryd.prog 20 #[.string s] W fun e w' => e = .returned (.string r) ∧ Below W.heap.size W w') := by intro W; rw [← HR.out]; exact rlast_any s W hs
  by_cases h3 : (3 : Int) ≤ (r.size : Int)
  · have HV : Hid (isTempB (tl s) = (((r.extract 0 3).toList == [126, 116, 126]))) := by
      show _ = _
      rw [isTempB, ← HR.out, toList_tl, ba_take, tl_ba, tl_ba]
      generalize lastP (tl s) = l
      rcases l with _ | ⟨a, _ | ⟨b, _ | ⟨c, l⟩⟩⟩ <;> simp [List.isPrefixOf]
      have e : ∀ u v : UInt8, (u == v) = (v == u) := fun u v => by rw [Bool.eq_iff_iff, beq_iff_eq, beq_iff_eq]; exact ⟨Eq.symm, Eq.symm⟩
      rw [e 126 a, e 116 b, e 126 c]
    go_enter Tryd.func10, Tryd.ntmps10
    go_wp2_with fail
    refine (HC.out _).mono ?_; rintro e1 w1 ⟨rfl, hb⟩
    have B1 := hid hb
    clear hb
    go_wp2
    go_ret
    exact ⟨ret_bool (by rw [HV.out]), B1.out⟩
  · have HV : Hid (isTempB (tl s) = false) := by
      show _ = _
      have hl : (lastP (tl s)).length = r.size := by rw [← HR.out, ba_size]
      rw [isTempB]
      generalize lastP (tl s) = l at hl
      rcases l with _ | ⟨a, _ | ⟨b, _ | ⟨c, l⟩⟩⟩ <;> simp [List.isPrefixOf]
      simp at hl; omega
    go_enter Tryd.func10, Tryd.ntmps10
    go_wp2_with fail
    refine (HC.out _).mono ?_; rintro e1 w1 ⟨rfl, hb⟩
    have B1 := hid hb
    clear hb
    go_wp2
    go_ret
    exact ⟨ret_bool HV.out.symm, B1.out⟩
end Go.Proofs.YtoeomghebgbniaaDoor
