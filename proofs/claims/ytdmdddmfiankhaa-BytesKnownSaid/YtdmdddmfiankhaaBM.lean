/- Numbers there and back; the law BytesOnce: what its call does. Conditions: a heap that has a block. -/
import Derived.Test.YtdmdddmfiankhaaBL
import Derived.Deep.RegionHeld3
namespace Go.Proofs.Ytdmdddmfiankhaa
open Go.RowKit
theorem low_zero (a : Nat) (x : UInt8) : lowB (256 * a + x.toNat) 0 = x := by
  have hx := x.toNat_lt
  apply UInt8.toNat_inj.1
  simp [lowB]
theorem low_next (a : Nat) (x : UInt8) (j : Nat) : lowB (256 * a + x.toNat) (j + 1) = lowB a j := by
  have hx := x.toNat_lt
  have e : (256 * a + x.toNat) / 256 = a := by omega
  rw [lowB, lowB, Nat.pow_succ, Nat.mul_comm (256 ^ j) 256, ← Nat.div_div_eq_div_mul, e]
theorem highs_val : ∀ (m : Nat) (l : List UInt8), l.length = m → highs (valL l) m m = l := by
  intro m
  induction m with
  | zero => intro l h; obtain rfl := List.eq_nil_of_length_eq_zero h; rfl
  | succ k ih =>
    intro l h
    obtain ⟨l', x, rfl⟩ : ∃ l' x, l = l' ++ [x] := ⟨l.take k, at8 l k, by rw [← take_snoc l k (by omega), List.take_of_length_le (by omega)]⟩
    have hl : l'.length = k := by simpa using h
    rw [valL_snoc, highs_next, show k + 1 - 1 - k = 0 by omega, low_zero]
    congr 1
    refine Eq.trans ?_ (ih l' hl)
    unfold highs
    apply List.map_congr_left
    intro i hi
    rw [List.mem_range] at hi
    rw [show k + 1 - 1 - i = (k - 1 - i) + 1 by omega, low_next]
/-- What bytes say, laid again. -/
theorem numL_val (k : Int) (hk : wid k = true) (l : List UInt8) (hl : (l.length : Int) = k) : numL k (valL l) = l := by
  rw [numL, if_pos hk]
  exact highs_val _ l (by omega)
theorem val_highs (n m j : Nat) (h : j ≤ m) : valL (highs n m j) = n / 256 ^ (m - j) % 256 ^ j := by
  induction j with
  | zero => simp [highs, valL, Nat.mod_one]
  | succ j ih =>
    rw [highs_next, valL_snoc, ih (by omega)]
    have e1 : m - j = (m - (j + 1)) + 1 := by omega
    have e2 : m - 1 - j = m - (j + 1) := by omega
    rw [e1, e2, Nat.pow_succ, ← Nat.div_div_eq_div_mul, show (256 : Nat) ^ (j + 1) = 256 * 256 ^ j from by rw [Nat.pow_succ, Nat.mul_comm], Nat.mod_mul]
    have e3 : (lowB n (m - (j + 1))).toNat = n / 256 ^ (m - (j + 1)) % 256 := by simp [lowB]
    rw [e3]; omega
/-- What is laid, read again. -/
theorem val_numL (k : Int) (hk : wid k = true) (n : Nat) : valL (numL k n) = n % 256 ^ k.toNat := by
  rw [numL, if_pos hk, val_highs _ _ _ (Nat.le_refl _)]; simp
theorem textS_torn (s : St) (m : Int) (h : (textS s m).2.1 = true) : (textS s m).1 = [] := by
  have h9 := nxt_lt s 2
  unfold textS at h ⊢
  split at h
  · rename_i n hn
    split at h
    · have := (h9 n hn).2.2.2.2
      simp only at h
      rw [this] at h; cases h
    · rename_i hc; simp only [if_neg hc]
  · rfl
theorem nxt_two_val {t : Bool} {xs : List UInt8} {n : Nat} (h : nxt (t, xs) 2 = some n) : t = false ∧ 2 ≤ xs.length ∧ n = valL (xs.take 2) := by
  unfold nxt at h
  split at h
  · rename_i hc
    obtain rfl := Option.some.inj h
    exact ⟨hc.1, by have := hc.2.2; simp only at this; omega, rfl⟩
  · cases h
/-- What is taken as a number and a text is laid as just the bytes that were taken. -/
theorem once_pure (xs : List UInt8) (h : (textS (numS (false, xs) 2).2 400).2.1 = false) :
    ∃ k, k ≤ xs.length ∧ (textS (numS (false, xs) 2).2 400).2.2.length = xs.length - k ∧ (textS (numS (false, xs) 2).2 400).1.length ≤ 400 ∧
      ([] ++ numL 2 (numS (false, xs) 2).1) ++ textL (textS (numS (false, xs) 2).2 400).1 = xs.take k := by
  rcases hn : nxt (false, xs) 2 with _ | n
  · rw [numS, hn] at h
    simp only [tear] at h
    rw [textS] at h
    have h0 : nxt (true, xs) 2 = none := by simp [nxt]
    rw [h0] at h
    simp [tear] at h
  · obtain ⟨_, h2, rfl⟩ := nxt_two_val hn
    have e1 : numS (false, xs) 2 = (valL (xs.take 2), (false, xs.drop 2)) := by rw [numS, hn]; rfl
    rw [e1] at h ⊢
    simp only at h ⊢
    rcases hm : nxt (false, xs.drop 2) 2 with _ | m
    · rw [textS, hm] at h; simp [tear] at h
    · obtain ⟨_, h3, hmv⟩ := nxt_two_val hm
      rw [textS, hm] at h ⊢
      simp only at h ⊢
      by_cases hc : (m : Int) ≤ 400 ∧ m + 2 ≤ (xs.drop 2).length
      · rw [if_pos hc]
        simp only
        have hl : (((xs.drop 2).drop 2).take m).length = m := by rw [List.length_take, List.length_drop]; omega
        refine ⟨4 + m, ?_, ?_, ?_, ?_⟩
        · have := hc.2; rw [List.length_drop] at this; omega
        · simp only [List.length_drop]; omega
        · rw [hl]; omega
        · rw [textL, hl, hmv, numL_val 2 rfl ((xs.drop 2).take 2) (by have := hc.2; rw [List.length_take]; omega), numL_val 2 rfl _ (by rw [List.length_take]; omega), ← hmv, List.nil_append]
          rw [show 4 + m = 2 + (2 + m) by omega, List.take_add (l := xs), List.take_add]
      · rw [if_neg hc] at h; simp [tear] at h
theorem Bytes.formL {w : World} {v : Value} {xs : List UInt8} {A : Option Addr} {cap bb off L : Nat} (h : Bytes w v xs A cap bb off) (hL : xs.length = L) : v = .slice A L cap := by subst hL; exact h.form
theorem conv_is {w : World} {v : Value} {ys : List UInt8} {x : ByteArray} {A : Option Addr} {cap bb off : Nat} (h : Bytes w v ys A cap bb off) (e : ba ys = x) : (convert 24 9 v).run Try.prog w = .ok (.string x) w := by rw [← e]; exact conv_back h
theorem Bytes.drew {w : World} {v : Value} {xs : List UInt8} {A : Option Addr} {cap bb off : Nat} (h : Bytes w v xs A cap bb off) : Bytes w.drew v xs A cap bb off := ⟨h.form, h.le, h.zero, h.at_, h.blk, h.src⟩
set_option maxRecDepth 100000 in
set_option maxHeartbeats 2000000 in
theorem once_any (s0 : ByteArray) (w : World) (hp : 0 < w.heap.size) :
    Calls Try.prog 9 #[.string s0] w fun e w' => e = .returned (.bool true) ∧ Below w.heap.size w w' := by
  have HP := hid hp
  obtain ⟨s, HS⟩ : ∃ s, Hid (ba ((tl s0).take 500) = s) := ⟨_, rfl⟩
  have CA := hid (cut_any s0 500 (by omega) w)
  rw [HS.out] at CA
  have hsz : s.size ≤ 500 := by rw [← HS.out, ba_size, List.length_take]; omega
  have KC := conv_string s
  obtain ⟨xs, HX⟩ : ∃ xs, Hid (tl s = xs) := ⟨_, rfl⟩
  have HXL : Hid (xs.length = s.size) := by show _ = _; rw [← HX.out, tl_length]
  have ct := newTape_any _ (tl s) _ _ _ _ (by rw [tl_length]; omega) _ (conv_bytes s w)
  rw [HX.out] at ct
  have CT := hid ct
  clear ct
  obtain ⟨n, st1, H1⟩ : ∃ n st1, Hid (numS (false, xs) 2 = (n, st1)) := ⟨_, _, rfl⟩
  obtain ⟨u, st2, H2⟩ : ∃ u st2, Hid (textS st1 400 = (u, st2)) := ⟨_, _, rfl⟩
  have C4 : Hid (∀ w1 g, Tp w1 g (false, xs) → Calls Try.prog 23 #[.pointer (some ⟨g, 0, none⟩), .int .i64 2] w1 fun e w' => e = .returned (.int .u64 (n : Int)) ∧ Tp w' g st1 ∧ Grw g w1 w') := fun w1 g h => by
    have := num_any g _ 2 w1 h; rw [H1.out] at this; exact this
  have C5 : Hid (∀ w1 g, Tp w1 g st1 → Calls Try.prog 34 #[.pointer (some ⟨g, 0, none⟩), .int .i64 400] w1 fun e w' => e = .returned (.string (ba u)) ∧ Tp w' g st2 ∧ Grw g w1 w') := fun w1 g h => by
    have := text_any g _ 400 w1 h; rw [H2.out] at this; exact this
  have HN : Hid (n < 18446744073709551616) := by
    have h := H1.out
    show _ < _
    rcases hn : nxt (false, xs) 2 with _ | m
    · rw [numS, hn] at h; cases h; omega
    · rw [numS, hn] at h; cases h; exact (nxt_lt _ _ _ hn).1
  rcases ht : st2.1 with _ | _
  · obtain ⟨k, hk1, hk2, hk3, hk4⟩ := once_pure xs (by rw [H1.out, H2.out]; exact ht)
    rw [H1.out, H2.out] at hk2 hk3 hk4
    simp only at hk2 hk3 hk4
    have C6 : Hid (∀ w1 g, Tp w1 g st2 → Calls Try.prog 27 #[.pointer (some ⟨g, 0, none⟩)] w1 fun e w' => e = .returned (.int .i64 0) ∧ w1 = w') := fun w1 g h => by
      have := err_any g _ w1 h; rw [errS, ht] at this; exact this
    obtain ⟨L, HL⟩ : ∃ L, Hid (st2.2.length = L) := ⟨_, rfl⟩
    have C7 : Hid (∀ w1 g, Tp w1 g st2 → Calls Try.prog 25 #[.pointer (some ⟨g, 0, none⟩)] w1 fun e w' => e = .returned (.int .i64 (L : Int)) ∧ w1 = w') := fun w1 g h => by
      have := left_any g _ w1 h; rw [HL.out] at this; exact this
    have hk5 : (s.size : Int) - (L : Int) = (k : Int) := by have h1 := HL.out; have h2 := HXL.out; omega
    have hk6 : (k : Int) ≤ (s.size : Int) := by have h2 := HXL.out; omega
    have hk7 : IntKind.i64.wrap (k : Int) = (k : Int) := i64in _ (by omega) (by omega)
    have C8 : Hid (∀ w1, 0 < w1.heap.size → Calls Try.prog 13 #[.slice none 0 0, .int .i64 2, .int .u64 (n : Int)] w1 fun e w' => ∃ v', e = .returned v' ∧ Fresh w1.heap.size w' v' ([] ++ numL 2 n) ∧ Below w1.heap.size w1 w') := fun w1 h => put_any _ [] none 0 0 0 2 n HN.out (by decide) w1 (Bytes.nil w1 h)
    have C9 : Hid (∀ w1 v B, 0 < w1.heap.size → Fresh B w1 v ([] ++ numL 2 n) → Calls Try.prog 14 #[v, .string (ba u)] w1 fun e w' => ∃ v', e = .returned (.tuple #[v', .int .i64 0]) ∧ Fresh w1.heap.size w' v' (([] ++ numL 2 n) ++ textL u) ∧ Below w1.heap.size w1 w') := fun w1 v B hp h => by
      obtain ⟨A, cap, bb, y, _, _⟩ := h.bytes hp
      exact putText_any v _ A cap bb 0 (ba u) (by rw [ba_size]; omega) (by have := numL_len 2 n; simp; omega) w1 y
    obtain ⟨ys, HYS⟩ : ∃ ys, Hid (ys = tl (s.extract 0 k)) := ⟨_, rfl⟩
    have HY2 : Hid (([] ++ numL 2 n) ++ textL u = ys) := by show _ = _; rw [hk4, HYS.out, ba_take, tl_ba, HX.out]
    have HYB : Hid (ba ys = s.extract 0 k) := by show _ = _; rw [HYS.out]; exact ba_tl _
    clear hk1 hk2 hk3 hk4 ht hp hsz
    go_enter Try.func9, Try.ntmps9
    go_wp2_with (first
      | (go_at_call 12; refine CA.out.mono ?_; rintro e1 w1 ⟨rfl, rfl⟩)
      | (go_at_call 20; refine CT.out.mono ?_; rintro e2 w2 ⟨g, rfl, hg, ht, hb2⟩
         have G2 : Hid (w.heap.size ≤ g) := Nat.le_trans (conv_below s w).size hg
         have T2 := hid ht
         have B2 : Hid (Below w.heap.size w w2) := (conv_below s w).trans (hb2.mono (conv_below s w).size)
         clear hg ht hb2)
      | (go_at_call 23; refine (C4.out _ _ T2.out).mono ?_; rintro e3 w3 ⟨rfl, ht, hg⟩
         have T3 := hid ht
         have B3 : Hid (Below w.heap.size w w3) := Grw.below B2.out hg G2.out B2.out.size
         clear ht hg T2 B2)
      | (go_at_call 34; refine (C5.out _ _ T3.out).mono ?_; rintro e4 w4 ⟨rfl, ht, hg⟩
         have T4 := hid ht
         have B4 : Hid (Below w.heap.size w w4) := Grw.below B3.out hg G2.out B3.out.size
         have P4 : Hid (0 < w4.heap.size) := Nat.lt_of_lt_of_le HP.out B4.out.size
         clear ht hg T3 B3)
      | (go_at_call 27; refine (C6.out _ _ T4.out).mono ?_; rintro e5 w5 ⟨rfl, rfl⟩)
      | (go_at_call 13; refine (C8.out _ P4.out).mono ?_; rintro e6 w6 ⟨v6, rfl, ho, hb6⟩
         have O6 := hid ho
         have T6 := hid (T4.out.kept hb6)
         have B6 : Hid (Below w.heap.size w w6) := B4.out.trans (hb6.mono B4.out.size)
         have P6 : Hid (0 < w6.heap.size) := Nat.lt_of_lt_of_le HP.out B6.out.size
         clear ho hb6)
      | (go_at_call 14; refine (C9.out _ _ _ P6.out O6.out).mono ?_; rintro e7 w7 ⟨v7, rfl, ho, hb7⟩
         have T7 := hid (T6.out.kept hb7)
         have B7 : Hid (Below w.heap.size w w7) := B6.out.trans (hb7.mono B6.out.size)
         have P7 : Hid (0 < w7.heap.size) := Nat.lt_of_lt_of_le HP.out B7.out.size
         obtain ⟨A7, cap7, bb7, y7, _, _⟩ := ho.bytes P7.out
         rw [HY2.out] at y7
         have Y7 := hid y7
         clear ho hb7 y7)
      | (go_at_call 25; refine (C7.out _ _ T7.out).mono ?_; rintro e8 w8 ⟨rfl, rfl⟩))
    refine wp_region_noPanic ?_
    refine wp_region_held_drew (S := fun W => Bytes W v7 ys A7 cap7 bb7 0) (by kernel_rfl) (Y7.out.drew) (fun hS => ?_)
    refine wpAnyH_take (i := 0) (v := ?_) (by simp only [List.getElem?_toArray, List.getElem?_cons_zero]; rfl) (by kernel_rfl) (by kernel_rfl) (by kernel_rfl) (fun _ _ _ h => h) (Or.inl ⟨by rfl, ?_⟩) (by assumption) ?_
    rotate_left 1
    · intro w hSw
      go_simp
      with_reducible rfl
    simp only [Act.put, List.setIfInBounds_toArray, List.set_cons_zero, List.set_cons_succ]
    refine wpAnyH_take (i := 1) (v := ?_) (by simp only [List.getElem?_toArray, List.getElem?_cons_zero, List.getElem?_cons_succ]; rfl) (by kernel_rfl) (by kernel_rfl) (by kernel_rfl) (fun _ _ _ h => h) (Or.inl ⟨by rfl, ?_⟩) (by assumption) ?_
    rotate_left 1
    · intro w hSw
      go_simp
      with_reducible rfl
    simp only [Act.put, List.setIfInBounds_toArray, List.set_cons_zero, List.set_cons_succ]
    refine wpAnyH_take (i := 2) (v := ?_) (by simp only [List.getElem?_toArray, List.getElem?_cons_zero, List.getElem?_cons_succ]; rfl) (by kernel_rfl) (by kernel_rfl) (by kernel_rfl) (fun _ _ _ h => h) (Or.inl ⟨by rfl, ?_⟩) (by assumption) ?_
    rotate_left 1
    · intro w hSw
      go_simp
      with_reducible rfl
    simp only [Act.put, List.setIfInBounds_toArray, List.set_cons_zero, List.set_cons_succ]
    refine wpAnyH_take (i := 3) (v := ?_) (by simp only [List.getElem?_toArray, List.getElem?_cons_zero, List.getElem?_cons_succ]; rfl) (by kernel_rfl) (by kernel_rfl) (by kernel_rfl) (fun _ _ _ h => h) (Or.inl ⟨by rfl, ?_⟩) (by assumption) ?_
    rotate_left 1
    · intro w hSw
      go_simp
      with_reducible rfl
    simp only [Act.put, List.setIfInBounds_toArray, List.set_cons_zero, List.set_cons_succ]
    refine wpAnyH_take (i := 4) (v := ?_) (by simp only [List.getElem?_toArray, List.getElem?_cons_zero, List.getElem?_cons_succ]; rfl) (by kernel_rfl) (by kernel_rfl) (by kernel_rfl) (fun _ _ _ h => h) (Or.inl ⟨by rfl, ?_⟩) (by assumption) ?_
    rotate_left 1
    · intro w hSw
      have k7 := conv_is hSw HYB.out
      go_simp
      with_reducible rfl
    simp only [Act.put, List.setIfInBounds_toArray, List.set_cons_zero, List.set_cons_succ]
    refine wpAnyH_take (i := 5) (v := ?_) (by simp only [List.getElem?_toArray, List.getElem?_cons_zero, List.getElem?_cons_succ]; rfl) (by kernel_rfl) (by kernel_rfl) (by kernel_rfl) (fun _ _ _ h => h) (Or.inl ⟨by rfl, ?_⟩) (by assumption) ?_
    rotate_left 1
    · intro w hSw
      go_simp
      with_reducible rfl
    simp only [Act.put, List.setIfInBounds_toArray, List.set_cons_zero, List.set_cons_succ]
    refine wpAnyH_take (i := 6) (v := ?_) (by simp only [List.getElem?_toArray, List.getElem?_cons_zero, List.getElem?_cons_succ]; rfl) (by kernel_rfl) (by kernel_rfl) (by kernel_rfl) (fun _ _ _ h => h) (Or.inl ⟨by rfl, ?_⟩) (by assumption) ?_
    rotate_left 1
    · intro w hSw
      go_simp
      with_reducible rfl
    simp only [Act.put, List.setIfInBounds_toArray, List.set_cons_zero, List.set_cons_succ]
    refine wpAnyH_take (i := 7) (v := ?_) (by simp only [List.getElem?_toArray, List.getElem?_cons_zero, List.getElem?_cons_succ]; rfl) (by kernel_rfl) (by kernel_rfl) (by kernel_rfl) (fun _ _ _ h => h) (Or.inl ⟨by rfl, ?_⟩) (by assumption) ?_
    rotate_left 1
    · intro w hSw
      go_simp
      with_reducible rfl
    simp only [Act.put, List.setIfInBounds_toArray, List.set_cons_zero, List.set_cons_succ]
    refine wpAnyH_take (i := 8) (v := ?_) (by simp only [List.getElem?_toArray, List.getElem?_cons_zero, List.getElem?_cons_succ]; rfl) (by kernel_rfl) (by kernel_rfl) (by kernel_rfl) (fun _ _ _ h => h) (Or.inl ⟨by rfl, ?_⟩) (by assumption) ?_
    rotate_left 1
    · intro w hSw
      go_simp
      with_reducible rfl
    simp only [Act.put, List.setIfInBounds_toArray, List.set_cons_zero, List.set_cons_succ]
    refine wpAnyH_take (i := 9) (v := ?_) (by simp only [List.getElem?_toArray, List.getElem?_cons_zero, List.getElem?_cons_succ]; rfl) (by kernel_rfl) (by kernel_rfl) (by kernel_rfl) (fun _ _ _ h => h) (Or.inl ⟨by rfl, ?_⟩) (by assumption) ?_
    rotate_left 1
    · intro w hSw
      go_simp
      with_reducible rfl
    simp only [Act.put, List.setIfInBounds_toArray, List.set_cons_zero, List.set_cons_succ]
    refine wpAnyH_take (i := 10) (v := ?_) (by simp only [List.getElem?_toArray, List.getElem?_cons_zero, List.getElem?_cons_succ]; rfl) (by kernel_rfl) (by kernel_rfl) (by kernel_rfl) (fun _ _ _ h => h) (Or.inl ⟨by rfl, ?_⟩) (by assumption) ?_
    rotate_left 1
    · intro w hSw
      go_simp
      with_reducible rfl
    simp only [Act.put, List.setIfInBounds_toArray, List.set_cons_zero, List.set_cons_succ]
    refine wpAnyH_ready (rs := [11]) (by kernel_rfl) (by simp) ?_
    refine AllReadyH.cons (by simp only [List.getElem?_toArray, List.getElem?_cons_zero, List.getElem?_cons_succ]; rfl) (fun K hK => ?_) AllReadyH.nil
    go_simp
    refine (works_any w7.drew P7.out).mono ?_
    rintro ee x1 ⟨rfl, hb⟩
    have B9 : Hid (Below w.heap.size w x1) := B7.out.drew.trans (hb.mono B7.out.size)
    have hz1 := Y7.out.drew.kept hb (Nat.le_refl _)
    refine hK.out _ _ hz1 (fun hS => ?_)
    clear hK K hS
    refine wpAnyH_take (i := 12) (v := ?_) (by simp only [List.getElem?_toArray, List.getElem?_cons_zero, List.getElem?_cons_succ]; rfl) (by kernel_rfl) (by kernel_rfl) (by kernel_rfl) (fun _ _ _ h => h) (Or.inl ⟨by rfl, ?_⟩) (by assumption) ?_
    rotate_left 1
    · intro w hSw
      go_simp
      with_reducible rfl
    simp only [Act.put, List.setIfInBounds_toArray, List.set_cons_zero, List.set_cons_succ]
    refine wpAnyH_take (i := 13) (v := ?_) (by simp only [List.getElem?_toArray, List.getElem?_cons_zero, List.getElem?_cons_succ]; rfl) (by kernel_rfl) (by kernel_rfl) (by kernel_rfl) (fun _ _ _ h => h) (Or.inl ⟨by rfl, ?_⟩) (by assumption) ?_
    rotate_left 1
    · intro w hSw
      go_simp
      with_reducible rfl
    simp only [Act.put, List.setIfInBounds_toArray, List.set_cons_zero, List.set_cons_succ]
    refine wpAnyH_done (by kernel_rfl) ?_ _
    refine NoPanic.normal ?_
    go_wp2
    go_ret
    exact ⟨rfl, B9.out⟩
  · have HU : Hid (u = []) := by
      have := textS_torn st1 400 (by rw [H2.out]; exact ht)
      rw [H2.out] at this; exact this
    rw [HU.out] at C5
    have C5 : Hid (∀ w1 g, Tp w1 g st1 → Calls Try.prog 34 #[.pointer (some ⟨g, 0, none⟩), .int .i64 400] w1 fun e w' => e = .returned (.string ⟨#[]⟩) ∧ Tp w' g st2 ∧ Grw g w1 w') := C5
    have C6 : Hid (∀ w1 g, Tp w1 g st2 → Calls Try.prog 27 #[.pointer (some ⟨g, 0, none⟩)] w1 fun e w' => e = .returned (.int .i64 4) ∧ w1 = w') := fun w1 g h => by
      have := err_any g _ w1 h; rw [errS, ht] at this; exact this
    clear ht hp
    go_enter Try.func9, Try.ntmps9
    go_wp2_with (first
      | (go_at_call 12; refine CA.out.mono ?_; rintro e1 w1 ⟨rfl, rfl⟩)
      | (go_at_call 20; refine CT.out.mono ?_; rintro e2 w2 ⟨g, rfl, hg, ht, hb2⟩
         have G2 : Hid (w.heap.size ≤ g) := Nat.le_trans (conv_below s w).size hg
         have T2 := hid ht
         have B2 : Hid (Below w.heap.size w w2) := (conv_below s w).trans (hb2.mono (conv_below s w).size)
         clear hg ht hb2)
      | (go_at_call 23; refine (C4.out _ _ T2.out).mono ?_; rintro e3 w3 ⟨rfl, ht, hg⟩
         have T3 := hid ht
         have B3 : Hid (Below w.heap.size w w3) := Grw.below B2.out hg G2.out B2.out.size
         clear ht hg T2 B2)
      | (go_at_call 34; refine (C5.out _ _ T3.out).mono ?_; rintro e4 w4 ⟨rfl, ht, hg⟩
         have T4 := hid ht
         have B4 : Hid (Below w.heap.size w w4) := Grw.below B3.out hg G2.out B3.out.size
         have P4 : Hid (0 < w4.heap.size) := Nat.lt_of_lt_of_le HP.out B4.out.size
         have CW := hid (works_any w4 P4.out)
         clear ht hg T3 B3)
      | (go_at_call 27; refine (C6.out _ _ T4.out).mono ?_; rintro e5 w5 ⟨rfl, rfl⟩)
      | (go_at_call 17; refine CW.out.mono ?_; rintro e6 w6 ⟨rfl, hb6⟩))
    go_ret
    exact ⟨rfl, B4.out.trans (hb6.mono B4.out.size)⟩
end Go.Proofs.Ytdmdddmfiankhaa
