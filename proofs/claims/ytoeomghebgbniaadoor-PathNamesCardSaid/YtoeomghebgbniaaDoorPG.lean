/- The parts of path.Conflict: extension, first, padded, beside. Conditions: a world in which the listed variables lie, bounded lengths. -/
import Derived.Test.YtoeomghebgbniaaDoorPF
import Derived.Lib.ItoaLen
namespace Go.Proofs.YtoeomghebgbniaaDoor
open Go.RowKit
theorem ba_append (a b : ByteArray) : a ++ b = ba (tl a ++ tl b) := by
  apply ByteArray.ext; apply Array.ext'; simp [ba, tl]
theorem below_grow {w : World} (k : Nat) (os : Array Obj) : Below w.heap.size w (Sort.grow (w.drewN k) os) :=
  ⟨rfl, rfl, rfl, by simp [Sort.grow], fun j hj => by
    show ((w.drewN k).heap ++ os)[j]? = _
    rw [Array.getElem?_append_left (by simpa using hj)]; rfl⟩
def lastDot (s : ByteArray) : Int := Lib.lastIndexByte s 46
/-- A part's extension. -/
def extS (s : ByteArray) : List UInt8 := if lastDot s ≤ 0 ∨ 8 < (s.size : Int) - lastDot s then [] else (tl s).drop (lastDot s).toNat
theorem lastDot_le (s : ByteArray) : lastDot s < s.size ∧ -1 ≤ lastDot s := by
  unfold lastDot
  rcases Lib.lastIndexByte_spec s 46 with ⟨h, _⟩ | ⟨i, hi, h, _⟩
  · rw [h]; omega
  · rw [h]; omega
theorem lastDot_any (s : ByteArray) (w : World) (hs : s.size ≤ 4000) :
    Calls Tryd.prog 50 #[.string s, .int .u8 46] w fun e w' => e = .returned (.int .i64 (lastDot s)) ∧ w = w' :=
  (Tryd.strings_LastIndexByte s 46 (by omega) w).mono fun _ _ ⟨a, b⟩ => ⟨a, b.symm⟩
theorem ret_str {a b : ByteArray} (h : a = b) : Ending.returned (.string a) = .returned (.string b) := by rw [h]
set_option maxRecDepth 100000 in
set_option maxHeartbeats 400000 in
theorem extension_any (s : ByteArray) (w : World) (hs : s.size ≤ 4000) :
    Calls Tryd.prog 25 #[.string s] w fun e w' => e = .returned (.string (ba (extS s))) ∧ w = w' := by
  have hl := lastDot_le s
  obtain ⟨i, HI⟩ : ∃ i, Hid (lastDot s = i) := ⟨_, rfl⟩
  have HC : Hid (∀ w, Calls Tryd.prog 50 #[.string s, .int .u8 46] w fun e w' => e = .returned (.int .i64 i) ∧ w = w') := by
    intro w; rw [← HI.out]; exact lastDot_any s w hs
  rw [HI.out] at hl
  obtain ⟨h1, h2⟩ := hl
  by_cases h3 : i ≤ 0
  · have HV : Hid (extS s = []) := by show _ = _; unfold extS; rw [HI.out, if_pos (Or.inl h3)]
    go_enter Tryd.func25, Tryd.ntmps25
    go_wp2_with (go_at_call 50; refine (HC.out _).mono ?_; rintro e1 w1 ⟨rfl, rfl⟩)
    go_ret
    exact ⟨ret_str (by rw [HV.out]; rfl), rfl⟩
  · obtain ⟨n, rfl⟩ := Int.eq_ofNat_of_zero_le (a := i) (by omega)
    by_cases h4 : 8 < (s.size : Int) - (n : Int)
    · have HV : Hid (extS s = []) := by show _ = _; unfold extS; rw [HI.out, if_pos (Or.inr h4)]
      go_enter Tryd.func25, Tryd.ntmps25
      go_wp2_with (go_at_call 50; refine (HC.out _).mono ?_; rintro e1 w1 ⟨rfl, rfl⟩)
      go_ret
      exact ⟨ret_str (by rw [HV.out]; rfl), rfl⟩
    · have HV : Hid (extS s = (tl s).drop n) := by show _ = _; unfold extS; rw [HI.out, if_neg (by omega)]; rfl
      have h5 : (n : Int) ≤ (s.size : Int) := by omega
      go_enter Tryd.func25, Tryd.ntmps25
      go_wp2_with (go_at_call 50; refine (HC.out _).mono ?_; rintro e1 w1 ⟨rfl, rfl⟩)
      go_ret
      exact ⟨ret_str (by rw [HV.out, ← ba_drop]), rfl⟩
set_option maxRecDepth 100000 in
set_option maxHeartbeats 400000 in
theorem first_any (s : ByteArray) (n : Int) (w : World) (_hs : s.size ≤ 4000) (h0 : 0 ≤ n) (h1 : n ≤ 4000) :
    Calls Tryd.prog 18 #[.string s, .int .i64 n] w fun e w' => e = .returned (.string (ba ((tl s).take n.toNat))) ∧ w = w' := by
  obtain ⟨k, rfl⟩ := Int.eq_ofNat_of_zero_le h0
  have hm : min (s.size : Int) (k : Int) = ((min s.size k : Nat) : Int) := by omega
  have hle : ((min s.size k : Nat) : Int) ≤ (s.size : Int) := by omega
  have HT : Hid ((tl s).take (min s.size k) = (tl s).take k) := by
    show _ = _; rw [← tl_length s]; rw [List.take_eq_take_iff]; omega
  go_enter Tryd.func18, Tryd.ntmps18
  go_wp2
  go_ret
  refine ⟨ret_str ?_, rfl⟩
  rw [Int.toNat_natCast, ← HT.out, ← ba_take]
/-- A number's decimal digits, with noughts ahead. -/
def padL (n : Int) (m : Nat) : List UInt8 := List.replicate (m - (Lib.itoa n).length) 48 ++ Lib.itoa n
theorem repeat_any (c : Nat) (hc : c ≤ 4000) (r : ByteArray) (hr : Hid (ba (List.replicate c 48) = r)) (w : World) : Calls Tryd.prog 53 #[.string ⟨#[48]⟩, .int .i64 (c : Int)] w fun e w' => e = .returned (.string r) ∧ Below w.heap.size w w' := by
  refine (Tryd.strings_Repeat ⟨#[48]⟩ c w (by omega) (by show 1 * c ≤ _; omega)).mono fun e w' ⟨h1, h2⟩ => ⟨?_, h2⟩
  rw [h1]
  have : Lib.repeatL [48] c = List.replicate c 48 := by
    have := Lib.repeatL_replicate 48 1 c
    simpa using this
  show Ending.returned (.string ⟨(Lib.repeatL [48] c).toArray⟩) = _
  rw [this, ← hr.out]; rfl
theorem fmt_any (n : Int) (h0 : 0 ≤ n) (h1 : n ≤ 4294967295) (d : ByteArray) (h : Hid (ba (Lib.itoa n) = d)) (w : World) (hG : Gd w) : Calls Tryd.prog 52 #[.int .i64 n, .int .i64 10] w fun e w' => e = .returned (.string d) ∧ Below w.heap.size w w' := by
  refine (Tryd.strconv_FormatInt_10 n (by omega) (by omega) w hG.2.1).mono fun e w' ⟨h1, k, os, h2⟩ => ⟨?_, ?_⟩
  · rw [h1, ← h.out]; rfl
  · rw [h2]; exact below_grow k os
theorem nDigits_bound (k : Nat) : ∀ u, u < 10 ^ (k + 1) → Lib.nDigits u ≤ k + 1 := by
  induction k with
  | zero => intro u h; rw [Lib.nDigits_small (by simpa using h)]; omega
  | succ k ih =>
    intro u h
    by_cases h1 : u < 10
    · rw [Lib.nDigits_small h1]; omega
    · rw [Lib.nDigits, dif_neg h1]
      have := ih (u / 10) (by rw [Nat.pow_succ] at h; omega)
      omega
set_option maxRecDepth 100000 in
set_option maxHeartbeats 400000 in
theorem padded_any (n : Int) (h0 : 0 ≤ n) (h1 : n ≤ 4294967295) (m : Nat) (hm : m ≤ 100) (w : World) (hG : Gd w) :
    Calls Tryd.prog 27 #[.int .i64 n, .int .i64 (m : Int)] w fun e w' => e = .returned (.string (ba (padL n m))) ∧ Below w.heap.size w w' := by
  obtain ⟨d, HD⟩ : ∃ d, Hid (ba (Lib.itoa n) = d) := ⟨_, rfl⟩
  have hd : d.size ≤ 4000 := by
    rw [← HD.out, ba_size, Lib.itoa, if_neg (by omega), Lib.decDigits_length]
    have := Lib.nDigits_le20 n.toNat (by omega); omega
  obtain ⟨c, HC⟩ : ∃ c, Hid (m - d.size = c) := ⟨_, rfl⟩
  have hc : max (0 : Int) ((m : Int) - (d.size : Int)) = (c : Int) := by have := HC.out; omega
  have hc2 : c ≤ 4000 := by have := HC.out; omega
  have HV : Hid (padL n m = List.replicate c 48 ++ tl d) := by
    show _ = _; rw [← HC.out, ← HD.out, ba_size, tl_ba]; rfl
  have HF := hid (fmt_any n h0 h1 d HD w hG)
  obtain ⟨r, HR0⟩ : ∃ r, Hid (ba (List.replicate c 48) = r) := ⟨_, rfl⟩
  have hr : r.size ≤ 4000 := by rw [← HR0.out, ba_size, List.length_replicate]; exact hc2
  have HR := hid (repeat_any c hc2 r HR0)
  clear hG
  go_enter Tryd.func27, Tryd.ntmps27
  go_wp2_with (first
    | (go_at_call 52; refine HF.out.mono ?_; rintro e1 w1 ⟨rfl, hb1⟩; have B1 := hid hb1; clear hb1)
    | (go_at_call 53; refine (HR.out _).mono ?_; rintro e2 w2 ⟨rfl, hb2⟩; have B2 : Hid (Below w.heap.size w w2) := B1.out.trans (hb2.mono B1.out.size); clear hb2))
  go_ret
  refine ⟨ret_str ?_, B2.out⟩
  rw [HV.out, ← HR0.out, ba_append, tl_ba]
/-- A part in a parent. -/
def besideL (p b : List UInt8) : List UInt8 := if p = [] then b else p ++ 47 :: b
set_option maxRecDepth 100000 in
set_option maxHeartbeats 400000 in
theorem beside_any (a b c : ByteArray) (w : World) (ha : a.size ≤ 4000) (hc : c.size ≤ 4000) :
    Calls Tryd.prog 17 #[.agg #[.string a, .string b], .string c] w fun e w' => e = .returned (.string (ba (besideL (tl a) (tl c)))) ∧ Below w.heap.size w w' := by
  by_cases h : a.toList = []
  · have HV : Hid (besideL (tl a) (tl c) = tl c) := by show _ = _; rw [besideL, if_pos (by rw [← toList_tl, h])]
    go_enter Tryd.func17, Tryd.ntmps17
    go_wp2
    go_ret
    refine ⟨ret_str (by rw [HV.out, ba_tl]), ?_⟩
    exact (Below.refl _ _).alloc (Nat.le_refl _) _
  · have h' : a.toList.isEmpty = false := by simpa using h
    have HV : Hid (besideL (tl a) (tl c) = tl a ++ 47 :: tl c) := by show _ = _; rw [besideL, if_neg (by rw [← toList_tl]; exact h)]
    go_enter Tryd.func17, Tryd.ntmps17
    go_wp2
    go_ret
    refine ⟨ret_str ?_, ?_⟩
    · rw [HV.out]
      apply ByteArray.ext; apply Array.ext'; simp [ba, tl]
    · exact (Below.refl _ _).alloc (Nat.le_refl _) _
theorem trim_any (s p : ByteArray) (w : World) (hs : s.size ≤ 4000) : Calls Tryd.prog 26 #[.string s, .string p] w fun e w' => e = .returned (.string (ba (Lib.trimSuffix (tl s) (tl p)))) ∧ w = w' :=
  (Tryd.strings_TrimSuffix s p w (by omega)).mono fun _ _ ⟨a, b⟩ => ⟨a, b.symm⟩
end Go.Proofs.YtoeomghebgbniaaDoor
