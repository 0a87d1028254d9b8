/- path.Conflict: what it answers of any text, time and device. Conditions: a world in which the listed variables lie, at most 4000 bytes. -/
import Derived.Test.YtoeomghebgbniaaDoorPG
namespace Go.Proofs.YtoeomghebgbniaaDoor
open Go.RowKit
def markL : List UInt8 := [46, 115, 121, 110, 99, 45, 99, 111, 110, 102, 108, 105, 99, 116, 45]
def stemL (l : List UInt8) : List UInt8 := (Lib.trimSuffix l (extS (ba l))).take (20 - (extS (ba l)).length)
/-- The conflict part beside a last part. -/
def clashL (l : List UInt8) (t y : Int) : List UInt8 := stemL l ++ (markL ++ padL t 10 ++ 45 :: padL y 2) ++ extS (ba l)
/-- The conflict name. -/
def conflictL (p : List UInt8) (t y : Int) : List UInt8 := besideL (aheadL p) (clashL (lastP p) t y)
def okTB (t y : Int) : Bool := decide (0 ≤ t) && decide (t ≤ 4294967295) && decide (1 ≤ y) && decide (y ≤ 16)
def conflictV (p : List UInt8) (t y : Int) : List UInt8 × Bool := if mayB p && okTB t y then (conflictL p t y, true) else ([], false)
theorem extS_len (s : ByteArray) : (extS s).length ≤ 8 ∧ (extS s).length ≤ s.size := by
  have h := lastDot_le s
  unfold extS
  split
  · simp
  · rw [List.length_drop, tl_length]; omega
theorem padL_len (n : Int) (m : Nat) (h0 : 0 ≤ n) (h1 : n ≤ 4294967295) : (padL n m).length ≤ m + 20 := by
  rw [padL, List.length_append, List.length_replicate]
  have : (Lib.itoa n).length ≤ 20 := by
    rw [Lib.itoa, if_neg (by omega), Lib.decDigits_length]
    have := Lib.nDigits_le20 n.toNat (by omega); omega
  omega
theorem aheadL_len (l : List UInt8) : (aheadL l).length ≤ l.length := by rw [aheadL, List.length_take]; omega
theorem lastP_len (l : List UInt8) : (lastP l).length ≤ l.length := pieces_len _ l (Nat.le_refl _) _ (lastP_mem l)
theorem ret_str2 {a b : ByteArray} {c : Bool} (h : a = b) : Ending.returned (.tuple #[.string a, .bool c]) = .returned (.tuple #[.string b, .bool c]) := by rw [h]
set_option maxRecDepth 100000 in
set_option maxHeartbeats 1000000 in
theorem conflict_no (s : ByteArray) (t y : Int) (h : mayB (tl s) = false) (w : World) (hG : Gd w) (hs : s.size ≤ 4000) :
    Calls Tryd.prog 7 #[.string s, .int .i64 t, .int .i64 y] w fun e w' => e = .returned (.tuple #[.string ⟨#[]⟩, .bool false]) ∧ Below w.heap.size w w' := by
  have HM := hid h
  have HG := hid hG
  clear h hG
  go_enter Tryd.func7, Tryd.ntmps7
  go_wp2_with (go_at_call 14; refine (find_no s HM.out _ HG.out hs).mono ?_; rintro e1 w1 ⟨rfl, hb1⟩; have B1 := hid hb1; clear hb1)
  go_ret2
  exact ⟨rfl, B1.out.alloc B1.out.size _⟩
set_option maxRecDepth 100000 in
set_option maxHeartbeats 1000000 in
theorem conflict_bad (s : ByteArray) (t y : Int) (h : mayB (tl s) = true) (hb : okTB t y = false) (w : World) (hG : Gd w) (hs : s.size ≤ 4000) :
    Calls Tryd.prog 7 #[.string s, .int .i64 t, .int .i64 y] w fun e w' => e = .returned (.tuple #[.string ⟨#[]⟩, .bool false]) ∧ Below w.heap.size w w' := by
  have HG := hid hG
  obtain ⟨a, b, HV⟩ : ∃ a b, Hid (mayB (tl s) = true ∧ ba (aheadL (tl s)) = a ∧ ba (lastP (tl s)) = b) := ⟨_, _, h, rfl, rfl⟩
  have hbn : ¬ b.toList = [] := last_ne h HV.out.2.2
  have HO : Hid (¬ (0 ≤ t ∧ t ≤ 4294967295 ∧ 1 ≤ y ∧ y ≤ 16)) := by
    show ¬ _; intro ⟨h1, h2, h3, h4⟩; simp [okTB, h1, h2, h3, h4] at hb
  clear h hb hG
  by_cases ha : a.toList = [] <;> by_cases h1 : t < 0 <;> by_cases h2 : 4294967295 < t <;> by_cases h3 : y < 1 <;> by_cases h4 : 16 < y <;> first | (exfalso; have := HO.out; omega) | skip
  all_goals
    go_enter Tryd.func7, Tryd.ntmps7
    go_wp2_with (go_at_call 14; refine (find_yes s a b HV _ HG.out hs).mono ?_; rintro e1 w1 ⟨rfl, hb1⟩; have B1 := hid hb1; clear hb1)
    go_ret2
    exact ⟨rfl, B1.out.alloc B1.out.size _⟩
set_option maxRecDepth 100000 in
set_option maxHeartbeats 1000000 in
theorem conflict_yes (s : ByteArray) (t y : Int) (h : mayB (tl s) = true) (h1 : 0 ≤ t) (h2 : t ≤ 4294967295) (h3 : 1 ≤ y) (h4 : y ≤ 16) (w : World) (hG : Gd w) (hs : s.size ≤ 300) :
    Calls Tryd.prog 7 #[.string s, .int .i64 t, .int .i64 y] w fun e w' => e = .returned (.tuple #[.string (ba (conflictL (tl s) t y)), .bool true]) ∧ Below w.heap.size w w' := by
  have HG := hid hG
  obtain ⟨a, b, HV⟩ : ∃ a b, Hid (mayB (tl s) = true ∧ ba (aheadL (tl s)) = a ∧ ba (lastP (tl s)) = b) := ⟨_, _, h, rfl, rfl⟩
  have hbn : ¬ b.toList = [] := last_ne h HV.out.2.2
  have has : a.size ≤ 300 := by rw [← HV.out.2.1, ba_size]; have := aheadL_len (tl s); rw [tl_length] at this; omega
  have hbs : b.size ≤ 300 := by rw [← HV.out.2.2, ba_size]; have := lastP_len (tl s); rw [tl_length] at this; omega
  obtain ⟨x, HX⟩ : ∃ x, Hid (ba (extS b) = x) := ⟨_, rfl⟩
  have hxs : x.size ≤ 8 := by rw [← HX.out, ba_size]; exact (extS_len b).1
  obtain ⟨m, HM⟩ : ∃ m, Hid (ba (Lib.trimSuffix (tl b) (tl x)) = m) := ⟨_, rfl⟩
  have hms : m.size ≤ 300 := by
    rw [← HM.out, ba_size, Lib.trimSuffix]; split
    · rw [List.length_take, tl_length]; omega
    · rw [tl_length]; exact hbs
  obtain ⟨v, HB⟩ : ∃ v, Hid (ba ((tl m).take ((20 : Int) - (x.size : Int)).toNat) = v) := ⟨_, rfl⟩
  have hvs : v.size ≤ 300 := by rw [← HB.out, ba_size, List.length_take, tl_length]; omega
  obtain ⟨p, HP⟩ : ∃ p, Hid (ba (padL t 10) = p) := ⟨_, rfl⟩
  have hps : p.size ≤ 30 := by rw [← HP.out, ba_size]; exact padL_len t 10 h1 h2
  obtain ⟨q, HQ⟩ : ∃ q, Hid (ba (padL y 2) = q) := ⟨_, rfl⟩
  have hqs : q.size ≤ 30 := by rw [← HQ.out, ba_size]; have := padL_len y 2 (by omega) (by omega); omega
  have C1 : Hid (∀ W, Gd W → Calls Tryd.prog 27 #[.int .i64 t, .int .i64 10] W fun e w' => e = .returned (.string p) ∧ Below W.heap.size W w') := by
    intro W hW; rw [← HP.out]; exact padded_any t h1 h2 10 (by omega) W hW
  have C2 : Hid (∀ W, Gd W → Calls Tryd.prog 27 #[.int .i64 y, .int .i64 2] W fun e w' => e = .returned (.string q) ∧ Below W.heap.size W w') := by
    intro W hW; rw [← HQ.out]; exact padded_any y (by omega) (by omega) 2 (by omega) W hW
  have C3 : Hid (∀ W, Calls Tryd.prog 25 #[.string b] W fun e w' => e = .returned (.string x) ∧ W = w') := by
    intro W; rw [← HX.out]; exact extension_any b W (by omega)
  have C4 : Hid (∀ W, Calls Tryd.prog 26 #[.string b, .string x] W fun e w' => e = .returned (.string m) ∧ W = w') := by
    intro W; rw [← HM.out]; exact trim_any b x W (by omega)
  have C5 : Hid (∀ W, Calls Tryd.prog 18 #[.string m, .int .i64 ((20 : Int) - (x.size : Int))] W fun e w' => e = .returned (.string v) ∧ W = w') := by
    intro W; rw [← HB.out]; exact first_any m _ W (by omega) (by omega) (by omega)
  clear h hG
  by_cases ha : a.toList = []
  all_goals
    have hu1 : ¬ t < 0 := by omega
    have hu2 : ¬ 4294967295 < t := by omega
    have hu3 : ¬ y < 1 := by omega
    have hu4 : ¬ 16 < y := by omega
    go_enter Tryd.func7, Tryd.ntmps7
    go_wp2_with fail
    refine (find_yes s a b HV _ HG.out (by omega)).mono ?_; rintro e1 w1 ⟨rfl, hb1⟩; have B1 := hid hb1; clear hb1
    have A1 : Hid (Has (w1.alloc (.cells #[.string a, .string b] 30)) w1.heap.size 30 #[.string a, .string b]) := Has.fresh _ _ _
    have B2 : Hid (Below w.heap.size w (w1.alloc (.cells #[.string a, .string b] 30))) := B1.out.alloc B1.out.size _
    go_wp2_with fail
    refine (C3.out _).mono ?_; rintro e2 w2 ⟨rfl, rfl⟩
    go_wp2_with fail
    refine (C4.out _).mono ?_; rintro e3 w3 ⟨rfl, rfl⟩
    go_wp2_with fail
    refine (C5.out _).mono ?_; rintro e4 w4 ⟨rfl, rfl⟩
    go_wp2_with fail
    refine (C1.out _ (HG.out.kept B2.out)).mono ?_; rintro e5 w5 ⟨rfl, hb5⟩
    have A5 : Hid (Has w5 w1.heap.size 30 #[.string a, .string b]) := A1.out.kept hb5 (by simp)
    have B5 : Hid (Below w.heap.size w w5) := B2.out.trans (hb5.mono B2.out.size)
    clear hb5
    go_wp2_with fail
    refine (C2.out _ (HG.out.kept B5.out)).mono ?_; rintro e6 w6 ⟨rfl, hb6⟩
    have A6 : Hid (Has w6 w1.heap.size 30 #[.string a, .string b]) := A5.out.kept hb6 A5.out.inside
    have B6 : Hid (Below w.heap.size w w6) := B5.out.trans (hb6.mono B5.out.size)
    clear hb6
    have c0 : w6.cell? ⟨w1.heap.size, 0, none⟩ = some (.string a) := A6.out.at_ 0
    have c1 : w6.cell? ⟨w1.heap.size, 1, none⟩ = some (.string b) := A6.out.at_ 1
    go_wp2_with fail
    refine (beside_any a b _ _ (by omega) (by
      have k1 : (⟨#[46, 115, 121, 110, 99, 45, 99, 111, 110, 102, 108, 105, 99, 116, 45]⟩ : ByteArray).size = 15 := rfl
      have k2 : (⟨#[45]⟩ : ByteArray).size = 1 := rfl
      simp only [ByteArray.size_append, k1, k2]; omega)).mono ?_; rintro e7 w7 ⟨rfl, hb7⟩
    have B7 : Hid (Below w.heap.size w w7) := B6.out.trans (hb7.mono B6.out.size)
    clear hb7
    go_wp2
    go_ret2
    refine ⟨ret_str2 ?_, B7.out⟩
    rw [conflictL, clashL, stemL, ← HB.out, ← HM.out, ← HP.out, ← HQ.out, ← HX.out, ← HV.out.2.1, ← HV.out.2.2]
    simp only [tl_ba, ba_size]
    congr 2
    simp [tl, ba, markL]
end Go.Proofs.YtoeomghebgbniaaDoor
