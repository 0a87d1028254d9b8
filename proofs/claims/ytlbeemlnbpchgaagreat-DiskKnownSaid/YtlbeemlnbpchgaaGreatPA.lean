/- The world of the path calls; the order of texts (path.Cmp): what it answers of any two texts. Conditions: at most 2^47 bytes each. -/
import Derived.Test.YtlbeemlnbpchgaaGreatShelf
import Derived.WalkKit
import Derived.WalkSpells
import Derived.WalkLawsBesides
import Derived.BigQuiet
import Derived.Deep.QuietTactic
import Derived.Deep.Draws
import Derived.ChangeAgain
import Derived.Lib.LaidTab
import Derived.WalkMore
namespace Go.RowKit
theorem Below.drewN' {B : Nat} {a w : World} (h : Below B a w) (n : Nat) : Below B a (w.drewN n) := ⟨h.os, h.tape, h.output, h.size, h.block⟩
theorem Below.rowK {B : Nat} {a w : World} (h : Below B a w) {g : Nat} (hg : B ≤ g) (cs : Array Value) : Below B a (w.setRow g cs) :=
  h.trans ⟨rfl, rfl, rfl, by simp, fun k hk => setRow_other w g k cs (by omega)⟩
end Go.RowKit
namespace Go.Proofs.YtlbeemlnbpchgaaGreat
open Go.RowKit
theorem hid {p : Prop} (h : p) : Hid p := h
/-- A byte's number. -/
def b8 (x : UInt8) : Int := (x.toNat : Int)
theorem b8_nonneg (x : UInt8) : 0 ≤ b8 x := by unfold b8; omega
theorem b8_lt (x : UInt8) : b8 x < 256 := by have := x.toNat_lt; unfold b8; omega
theorem b8_inj {x y : UInt8} (h : b8 x = b8 y) : x = y := UInt8.toNat_inj.1 (by unfold b8 at h; omega)
/-- A text's bytes. -/
abbrev tl (s : ByteArray) : List UInt8 := s.data.toList
def at8 (l : List UInt8) (i : Nat) : UInt8 := l.getD i 0
theorem tl_length (s : ByteArray) : (tl s).length = s.size := by simp [tl]
theorem i64in (x : Int) (h0 : -9223372036854775808 ≤ x) (h : x < 9223372036854775808) : IntKind.i64.wrap x = x := by
  simp [IntKind.wrap, IntKind.signed, IntKind.bits]; omega
/-- A text's byte, as the walk asks it. -/
theorem index_str (s : ByteArray) (i : Nat) (h : i < s.size) (w : World) : (Instr.index 9 (.string s) (.int .i64 (i : Int))).run Tryz.prog w = .ok (.int .u8 (b8 (at8 (tl s) i))) w := by
  rw [run_index_string (P := Tryz.prog) w 9 s .i64 (i : Int) Tryz.underlying9, dif_pos ⟨by omega, by omega⟩]
  have : s[(i : Int).toNat]'(by simpa using h) = at8 (tl s) i := by
    have h2 : i < s.data.toList.length := by simpa using h
    show s[i] = _
    simp only [at8, tl, List.getD, List.getElem?_eq_getElem h2, Option.getD_some]
    rfl
  rw [this]; rfl
/-- The order of two texts. -/
def rk (c : UInt8) : Nat := if c = 47 then 0 else c.toNat + 1
def cmpL : List UInt8 → List UInt8 → Int
  | [], [] => 0
  | [], _ :: _ => -1
  | _ :: _, [] => 1
  | x :: a, y :: b => if x = y then cmpL a b else if rk x < rk y then -1 else 1
theorem cmpL_drop (a b : List UInt8) (k : Nat) (h1 : k ≤ a.length) (h2 : k ≤ b.length) (h : a.take k = b.take k) : cmpL a b = cmpL (a.drop k) (b.drop k) := by
  induction k generalizing a b with
  | zero => rfl
  | succ k ih =>
    match a, b, h1, h2 with
    | x :: a, y :: b, h1, h2 =>
      simp only [List.take_succ_cons, List.cons.injEq] at h
      simp only [List.length_cons] at h1 h2
      obtain ⟨rfl, h⟩ := h
      rw [cmpL, if_pos rfl, ih a b (by omega) (by omega) h]; rfl
theorem cmpL_end (a b : List UInt8) (k : Nat) (hk : k = min a.length b.length) (h : a.take k = b.take k) : cmpL a b = Lib.compareInt (a.length : Int) (b.length : Int) := by
  rw [cmpL_drop a b k (by omega) (by omega) h]
  rcases Nat.lt_trichotomy a.length b.length with h1 | h1 | h1
  · rw [List.drop_of_length_le (l := a) (by omega), List.drop_eq_getElem_cons (l := b) (i := k) (by omega), cmpL]
    simp [Lib.compareInt]; omega
  · rw [List.drop_of_length_le (l := a) (by omega), List.drop_of_length_le (l := b) (by omega), cmpL]
    simp [Lib.compareInt]; omega
  · rw [List.drop_of_length_le (l := b) (by omega), List.drop_eq_getElem_cons (l := a) (i := k) (by omega), cmpL]
    simp [Lib.compareInt]; omega
theorem cmpL_at (a b : List UInt8) (k : Nat) (h1 : k < a.length) (h2 : k < b.length) (h : a.take k = b.take k) (hne : at8 a k ≠ at8 b k) : cmpL a b = if rk (at8 a k) < rk (at8 b k) then -1 else 1 := by
  rw [cmpL_drop a b k (by omega) (by omega) h, List.drop_eq_getElem_cons h1, List.drop_eq_getElem_cons h2, cmpL]
  have e1 : at8 a k = a[k] := by simp [at8, List.getD, List.getElem?_eq_getElem h1]
  have e2 : at8 b k = b[k] := by simp [at8, List.getD, List.getElem?_eq_getElem h2]
  rw [e1, e2] at hne
  rw [if_neg hne, e1, e2]
theorem take_same {a b : List UInt8} {k : Nat} (h1 : k < a.length) (h2 : k < b.length) (h : a.take k = b.take k) (he : at8 a k = at8 b k) : a.take (k + 1) = b.take (k + 1) := by
  rw [List.take_succ_eq_append_getElem h1, List.take_succ_eq_append_getElem h2, h]
  have e1 : at8 a k = a[k] := by simp [at8, List.getD, List.getElem?_eq_getElem h1]
  have e2 : at8 b k = b[k] := by simp [at8, List.getD, List.getElem?_eq_getElem h2]
  rw [← e1, ← e2, he]
theorem ret_i64 {a b : Int} (h : a = b) : Ending.returned (.int .i64 a) = .returned (.int .i64 b) := by rw [h]
theorem cmpInt_any (x y : Int) (w : World) : Calls Tryz.prog 92 #[.int .i64 x, .int .i64 y] w fun e w' => e = .returned (.int .i64 (Lib.compareInt x y)) ∧ w = w' :=
  (Tryz.cmp_Compare_int x y w).mono fun _ _ ⟨a, b⟩ => ⟨a, b.symm⟩
theorem drewYtlbeemlnbpchgaaGreatadd (w : World) (a b : Nat) : (w.drewN a).drewN b = w.drewN (a + b) := by
  simp [World.drewN, Nat.add_assoc]
set_option maxRecDepth 100000 in
set_option maxHeartbeats 400000 in
theorem cmp_any (a b : ByteArray) (w : World) (ha : a.size ≤ 140737488355328) (hb : b.size ≤ 140737488355328) :
    Calls Tryz.prog 42 #[.string a, .string b] w fun e w' => e = .returned (.int .i64 (cmpL (tl a) (tl b))) ∧ ∃ n, w' = w.drewN n := by
  go_enter Tryz.func42, Tryz.ntmps42
  go_wp2
  go_step3
  go_wp2_with (go_at_call 92; refine (cmpInt_any _ _ _).mono ?_; rintro e1 w1 ⟨rfl, rfl⟩)
  go_step3
  go_wp2
  go_loopw [5, 19] (fun v i wr => ∃ k : Nat, k ≤ a.size ∧ k ≤ b.size ∧ i = .int .i64 (k : Int) ∧ v = .int .i64 (Lib.compareInt (a.size : Int) (b.size : Int)) ∧ Hid ((tl a).take k = (tl b).take k) ∧ Hid (∃ n, wr = w.drewN n))
    (fun _ i _ => a.size - (intOf i).toNat)
  case atStart => exact ⟨0, by omega, by omega, rfl, rfl, rfl, 0, rfl⟩
  case round =>
    obtain ⟨k, hk1, hk2, rfl, rfl, HT, HB⟩ := hrel
    by_cases hlt : k < a.size ∧ k < b.size
    · obtain ⟨l1, l2⟩ := hlt
      have i1 := index_str a k l1
      have i2 := index_str b k l2
      have HS := hid (fun he : at8 (tl a) k = at8 (tl b) k => take_same (a := tl a) (b := tl b) (by rw [tl_length]; exact l1) (by rw [tl_length]; exact l2) HT.out he)
      have HD := hid (fun he : at8 (tl a) k ≠ at8 (tl b) k => cmpL_at (tl a) (tl b) k (by rw [tl_length]; exact l1) (by rw [tl_length]; exact l2) HT.out he)
      generalize at8 (tl a) k = x at i1 HS HD
      generalize at8 (tl b) k = y at i2 HS HD
      have b1 := b8_nonneg x
      have b2 := b8_nonneg y
      have b3 := b8_lt x
      have b4 := b8_lt y
      have bx : x = 47 ↔ b8 x = 47 := ⟨fun h => by rw [h]; rfl, fun h => b8_inj h⟩
      have by' : y = 47 ↔ b8 y = 47 := ⟨fun h => by rw [h]; rfl, fun h => b8_inj h⟩
      have rx : rk x = if b8 x = 47 then 0 else (b8 x).toNat + 1 := by simp only [rk, bx]; rfl
      have ry : rk y = if b8 y = 47 then 0 else (b8 y).toNat + 1 := by simp only [rk, by']; rfl
      by_cases hxy : x = y
      · subst hxy
        have q1 : (b8 x == b8 x) = true := by simp
        have HS2 := hid (HS.out rfl)
        clear HD bx by' rx ry HS
        go_wp2
        go_quiet (fail)
        go_wp2
        go_roundw
        case rel => exact ⟨k + 1, by omega, by omega, by go_num, rfl, HS2.out, HB.out.elim fun n hn => ⟨n + _, by rw [hn]; exact drewYtlbeemlnbpchgaaGreatadd _ _ _⟩⟩
        case measure => simp [intOf]; omega
      · have q1 : (b8 x == b8 y) = false := by
          simp only [beq_eq_false_iff_ne, ne_eq]; exact fun h => hxy (b8_inj h)
        have HF := hid (HD.out hxy)
        have HN : Hid (b8 x ≠ b8 y) := fun h => hxy (b8_inj h)
        have HX := hid rx
        have HY := hid ry
        clear HD HS hxy rx ry bx by'
        by_cases c1 : b8 x = 47
        · have q2 : (b8 x == 47) = true := by simp [c1]
          have hv : cmpL (tl a) (tl b) = -1 := by
            rw [HF.out, if_pos]; rw [HX.out, HY.out, if_pos c1]; have := HN.out; split <;> omega
          have HV := hid hv
          clear c1 hv
          go_wp2
          go_quiet (fail)
          go_wp2
          rw [Exit.noGoto_ret]
          go_ret
          exact ⟨ret_i64 HV.out.symm, HB.out.elim fun n hn => ⟨n + _, by rw [hn]; exact drewYtlbeemlnbpchgaaGreatadd _ _ _⟩⟩
        · have q2 : (b8 x == 47) = false := by simp [c1]
          by_cases c2 : b8 y = 47
          · have q3 : (b8 y == 47) = true := by simp [c2]
            have q3' : (b8 y != 47) = false := by simp [c2]
            have hv : cmpL (tl a) (tl b) = 1 := by
              rw [HF.out, if_neg]; rw [HX.out, HY.out, if_pos c2, if_neg c1]; omega
            have HV := hid hv
            clear c1 c2 hv
            go_wp2
            go_quiet (fail)
            go_wp2
            rw [Exit.noGoto_ret]
            go_ret
            exact ⟨ret_i64 HV.out.symm, HB.out.elim fun n hn => ⟨n + _, by rw [hn]; exact drewYtlbeemlnbpchgaaGreatadd _ _ _⟩⟩
          · have q3 : (b8 y == 47) = false := by simp [c2]
            have q3' : (b8 y != 47) = true := by simp [c2]
            by_cases c3 : b8 x < b8 y
            · have q4 : decide (b8 x < b8 y) = true := by simp [c3]
              have hv : cmpL (tl a) (tl b) = -1 := by
                rw [HF.out, if_pos]; rw [HX.out, HY.out, if_neg c2, if_neg c1]; omega
              have HV := hid hv
              clear c1 c2 hv
              go_wp2
              go_quiet (fail)
              go_wp2
              rw [Exit.noGoto_ret]
              go_ret
              exact ⟨ret_i64 HV.out.symm, HB.out.elim fun n hn => ⟨n + _, by rw [hn]; exact drewYtlbeemlnbpchgaaGreatadd _ _ _⟩⟩
            · have q4 : decide (b8 x < b8 y) = false := by simp [c3]
              have hv : cmpL (tl a) (tl b) = 1 := by
                rw [HF.out, if_neg]; rw [HX.out, HY.out, if_neg c2, if_neg c1]; omega
              have HV := hid hv
              clear c1 c2 hv
              go_wp2
              go_quiet (fail)
              go_wp2
              rw [Exit.noGoto_ret]
              go_ret
              exact ⟨ret_i64 HV.out.symm, HB.out.elim fun n hn => ⟨n + _, by rw [hn]; exact drewYtlbeemlnbpchgaaGreatadd _ _ _⟩⟩
    · have HK : Hid (k = min a.size b.size) := by show _ = _; omega
      go_wp2
      try rw [Exit.noGoto_ret]
      go_ret
      refine ⟨ret_i64 ?_, HB.out⟩
      rw [cmpL_end (tl a) (tl b) k (by rw [tl_length, tl_length]; exact HK.out) HT.out, tl_length, tl_length]
end Go.Proofs.YtlbeemlnbpchgaaGreat
