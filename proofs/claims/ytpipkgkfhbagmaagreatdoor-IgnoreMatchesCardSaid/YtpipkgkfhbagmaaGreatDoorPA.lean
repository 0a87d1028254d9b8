/- The world of the path calls; the order of texts (path.Cmp): what it answers of any two texts. Conditions: at most 2^47 bytes each. -/
import Derived.Test.YtpipkgkfhbagmaaGreatDoorShelf
import Derived.WalkKit
import Derived.WalkSpells
import Derived.WalkLawsBesides
import Derived.BigQuiet
import Derived.Deep.QuietTactic
import Derived.Deep.Draws
import Derived.ChangeAgain
import Derived.Lib.LaidTab
import Derived.WalkMore
namespace Go.RowKit
theorem Below.drewN' {B : Nat} {a w : World} (h : Below B a w) (n : Nat) : Below B a (w.drewN n) := ⟨h.os, h.tape, h.output, h.size, h.block⟩
theorem Below.rowK {B : Nat} {a w : World} (h : Below B a w) {g : Nat} (hg : B ≤ g) (cs : Array Value) : Below B a (w.setRow g cs) :=
  h.trans ⟨rfl, rfl, rfl, by simp, fun k hk => setRow_other w g k cs (by omega)⟩
end Go.RowKit
namespace Go.Proofs.YtpipkgkfhbagmaaGreatDoor
open Go.RowKit
theorem hid {p : Prop} (h : p) : Hid p := h
/-- A byte's number. -/
def b8 (x : UInt8) : Int := (x.toNat : Int)
theorem b8_nonneg (x : UInt8) : 0 ≤ b8 x := by unfold b8; omega
theorem b8_lt (x : UInt8) : b8 x < 256 := by have := x.toNat_lt; unfold b8; omega
theorem b8_inj {x y : UInt8} (h : b8 x = b8 y) : x = y := UInt8.toNat_inj.1 (by unfold b8 at h; omega)
/-- A text's bytes. -/
abbrev tl (s : ByteArray) : List UInt8 := s.data.toList
def at8 (l : List UInt8) (i : Nat) : UInt8 := l.getD i 0
theorem tl_length (s : ByteArray) : (tl s).length = s.size := by simp [tl]
theorem i64in (x : Int) (h0 : -9223372036854775808 ≤ x) (h : x < 9223372036854775808) : IntKind.i64.wrap x = x := by
  simp [IntKind.wrap, IntKind.signed, IntKind.bits]; omega
/-- A text's byte, as the walk asks it. -/
theorem index_str (s : ByteArray) (i : Nat) (h : i < s.size) (w : World) : (Instr.index 9 (.string s) (.int .i64 (i : Int))).run Tryz.prog w = .ok (.int .u8 (b8 (at8 (tl s) i))) w := by
  rw [run_index_string (P := Tryz.prog) w 9 s .i64 (i : Int) Tryz.underlying9, dif_pos ⟨by omega, by omega⟩]
  have : s[(i : Int).toNat]'(by simpa using h) = at8 (tl s) i := by
    have h2 : i < s.data.toList.length := by simpa using h
    show s[i] = _
    simp only [at8, tl, List.getD, List.getElem?_eq_getElem h2, Option.getD_some]
    rfl
  rw [this]; rfl
/-- The order of two texts. -/
def rk (c : UInt8) : Nat := if c = 47 then 0 else c.toNat + 1
def cmpL : List UInt8 → List UInt8 → Int
  | [], [] => 0
  | [], _ :: _ => -1
  | _ :: _, [] => 1
  | x :: a, y :: b => if x = y then cmpL a b else if rk x < rk y then -1 else 1
theorem cmpL_drop (a b : List UInt8) (k : Nat) (h1 : k ≤ a.length) (h2 : k ≤ b.length) (h : a.take k = b.take k) : cmpL a b = cmpL (a.drop k) (b.drop k) := by
  induction k generalizing a b with
  | zero => rfl
  | succ k ih =>
    match a, b, h1, h2 with
    | x :: a, y :: b, h1, h2 =>
      simp only [List.take_succ_cons, List.cons.injEq] at h
      simp only [List.length_cons] at h1 h2
      obtain ⟨rfl, h⟩ := h
      rw [cmpL, if_pos rfl, ih a b (by omega) (by omega) h]; rfl
theorem cmpL_end (a b : List UInt8) (k : Nat) (hk : k = min a.length b.length) (h : a.take k = b.take k) : cmpL a b = Lib.compareInt (a.length : Int) (b.length : Int) := by
  rw [cmpL_drop a b k (by omega) (by omega) h]
  rcases Nat.lt_trichotomy a.length b.length with h1 | h1 | h1
  · rw [List.drop_of_length_le (l := a) (by omega), List.drop_eq_getElem_cons (l := b) (i := k) (by omega), cmpL]
    simp [Lib.compareInt]; omega
  · rw [List.drop_of_length_le (l := a) (by omega), List.drop_of_length_le (l := b) (by omega), cmpL]
    simp [Lib.compareInt]; omega
  · rw [List.drop_of_length_le (l := b) (by omega), List.drop_eq_getElem_cons (l := a) (i := k) (by omega), cmpL]
    simp [Lib.compareInt]; omega
theorem cmpL_at (a b : List UInt8) (k : Nat) (h1 : k < a.length) (h2 : k < b.length) (h : a.take k = b.take k) (hne : at8 a k ≠ at8 b k) : cmpL a b = if rk (at8 a k) < rk (at8 b k) then -1 else 1 := by
  rw [cmpL_drop a b k (by omega) (by omega) h, List.drop_eq_getElem_cons h1, List.drop_eq_getElem_cons h2, cmpL]
  have e1 : at8 a k = a[k] := by simp [at8, List.getD, List.getElem?_eq_getElem h1]
  have e2 : at8 b k = b[k] := by simp [at8, List.getD, List.getElem?_eq_getElem h2]
  rw [e1, e2] at hne
  rw [if_neg hne, e1, e2]
theorem take_same {a b : List UInt8} {k : Nat} (h1 : k < a.length) (h2 : k < b.length) (h : a.take k = b.take k) (he : at8 a k = at8 b k) : a.take (k + 1) = b.take (k + 1) := by
  rw [List.take_succ_eq_append_getElem h1, List.take_succ_eq_append_getElem h2, h]
  have e1 : at8 a k = a[k] := by simp [at8, List.getD, List.getElem?_eq_getElem h1]
  have e2 : at8 b k = b[k] := by simp [at8, List.getD, List.getElem?_eq_getElem h2]
  rw [← e1, ← e2, he]
theorem ret_i64 {a b : Int} (h : a = b) : Ending.returned (.int .i64 a) = .returned (.int .i64 b) := by rw [h]
end Go.Proofs.YtpipkgkfhbagmaaGreatDoor
