/- Several texts in one: PA, PB, PC, PD. Conditions: those said at each. -/
import Derived.Test.YtlbeemlnbpchgaaGreatShelf
import Derived.WalkKit
import Derived.WalkSpells
import Derived.WalkLawsBesides
import Derived.BigQuiet
import Derived.Deep.QuietTactic
import Derived.Deep.Draws
import Derived.ChangeAgain
import Derived.Lib.LaidTab
import Derived.WalkMore
import Derived.Lib.IndexMore
import Derived.Deep.DeepFit
import Derived.OneCell
import Derived.Lib.SmallJoins
/- The world of the path calls; the order of texts (path.Cmp): what it answers of any two texts. Conditions: at most 2^47 bytes each. -/
namespace Go.RowKit
theorem Below.drewN' {B : Nat} {a w : World} (h : Below B a w) (n : Nat) : Below B a (w.drewN n) := ⟨h.os, h.tape, h.output, h.size, h.block⟩
theorem Below.rowK {B : Nat} {a w : World} (h : Below B a w) {g : Nat} (hg : B ≤ g) (cs : Array Value) : Below B a (w.setRow g cs) :=
  h.trans ⟨rfl, rfl, rfl, by simp, fun k hk => setRow_other w g k cs (by omega)⟩
end Go.RowKit
namespace Go.Proofs.YtlbeemlnbpchgaaGreat
open Go.RowKit
theorem hid {p : Prop} (h : p) : Hid p := h
/-- A byte's number. -/
def b8 (x : UInt8) : Int := (x.toNat : Int)
theorem b8_nonneg (x : UInt8) : 0 ≤ b8 x := by unfold b8; omega
theorem b8_lt (x : UInt8) : b8 x < 256 := by have := x.toNat_lt; unfold b8; omega
theorem b8_inj {x y : UInt8} (h : b8 x = b8 y) : x = y := UInt8.toNat_inj.1 (by unfold b8 at h; omega)
/-- A text's bytes. -/
abbrev tl (s : ByteArray) : List UInt8 := s.data.toList
def at8 (l : List UInt8) (i : Nat) : UInt8 := l.getD i 0
theorem tl_length (s : ByteArray) : (tl s).length = s.size := by simp [tl]
theorem i64in (x : Int) (h0 : -9223372036854775808 ≤ x) (h : x < 9223372036854775808) : IntKind.i64.wrap x = x := by
  simp [IntKind.wrap, IntKind.signed, IntKind.bits]; omega
/-- A text's byte, as the walk asks it. -/
theorem index_str (s : ByteArray) (i : Nat) (h : i < s.size) (w : World) : (Instr.index 9 (.string s) (.int .i64 (i : Int))).run Tryz.prog w = .ok (.int .u8 (b8 (at8 (tl s) i))) w := by
  rw [run_index_string (P := Tryz.prog) w 9 s .i64 (i : Int) Tryz.underlying9, dif_pos ⟨by omega, by omega⟩]
  have : s[(i : Int).toNat]'(by simpa using h) = at8 (tl s) i := by
    have h2 : i < s.data.toList.length := by simpa using h
    show s[i] = _
    simp only [at8, tl, List.getD, List.getElem?_eq_getElem h2, Option.getD_some]
    rfl
  rw [this]; rfl
/-- The order of two texts. -/
def rk (c : UInt8) : Nat := if c = 47 then 0 else c.toNat + 1
def cmpL : List UInt8 → List UInt8 → Int
  | [], [] => 0
  | [], _ :: _ => -1
  | _ :: _, [] => 1
  | x :: a, y :: b => if x = y then cmpL a b else if rk x < rk y then -1 else 1
theorem cmpL_drop (a b : List UInt8) (k : Nat) (h1 : k ≤ a.length) (h2 : k ≤ b.length) (h : a.take k = b.take k) : cmpL a b = cmpL (a.drop k) (b.drop k) := by
  induction k generalizing a b with
  | zero => rfl
  | succ k ih =>
    match a, b, h1, h2 with
    | x :: a, y :: b, h1, h2 =>
      simp only [List.take_succ_cons, List.cons.injEq] at h
      simp only [List.length_cons] at h1 h2
      obtain ⟨rfl, h⟩ := h
      rw [cmpL, if_pos rfl, ih a b (by omega) (by omega) h]; rfl
theorem cmpL_end (a b : List UInt8) (k : Nat) (hk : k = min a.length b.length) (h : a.take k = b.take k) : cmpL a b = Lib.compareInt (a.length : Int) (b.length : Int) := by
  rw [cmpL_drop a b k (by omega) (by omega) h]
  rcases Nat.lt_trichotomy a.length b.length with h1 | h1 | h1
  · rw [List.drop_of_length_le (l := a) (by omega), List.drop_eq_getElem_cons (l := b) (i := k) (by omega), cmpL]
    simp [Lib.compareInt]; omega
  · rw [List.drop_of_length_le (l := a) (by omega), List.drop_of_length_le (l := b) (by omega), cmpL]
    simp [Lib.compareInt]; omega
  · rw [List.drop_of_length_le (l := b) (by omega), List.drop_eq_getElem_cons (l := a) (i := k) (by omega), cmpL]
    simp [Lib.compareInt]; omega
theorem cmpL_at (a b : List UInt8) (k : Nat) (h1 : k < a.length) (h2 : k < b.length) (h : a.take k = b.take k) (hne : at8 a k ≠ at8 b k) : cmpL a b = if rk (at8 a k) < rk (at8 b k) then -1 else 1 := by
  rw [cmpL_drop a b k (by omega) (by omega) h, List.drop_eq_getElem_cons h1, List.drop_eq_getElem_cons h2, cmpL]
  have e1 : at8 a k = a[k] := by simp [at8, List.getD, List.getElem?_eq_getElem h1]
  have e2 : at8 b k = b[k] := by simp [at8, List.getD, List.getElem?_eq_getElem h2]
  rw [e1, e2] at hne
  rw [if_neg hne, e1, e2]
theorem take_same {a b : List UInt8} {k : Nat} (h1 : k < a.length) (h2 : k < b.length) (h : a.take k = b.take k) (he : at8 a k = at8 b k) : a.take (k + 1) = b.take (k + 1) := by
  rw [List.take_succ_eq_append_getElem h1, List.take_succ_eq_append_getElem h2, h]
  have e1 : at8 a k = a[k] := by simp [at8, List.getD, List.getElem?_eq_getElem h1]
  have e2 : at8 b k = b[k] := by simp [at8, List.getD, List.getElem?_eq_getElem h2]
  rw [← e1, ← e2, he]
theorem ret_i64 {a b : Int} (h : a = b) : Ending.returned (.int .i64 a) = .returned (.int .i64 b) := by rw [h]
theorem cmpInt_any (x y : Int) (w : World) : Calls Tryz.prog 92 #[.int .i64 x, .int .i64 y] w fun e w' => e = .returned (.int .i64 (Lib.compareInt x y)) ∧ w = w' :=
  (Tryz.cmp_Compare_int x y w).mono fun _ _ ⟨a, b⟩ => ⟨a, b.symm⟩
theorem drewYtlbeemlnbpchgaaGreatadd (w : World) (a b : Nat) : (w.drewN a).drewN b = w.drewN (a + b) := by
  simp [World.drewN, Nat.add_assoc]
set_option maxRecDepth 100000 in
set_option maxHeartbeats 400000 in
theorem cmp_any (a b : ByteArray) (w : World) (ha : a.size ≤ 140737488355328) (hb : b.size ≤ 140737488355328) :
    Calls Tryz.prog 42 #[.string a, .string b] w fun e w' => e = .returned (.int .i64 (cmpL (tl a) (tl b))) ∧ ∃ n, w' = w.drewN n := by
  go_enter Tryz.func42, Tryz.ntmps42
  go_wp2
  go_step3
  go_wp2_with (go_at_call 92; refine (cmpInt_any _ _ _).mono ?_; rintro e1 w1 ⟨rfl, rfl⟩)
  go_step3
  go_wp2
  go_loopw [5, 19] (fun v i wr => ∃ k : Nat, k ≤ a.size ∧ k ≤ b.size ∧ i = .int .i64 (k : Int) ∧ v = .int .i64 (Lib.compareInt (a.size : Int) (b.size : Int)) ∧ Hid ((tl a).take k = (tl b).take k) ∧ Hid (∃ n, wr = w.drewN n))
    (fun _ i _ => a.size - (intOf i).toNat)
  case atStart => exact ⟨0, by omega, by omega, rfl, rfl, rfl, 0, rfl⟩
  case round =>
    obtain ⟨k, hk1, hk2, rfl, rfl, HT, HB⟩ := hrel
    by_cases hlt : k < a.size ∧ k < b.size
    · obtain ⟨l1, l2⟩ := hlt
      have i1 := index_str a k l1
      have i2 := index_str b k l2
      have HS := hid (fun he : at8 (tl a) k = at8 (tl b) k => take_same (a := tl a) (b := tl b) (by rw [tl_length]; exact l1) (by rw [tl_length]; exact l2) HT.out he)
      have HD := hid (fun he : at8 (tl a) k ≠ at8 (tl b) k => cmpL_at (tl a) (tl b) k (by rw [tl_length]; exact l1) (by rw [tl_length]; exact l2) HT.out he)
      generalize at8 (tl a) k = x at i1 HS HD
      generalize at8 (tl b) k = y at i2 HS HD
      have b1 := b8_nonneg x
      have b2 := b8_nonneg y
      have b3 := b8_lt x
      have b4 := b8_lt y
      have bx : x = 47 ↔ b8 x = 47 := ⟨fun h => by rw [h]; rfl, fun h => b8_inj h⟩
      have by' : y = 47 ↔ b8 y = 47 := ⟨fun h => by rw [h]; rfl, fun h => b8_inj h⟩
      have rx : rk x = if b8 x = 47 then 0 else (b8 x).toNat + 1 := by simp only [rk, bx]; rfl
      have ry : rk y = if b8 y = 47 then 0 else (b8 y).toNat + 1 := by simp only [rk, by']; rfl
      by_cases hxy : x = y
      · subst hxy
        have q1 : (b8 x == b8 x) = true := by simp
        have HS2 := hid (HS.out rfl)
        clear HD bx by' rx ry HS
        go_wp2
        go_quiet (fail)
        go_wp2
        go_roundw
        case rel => exact ⟨k + 1, by omega, by omega, by go_num, rfl, HS2.out, HB.out.elim fun n hn => ⟨n + _, by rw [hn]; exact drewYtlbeemlnbpchgaaGreatadd _ _ _⟩⟩
        case measure => simp [intOf]; omega
      · have q1 : (b8 x == b8 y) = false := by
          simp only [beq_eq_false_iff_ne, ne_eq]; exact fun h => hxy (b8_inj h)
        have HF := hid (HD.out hxy)
        have HN : Hid (b8 x ≠ b8 y) := fun h => hxy (b8_inj h)
        have HX := hid rx
        have HY := hid ry
        clear HD HS hxy rx ry bx by'
        by_cases c1 : b8 x = 47
        · have q2 : (b8 x == 47) = true := by simp [c1]
          have hv : cmpL (tl a) (tl b) = -1 := by
            rw [HF.out, if_pos]; rw [HX.out, HY.out, if_pos c1]; have := HN.out; split <;> omega
          have HV := hid hv
          clear c1 hv
          go_wp2
          go_quiet (fail)
          go_wp2
          rw [Exit.noGoto_ret]
          go_ret
          exact ⟨ret_i64 HV.out.symm, HB.out.elim fun n hn => ⟨n + _, by rw [hn]; exact drewYtlbeemlnbpchgaaGreatadd _ _ _⟩⟩
        · have q2 : (b8 x == 47) = false := by simp [c1]
          by_cases c2 : b8 y = 47
          · have q3 : (b8 y == 47) = true := by simp [c2]
            have q3' : (b8 y != 47) = false := by simp [c2]
            have hv : cmpL (tl a) (tl b) = 1 := by
              rw [HF.out, if_neg]; rw [HX.out, HY.out, if_pos c2, if_neg c1]; omega
            have HV := hid hv
            clear c1 c2 hv
            go_wp2
            go_quiet (fail)
            go_wp2
            rw [Exit.noGoto_ret]
            go_ret
            exact ⟨ret_i64 HV.out.symm, HB.out.elim fun n hn => ⟨n + _, by rw [hn]; exact drewYtlbeemlnbpchgaaGreatadd _ _ _⟩⟩
          · have q3 : (b8 y == 47) = false := by simp [c2]
            have q3' : (b8 y != 47) = true := by simp [c2]
            by_cases c3 : b8 x < b8 y
            · have q4 : decide (b8 x < b8 y) = true := by simp [c3]
              have hv : cmpL (tl a) (tl b) = -1 := by
                rw [HF.out, if_pos]; rw [HX.out, HY.out, if_neg c2, if_neg c1]; omega
              have HV := hid hv
              clear c1 c2 hv
              go_wp2
              go_quiet (fail)
              go_wp2
              rw [Exit.noGoto_ret]
              go_ret
              exact ⟨ret_i64 HV.out.symm, HB.out.elim fun n hn => ⟨n + _, by rw [hn]; exact drewYtlbeemlnbpchgaaGreatadd _ _ _⟩⟩
            · have q4 : decide (b8 x < b8 y) = false := by simp [c3]
              have hv : cmpL (tl a) (tl b) = 1 := by
                rw [HF.out, if_neg]; rw [HX.out, HY.out, if_neg c2, if_neg c1]; omega
              have HV := hid hv
              clear c1 c2 hv
              go_wp2
              go_quiet (fail)
              go_wp2
              rw [Exit.noGoto_ret]
              go_ret
              exact ⟨ret_i64 HV.out.symm, HB.out.elim fun n hn => ⟨n + _, by rw [hn]; exact drewYtlbeemlnbpchgaaGreatadd _ _ _⟩⟩
    · have HK : Hid (k = min a.size b.size) := by show _ = _; omega
      go_wp2
      try rw [Exit.noGoto_ret]
      go_ret
      refine ⟨ret_i64 ?_, HB.out⟩
      rw [cmpL_end (tl a) (tl b) k (by rw [tl_length, tl_length]; exact HK.out) HT.out, tl_length, tl_length]
end Go.Proofs.YtlbeemlnbpchgaaGreat
/- Paths as lists of bytes: the parts between the slashes, what a name is, what a path is, where it stands. Plain facts, no program. -/
namespace Go.Proofs.YtlbeemlnbpchgaaGreat
open Go.RowKit
/-- What stands ahead of the first slash, what behind it, whether there is one. -/
def cutS : List UInt8 → List UInt8 × List UInt8 × Bool
  | [] => ([], [], false)
  | c :: l => if c = 47 then ([], l, true) else (c :: (cutS l).1, (cutS l).2.1, (cutS l).2.2)
theorem cut_one (l : List UInt8) : Lib.cut l [47] = cutS l := by
  induction l with
  | nil => rfl
  | cons c l ih =>
    have hge := Lib.index_ge l [47]
    unfold Lib.cut Lib.index cutS
    by_cases hc : c = 47
    · subst hc; rfl
    · have h1 : [47].isPrefixOf (c :: l) = false := by simp [List.isPrefixOf, Ne.symm hc]
      rw [if_neg (show ¬ [47].isPrefixOf (c :: l) = true by rw [h1]; decide), if_neg hc, ← ih]
      unfold Lib.cut
      by_cases hi : Lib.index l [47] = -1
      · rw [hi]; rfl
      · have h0 : (0 : Int) ≤ Lib.index l [47] := by omega
        have h2 : ¬ (Lib.index l [47] == -1) = true := by simpa using hi
        rw [if_neg h2, if_pos h0, if_pos (show (0 : Int) ≤ Lib.index l [47] + 1 by omega)]
        obtain ⟨n, hn⟩ := Int.eq_ofNat_of_zero_le h0
        rw [hn]
        have e : ((n : Int) + 1).toNat = n + 1 := by omega
        simp only [e, Int.toNat_natCast, List.take_succ_cons, List.length_singleton]
        rw [show n + 1 + 1 = (n + 1) + 1 from rfl, List.drop_succ_cons]
/-- The parts between the slashes. -/
def pieces : List UInt8 → List (List UInt8)
  | [] => [[]]
  | c :: l => if c = 47 then [] :: pieces l else match pieces l with | p :: ps => (c :: p) :: ps | [] => [[c]]
theorem pieces_cut (l : List UInt8) : pieces l = if (cutS l).2.2 then (cutS l).1 :: pieces (cutS l).2.1 else [(cutS l).1] := by
  induction l with
  | nil => rfl
  | cons c l ih =>
    rw [pieces, cutS]
    by_cases hc : c = 47
    · rw [if_pos hc, if_pos hc, if_pos rfl]
    · rw [if_neg hc, if_neg hc, ih]
      cases h : (cutS l).2.2
      · rfl
      · rfl
theorem cutS_len (l : List UInt8) : (cutS l).2.1.length ≤ l.length ∧ (cutS l).1.length ≤ l.length ∧ ((cutS l).2.2 = true → (cutS l).2.1.length < l.length) := by
  induction l with
  | nil => simp [cutS]
  | cons c l ih =>
    unfold cutS
    by_cases hc : c = 47
    · simp [hc]
    · rw [if_neg hc]; simp only [List.length_cons]; refine ⟨by omega, by omega, fun h => by have := ih.2.2 h; omega⟩
theorem pieces_ne (l : List UInt8) : pieces l ≠ [] := by
  rw [pieces_cut]; split <;> simp
def lastP (l : List UInt8) : List UInt8 := (pieces l).getLast (pieces_ne l)
def okB (c : UInt8) : Bool := !decide (b8 c < 32) && !(b8 c == 127) && !(b8 c == 47)
def headB (l : List UInt8) : Bool := !decide (l = []) && decide (l.length ≤ 48) && !decide (l = [46]) && !decide (l = [46, 46])
/-- Is it a name? -/
def nameB (l : List UInt8) : Bool := headB l && l.all okB
def eachF : List (List UInt8) → Nat → List UInt8 → Bool × Nat × List UInt8
  | [], n, b => (true, n, b)
  | p :: ps, n, _ => if decide (n + 1 ≤ 6) && nameB p then eachF ps (n + 1) p else (false, n + 1, p)
def goodB (l : List UInt8) : Bool := decide ((pieces l).length ≤ 6) && (pieces l).all nameB
def aheadL (l : List UInt8) : List UInt8 := l.take (l.length - (lastP l).length - 1)
/-- Is it a path? -/
def mayB (l : List UInt8) : Bool := decide (l.length ≤ 160) && goodB l && decide ((aheadL l).length ≤ 111)
/-- Where a path stands: its parent and its last part; nothing of what is no path. -/
def findV (l : List UInt8) : List UInt8 × List UInt8 := if mayB l then (aheadL l, lastP l) else ([], [])
theorem eachF_good (ps : List (List UInt8)) : ∀ n b, (eachF ps n b).1 = (decide (ps = [] ∨ ps.length + n ≤ 6) && ps.all nameB) := by
  induction ps with
  | nil => intro n b; rfl
  | cons p ps ih =>
    intro n b
    unfold eachF
    by_cases h1 : n + 1 ≤ 6 <;> cases h2 : nameB p
    · simp [h2]
    · simp only [h1, decide_true, Bool.and_true, if_pos]
      rw [ih]
      have e : decide (ps = [] ∨ ps.length + (n + 1) ≤ 6) = decide (p :: ps = [] ∨ (p :: ps).length + n ≤ 6) := by
        rw [decide_eq_decide]
        simp only [List.length_cons, reduceCtorEq, false_or]
        constructor
        · rintro (rfl | h)
          · simp; omega
          · omega
        · intro h; right; omega
      rw [e]; simp [h2]
    · simp [h2]
    · simp [h1]; intro h; omega
theorem eachF_base (ps : List (List UInt8)) (h : ps ≠ []) : ∀ n b, (eachF ps n b).1 = true → (eachF ps n b).2.2 = ps.getLast h := by
  induction ps with
  | nil => exact absurd rfl h
  | cons p ps ih =>
    intro n b hg
    unfold eachF at hg ⊢
    split at hg
    · rename_i hc
      rw [if_pos hc]
      by_cases hp : ps = []
      · subst hp; rfl
      · rw [ih hp _ _ hg, List.getLast_cons hp]
    · cases hg
theorem goodB_each (l : List UInt8) : (eachF (pieces l) 0 []).1 = goodB l := by
  rw [eachF_good]; unfold goodB; congr 1; rw [decide_eq_decide]; simp [pieces_ne]
theorem goodB_base (l : List UInt8) (h : goodB l = true) : (eachF (pieces l) 0 []).2.2 = lastP l := eachF_base _ (pieces_ne l) 0 [] (by rw [goodB_each, h])
theorem nameB_ne {l : List UInt8} (h : nameB l = true) : l ≠ [] := by
  rintro rfl; simp [nameB, headB] at h
theorem mayB_good {l : List UInt8} (h : mayB l = true) : goodB l = true := by
  unfold mayB at h; simp only [Bool.and_eq_true] at h; exact h.1.2
theorem good_all {l : List UInt8} (h : goodB l = true) : ∀ p ∈ pieces l, nameB p = true := by
  unfold goodB at h; simp only [Bool.and_eq_true, List.all_eq_true] at h; exact h.2
theorem lastP_mem (l : List UInt8) : lastP l ∈ pieces l := List.getLast_mem _
theorem mayB_last {l : List UInt8} (h : mayB l = true) : lastP l ≠ [] := nameB_ne (good_all (mayB_good h) _ (lastP_mem l))
/-- No path stands at the zero place. -/
theorem findV_zero (l : List UInt8) : mayB l = !decide ((findV l).1 = [] ∧ (findV l).2 = []) := by
  unfold findV
  cases h : mayB l
  · simp
  · simp [mayB_last h]
end Go.Proofs.YtlbeemlnbpchgaaGreat
/- path.Name: what it answers of any text. Conditions: at most 2^47 bytes. -/
namespace Go.Proofs.YtlbeemlnbpchgaaGreat
open Go.RowKit
theorem toList_tl (s : ByteArray) : s.toList = tl s := ByteArray.toList_eq s
theorem okB_at (l : List UInt8) (k : Nat) (h : k < l.length) (ha : (l.take k).all okB = true) (hk : okB (at8 l k) = true) : (l.take (k + 1)).all okB = true := by
  have e : at8 l k = l[k] := by simp [at8, List.getD, List.getElem?_eq_getElem h]
  rw [e] at hk
  rw [List.take_succ_eq_append_getElem h, List.all_append, ha]; simp [hk]
theorem okB_no (l : List UInt8) (k : Nat) (h : k < l.length) (hk : okB (at8 l k) = false) : nameB l = false := by
  have e : at8 l k = l[k] := by simp [at8, List.getD, List.getElem?_eq_getElem h]
  rw [e] at hk
  have : l.all okB = false := by rw [List.all_eq_false]; exact ⟨_, List.getElem_mem h, by simp [hk]⟩
  simp [nameB, this]
theorem ret_bool {a b : Bool} (h : a = b) : Ending.returned (.bool a) = .returned (.bool b) := by rw [h]
set_option maxRecDepth 100000 in
set_option maxHeartbeats 1000000 in
theorem name_any (s : ByteArray) (w : World) (hs : s.size ≤ 140737488355328) :
    Calls Tryz.prog 128 #[.string s] w fun e w' => e = .returned (.bool (nameB (tl s))) ∧ w = w' := by
  have hc : Hid (s.toList = tl s) := toList_tl s
  have hz : Hid (s.size = (tl s).length) := (tl_length s).symm
  have hcase : (s.toList = []) ∨ (s.toList ≠ [] ∧ 48 < s.size) ∨ (s.toList ≠ [] ∧ s.size ≤ 48 ∧ s.toList = [46]) ∨ (s.toList ≠ [] ∧ s.size ≤ 48 ∧ s.toList ≠ [46] ∧ s.toList = [46, 46]) ∨ (s.toList ≠ [] ∧ s.size ≤ 48 ∧ s.toList ≠ [46] ∧ s.toList ≠ [46, 46]) := by
    by_cases h1 : s.toList = []
    · exact .inl h1
    · by_cases h2 : s.size ≤ 48
      · by_cases h3 : s.toList = [46]
        · exact .inr (.inr (.inl ⟨h1, h2, h3⟩))
        · by_cases h4 : s.toList = [46, 46]
          · exact .inr (.inr (.inr (.inl ⟨h1, h2, h3, h4⟩)))
          · exact .inr (.inr (.inr (.inr ⟨h1, h2, h3, h4⟩)))
      · exact .inr (.inl ⟨h1, by omega⟩)
  rcases hcase with h1 | ⟨h1, h2⟩ | ⟨h1, h2, h3⟩ | ⟨h1, h2, h3, h4⟩ | ⟨h1, h2, h3, h4⟩
  · have hn : Hid (nameB (tl s) = false) := by show _ = _; simp [nameB, headB, ← hc.out, h1]
    go_enter Tryz.func128, Tryz.ntmps128
    go_wp2
    go_step3
    go_wp2
    go_step3
    go_wp2
    go_loopw [3, 23] (fun v i wr => ∃ k : Nat, k ≤ s.size ∧ i = .int .i64 (k : Int) ∧ v = .bool false ∧ w = wr)
      (fun _ i _ => s.size - (intOf i).toNat)
    case atStart => exact ⟨0, by omega, rfl, rfl, rfl⟩
    case round =>
      obtain ⟨k, hk, rfl, rfl, rfl⟩ := hrel
      by_cases hlt : k < s.size
      · have i1 := index_str s k hlt
        generalize at8 (tl s) k = x at i1
        have b1 := b8_nonneg x
        have b2 := b8_lt x
        by_cases c1 : b8 x < 32
        · have HO : Hid (okB x = false) := by show _ = _; simp [okB, c1]
          have t1 : decide (b8 x < 32) = true := by simp [c1]
          clear c1
          go_wp2
          rw [Exit.noGoto_ret]
          go_ret
          exact ⟨ret_bool hn.out.symm, rfl⟩
        · have t1 : decide (b8 x < 32) = false := by simp [c1]
          by_cases c2 : b8 x = 127
          · have HO : Hid (okB x = false) := by show _ = _; simp [okB, c2]
            have t2 : (b8 x == 127) = true := by simp [c2]
            clear c1 c2
            go_wp2
            rw [Exit.noGoto_ret]
            go_ret
            exact ⟨ret_bool hn.out.symm, rfl⟩
          · have t2 : (b8 x == 127) = false := by simp [c2]
            by_cases c3 : b8 x = 47
            · have HO : Hid (okB x = false) := by show _ = _; simp [okB, c3]
              have t3 : (b8 x == 47) = true := by simp [c3]
              clear c1 c2 c3
              go_wp2
              rw [Exit.noGoto_ret]
              go_ret
              exact ⟨ret_bool hn.out.symm, rfl⟩
            · have t3 : (b8 x == 47) = false := by simp [c3]
              have HO : Hid (okB x = true) := by show _ = _; simp [okB, c1, c2, c3]
              clear c1 c2 c3
              go_wp2
              go_roundw
              case rel => exact ⟨k + 1, by omega, by go_num, rfl, trivial⟩
              case measure => simp [intOf]; omega
      · have HK : Hid (k = s.size) := by show _ = _; omega
        go_wp2
        try rw [Exit.noGoto_ret]
        go_ret
        exact ⟨ret_bool hn.out.symm, rfl⟩
  · have g1 : (!s.toList.isEmpty) = true := by simp [h1]
    have g2 : ¬ ((s.size : Int) ≤ 48) := by omega
    have hn : Hid (nameB (tl s) = false) := by show _ = _; simp [nameB, headB, ← hz.out]; omega
    clear h1 h2
    go_enter Tryz.func128, Tryz.ntmps128
    go_wp2
    go_step3
    go_wp2
    go_step3
    go_wp2
    go_loopw [3, 23] (fun v i wr => ∃ k : Nat, k ≤ s.size ∧ i = .int .i64 (k : Int) ∧ v = .bool false ∧ w = wr)
      (fun _ i _ => s.size - (intOf i).toNat)
    case atStart => exact ⟨0, by omega, rfl, rfl, rfl⟩
    case round =>
      obtain ⟨k, hk, rfl, rfl, rfl⟩ := hrel
      by_cases hlt : k < s.size
      · have i1 := index_str s k hlt
        generalize at8 (tl s) k = x at i1
        have b1 := b8_nonneg x
        have b2 := b8_lt x
        by_cases c1 : b8 x < 32
        · have HO : Hid (okB x = false) := by show _ = _; simp [okB, c1]
          have t1 : decide (b8 x < 32) = true := by simp [c1]
          clear c1
          go_wp2
          rw [Exit.noGoto_ret]
          go_ret
          exact ⟨ret_bool hn.out.symm, rfl⟩
        · have t1 : decide (b8 x < 32) = false := by simp [c1]
          by_cases c2 : b8 x = 127
          · have HO : Hid (okB x = false) := by show _ = _; simp [okB, c2]
            have t2 : (b8 x == 127) = true := by simp [c2]
            clear c1 c2
            go_wp2
            rw [Exit.noGoto_ret]
            go_ret
            exact ⟨ret_bool hn.out.symm, rfl⟩
          · have t2 : (b8 x == 127) = false := by simp [c2]
            by_cases c3 : b8 x = 47
            · have HO : Hid (okB x = false) := by show _ = _; simp [okB, c3]
              have t3 : (b8 x == 47) = true := by simp [c3]
              clear c1 c2 c3
              go_wp2
              rw [Exit.noGoto_ret]
              go_ret
              exact ⟨ret_bool hn.out.symm, rfl⟩
            · have t3 : (b8 x == 47) = false := by simp [c3]
              have HO : Hid (okB x = true) := by show _ = _; simp [okB, c1, c2, c3]
              clear c1 c2 c3
              go_wp2
              go_roundw
              case rel => exact ⟨k + 1, by omega, by go_num, rfl, trivial⟩
              case measure => simp [intOf]; omega
      · have HK : Hid (k = s.size) := by show _ = _; omega
        go_wp2
        try rw [Exit.noGoto_ret]
        go_ret
        exact ⟨ret_bool hn.out.symm, rfl⟩
  · have g1 : (!s.toList.isEmpty) = true := by simp [h1]
    have g2 : ((s.size : Int) ≤ 48) := by omega
    have g3 : (!s.toList == [46]) = false := by simp [h3]
    have hn : Hid (nameB (tl s) = false) := by show _ = _; simp [nameB, headB, ← hc.out, h3]
    clear h1 h2 h3
    go_enter Tryz.func128, Tryz.ntmps128
    go_wp2
    go_step3
    go_wp2
    go_step3
    go_wp2
    go_loopw [3, 23] (fun v i wr => ∃ k : Nat, k ≤ s.size ∧ i = .int .i64 (k : Int) ∧ v = .bool false ∧ w = wr)
      (fun _ i _ => s.size - (intOf i).toNat)
    case atStart => exact ⟨0, by omega, rfl, rfl, rfl⟩
    case round =>
      obtain ⟨k, hk, rfl, rfl, rfl⟩ := hrel
      by_cases hlt : k < s.size
      · have i1 := index_str s k hlt
        generalize at8 (tl s) k = x at i1
        have b1 := b8_nonneg x
        have b2 := b8_lt x
        by_cases c1 : b8 x < 32
        · have HO : Hid (okB x = false) := by show _ = _; simp [okB, c1]
          have t1 : decide (b8 x < 32) = true := by simp [c1]
          clear c1
          go_wp2
          rw [Exit.noGoto_ret]
          go_ret
          exact ⟨ret_bool hn.out.symm, rfl⟩
        · have t1 : decide (b8 x < 32) = false := by simp [c1]
          by_cases c2 : b8 x = 127
          · have HO : Hid (okB x = false) := by show _ = _; simp [okB, c2]
            have t2 : (b8 x == 127) = true := by simp [c2]
            clear c1 c2
            go_wp2
            rw [Exit.noGoto_ret]
            go_ret
            exact ⟨ret_bool hn.out.symm, rfl⟩
          · have t2 : (b8 x == 127) = false := by simp [c2]
            by_cases c3 : b8 x = 47
            · have HO : Hid (okB x = false) := by show _ = _; simp [okB, c3]
              have t3 : (b8 x == 47) = true := by simp [c3]
              clear c1 c2 c3
              go_wp2
              rw [Exit.noGoto_ret]
              go_ret
              exact ⟨ret_bool hn.out.symm, rfl⟩
            · have t3 : (b8 x == 47) = false := by simp [c3]
              have HO : Hid (okB x = true) := by show _ = _; simp [okB, c1, c2, c3]
              clear c1 c2 c3
              go_wp2
              go_roundw
              case rel => exact ⟨k + 1, by omega, by go_num, rfl, trivial⟩
              case measure => simp [intOf]; omega
      · have HK : Hid (k = s.size) := by show _ = _; omega
        go_wp2
        try rw [Exit.noGoto_ret]
        go_ret
        exact ⟨ret_bool hn.out.symm, rfl⟩
  · have g1 : (!s.toList.isEmpty) = true := by simp [h1]
    have g2 : ((s.size : Int) ≤ 48) := by omega
    have g3 : (!s.toList == [46]) = true := by simp [h3]
    have g4 : (!s.toList == [46, 46]) = false := by simp [h4]
    have hn : Hid (nameB (tl s) = false) := by show _ = _; simp [nameB, headB, ← hc.out, h4]
    clear h1 h2 h3 h4
    go_enter Tryz.func128, Tryz.ntmps128
    go_wp2
    go_step3
    go_wp2
    go_step3
    go_wp2
    go_loopw [3, 23] (fun v i wr => ∃ k : Nat, k ≤ s.size ∧ i = .int .i64 (k : Int) ∧ v = .bool false ∧ w = wr)
      (fun _ i _ => s.size - (intOf i).toNat)
    case atStart => exact ⟨0, by omega, rfl, rfl, rfl⟩
    case round =>
      obtain ⟨k, hk, rfl, rfl, rfl⟩ := hrel
      by_cases hlt : k < s.size
      · have i1 := index_str s k hlt
        generalize at8 (tl s) k = x at i1
        have b1 := b8_nonneg x
        have b2 := b8_lt x
        by_cases c1 : b8 x < 32
        · have HO : Hid (okB x = false) := by show _ = _; simp [okB, c1]
          have t1 : decide (b8 x < 32) = true := by simp [c1]
          clear c1
          go_wp2
          rw [Exit.noGoto_ret]
          go_ret
          exact ⟨ret_bool hn.out.symm, rfl⟩
        · have t1 : decide (b8 x < 32) = false := by simp [c1]
          by_cases c2 : b8 x = 127
          · have HO : Hid (okB x = false) := by show _ = _; simp [okB, c2]
            have t2 : (b8 x == 127) = true := by simp [c2]
            clear c1 c2
            go_wp2
            rw [Exit.noGoto_ret]
            go_ret
            exact ⟨ret_bool hn.out.symm, rfl⟩
          · have t2 : (b8 x == 127) = false := by simp [c2]
            by_cases c3 : b8 x = 47
            · have HO : Hid (okB x = false) := by show _ = _; simp [okB, c3]
              have t3 : (b8 x == 47) = true := by simp [c3]
              clear c1 c2 c3
              go_wp2
              rw [Exit.noGoto_ret]
              go_ret
              exact ⟨ret_bool hn.out.symm, rfl⟩
            · have t3 : (b8 x == 47) = false := by simp [c3]
              have HO : Hid (okB x = true) := by show _ = _; simp [okB, c1, c2, c3]
              clear c1 c2 c3
              go_wp2
              go_roundw
              case rel => exact ⟨k + 1, by omega, by go_num, rfl, trivial⟩
              case measure => simp [intOf]; omega
      · have HK : Hid (k = s.size) := by show _ = _; omega
        go_wp2
        try rw [Exit.noGoto_ret]
        go_ret
        exact ⟨ret_bool hn.out.symm, rfl⟩
  · have g1 : (!s.toList.isEmpty) = true := by simp [h1]
    have g2 : ((s.size : Int) ≤ 48) := by omega
    have g3 : (!s.toList == [46]) = true := by simp [h3]
    have g4 : (!s.toList == [46, 46]) = true := by simp [h4]
    have hn : Hid (headB (tl s) = true) := by show _ = _; simp [headB, ← hc.out, h1, h3, h4]; rw [hc.out, ← hz.out]; exact h2
    clear h1 h2 h3 h4
    go_enter Tryz.func128, Tryz.ntmps128
    go_wp2
    go_step3
    go_wp2
    go_step3
    go_wp2
    go_loopw [3, 23] (fun v i wr => ∃ k : Nat, k ≤ s.size ∧ i = .int .i64 (k : Int) ∧ v = .bool true ∧ Hid (((tl s).take k).all okB = true) ∧ w = wr)
      (fun _ i _ => s.size - (intOf i).toNat)
    case atStart => exact ⟨0, by omega, rfl, rfl, rfl, rfl⟩
    case round =>
      obtain ⟨k, hk, rfl, rfl, HA, rfl⟩ := hrel
      by_cases hlt : k < s.size
      · have i1 := index_str s k hlt
        have HY := hid (okB_at (tl s) k (by rw [tl_length]; exact hlt) HA.out)
        have HN := hid (okB_no (tl s) k (by rw [tl_length]; exact hlt))
        generalize at8 (tl s) k = x at i1 HY HN
        have b1 := b8_nonneg x
        have b2 := b8_lt x
        by_cases c1 : b8 x < 32
        · have HO : Hid (okB x = false) := by show _ = _; simp [okB, c1]
          have t1 : decide (b8 x < 32) = true := by simp [c1]
          clear c1
          go_wp2
          rw [Exit.noGoto_ret]
          go_ret
          exact ⟨ret_bool (HN.out HO.out).symm, rfl⟩
        · have t1 : decide (b8 x < 32) = false := by simp [c1]
          by_cases c2 : b8 x = 127
          · have HO : Hid (okB x = false) := by show _ = _; simp [okB, c2]
            have t2 : (b8 x == 127) = true := by simp [c2]
            clear c1 c2
            go_wp2
            rw [Exit.noGoto_ret]
            go_ret
            exact ⟨ret_bool (HN.out HO.out).symm, rfl⟩
          · have t2 : (b8 x == 127) = false := by simp [c2]
            by_cases c3 : b8 x = 47
            · have HO : Hid (okB x = false) := by show _ = _; simp [okB, c3]
              have t3 : (b8 x == 47) = true := by simp [c3]
              clear c1 c2 c3
              go_wp2
              rw [Exit.noGoto_ret]
              go_ret
              exact ⟨ret_bool (HN.out HO.out).symm, rfl⟩
            · have t3 : (b8 x == 47) = false := by simp [c3]
              have HO : Hid (okB x = true) := by show _ = _; simp [okB, c1, c2, c3]
              clear c1 c2 c3
              go_wp2
              go_roundw
              case rel => exact ⟨k + 1, by omega, by go_num, rfl, HY.out HO.out, trivial⟩
              case measure => simp [intOf]; omega
      · have HK : Hid (k = s.size) := by show _ = _; omega
        go_wp2
        try rw [Exit.noGoto_ret]
        go_ret
        refine ⟨ret_bool ?_, rfl⟩
        have ha := HA.out
        rw [List.take_of_length_le (by rw [tl_length, HK.out]; exact Nat.le_refl _)] at ha
        simp [nameB, hn.out, ha]
end Go.Proofs.YtlbeemlnbpchgaaGreat
/- path.each over find's closure, path.find, May, Parent, Base: what they answer of any text. Conditions: a world in which the listed variables lie, at most 400 bytes. -/
namespace Go.Proofs.YtlbeemlnbpchgaaGreat
open Go.RowKit
/-- The world that the calls lean on: the library's variable holds a number. -/
def Gd (w : World) : Prop := ∃ m : Int, w.cell? ⟨0, 0, none⟩ = some (.int .i64 m)
theorem Gd.pos {w : World} (h : Gd w) : 0 < w.heap.size := by
  obtain ⟨m, h⟩ := h
  exact World.block_lt_of_cell? w ⟨0, 0, none⟩ h
theorem Gd.below {w w' : World} {B : Nat} (h : Gd w) (hb : Below B w w') (hB : 0 < B) : Gd w' := by
  obtain ⟨m, h⟩ := h
  exact ⟨m, (hb.cell (p := ⟨0, 0, none⟩) hB).trans h⟩
theorem Gd.kept {w w' : World} (h : Gd w) (hb : Below w.heap.size w w') : Gd w' := h.below hb h.pos
theorem Gd.shaped {w : World} (h : w.ShapedOpen Tryz.prog) : Gd w := Tryz.laysM145.s1_3 w h
def ba (l : List UInt8) : ByteArray := ⟨l.toArray⟩
theorem tl_ba (l : List UInt8) : tl (ba l) = l := rfl
theorem ba_tl (s : ByteArray) : ba (tl s) = s := by simp [ba, tl]
theorem ba_size (l : List UInt8) : (ba l).size = l.length := by rw [← tl_length]; rfl
theorem cut_any (s : ByteArray) (p q : List UInt8) (m : Bool) (h : Hid (cutS (tl s) = (p, q, m))) (w : World) (hG : Gd w) (hs : s.size < 4294967281) :
    Calls Tryz.prog 156 #[.string s, .string ⟨#[47]⟩] w fun e w' => e = .returned (.tuple #[.string (ba p), .string (ba q), .bool m]) ∧ ∃ n, w' = w.drewN n := by
  obtain ⟨mx, hG⟩ := hG
  refine (Tryz.strings_Cut s ⟨#[47]⟩ mx w hs hG).mono fun e w' ⟨h1, h2⟩ => ⟨?_, h2⟩
  have e2 : Lib.cut (tl s) [47] = (p, q, m) := (cut_one _).trans h.out
  rw [h1]
  show Ending.returned (.tuple #[.string (ba (Lib.cut (tl s) [47]).1), .string (ba (Lib.cut (tl s) [47]).2.1), .bool (Lib.cut (tl s) [47]).2.2]) = _
  rw [e2]
/-- Block g of w holds just cs. -/
def Has (w : World) (g : Nat) (t : TypeId) (cs : Array Value) : Prop := w.heap[g]? = some (.cells cs t (0, 0))
section
variable {w w' : World} {g : Nat} {t : TypeId} {cs : Array Value}
theorem Has.inside (h : Has w g t cs) : g < w.heap.size := by
  unfold Has at h
  exact (Array.getElem?_eq_some_iff.1 h).1
theorem Has.at_ (h : Has w g t cs) (i : Nat) : w.cell? ⟨g, i, none⟩ = cs[i]? := cell_of_row w g i cs t (0, 0) h
theorem Has.free (h : Has w g t cs) (i : Nat) : w.frozen? ⟨g, i, none⟩ = false := by
  unfold Has at h
  simp [World.frozen?, h]
theorem Has.fresh (w : World) (t : TypeId) (cs : Array Value) : Has (w.alloc (.cells cs t)) w.heap.size t cs := heap_alloc_new w _
theorem Has.fresh' (w : World) (t : TypeId) (cs : Array Value) {g : Nat} (hg : g = w.heap.size) : Has (w.alloc (.cells cs t)) g t cs := by subst hg; exact Has.fresh w t cs
theorem Has.drawn (h : Has w g t cs) (n : Nat) : Has (w.drewN n) g t cs := h
theorem Has.more (h : Has w g t cs) (o : Obj) : Has (w.alloc o) g t cs := (Below.heap_alloc w o g h.inside).trans h
theorem Has.put (h : Has w g t cs) (i : Nat) (v : Value) : Has (w.setCell ⟨g, i, none⟩ v) g t (cs.setIfInBounds i v) := by
  unfold Has at h ⊢
  simp [World.setCell, Array.getElem?_modify, h]
theorem Has.other (h : Has w g t cs) {p : Addr} (hp : g ≠ p.block) (v : Value) : Has (w.setCell p v) g t cs := (Below.heap_setCell w p v g hp).trans h
theorem Has.kept {B : Nat} (h : Has w g t cs) (hb : Below B w w') (hg : g < B) : Has w' g t cs := (hb.block g hg).trans h
end
theorem Has.row {w : World} {g : Nat} {t : TypeId} {cs cs' : Array Value} (h : Has w g t cs) : Has (w.setRow g cs') g t cs' := setRow_heap w g cs cs' t (0, 0) h
theorem Has.rowOther {w : World} {g g' : Nat} {t : TypeId} {cs cs' : Array Value} (h : Has w g t cs) (hg : g ≠ g') : Has (w.setRow g' cs') g t cs := (setRow_other w g' g cs' hg).trans h
def ptr (g : Nat) : Value := .pointer (some ⟨g, 0, none⟩)
/-- What a part of find's leaves in its two variables. -/
def FC (b n : Nat) (s : ByteArray) (k : Nat) (w w' : World) : Prop := w' = (w.setCell ⟨b, 0, none⟩ (.string s)).setCell ⟨n, 0, none⟩ (.int .i64 ((k + 1 : Nat) : Int))
set_option maxRecDepth 100000 in
set_option maxHeartbeats 400000 in
theorem findC_any (s : ByteArray) (b n : Nat) (v : Value) (k : Nat) (w : World) (hs : s.size ≤ 140737488355328) (hk : k ≤ 6) (hb : Has w b 9 #[v]) (hn : Has w n 3 #[.int .i64 (k : Int)]) (hne : b ≠ n) :
    Calls Tryz.prog 127 #[.string s, .pointer (some ⟨b, 0, none⟩), .pointer (some ⟨n, 0, none⟩)] w fun e w' => e = .returned (.bool (decide (k + 1 ≤ 6) && nameB (tl s))) ∧ FC b n s k w w' := by
  have c1 : w.cell? ⟨b, 0, none⟩ = some v := hb.at_ 0
  have c2 : w.cell? ⟨n, 0, none⟩ = some (.int .i64 (k : Int)) := hn.at_ 0
  have f1 := hb.free 0
  have f2 := hn.free 0
  have c3 : (w.setCell ⟨b, 0, none⟩ (.string s)).cell? ⟨n, 0, none⟩ = some (.int .i64 (k : Int)) := (Has.other hn hne.symm _).at_ 0
  have f3 := (Has.other hn (p := ⟨b, 0, none⟩) hne.symm (.string s)).free 0
  clear hb hn
  by_cases h6 : k + 1 ≤ 6
  · have g1 : (k : Int) + 1 ≤ 6 := by omega
    have H6 := hid h6
    clear h6 hk
    go_enter Tryz.func127, Tryz.ntmps127
    go_wp2_with (go_at_call 128; refine (name_any _ _ hs).mono ?_; rintro e1 w1 ⟨rfl, rfl⟩)
    go_ret
    refine ⟨ret_bool (by simp [H6.out]), ?_⟩
    unfold FC; rfl
  · have g1 : ¬ ((k : Int) + 1 ≤ 6) := by omega
    have H6 := hid h6
    clear h6
    go_enter Tryz.func127, Tryz.ntmps127
    go_wp2
    go_ret
    refine ⟨ret_bool (by have h := H6.out; rw [decide_eq_false (show ¬ k ≤ 5 by omega)]; rfl), ?_⟩
    unfold FC; rfl
theorem FC.post {b n k : Nat} {s : ByteArray} {v : Value} {w0 w w' : World} (h : FC b n s k w w') (hb : Has w b 9 #[v]) (hn : Has w n 3 #[.int .i64 (k : Int)]) (hne : b ≠ n) (hB : Below w0.heap.size w0 w) (h1 : w0.heap.size ≤ b) (h2 : w0.heap.size ≤ n) :
    Has w' b 9 #[.string s] ∧ Has w' n 3 #[.int .i64 ((k + 1 : Nat) : Int)] ∧ Below w0.heap.size w0 w' := by
  unfold FC at h; subst h
  exact ⟨((hb.put 0 _).other (p := ⟨n, 0, none⟩) hne _), ((hn.other (p := ⟨b, 0, none⟩) hne.symm _).put 0 _), (hB.setCell h1 _).setCell h2 _⟩
/-- What each leaves of find's two variables, and answers. -/
def EC (w0 : World) (b n : Nat) (r : Bool × Nat × List UInt8) (e : Ending) (w' : World) : Prop :=
  e = .returned (.bool r.1) ∧ Has w' b 9 #[.string (ba r.2.2)] ∧ Has w' n 3 #[.int .i64 (r.2.1 : Int)] ∧ Below w0.heap.size w0 w'
set_option maxRecDepth 100000 in
set_option maxHeartbeats 400000 in
theorem each_any (s : ByteArray) (b n : Nat) (v : List UInt8) (k : Nat) (w0 w : World) (hG : Gd w0) (hs : s.size ≤ 4000) (hk : k ≤ 6) (hb : Has w b 9 #[.string (ba v)]) (hn : Has w n 3 #[.int .i64 (k : Int)]) (hne : b ≠ n)
    (hB : Below w0.heap.size w0 w) (h1 : w0.heap.size ≤ b) (h2 : w0.heap.size ≤ n) :
    Calls Tryz.prog 126 #[.string s, .func (.func 127) #[] #[.pointer (some ⟨b, 0, none⟩), .pointer (some ⟨n, 0, none⟩)]] w fun e w' => EC w0 b n (eachF (pieces (tl s)) k v) e w' := by
  have HG := hid hG; have HB := hid hB; have Hb := hid hb; have Hn := hid hn; have Hne := hid hne; have H1 := hid h1; have H2 := hid h2
  clear hG hB hb hn hne h1 h2
  go_enter Tryz.func126, Tryz.ntmps126
  go_wp2
  go_loopw [0, 5] (fun t m wr => ∃ (r : ByteArray) (g : Bool) (j : Nat) (u : List UInt8), t = .string r ∧ m = .bool g ∧ r.size ≤ 4000 ∧ j ≤ 6 ∧ Hid (eachF (pieces (tl s)) k v = if g then eachF (pieces (tl r)) j u else (true, j, u))
      ∧ Hid (Has wr b 9 #[.string (ba u)]) ∧ Hid (Has wr n 3 #[.int .i64 (j : Int)]) ∧ Hid (Below w0.heap.size w0 wr))
    (fun t m _ => match t, m with | .string r, .bool true => r.size + 1 | _, _ => 0)
  case atStart => exact ⟨s, true, k, v, rfl, rfl, hs, hk, rfl, Hb, Hn, HB⟩
  case round =>
    obtain ⟨r, g, j, u, rfl, rfl, hr, hj, HE, J1, J2, J3⟩ := hrel
    cases g with
    | false =>
      go_wp2
      go_ret
      unfold EC
      rw [HE.out]
      exact ⟨rfl, J1.out, J2.out, J3.out⟩
    | true =>
      obtain ⟨p, q, m, HC⟩ : ∃ p q m, Hid (cutS (tl r) = (p, q, m)) := ⟨_, _, _, rfl⟩
      have hp : p.length ≤ 4000 := by have := (cutS_len (tl r)).2.1; rw [HC.out, tl_length] at this; simp only at this; omega
      have hq : q.length ≤ 4000 := by have := (cutS_len (tl r)).1; rw [HC.out, tl_length] at this; simp only at this; omega
      have HQ : Hid (m = true → q.length < r.size) := by intro hm; have := (cutS_len (tl r)).2.2; rw [HC.out, tl_length] at this; exact this hm
      have HP : Hid (eachF (pieces (tl r)) j u = if decide (j + 1 ≤ 6) && nameB p then (if m then eachF (pieces q) (j + 1) p else (true, j + 1, p)) else (false, j + 1, p)) := by
        show _ = _
        rw [pieces_cut, HC.out]
        cases m <;> rfl
      obtain ⟨c, HV⟩ : ∃ c, Hid ((decide (j + 1 ≤ 6) && nameB p) = c) := ⟨_, rfl⟩
      have hps : (ba p).size ≤ 140737488355328 := by rw [ba_size]; omega
      have HF : Hid (∀ (W : World), Has W b 9 #[.string (ba u)] → Has W n 3 #[.int .i64 (j : Int)] → Calls Tryz.prog 127 #[.string (ba p), .pointer (some ⟨b, 0, none⟩), .pointer (some ⟨n, 0, none⟩)] W fun e w' => e = .returned (.bool c) ∧ FC b n (ba p) j W w') := by
        intro W h1 h2
        have := findC_any (ba p) b n _ j W hps hj h1 h2 Hne.out
        rw [tl_ba, HV.out] at this; exact this
      cases c with
      | false =>
        go_wp2_with (first
          | (go_at_call 156; refine (cut_any r p q m HC wr (HG.out.kept J3.out) (by omega)).mono ?_; rintro e1 w1 ⟨rfl, nd, rfl⟩)
          | (go_at_call 127; refine (HF.out _ (J1.out.drawn nd) (J2.out.drawn nd)).mono ?_; rintro e2 w2 ⟨rfl, hfc⟩; have FC1 := hid hfc; clear hfc))
        go_ret
        obtain ⟨F1, F2, F3⟩ := FC1.out.post (J1.out.drawn nd) (J2.out.drawn nd) Hne.out (J3.out.drewN' nd) H1.out H2.out
        unfold EC
        rw [HE.out, if_pos trivial, HP.out, HV.out, if_neg (by decide)]
        exact ⟨rfl, F1, F2, F3⟩
      | true =>
        go_wp2_with (first
          | (go_at_call 156; refine (cut_any r p q m HC wr (HG.out.kept J3.out) (by omega)).mono ?_; rintro e1 w1 ⟨rfl, nd, rfl⟩)
          | (go_at_call 127; refine (HF.out _ (J1.out.drawn nd) (J2.out.drawn nd)).mono ?_; rintro e2 w2 ⟨rfl, hfc⟩; have FC1 := hid hfc; clear hfc))
        have HJ : Hid (j + 1 ≤ 6) := by
          have := HV.out; simp only [Bool.and_eq_true, decide_eq_true_eq] at this; exact this.1
        go_roundw
        case rel =>
          obtain ⟨F1, F2, F3⟩ := FC1.out.post (J1.out.drawn nd) (J2.out.drawn nd) Hne.out (J3.out.drewN' nd) H1.out H2.out
          exact ⟨ba q, m, j + 1, p, rfl, rfl, by rw [ba_size]; exact hq, HJ.out, by show _ = _; rw [HE.out, if_pos trivial, HP.out, HV.out, if_pos rfl, tl_ba], F1, F2, F3⟩
        case measure =>
          cases m with
          | false => simp
          | true => simp [ba_size]; exact HQ.out rfl
end Go.Proofs.YtlbeemlnbpchgaaGreat
