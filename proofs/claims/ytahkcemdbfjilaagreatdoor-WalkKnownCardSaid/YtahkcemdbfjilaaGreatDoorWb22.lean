/- Several texts in one. Conditions: those said at each. -/
import Derived.Test.YtahkcemdbfjilaaGreatDoorWb21
set_option linter.unusedSimpArgs false
set_option linter.unusedVariables false
set_option maxRecDepth 100000
namespace Go.Proofs.YtahkcemdbfjilaaGreatDoor.Glob
open Go.RowKit
def SpanIs (s : By) (e : Ending) : Prop := ∃ lo hi r ok, e = .returned (.tuple #[.agg #[.int .u8 (b8 lo), .int .u8 (b8 hi)], .string (ba r), .bool ok]) ∧ spanL s = if ok then some ((lo, hi), r) else none
theorem results_ctt {fn : Func} {p t u : Tmp} {ty : TypeId} (h : fn.results = #[.cell p ty, .tmp t, .tmp u]) (tmps : Array Value) (P : Program) (w : World) (g : Nat) (cs : Array Value) (b c : Value)
 (hl : (loadVar ty ⟨g, 0, none⟩).run P w = .ok (.agg cs) w) (hp : tmps.getD p undef = .pointer (some ⟨g, 0, none⟩)) (hb : tmps.getD t undef = b) (hc : tmps.getD u undef = c) :
 (results fn tmps).run P w = .ok (.tuple #[.agg cs, b, c]) w := by
 subst hb; subst hc
 simp only [Array.getD_eq_getD_getElem?] at hp ⊢
 simp [results, h, hp, asAddr, hl]
theorem iSpan : (Tryz.prog.info? 281).map (·.size) = some 2 := by kernel_rfl
theorem load_span {w : World} {g : Nat} {a b : Value} (k : Has w g 281 #[a, b]) : (loadVar 281 ⟨g, 0, none⟩).run Tryz.prog w = .ok (.agg #[a, b]) w :=
 run_loadVar_row (P := Tryz.prog) w g 281 281 #[a, b] (0, 0) _ k Tryz.underlying281 rfl iSpan
theorem le8 (x y : UInt8) : decide (b8 x ≤ b8 y) = decide (x.toNat ≤ y.toNat) := by unfold b8; rw [decide_eq_decide]; omega
theorem ne8 (x : UInt8) (k : UInt8) : (b8 x != b8 k) = !(x == k) := by rw [bne, b8_eq]
set_option maxHeartbeats 1000000 in
theorem span_none (s : By) (h : cbL s = none) (w : World) :
 Calls Tryz.prog 254 #[.string (ba s)] w fun e w' => SpanIs s e ∧ Below w.heap.size w w' := by
 have HS : Hid (spanL s = none) := by show _ = _; unfold spanL; rw [h]
 have hc : ∀ W, Calls Tryz.prog 220 #[.string (ba s)] W fun e w' => e = .returned (.tuple #[.int .u8 0, .string ⟨#[]⟩, .bool false]) ∧ ∃ n, w' = W.drewN n := by
  intro W; have := cb_any s W; rw [h] at this; exact this
 clear h
 go_enter Tryz.func254, Tryz.ntmps254
 go_wp2_with (go_at_call 220; refine (hc _).mono ?_; rintro e1 w1 ⟨rfl, n1, rfl⟩)
 exact bodyPost_ret (results_ctt rfl _ _ _ w.heap.size _ _ _ (load_span ((((Has.fresh w 281 _).drawn n1).put 0 _).put 1 _)) rfl rfl rfl) rfl
  ⟨⟨0, 0, [], false, rfl, HS.out⟩, ((((Below.refl _ _).alloc (Nat.le_refl _) _).drewG n1).setCell (Nat.le_refl _) _).setCell (Nat.le_refl _) _⟩
set_option maxHeartbeats 1000000 in
theorem span_st (s : By) (lo : UInt8) (r : By) (h : cbL s = some (lo, r)) (h1 : ¬ 1 < r.length) (h7 : (lo == 47) = true) (w : World) :
 Calls Tryz.prog 254 #[.string (ba s)] w fun e w' => SpanIs s e ∧ Below w.heap.size w w' := by
 have HS : Hid (spanL s = none) := by
  show _ = _; unfold spanL; rw [h]; simp only; rw [if_neg (by rw [decide_eq_false h1]; simp)]; rw [if_neg (by rw [h7]; decide)]
 have hc : ∀ W, Calls Tryz.prog 220 #[.string (ba s)] W fun e w' => e = .returned (.tuple #[.int .u8 (b8 lo), .string (ba r), .bool true]) ∧ ∃ n, w' = W.drewN n := by
  intro W; have := cb_any s W; rw [h] at this; exact this
 have z := ba_size r
 have g1 : ¬ ((1 : Int) < (r.length : Int)) := by omega
 have n7 : (b8 lo != 47) = false := by have := ne8 lo 47; rw [h7] at this; exact this
 clear h h1 h7
 go_enter Tryz.func254, Tryz.ntmps254
 go_wp2_with (fail)
 refine (hc _).mono ?_
 rintro e1 w1 ⟨rfl, n1, rfl⟩
 go_wp2
 exact bodyPost_ret (results_ctt rfl _ _ _ w.heap.size _ _ _ (load_span ((((Has.fresh w 281 _).drawn n1).put 0 _).put 1 _)) rfl rfl rfl) rfl
  ⟨⟨lo, lo, r, false, rfl, HS.out⟩, ((((Below.refl _ _).alloc (Nat.le_refl _) _).drewG n1).setCell (Nat.le_refl _) _).setCell (Nat.le_refl _) _⟩
set_option maxHeartbeats 1000000 in
theorem span_sf (s : By) (lo : UInt8) (r : By) (h : cbL s = some (lo, r)) (h1 : ¬ 1 < r.length) (h7 : (lo == 47) = false) (w : World) :
 Calls Tryz.prog 254 #[.string (ba s)] w fun e w' => SpanIs s e ∧ Below w.heap.size w w' := by
 have HS : Hid (spanL s = some ((lo, lo), r)) := by
  show _ = _; unfold spanL; rw [h]; simp only; rw [if_neg (by rw [decide_eq_false h1]; simp)]; rw [if_pos (by rw [h7]; decide)]
 have hc : ∀ W, Calls Tryz.prog 220 #[.string (ba s)] W fun e w' => e = .returned (.tuple #[.int .u8 (b8 lo), .string (ba r), .bool true]) ∧ ∃ n, w' = W.drewN n := by
  intro W; have := cb_any s W; rw [h] at this; exact this
 have z := ba_size r
 have g1 : ¬ ((1 : Int) < (r.length : Int)) := by omega
 have n7 : (b8 lo != 47) = true := by have := ne8 lo 47; rw [h7] at this; exact this
 clear h h1 h7
 go_enter Tryz.func254, Tryz.ntmps254
 go_wp2_with (fail)
 refine (hc _).mono ?_
 rintro e1 w1 ⟨rfl, n1, rfl⟩
 go_wp2
 exact bodyPost_ret (results_ctt rfl _ _ _ w.heap.size _ _ _ (load_span ((((Has.fresh w 281 _).drawn n1).put 0 _).put 1 _)) rfl rfl rfl) rfl
  ⟨⟨lo, lo, r, true, rfl, HS.out⟩, ((((Below.refl _ _).alloc (Nat.le_refl _) _).drewG n1).setCell (Nat.le_refl _) _).setCell (Nat.le_refl _) _⟩
set_option maxHeartbeats 1000000 in
theorem span_at (s : By) (lo : UInt8) (r : By) (h : cbL s = some (lo, r)) (h1 : 1 < r.length) (h2 : (at8 r 0 == 45) = false) (h7 : (lo == 47) = true) (w : World) :
 Calls Tryz.prog 254 #[.string (ba s)] w fun e w' => SpanIs s e ∧ Below w.heap.size w w' := by
 have HS : Hid (spanL s = none) := by
  show _ = _; unfold spanL; rw [h]; simp only; rw [if_neg (by rw [h2, Bool.and_false]; simp)]; rw [if_neg (by rw [h7]; decide)]
 have hc : ∀ W, Calls Tryz.prog 220 #[.string (ba s)] W fun e w' => e = .returned (.tuple #[.int .u8 (b8 lo), .string (ba r), .bool true]) ∧ ∃ n, w' = W.drewN n := by
  intro W; have := cb_any s W; rw [h] at this; exact this
 have z := ba_size r
 have g1 : (1 : Int) < (r.length : Int) := by omega
 have i0 := idx0 r (by omega)
 have q0 : (b8 (at8 r 0) == 45) = false := (b8_eq (at8 r 0) 45).trans h2
 generalize at8 r 0 = x0 at i0 q0
 have n7 : (b8 lo != 47) = false := by have := ne8 lo 47; rw [h7] at this; exact this
 clear h h1 h2 h7
 go_enter Tryz.func254, Tryz.ntmps254
 go_wp2_with (fail)
 refine (hc _).mono ?_
 rintro e1 w1 ⟨rfl, n1, rfl⟩
 go_wp2
 exact bodyPost_ret (results_ctt rfl _ _ _ w.heap.size _ _ _ (load_span ((((Has.fresh w 281 _).drawn n1).put 0 _).put 1 _)) rfl rfl rfl) rfl
  ⟨⟨lo, lo, r, false, rfl, HS.out⟩, ((((Below.refl _ _).alloc (Nat.le_refl _) _).drewG n1).setCell (Nat.le_refl _) _).setCell (Nat.le_refl _) _⟩
set_option maxHeartbeats 1000000 in
theorem span_af (s : By) (lo : UInt8) (r : By) (h : cbL s = some (lo, r)) (h1 : 1 < r.length) (h2 : (at8 r 0 == 45) = false) (h7 : (lo == 47) = false) (w : World) :
 Calls Tryz.prog 254 #[.string (ba s)] w fun e w' => SpanIs s e ∧ Below w.heap.size w w' := by
 have HS : Hid (spanL s = some ((lo, lo), r)) := by
  show _ = _; unfold spanL; rw [h]; simp only; rw [if_neg (by rw [h2, Bool.and_false]; simp)]; rw [if_pos (by rw [h7]; decide)]
 have hc : ∀ W, Calls Tryz.prog 220 #[.string (ba s)] W fun e w' => e = .returned (.tuple #[.int .u8 (b8 lo), .string (ba r), .bool true]) ∧ ∃ n, w' = W.drewN n := by
  intro W; have := cb_any s W; rw [h] at this; exact this
 have z := ba_size r
 have g1 : (1 : Int) < (r.length : Int) := by omega
 have i0 := idx0 r (by omega)
 have q0 : (b8 (at8 r 0) == 45) = false := (b8_eq (at8 r 0) 45).trans h2
 generalize at8 r 0 = x0 at i0 q0
 have n7 : (b8 lo != 47) = true := by have := ne8 lo 47; rw [h7] at this; exact this
 clear h h1 h2 h7
 go_enter Tryz.func254, Tryz.ntmps254
 go_wp2_with (fail)
 refine (hc _).mono ?_
 rintro e1 w1 ⟨rfl, n1, rfl⟩
 go_wp2
 exact bodyPost_ret (results_ctt rfl _ _ _ w.heap.size _ _ _ (load_span ((((Has.fresh w 281 _).drawn n1).put 0 _).put 1 _)) rfl rfl rfl) rfl
  ⟨⟨lo, lo, r, true, rfl, HS.out⟩, ((((Below.refl _ _).alloc (Nat.le_refl _) _).drewG n1).setCell (Nat.le_refl _) _).setCell (Nat.le_refl _) _⟩
set_option maxHeartbeats 1000000 in
theorem span_bt (s : By) (lo : UInt8) (r : By) (h : cbL s = some (lo, r)) (h1 : 1 < r.length) (h2 : (at8 r 0 == 45) = true) (h3 : (at8 r 1 == 93) = true) (h7 : (lo == 47) = true) (w : World) :
 Calls Tryz.prog 254 #[.string (ba s)] w fun e w' => SpanIs s e ∧ Below w.heap.size w w' := by
 have HS : Hid (spanL s = none) := by
  show _ = _; unfold spanL; rw [h]; simp only; rw [if_neg (by rw [h3, Bool.not_true, Bool.and_false]; simp)]; rw [if_neg (by rw [h7]; decide)]
 have hc : ∀ W, Calls Tryz.prog 220 #[.string (ba s)] W fun e w' => e = .returned (.tuple #[.int .u8 (b8 lo), .string (ba r), .bool true]) ∧ ∃ n, w' = W.drewN n := by
  intro W; have := cb_any s W; rw [h] at this; exact this
 have z := ba_size r
 have g1 : (1 : Int) < (r.length : Int) := by omega
 have i0 := idx0 r (by omega)
 have i1 := idx1 r h1
 have q0 : (b8 (at8 r 0) == 45) = true := (b8_eq (at8 r 0) 45).trans h2
 have q1 : (b8 (at8 r 1) != 93) = false := by have := ne8 (at8 r 1) 93; rw [h3] at this; exact this
 generalize at8 r 0 = x0 at i0 q0 h2
 generalize at8 r 1 = x1 at i1 q1 h3
 have n7 : (b8 lo != 47) = false := by have := ne8 lo 47; rw [h7] at this; exact this
 clear h h2 h3 h7
 go_enter Tryz.func254, Tryz.ntmps254
 go_wp2_with (fail)
 refine (hc _).mono ?_
 rintro e1 w1 ⟨rfl, n1, rfl⟩
 go_wp2
 exact bodyPost_ret (results_ctt rfl _ _ _ w.heap.size _ _ _ (load_span ((((Has.fresh w 281 _).drawn n1).put 0 _).put 1 _)) rfl rfl rfl) rfl
  ⟨⟨lo, lo, r, false, rfl, HS.out⟩, ((((Below.refl _ _).alloc (Nat.le_refl _) _).drewG n1).setCell (Nat.le_refl _) _).setCell (Nat.le_refl _) _⟩
set_option maxHeartbeats 1000000 in
theorem span_bf (s : By) (lo : UInt8) (r : By) (h : cbL s = some (lo, r)) (h1 : 1 < r.length) (h2 : (at8 r 0 == 45) = true) (h3 : (at8 r 1 == 93) = true) (h7 : (lo == 47) = false) (w : World) :
 Calls Tryz.prog 254 #[.string (ba s)] w fun e w' => SpanIs s e ∧ Below w.heap.size w w' := by
 have HS : Hid (spanL s = some ((lo, lo), r)) := by
  show _ = _; unfold spanL; rw [h]; simp only; rw [if_neg (by rw [h3, Bool.not_true, Bool.and_false]; simp)]; rw [if_pos (by rw [h7]; decide)]
 have hc : ∀ W, Calls Tryz.prog 220 #[.string (ba s)] W fun e w' => e = .returned (.tuple #[.int .u8 (b8 lo), .string (ba r), .bool true]) ∧ ∃ n, w' = W.drewN n := by
  intro W; have := cb_any s W; rw [h] at this; exact this
 have z := ba_size r
 have g1 : (1 : Int) < (r.length : Int) := by omega
 have i0 := idx0 r (by omega)
 have i1 := idx1 r h1
 have q0 : (b8 (at8 r 0) == 45) = true := (b8_eq (at8 r 0) 45).trans h2
 have q1 : (b8 (at8 r 1) != 93) = false := by have := ne8 (at8 r 1) 93; rw [h3] at this; exact this
 generalize at8 r 0 = x0 at i0 q0 h2
 generalize at8 r 1 = x1 at i1 q1 h3
 have n7 : (b8 lo != 47) = true := by have := ne8 lo 47; rw [h7] at this; exact this
 clear h h2 h3 h7
 go_enter Tryz.func254, Tryz.ntmps254
 go_wp2_with (fail)
 refine (hc _).mono ?_
 rintro e1 w1 ⟨rfl, n1, rfl⟩
 go_wp2
 exact bodyPost_ret (results_ctt rfl _ _ _ w.heap.size _ _ _ (load_span ((((Has.fresh w 281 _).drawn n1).put 0 _).put 1 _)) rfl rfl rfl) rfl
  ⟨⟨lo, lo, r, true, rfl, HS.out⟩, ((((Below.refl _ _).alloc (Nat.le_refl _) _).drewG n1).setCell (Nat.le_refl _) _).setCell (Nat.le_refl _) _⟩
set_option maxHeartbeats 1000000 in
theorem span_2n (s : By) (lo : UInt8) (r : By) (h : cbL s = some (lo, r)) (h1 : 1 < r.length) (h2 : (at8 r 0 == 45) = true) (h3 : (at8 r 1 == 93) = false) (h4 : cbL (r.drop 1) = none) (w : World) :
 Calls Tryz.prog 254 #[.string (ba s)] w fun e w' => SpanIs s e ∧ Below w.heap.size w w' := by
 have HS : Hid (spanL s = none) := by
  show _ = _; unfold spanL; rw [h]; simp only; rw [if_pos (by rw [decide_eq_true h1, h2, h3]; rfl), h4]
 have hc : ∀ W, Calls Tryz.prog 220 #[.string (ba s)] W fun e w' => e = .returned (.tuple #[.int .u8 (b8 lo), .string (ba r), .bool true]) ∧ ∃ n, w' = W.drewN n := by
  intro W; have := cb_any s W; rw [h] at this; exact this
 have z := ba_size r
 have g1 : (1 : Int) < (r.length : Int) := by omega
 have i0 := idx0 r (by omega)
 have i1 := idx1 r h1
 have q0 : (b8 (at8 r 0) == 45) = true := (b8_eq (at8 r 0) 45).trans h2
 have q1 : (b8 (at8 r 1) != 93) = true := by have := ne8 (at8 r 1) 93; rw [h3] at this; exact this
 have hdrop := ba_drop r 1
 generalize r.drop 1 = rd at hdrop h4
 generalize at8 r 0 = x0 at i0 q0 h2
 generalize at8 r 1 = x1 at i1 q1 h3
 have hc2 : ∀ W, Calls Tryz.prog 220 #[.string (ba rd)] W fun e w' => e = .returned (.tuple #[.int .u8 0, .string ⟨#[]⟩, .bool false]) ∧ ∃ n, w' = W.drewN n := by
  intro W; have := cb_any rd W; rw [h4] at this; exact this
 clear h h2 h3 h4
 go_enter Tryz.func254, Tryz.ntmps254
 go_wp2_with (fail)
 refine (hc _).mono ?_
 rintro e1 w1 ⟨rfl, n1, rfl⟩
 go_wp2_with (fail)
 refine (hc2 _).mono ?_
 rintro e2 w2 ⟨rfl, n2, rfl⟩
 go_wp2
 exact bodyPost_ret (results_ctt rfl _ _ _ w.heap.size _ _ _ (load_span ((((Has.fresh w 281 _).drawn (n1 + n2)).put 0 _).put 1 _)) rfl rfl rfl) rfl
  ⟨⟨lo, 0, [], false, rfl, HS.out⟩, ((((Below.refl _ _).alloc (Nat.le_refl _) _).drewG (n1 + n2)).setCell (Nat.le_refl _) _).setCell (Nat.le_refl _) _⟩
set_option maxHeartbeats 1000000 in
theorem span_2f (s : By) (lo : UInt8) (r : By) (h : cbL s = some (lo, r)) (h1 : 1 < r.length) (h2 : (at8 r 0 == 45) = true) (h3 : (at8 r 1 == 93) = false) (hi : UInt8) (r2 : By) (h4 : cbL (r.drop 1) = some (hi, r2)) (h5 : decide (lo.toNat ≤ hi.toNat) = false) (w : World) :
 Calls Tryz.prog 254 #[.string (ba s)] w fun e w' => SpanIs s e ∧ Below w.heap.size w w' := by
 have HS : Hid (spanL s = none) := by
  show _ = _; unfold spanL; rw [h]; simp only; rw [if_pos (by rw [decide_eq_true h1, h2, h3]; rfl), h4]; simp only; rw [if_neg (by rw [h5]; simp)]
 have hc : ∀ W, Calls Tryz.prog 220 #[.string (ba s)] W fun e w' => e = .returned (.tuple #[.int .u8 (b8 lo), .string (ba r), .bool true]) ∧ ∃ n, w' = W.drewN n := by
  intro W; have := cb_any s W; rw [h] at this; exact this
 have z := ba_size r
 have g1 : (1 : Int) < (r.length : Int) := by omega
 have i0 := idx0 r (by omega)
 have i1 := idx1 r h1
 have q0 : (b8 (at8 r 0) == 45) = true := (b8_eq (at8 r 0) 45).trans h2
 have q1 : (b8 (at8 r 1) != 93) = true := by have := ne8 (at8 r 1) 93; rw [h3] at this; exact this
 have hdrop := ba_drop r 1
 generalize r.drop 1 = rd at hdrop h4
 generalize at8 r 0 = x0 at i0 q0 h2
 generalize at8 r 1 = x1 at i1 q1 h3
 have hc2 : ∀ W, Calls Tryz.prog 220 #[.string (ba rd)] W fun e w' => e = .returned (.tuple #[.int .u8 (b8 hi), .string (ba r2), .bool true]) ∧ ∃ n, w' = W.drewN n := by
  intro W; have := cb_any rd W; rw [h4] at this; exact this
 have n5 : decide (b8 lo ≤ b8 hi) = false := (le8 lo hi).trans h5
 clear h h2 h3 h4 h5
 go_enter Tryz.func254, Tryz.ntmps254
 go_wp2_with (fail)
 refine (hc _).mono ?_
 rintro e1 w1 ⟨rfl, n1, rfl⟩
 go_wp2_with (fail)
 refine (hc2 _).mono ?_
 rintro e2 w2 ⟨rfl, n2, rfl⟩
 go_wp2
 exact bodyPost_ret (results_ctt rfl _ _ _ w.heap.size _ _ _ (load_span ((((Has.fresh w 281 _).drawn (n1 + n2)).put 0 _).put 1 _)) rfl rfl rfl) rfl
  ⟨⟨lo, hi, r2, false, rfl, HS.out⟩, ((((Below.refl _ _).alloc (Nat.le_refl _) _).drewG (n1 + n2)).setCell (Nat.le_refl _) _).setCell (Nat.le_refl _) _⟩
set_option maxHeartbeats 1000000 in
theorem span_2tt (s : By) (lo : UInt8) (r : By) (h : cbL s = some (lo, r)) (h1 : 1 < r.length) (h2 : (at8 r 0 == 45) = true) (h3 : (at8 r 1 == 93) = false) (hi : UInt8) (r2 : By) (h4 : cbL (r.drop 1) = some (hi, r2)) (h5 : decide (lo.toNat ≤ hi.toNat) = true) (h7 : (lo == 47) = true) (w : World) :
 Calls Tryz.prog 254 #[.string (ba s)] w fun e w' => SpanIs s e ∧ Below w.heap.size w w' := by
 have HS : Hid (spanL s = none) := by
  show _ = _; unfold spanL; rw [h]; simp only; rw [if_pos (by rw [decide_eq_true h1, h2, h3]; rfl), h4]; simp only; rw [if_neg (by rw [h5, h7]; simp)]
 have hc : ∀ W, Calls Tryz.prog 220 #[.string (ba s)] W fun e w' => e = .returned (.tuple #[.int .u8 (b8 lo), .string (ba r), .bool true]) ∧ ∃ n, w' = W.drewN n := by
  intro W; have := cb_any s W; rw [h] at this; exact this
 have z := ba_size r
 have g1 : (1 : Int) < (r.length : Int) := by omega
 have i0 := idx0 r (by omega)
 have i1 := idx1 r h1
 have q0 : (b8 (at8 r 0) == 45) = true := (b8_eq (at8 r 0) 45).trans h2
 have q1 : (b8 (at8 r 1) != 93) = true := by have := ne8 (at8 r 1) 93; rw [h3] at this; exact this
 have hdrop := ba_drop r 1
 generalize r.drop 1 = rd at hdrop h4
 generalize at8 r 0 = x0 at i0 q0 h2
 generalize at8 r 1 = x1 at i1 q1 h3
 have hc2 : ∀ W, Calls Tryz.prog 220 #[.string (ba rd)] W fun e w' => e = .returned (.tuple #[.int .u8 (b8 hi), .string (ba r2), .bool true]) ∧ ∃ n, w' = W.drewN n := by
  intro W; have := cb_any rd W; rw [h4] at this; exact this
 have n5 : decide (b8 lo ≤ b8 hi) = true := (le8 lo hi).trans h5
 have n7 : (b8 lo != 47) = false := by have := ne8 lo 47; rw [h7] at this; exact this
 clear h h2 h3 h4 h5 h7
 go_enter Tryz.func254, Tryz.ntmps254
 go_wp2_with (fail)
 refine (hc _).mono ?_
 rintro e1 w1 ⟨rfl, n1, rfl⟩
 go_wp2_with (fail)
 refine (hc2 _).mono ?_
 rintro e2 w2 ⟨rfl, n2, rfl⟩
 go_wp2
 exact bodyPost_ret (results_ctt rfl _ _ _ w.heap.size _ _ _ (load_span ((((Has.fresh w 281 _).drawn (n1 + n2)).put 0 _).put 1 _)) rfl rfl rfl) rfl
  ⟨⟨lo, hi, r2, false, rfl, HS.out⟩, ((((Below.refl _ _).alloc (Nat.le_refl _) _).drewG (n1 + n2)).setCell (Nat.le_refl _) _).setCell (Nat.le_refl _) _⟩
set_option maxHeartbeats 1000000 in
theorem span_2tft (s : By) (lo : UInt8) (r : By) (h : cbL s = some (lo, r)) (h1 : 1 < r.length) (h2 : (at8 r 0 == 45) = true) (h3 : (at8 r 1 == 93) = false) (hi : UInt8) (r2 : By) (h4 : cbL (r.drop 1) = some (hi, r2)) (h5 : decide (lo.toNat ≤ hi.toNat) = true) (h7 : (lo == 47) = false) (h8 : (hi == 47) = true) (w : World) :
 Calls Tryz.prog 254 #[.string (ba s)] w fun e w' => SpanIs s e ∧ Below w.heap.size w w' := by
 have HS : Hid (spanL s = none) := by
  show _ = _; unfold spanL; rw [h]; simp only; rw [if_pos (by rw [decide_eq_true h1, h2, h3]; rfl), h4]; simp only; rw [if_neg (by rw [h5, h7, h8]; decide)]
 have hc : ∀ W, Calls Tryz.prog 220 #[.string (ba s)] W fun e w' => e = .returned (.tuple #[.int .u8 (b8 lo), .string (ba r), .bool true]) ∧ ∃ n, w' = W.drewN n := by
  intro W; have := cb_any s W; rw [h] at this; exact this
 have z := ba_size r
 have g1 : (1 : Int) < (r.length : Int) := by omega
 have i0 := idx0 r (by omega)
 have i1 := idx1 r h1
 have q0 : (b8 (at8 r 0) == 45) = true := (b8_eq (at8 r 0) 45).trans h2
 have q1 : (b8 (at8 r 1) != 93) = true := by have := ne8 (at8 r 1) 93; rw [h3] at this; exact this
 have hdrop := ba_drop r 1
 generalize r.drop 1 = rd at hdrop h4
 generalize at8 r 0 = x0 at i0 q0 h2
 generalize at8 r 1 = x1 at i1 q1 h3
 have hc2 : ∀ W, Calls Tryz.prog 220 #[.string (ba rd)] W fun e w' => e = .returned (.tuple #[.int .u8 (b8 hi), .string (ba r2), .bool true]) ∧ ∃ n, w' = W.drewN n := by
  intro W; have := cb_any rd W; rw [h4] at this; exact this
 have n5 : decide (b8 lo ≤ b8 hi) = true := (le8 lo hi).trans h5
 have n7 : (b8 lo != 47) = true := by have := ne8 lo 47; rw [h7] at this; exact this
 have n8 : (b8 hi != 47) = false := by have := ne8 hi 47; rw [h8] at this; exact this
 clear h h2 h3 h4 h5 h7 h8
 go_enter Tryz.func254, Tryz.ntmps254
 go_wp2_with (fail)
 refine (hc _).mono ?_
 rintro e1 w1 ⟨rfl, n1, rfl⟩
 go_wp2_with (fail)
 refine (hc2 _).mono ?_
 rintro e2 w2 ⟨rfl, n2, rfl⟩
 go_wp2
 exact bodyPost_ret (results_ctt rfl _ _ _ w.heap.size _ _ _ (load_span ((((Has.fresh w 281 _).drawn (n1 + n2)).put 0 _).put 1 _)) rfl rfl rfl) rfl
  ⟨⟨lo, hi, r2, false, rfl, HS.out⟩, ((((Below.refl _ _).alloc (Nat.le_refl _) _).drewG (n1 + n2)).setCell (Nat.le_refl _) _).setCell (Nat.le_refl _) _⟩
set_option maxHeartbeats 1000000 in
theorem span_2tff (s : By) (lo : UInt8) (r : By) (h : cbL s = some (lo, r)) (h1 : 1 < r.length) (h2 : (at8 r 0 == 45) = true) (h3 : (at8 r 1 == 93) = false) (hi : UInt8) (r2 : By) (h4 : cbL (r.drop 1) = some (hi, r2)) (h5 : decide (lo.toNat ≤ hi.toNat) = true) (h7 : (lo == 47) = false) (h8 : (hi == 47) = false) (w : World) :
 Calls Tryz.prog 254 #[.string (ba s)] w fun e w' => SpanIs s e ∧ Below w.heap.size w w' := by
 have HS : Hid (spanL s = some ((lo, hi), r2)) := by
  show _ = _; unfold spanL; rw [h]; simp only; rw [if_pos (by rw [decide_eq_true h1, h2, h3]; rfl), h4]; simp only; rw [if_pos (by rw [h5, h7, h8]; decide)]
 have hc : ∀ W, Calls Tryz.prog 220 #[.string (ba s)] W fun e w' => e = .returned (.tuple #[.int .u8 (b8 lo), .string (ba r), .bool true]) ∧ ∃ n, w' = W.drewN n := by
  intro W; have := cb_any s W; rw [h] at this; exact this
 have z := ba_size r
 have g1 : (1 : Int) < (r.length : Int) := by omega
 have i0 := idx0 r (by omega)
 have i1 := idx1 r h1
 have q0 : (b8 (at8 r 0) == 45) = true := (b8_eq (at8 r 0) 45).trans h2
 have q1 : (b8 (at8 r 1) != 93) = true := by have := ne8 (at8 r 1) 93; rw [h3] at this; exact this
 have hdrop := ba_drop r 1
 generalize r.drop 1 = rd at hdrop h4
 generalize at8 r 0 = x0 at i0 q0 h2
 generalize at8 r 1 = x1 at i1 q1 h3
 have hc2 : ∀ W, Calls Tryz.prog 220 #[.string (ba rd)] W fun e w' => e = .returned (.tuple #[.int .u8 (b8 hi), .string (ba r2), .bool true]) ∧ ∃ n, w' = W.drewN n := by
  intro W; have := cb_any rd W; rw [h4] at this; exact this
 have n5 : decide (b8 lo ≤ b8 hi) = true := (le8 lo hi).trans h5
 have n7 : (b8 lo != 47) = true := by have := ne8 lo 47; rw [h7] at this; exact this
 have n8 : (b8 hi != 47) = true := by have := ne8 hi 47; rw [h8] at this; exact this
 clear h h2 h3 h4 h5 h7 h8
 go_enter Tryz.func254, Tryz.ntmps254
 go_wp2_with (fail)
 refine (hc _).mono ?_
 rintro e1 w1 ⟨rfl, n1, rfl⟩
 go_wp2_with (fail)
 refine (hc2 _).mono ?_
 rintro e2 w2 ⟨rfl, n2, rfl⟩
 go_wp2
 exact bodyPost_ret (results_ctt rfl _ _ _ w.heap.size _ _ _ (load_span ((((Has.fresh w 281 _).drawn (n1 + n2)).put 0 _).put 1 _)) rfl rfl rfl) rfl
  ⟨⟨lo, hi, r2, true, rfl, HS.out⟩, ((((Below.refl _ _).alloc (Nat.le_refl _) _).drewG (n1 + n2)).setCell (Nat.le_refl _) _).setCell (Nat.le_refl _) _⟩
theorem span_any (s : By) (w : World) :
 Calls Tryz.prog 254 #[.string (ba s)] w fun e w' => SpanIs s e ∧ Below w.heap.size w w' := by
 cases h : cbL s with
 | none => exact span_none s h w
 | some y =>
  obtain ⟨lo, r⟩ := y
  by_cases h1 : 1 < r.length
  · cases h2 : at8 r 0 == 45 with
    | false => cases h7 : lo == 47 with
     | true => exact span_at s lo r h h1 h2 h7 w
     | false => exact span_af s lo r h h1 h2 h7 w
    | true => cases h3 : at8 r 1 == 93 with
     | true => cases h7 : lo == 47 with
      | true => exact span_bt s lo r h h1 h2 h3 h7 w
      | false => exact span_bf s lo r h h1 h2 h3 h7 w
     | false => cases h4 : cbL (r.drop 1) with
      | none => exact span_2n s lo r h h1 h2 h3 h4 w
      | some y =>
       obtain ⟨hi, r2⟩ := y
       cases h5 : decide (lo.toNat ≤ hi.toNat) with
       | false => exact span_2f s lo r h h1 h2 h3 hi r2 h4 h5 w
       | true => cases h7 : lo == 47 with
        | true => exact span_2tt s lo r h h1 h2 h3 hi r2 h4 h5 h7 w
        | false => cases h8 : hi == 47 with
              | true => exact span_2tft s lo r h h1 h2 h3 hi r2 h4 h5 h7 h8 w
              | false => exact span_2tff s lo r h h1 h2 h3 hi r2 h4 h5 h7 h8 w
  · cases h7 : lo == 47 with
    | true => exact span_st s lo r h h1 h7 w
    | false => exact span_sf s lo r h h1 h7 w
end Go.Proofs.YtahkcemdbfjilaaGreatDoor.Glob
