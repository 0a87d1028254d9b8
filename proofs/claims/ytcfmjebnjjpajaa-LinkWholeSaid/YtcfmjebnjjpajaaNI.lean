/- The document's Send, Deliver: what each call does. Conditions: a link; at most 500000 bytes that come in. -/
import Derived.Test.YtcfmjebnjjpajaaNH
namespace Go.Proofs.Ytcfmjebnjjpajaa
open Go.RowKit
/-- The stream's block: that of before, or none, or a new one. -/
def Ny (b b' : Nat) (w : World) : Prop := b' = b ∨ b' = 0 ∨ w.heap.size ≤ b'
theorem Fresh.blk {B : Nat} {w : World} {v : Value} {xs : List UInt8} (h : Fresh B w v xs) (hw : 0 < w.heap.size) : ∃ A cap bb, Bytes w v xs A cap bb 0 ∧ (bb = 0 ∨ B ≤ bb) := by
  obtain ⟨A, c, bb, h1, _, h3⟩ := h.bytes hw
  refine ⟨A, c, bb, h1, ?_⟩
  rcases h3 with e | ⟨_, e⟩
  · exact .inr (h.lt bb e).1
  · exact .inl e
set_option maxRecDepth 100000 in
set_option maxHeartbeats 400000 in
theorem rsend_bad (q : Nat) (n : Int) (hn : n < 1 ∨ 2 < n) (bv : Value) (w : World) : Calls Try.prog 19 #[.pointer (some ⟨q, 0, none⟩), .int .i64 n, bv] w fun e w' => e = .returned (.int .i64 2) ∧ w = w' := by
  have h1 : (n != 1) = true := by simp; omega
  have h2 : (n != 2) = true := by simp; omega
  clear hn
  go_enter Try.func19, Try.ntmps19
  go_wp2
  go_ret
  exact ⟨rfl, rfl⟩
set_option maxRecDepth 100000 in
set_option maxHeartbeats 2000000 in
theorem rsend_any (k : Nat) (hk : k < 2) (q : Nat) (n : Int) (hn : n = 2 - (k : Int)) (bv : Value) (ys : List UInt8) (A : Option Addr) (cap bb off : Nat) (hy : ys.length ≤ 500000) (xs : Nat → List UInt8) (m : Nat) (b : Nat → Nat) (w : World) (hp : 0 < q) (h : Dq w q xs m b) (hs : Bytes w bv ys A cap bb off) :
    Calls Try.prog 19 #[.pointer (some ⟨q, 0, none⟩), .int .i64 n, bv] w fun e w' => e = .returned (.int .i64 (sendE (xs k) ys)) ∧ ∃ b', Dq w' q (upd xs k (sendX (xs k) ys)) m (upd b k b') ∧ Ny (b k) b' w ∧ Grw q w w' := by
  have HD := hid h
  have HS := hid hs
  have HP := hid hp
  have HK := hid hk
  have HW : Hid (0 < w.heap.size) := Nat.lt_of_le_of_lt (Nat.zero_le _) h.inside
  have HLN : Hid ((xs k).length ≤ 262144) := h.len hk
  obtain ⟨A0, l0, c0, o0, d0, f0, hy0, rfl⟩ := h.cell hk
  have HY0 := hid hy0
  have C := hid (flight_any k hk q ((k : Int) + 1) rfl _ _ _ w d0)
  have hne : (n = 2 ∧ (k : Int) + 1 = 1) ∨ (n = 1 ∧ (k : Int) + 1 = 2) := by omega
  have wsum : wrap64 (((xs k).length : Int) + (ys.length : Int)) = ((xs k).length : Int) + (ys.length : Int) := by have := HLN.out; simp [wrap64]; omega
  obtain rfl := hs.form
  by_cases hlt : 262144 < (xs k).length + ys.length
  · have E1 : Hid (sendE (xs k) ys = 7 ∧ sendX (xs k) ys = xs k) := by show _ ∧ _; simp [sendE, sendX, hlt]
    rw [E1.out.1, E1.out.2]
    have g1 : (262144 : Int) < ((xs k).length : Int) + (ys.length : Int) := by omega
    clear hlt h hs hk hn hy hy0 hp
    rcases hne with ⟨rfl, hk1⟩ | ⟨rfl, hk1⟩
    all_goals
      rw [hk1] at C
      clear hk1
      go_enter Try.func19, Try.ntmps19
      go_wp2_with (go_at_call 24; refine C.out.mono ?_; rintro e w' ⟨rfl, rfl⟩)
      go_ret
      refine ⟨rfl, b k, ?_, .inl rfl, Grw.refl _ _⟩
      rw [upd_self, upd_self]
      exact HD.out
  · have E1 : Hid (sendE (xs k) ys = 0 ∧ sendX (xs k) ys = xs k ++ ys) := by show _ ∧ _; simp [sendE, sendX, hlt]
    rw [E1.out.1, E1.out.2]
    have g1 : ¬ (262144 : Int) < ((xs k).length : Int) + (ys.length : Int) := by omega
    have HB : Hid ((xs k ++ ys).length ≤ 262144) := by show _ ≤ _; rw [List.length_append]; omega
    clear hlt h hs hk hn hy hy0 hp
    rcases hne with ⟨rfl, hk1⟩ | ⟨rfl, hk1⟩
    all_goals
      rw [hk1] at C
      have HK1 := hid hk1
      clear hk1
      go_enter Try.func19, Try.ntmps19
      go_wp2_with (first
        | (go_at_call 24; refine C.out.mono ?_; rintro e w' ⟨rfl, rfl⟩)
        | (at_builtin; refine wpList_append_run (by rfl) _ _ 26 26 (by rfl) ?_
           obtain ⟨v1, w1, hr, hf, hb⟩ := append_new w HY0.out (by have := HLN.out; omega)
           refine ⟨v1, w1, hr, ?_⟩
           have F1 := hid hf
           have B1 := hid hb
           obtain ⟨A1, c1, b1, hy1, _⟩ := hf.blk (Nat.lt_of_lt_of_le HW.out hb.size)
           obtain rfl := hy1.form
           clear hr hf hb hy1)
        | (at_builtin; refine wpList_append_run (by rfl) _ _ 26 26 (by rfl) ?_
           obtain ⟨v2, w2, hr, hf, hb⟩ := append_more F1.out (HS.out.kept B1.out (Nat.le_refl _)) (by have := HB.out; rw [List.length_append] at this; omega) B1.out.size
           refine ⟨v2, w2, hr, ?_⟩
           have B2 : Hid (Below w.heap.size w w2) := B1.out.trans hb
           obtain ⟨A2, c2, b2, hy2, hn2'⟩ := hf.blk (Nat.lt_of_lt_of_le HW.out B2.out.size)
           have Y2 := hid hy2
           have N2 := hid hn2'
           obtain rfl := hy2.form
           have CS : Hid (Calls Try.prog 28 #[.pointer (some ⟨q, 0, none⟩), .int .i64 ((k : Int) + 1), .slice A2 (xs k ++ ys).length c2] w2 fun e w' => e = .returned (.tuple #[]) ∧ w' = w2.setCell ⟨q, k, none⟩ (.slice A2 (xs k ++ ys).length c2)) := by
             obtain ⟨A3, l3, c3, _, d3, f3, _⟩ := (HD.out.kept B2.out (Nat.le_refl _)).cell HK.out
             exact set_any k HK.out q _ rfl _ _ _ _ _ _ w2 d3 f3
           rw [List.length_append, HK1.out] at CS
           clear hr hf hb hy2 hn2')
        | (go_at_call 28; refine CS.out.mono ?_; rintro e w3 ⟨rfl, rfl⟩))
      go_ret
      have z := dq_put HD.out B2.out HK.out Y2.out (b' := b2) (by have := N2.out; have := HD.out.inside; have := HP.out; omega) HB.out
      rw [List.length_append] at z
      exact ⟨rfl, b2, z, .inr N2.out, (Grw.of_below B2.out).trans (Grw.of_set q k w2 _)⟩
set_option maxRecDepth 100000 in
set_option maxHeartbeats 400000 in
theorem rdeliver_bad (q : Nat) (n : Int) (hn : n < 1 ∨ 2 < n) (c : Int) (w : World) : Calls Try.prog 20 #[.pointer (some ⟨q, 0, none⟩), .int .i64 n, .int .i64 c] w fun e w' => e = .returned (.tuple #[.slice none 0 0, .int .i64 2]) ∧ w = w' := by
  have h1 : (n != 1) = true := by simp; omega
  have h2 : (n != 2) = true := by simp; omega
  clear hn
  go_enter Try.func20, Try.ntmps20
  go_wp2
  go_ret2
  exact ⟨rfl, rfl⟩
set_option maxRecDepth 100000 in
set_option maxHeartbeats 400000 in
theorem rdeliver_neg (q : Nat) (n : Int) (hn : n = 1 ∨ n = 2) (c : Int) (hc : c < 0) (w : World) : Calls Try.prog 20 #[.pointer (some ⟨q, 0, none⟩), .int .i64 n, .int .i64 c] w fun e w' => e = .returned (.tuple #[.slice none 0 0, .int .i64 2]) ∧ w = w' := by
  rcases hn with rfl | rfl
  all_goals
    go_enter Try.func20, Try.ntmps20
    go_wp2
    go_ret2
    exact ⟨rfl, rfl⟩
set_option maxRecDepth 100000 in
set_option maxHeartbeats 2000000 in
theorem rdeliver_any (k : Nat) (hk : k < 2) (q : Nat) (n : Int) (hn : n = (k : Int) + 1) (c : Int) (hc : 0 ≤ c) (xs : Nat → List UInt8) (m : Nat) (b : Nat → Nat) (r : Nat) (hr : (r : Int) = min c ((xs k).length : Int)) (w : World) (hp : 0 < q) (h : Dq w q xs m b) :
    Calls Try.prog 20 #[.pointer (some ⟨q, 0, none⟩), .int .i64 n, .int .i64 c] w fun e w' => ∃ A cap bb, e = .returned (.tuple #[.slice A r cap, .int .i64 0]) ∧ Bytes w' (.slice A r cap) ((xs k).take r) A cap bb 0 ∧ (bb = 0 ∨ w.heap.size ≤ bb) ∧
      ∃ b', Dq w' q (upd xs k ((xs k).drop r)) m (upd b k b') ∧ Ny (b k) b' w ∧ Grw q w w' := by
  have HD := hid h
  have HP := hid hp
  have HK := hid hk
  have HW : Hid (0 < w.heap.size) := Nat.lt_of_le_of_lt (Nat.zero_le _) h.inside
  have HLN : Hid ((xs k).length ≤ 262144) := h.len hk
  have HRL : Hid (r ≤ (xs k).length) := by show _ ≤ _; omega
  obtain ⟨A0, l0, c0, o0, d0, f0, hy0, rfl⟩ := h.cell hk
  have HY0 := hid hy0
  have C := hid (flight_any k hk q n hn _ _ _ w d0)
  have CS : Hid (∀ (w2 : World) (B : Option Addr) (l c : Nat), Below w.heap.size w w2 → Calls Try.prog 28 #[.pointer (some ⟨q, 0, none⟩), .int .i64 n, .slice B l c] w2 fun e w' => e = .returned (.tuple #[]) ∧ w' = w2.setCell ⟨q, k, none⟩ (.slice B l c)) := fun w2 B l c hb => by
    obtain ⟨A3, l3, c3, _, d3, f3, _⟩ := (HD.out.kept hb (Nat.le_refl _)).cell HK.out
    exact set_any k HK.out q n hn _ _ _ _ _ _ w2 d3 f3
  have hne : n = 1 ∨ n = 2 := by omega
  have gc : ¬ c < 0 := by omega
  obtain ⟨A5, hr5, hy5⟩ := hy0.rest r HRL.out
  have hr4 : ∀ w' : World, (Instr.slice 26 (.slice A0 (xs k).length c0) none (some (.int .i64 (r : Int))) none).run Try.prog w' = .ok (.slice A0 r c0) w' := by
    intro w'
    have hle := hy0.le
    have hrl := HRL.out
    have he : Try.prog.elem 26 = 5 := by kernel_rfl
    have hs : ∀ w, (sizeOf (Try.prog.elem 26)).run Try.prog w = .ok 1 w := by intro w; rw [he]; kernel_rfl
    rw [run_slice_h (P := Try.prog) w' 26 A0 (xs k).length c0 (by kernel_rfl) .i64 (r : Int) (by omega) (by omega), hs]
    simp [Result.andThen, sliced]
    cases A0 with
    | none => intro; rfl
    | some a => intro; rfl
  have HY4 := hid (hy0.pre r HRL.out)
  obtain ⟨D, hD⟩ : ∃ D, ((xs k).drop r).length = D := ⟨_, rfl⟩
  rw [hD] at hr5 hy5
  have HY5 := hid hy5
  have HDD := hid hD
  have HYL : Hid (((xs k).take r).length = r) := by show _ = _; rw [List.length_take]; have := HRL.out; omega
  obtain ⟨L, hL⟩ : ∃ L, (xs k).length = L := ⟨_, rfl⟩
  have HLL := hid hL
  rw [hL] at hr d0 C hr4 hr5
  have hcase : (c = (r : Int) ∧ ¬ (L : Int) < (r : Int)) ∨ (r = L ∧ (L : Int) < c) := by omega
  clear h hk hn hL hr hy0 hy5 hp hD
  rcases hcase with ⟨rfl, g1⟩ | ⟨rfl, g1⟩
  all_goals
    rcases hne with rfl | rfl
    all_goals
      go_enter Try.func20, Try.ntmps20
      go_wp2_with (first
        | (go_at_call 24; refine C.out.mono ?_; rintro e w' ⟨rfl, rfl⟩)
        | (at_builtin; refine wpList_append_run (by rfl) _ _ 26 26 (by rfl) ?_
           obtain ⟨v1, w1, hr, hf, hb⟩ := append_new w HY4.out (by have := HLN.out; have := HYL.out; have := HRL.out; omega)
           refine ⟨v1, w1, hr, ?_⟩
           have B1 := hid hb
           obtain ⟨A1, c1, b1, hy1, hn1⟩ := hf.blk (Nat.lt_of_lt_of_le HW.out hb.size)
           have ev := hy1.form
           rw [HYL.out] at ev
           subst ev
           have Y1 := hid hy1
           have N1 := hid hn1
           clear hr hf hb hy1 hn1 HY4)
        | (at_builtin; refine wpList_append_run (by rfl) _ _ 26 26 (by rfl) ?_
           obtain ⟨v2, w2, hr, hf, hb⟩ := append_new w1 (HY5.out.kept B1.out (Nat.le_refl _)) (by rw [List.length_drop]; have := HLN.out; omega)
           refine ⟨v2, w2, hr, ?_⟩
           have HBB := hid hb
           have B2 : Hid (Below w.heap.size w w2) := B1.out.trans (hb.mono B1.out.size)
           obtain ⟨A2, c2, b2, hy2, hn2'⟩ := hf.blk (Nat.lt_of_lt_of_le HW.out B2.out.size)
           have Y2 := hid hy2
           have N2 : Hid (b2 = 0 ∨ w.heap.size ≤ b2) := hn2'.imp id (fun h => Nat.le_trans B1.out.size h)
           have ev2 := hy2.form
           rw [HDD.out] at ev2
           subst ev2
           clear hr hf hb hy2 hn2')
        | (go_at_call 28; refine (CS.out _ _ _ _ B2.out).mono ?_; rintro e w3 ⟨rfl, rfl⟩))
      refine bodyPost_ret (results_tmp2 rfl _ _ _) rfl ?_
      have z := dq_put HD.out B2.out HK.out Y2.out (b' := b2) (by have := N2.out; have := HD.out.inside; have := HP.out; omega) (by rw [List.length_drop]; have := HLN.out; omega)
      have zy := (Y1.out.kept HBB.out (Nat.le_refl _)).grw (g := q) (Grw.of_set q k w2 (.slice A2 D c2)) (by have := N1.out; have := HD.out.inside; have := HP.out; omega)
      exact ⟨A1, c1, b1, rfl, zy, N1.out, b2, z, .inr N2.out, (Grw.of_below B2.out).trans (Grw.of_set q k w2 _)⟩
end Go.Proofs.Ytcfmjebnjjpajaa
