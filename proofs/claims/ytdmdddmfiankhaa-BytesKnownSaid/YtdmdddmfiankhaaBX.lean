/- The document's tape: what lies in its block; Left, Err, step, Bytes, End, Num: what each call does. Conditions: a tape that lies there. -/
import Derived.Test.YtdmdddmfiankhaaBTB
namespace Go.Proofs.Ytdmdddmfiankhaa
open Go.RowKit
/-- A tape of the document's lies in block g. -/
def Tq (w : World) (g : Nat) (s : St) : Prop := ∃ A cap bb off, Has w g 45 #[.slice A s.2.length cap, .bool s.1] ∧ Bytes w (.slice A s.2.length cap) s.2 A cap bb off ∧ bb ≠ g ∧ s.2.length ≤ 100000 ∧ 0 < g
theorem Tq.inside {w : World} {g : Nat} {s : St} (h : Tq w g s) : g < w.heap.size := by obtain ⟨A, cap, bb, off, h1, _⟩ := h; exact h1.inside
theorem Tq.kept {w w' : World} {g : Nat} {s : St} (h : Tq w g s) (hb : Below w.heap.size w w') : Tq w' g s := by
  obtain ⟨A, cap, bb, off, h1, h2, h3, h4⟩ := h
  exact ⟨A, cap, bb, off, h1.kept hb h1.inside, h2.kept hb (Nat.le_refl _), h3, h4⟩
theorem Bytes.empty {w : World} {A : Option Addr} {cap : Nat} (hz : A = none → cap = 0) (hp : 0 < w.heap.size) : Bytes w (.slice A 0 cap) [] A cap 0 0 :=
  ⟨rfl, Nat.zero_le _, hz, fun a _ j hj => absurd hj (by simp), hp, fun h => absurd h (by simp)⟩
/-- Bytes lie in no block of other cells. -/
theorem Bytes.apart {w : World} {v : Value} {xs : List UInt8} {A : Option Addr} {cap bb off g : Nat} {t : TypeId} {cs : Array Value} (h : Bytes w v xs A cap bb off) (h0 : 0 < xs.length) (hg : Has w g t cs) (hc : ∀ i : Nat, ∀ x : UInt8, cs[i]? ≠ some (V8 x)) : bb ≠ g := by
  rintro rfl
  have e := h.cells 0 h0
  rw [hg.at_] at e
  exact hc _ _ e
/-- Each of two tapes stays where the other one turns. -/
theorem Tp.aside {w w' : World} {g gq : Nat} {s sq : St} (h : Tp w g s) (hq : Tq w gq sq) (hne : g ≠ gq) (hg : Grw gq w w') : Tp w' g s := by
  obtain ⟨A, cap, bb, off, h1, h2, h3, h4, h5⟩ := h
  obtain ⟨A', cap', bb', off', k1, _⟩ := hq
  have hz := h2.zero
  obtain ⟨t, xs⟩ := s
  rcases Nat.eq_zero_or_pos xs.length with h0 | h0
  · obtain rfl : xs = [] := List.eq_nil_of_length_eq_zero h0
    exact ⟨A, cap, 0, 0, h1.grw hg hne, Bytes.empty hz (Nat.lt_of_le_of_lt (Nat.zero_le _) (Nat.lt_of_lt_of_le h1.inside hg.size)), Nat.ne_of_lt h5, h4, h5⟩
  · refine ⟨A, cap, bb, off, h1.grw hg hne, h2.grw hg (h2.apart h0 k1 fun i x e => ?_), h3, h4, h5⟩
    match i, e with
    | 0, e => simp [V8] at e
    | 1, e => simp [V8] at e
    | i + 2, e => simp at e
theorem Tq.aside {w w' : World} {g gt : Nat} {s st : St} (h : Tq w g s) (ht : Tp w gt st) (hne : g ≠ gt) (hg : Grw gt w w') : Tq w' g s := by
  obtain ⟨A, cap, bb, off, h1, h2, h3, h4, h5⟩ := h
  obtain ⟨A', cap', bb', off', k1, _⟩ := ht
  have hz := h2.zero
  obtain ⟨t, xs⟩ := s
  rcases Nat.eq_zero_or_pos xs.length with h0 | h0
  · obtain rfl : xs = [] := List.eq_nil_of_length_eq_zero h0
    exact ⟨A, cap, 0, 0, h1.grw hg hne, Bytes.empty hz (Nat.lt_of_le_of_lt (Nat.zero_le _) (Nat.lt_of_lt_of_le h1.inside hg.size)), Nat.ne_of_lt h5, h4, h5⟩
  · refine ⟨A, cap, bb, off, h1.grw hg hne, h2.grw hg (h2.apart h0 k1 fun i x e => ?_), h3, h4, h5⟩
    match i, e with
    | 0, e => simp [V8] at e
    | 1, e => simp [V8] at e
    | 2, e => simp [V8] at e
    | i + 3, e => simp at e
set_option maxRecDepth 100000 in
set_option maxHeartbeats 400000 in
theorem qErr_any (g : Nat) (s : St) (w : World) (h : Tq w g s) : Calls Try.prog 28 #[.pointer (some ⟨g, 0, none⟩)] w fun e w' => e = .returned (.int .i64 (errS s)) ∧ w = w' := by
  obtain ⟨t, xs⟩ := s
  obtain ⟨A, cap, bb, off, h1, _⟩ := h
  have c1 : w.cell? ⟨g, 1, none⟩ = some (.bool t) := h1.at_ 1
  clear h1
  cases t
  all_goals
    go_enter Try.func28, Try.ntmps28
    go_wp2
    go_ret
    exact ⟨rfl, rfl⟩
set_option maxRecDepth 100000 in
set_option maxHeartbeats 400000 in
theorem qLeft_any (g : Nat) (s : St) (w : World) (h : Tq w g s) : Calls Try.prog 26 #[.pointer (some ⟨g, 0, none⟩)] w fun e w' => e = .returned (.int .i64 (s.2.length : Int)) ∧ w = w' := by
  obtain ⟨A, cap, bb, off, h1, _⟩ := h
  have c1 : w.cell? ⟨g, 0, none⟩ = some (.slice A s.2.length cap) := h1.at_ 0
  clear h1
  go_enter Try.func26, Try.ntmps26
  go_wp2
  go_ret
  exact ⟨rfl, rfl⟩
theorem tearq_at {w : World} {g : Nat} {s : St} (h : Tq w g s) : Tq (w.setCell ⟨g, 1, none⟩ (.bool true)) g (tear s) ∧ Grw g w (w.setCell ⟨g, 1, none⟩ (.bool true)) := by
  obtain ⟨A, cap, bb, off, h1, h2, h3, h4⟩ := h
  have hg := Grw.of_set g 1 w (.bool true)
  exact ⟨⟨A, cap, bb, off, h1.put 1 (.bool true), h2.grw hg h3, h3, h4⟩, hg⟩
theorem tq_pass {w : World} {g : Nat} {t : Bool} {xs : List UInt8} (h : Tq w g (t, xs)) (m : Nat) (hm : m ≤ xs.length) : ∃ A L cap A2 L2 cap2 bb off, w.cell? ⟨g, 0, none⟩ = some (.slice A L cap) ∧ Hid (xs.length = L) ∧ Hid (Bytes w (.slice A L cap) xs A cap bb off) ∧
    (∀ w : World, (Instr.slice 24 (.slice A L cap) (some (.int .i64 (m : Int))) none none).run Try.prog w = .ok (.slice A2 L2 cap2) w) ∧
    Hid (∀ w', Below w.heap.size w w' → Tq (w'.setCell ⟨g, 0, none⟩ (.slice A2 L2 cap2)) g (t, xs.drop m) ∧ Grw g w (w'.setCell ⟨g, 0, none⟩ (.slice A2 L2 cap2)) ∧ w'.cell? ⟨g, 0, none⟩ = some (.slice A L cap) ∧ w'.frozen? ⟨g, 0, none⟩ = false) := by
  obtain ⟨A, cap, bb, off, h1, h2, h3, h4, h5⟩ := h
  obtain ⟨A2, hr2, hb2⟩ := h2.rest m hm
  refine ⟨A, _, cap, A2, _, cap - m, bb, off, h1.at_ 0, rfl, h2, hr2, fun w' hb => ?_⟩
  have hh := h1.kept hb h1.inside
  have hg := Grw.of_set g 0 w' (.slice A2 (xs.drop m).length (cap - m))
  exact ⟨⟨A2, cap - m, bb, off + m, hh.put 0 _, (hb2.kept hb (Nat.le_refl _)).grw hg h3, h3, by show (xs.drop m).length ≤ _; have : xs.length ≤ 100000 := h4; rw [List.length_drop]; omega, h5⟩, (Grw.of_below hb).trans hg, hh.at_ 0, hh.free 0⟩
set_option maxRecDepth 100000 in
set_option maxHeartbeats 1000000 in
theorem qstep_any (g : Nat) (s : St) (n : Int) (w : World) (h : Tq w g s) :
    Calls Try.prog 63 #[.pointer (some ⟨g, 0, none⟩), .int .i64 n] w fun e w' => ∃ v A cap bb, e = .returned v ∧ Bytes w' v (bytesS s n).1 A cap bb 0 ∧ Apart w.heap.size bb ∧ Tq w' g (bytesS s n).2 ∧ Grw g w w' := by
  have HT := hid (tearq_at h)
  have HI := hid h.inside
  have HH := hid h
  have ⟨A, cap, bb, off, h1, _⟩ := h
  have c0 : w.cell? ⟨g, 0, none⟩ = some (.slice A s.2.length cap) := h1.at_ 0
  have c1 : w.cell? ⟨g, 1, none⟩ = some (.bool s.1) := h1.at_ 1
  have f1 := h1.free 1
  clear h1
  by_cases hc : s.1 = false ∧ 0 ≤ n ∧ n ≤ (s.2.length : Int)
  · have e : bytesS s n = (s.2.take n.toNat, (s.1, s.2.drop n.toNat)) := by rw [bytesS, if_pos hc]
    rw [e]
    obtain ⟨h0, hn0, hn1⟩ := hc
    obtain ⟨m, rfl⟩ : ∃ m : Nat, n = (m : Int) := ⟨n.toNat, by omega⟩
    rw [Int.toNat_natCast]
    obtain ⟨t, xs⟩ := s
    obtain rfl : t = false := h0
    have hn1 : (m : Int) ≤ (xs.length : Int) := hn1
    obtain ⟨A1, L, cap1, A2, L2, cap2, bb1, off1, d0, HLE, HB0, hr2, HP⟩ := tq_pass h m (by omega)
    have hL : xs.length ≤ 100000 := by obtain ⟨_, _, _, _, _, _, _, h4, _⟩ := h; exact h4
    have h0g : 0 < g := by obtain ⟨_, _, _, _, _, _, _, _, h5⟩ := h; exact h5
    have kp := HB0.out.preRun m (by omega)
    have hb1 := HB0.out.pre m (by omega)
    have ho := World.ownsRow_nil w w.heap.size 5 1
    have hl2 : (xs.take m).length ≤ 100000 := by rw [List.length_take]; omega
    obtain ⟨v', w1, hr, ho1, hg1, _, _⟩ := append_bytes w w.heap.size _ 0 [] ho hb1 (by omega) (Nat.le_refl _)
    have HR := hid hr
    have B1 : Hid (Below w.heap.size w w1) := (Below.refl _ _).grown hg1 (Nat.le_refl _) (fun _ h => by cases h)
    obtain ⟨A3, c3, b3, y3, hb3, hv3⟩ := own_bytes (ys := xs.take m) (by rw [Nat.zero_add]) (Nat.lt_of_le_of_lt (Nat.zero_le _) (Nat.lt_of_lt_of_le HI.out B1.out.size)) ho1
    have Y3 := hid y3
    have HAP : Hid (Apart w.heap.size b3) := by
      rcases hv3 with h | ⟨_, h⟩
      · exact .inr ((ho1.lt _ h).1)
      · exact .inl h
    have HQ := hid (HP.out w1 B1.out)
    have e2 := HQ.out.2.2.2
    have d2 := HQ.out.2.2.1
    have hL2 : (m : Int) ≤ (L : Int) := by have := HLE.out; omega
    have HG0 := hid h0g
    have c1' : w.cell? ⟨g, 1, none⟩ = some (.bool false) := c1
    have hm0 : ¬ (m : Int) < 0 := by omega
    clear h hn1 hL h0g hb1 ho hl2 hr ho1 hg1 y3 hb3 hv3 e c0 c1
    go_enter Try.func63, Try.ntmps63
    go_wp2_with (at_builtin; refine wpList_append_run rfl (.tmp 24) (.tmp 30) 24 24 rfl ⟨v', w1, HR.out, ?_⟩)
    go_ret
    refine ⟨v', rfl, A3, c3, b3, Y3.out.grw (Grw.of_set g 0 w1 _) ?_, HAP.out, HQ.out.1, HQ.out.2.1⟩
    have h1 := HG0.out; have h2 := HI.out
    rcases HAP.out with h | h
    · omega
    · omega
  · have e : bytesS s n = ([], tear s) := by rw [bytesS, if_neg hc]
    rw [e]
    clear e
    obtain ⟨t, xs⟩ := s
    cases t
    · have c1' : w.cell? ⟨g, 1, none⟩ = some (.bool false) := c1
      clear h c1
      by_cases h1 : n < 0
      · clear hc
        go_enter Try.func63, Try.ntmps63
        go_wp2
        go_ret
        exact ⟨_, rfl, none, 0, 0, Bytes.nil _ (Nat.lt_of_le_of_lt (Nat.zero_le _) (Nat.lt_of_lt_of_le HI.out HT.out.2.size)), .inl rfl, HT.out.1, HT.out.2⟩
      · have h2 : (xs.length : Int) < n := by simp only [true_and] at hc; omega
        clear hc
        go_enter Try.func63, Try.ntmps63
        go_wp2
        go_ret
        exact ⟨_, rfl, none, 0, 0, Bytes.nil _ (Nat.lt_of_le_of_lt (Nat.zero_le _) (Nat.lt_of_lt_of_le HI.out HT.out.2.size)), .inl rfl, HT.out.1, HT.out.2⟩
    · have c1' : w.cell? ⟨g, 1, none⟩ = some (.bool true) := c1
      clear h hc c1
      go_enter Try.func63, Try.ntmps63
      go_wp2
      go_ret
      exact ⟨_, rfl, none, 0, 0, Bytes.nil _ (Nat.lt_of_le_of_lt (Nat.zero_le _) HI.out), .inl rfl, HH.out, Grw.refl _ _⟩
end Go.Proofs.Ytdmdddmfiankhaa
