/- Send, Deliver: what each call does. Conditions: a link, or one that is none; at most 500000 bytes that come in. -/
import Derived.Test.YtcfmjebnjjpajaaND
namespace Go.Proofs.Ytcfmjebnjjpajaa
open Go.RowKit
theorem upd_self {T : Type} (f : Nat → T) (k : Nat) : upd f k (f k) = f := by
  funext j
  unfold upd
  split
  · rename_i h; rw [h]
  · rfl
/-- A stream's slice is stored, behind an append to its row. -/
theorem lk_put {w w1 : World} {p : Nat} {xs : Nat → List UInt8} {e : Nat} {o : Nat → Option Nat} (h : Lk w p xs e o (0, 0)) {k : Nat} (hk : k < 2) (hg : w.grownBy w1 (o k)) {v' : Value} {zs : List UInt8} {o' : Option Nat} {x : Nat × Nat}
    (hq : Que w1 v' zs o' x) (hn : Nx (o k) o' w) (hl : zs.length ≤ 262144) (hx : ∀ j, j < 2 → j ≠ k → o j ≠ some x.1 ∨ x = (0, 0)) :
    Lk (w1.setCell ⟨p, 2 + k, none⟩ v') p (upd xs k zs) e (upd o k o') x ∧ Chg p (o k) w (w1.setCell ⟨p, 2 + k, none⟩ v') := by
  have hin := h.inside
  have hc : Chg p (o k) w (w1.setCell ⟨p, 2 + k, none⟩ v') := (Chg.of_row hg).trans (Chg.of_grw (Grw.of_set p (2 + k) w1 v')) (.inl rfl)
  refine ⟨?_, hc⟩
  have hp1 : ∀ j, j < 2 → j ≠ k → ∀ g, o j = some g → (w1.setCell ⟨p, 2 + k, none⟩ v').heap[g]? = w.heap[g]? := fun j hj hjk g hgj => by
    refine hc.block g (h.row hj hgj) (fun e => h.ne hj (by rw [hgj, e])) (fun e => ?_)
    obtain ⟨_, _, _, _, h4⟩ := h
    rcases two_cases hj with rfl | rfl <;> rcases two_cases hk with rfl | rfl
    · exact hjk rfl
    · exact h4 g hgj e
    · exact h4 g e hgj
    · exact hjk rfl
  have hno' : o' ≠ some p := hn.ne (h.ne hk) hin
  obtain ⟨v, h1, h2, h3, h4⟩ := h
  have k1 : Has w1 p 49 #[.bool true, .int .i64 (e : Int), v 0, v 1] := (hg.block p hin (fun e => (h3 k hk).2.1 e.symm)).trans h1
  refine ⟨upd v k v', ?_, h2, fun j hj => ?_, fun g h0 h1' => ?_⟩
  · have := k1.put (2 + k) v'
    rcases two_cases hk with rfl | rfl
    · exact this
    · exact this
  · by_cases hjk : j = k
    · subst hjk
      simp only [upd_at]
      refine ⟨hq.same (fun g hg' => ?_), hno', hl⟩
      exact Below.heap_setCell w1 ⟨p, 2 + j, none⟩ v' g (fun e => hno' (by rw [hg']; exact congrArg some e))
    · simp only [upd_ne _ _ hjk]
      obtain ⟨q1, q2, q3⟩ := h3 j hj
      refine ⟨?_, q2, q3⟩
      have q4 := q1.same (w' := w1.setCell ⟨p, 2 + k, none⟩ v') (fun g hg' => hp1 j hj hjk g hg')
      rcases hx j hj hjk with hx | rfl
      · exact q4.other hx
      · exact q4
  · have new : ∀ g j, j < 2 → o j = some g → j ≠ k → o' ≠ some g := fun g j hj hgj hjk => by
      refine hn.ne (fun e => ?_) ((h3 j hj).1.inside hgj)
      rcases two_cases hj with rfl | rfl <;> rcases two_cases hk with rfl | rfl
      · exact hjk rfl
      · exact h4 g hgj e
      · exact h4 g e hgj
      · exact hjk rfl
    rcases two_cases hk with rfl | rfl
    · rw [upd_at] at h0
      rw [upd_ne _ _ (by decide)] at h1'
      exact new g 1 (by decide) h1' (by decide) h0
    · rw [upd_at] at h1'
      rw [upd_ne _ _ (by decide)] at h0
      exact new g 0 (by decide) h0 (by decide) h1'
def sendE (xs ys : List UInt8) : Int := if 262144 < xs.length + ys.length then 7 else 0
def sendX (xs ys : List UInt8) : List UInt8 := if 262144 < xs.length + ys.length then xs else xs ++ ys
theorem NoLk.kept {w w' : World} {v : Value} (h : NoLk w v) (hb : Below w.heap.size w w') : NoLk w' v := by
  rcases h with rfl | ⟨p, e, a, b, rfl, h1⟩
  · exact .inl rfl
  · exact .inr ⟨p, e, a, b, rfl, h1.kept hb h1.inside⟩
theorem from_some (n : Int) (hi : -9223372036854775808 ≤ n ∧ n ≤ 9223372036854775807) (w : World) : Calls Try.prog 26 #[.int .i64 n] w fun e w' => (∃ f, e = .returned f) ∧ Below w.heap.size w w' := by
  by_cases hn : n < 1 ∨ 2 < n
  · refine (from_bad n hn hi w).mono ?_
    rintro e w' ⟨rfl, hb⟩
    exact ⟨⟨_, rfl⟩, hb⟩
  · refine (from_any (2 - n).toNat (by omega) n (by omega) w).mono ?_
    rintro e w' ⟨⟨f, rfl, _⟩, hb⟩
    exact ⟨⟨_, rfl⟩, hb⟩
theorem to_some (n : Int) (w : World) : Calls Try.prog 23 #[.int .i64 n] w fun e w' => (∃ f, e = .returned f) ∧ Below w.heap.size w w' := by
  by_cases hn : n < 1 ∨ 2 < n
  · refine (to_bad n hn w).mono ?_
    rintro e w' ⟨rfl, hb⟩
    exact ⟨⟨_, rfl⟩, hb⟩
  · refine (to_any (n - 1).toNat (by omega) n (by omega) w).mono ?_
    rintro e w' ⟨⟨f, rfl, _⟩, hb⟩
    exact ⟨⟨_, rfl⟩, hb⟩
set_option maxRecDepth 100000 in
set_option maxHeartbeats 400000 in
theorem send_none (v bv : Value) (n : Int) (hi : -9223372036854775808 ≤ n ∧ n ≤ 9223372036854775807) (w : World) (h : NoLk w v) : Calls Try.prog 15 #[v, .int .i64 n, bv] w fun e w' => e = .returned (.int .i64 1) ∧ Below w.heap.size w w' := by
  have CT := hid (from_some n hi w)
  have HN := hid h
  clear hi h
  go_enter Try.func15, Try.ntmps15
  go_wp2_with (first
    | (go_at_call 26; refine CT.out.mono ?_; rintro e w1 ⟨⟨f, rfl⟩, hb⟩; have B1 := hid hb; clear hb)
    | (go_at_call 22; refine (find_none _ _ _ (HN.out.kept B1.out)).mono ?_; rintro e w2 ⟨rfl, rfl⟩))
  go_ret
  exact ⟨rfl, B1.out⟩
set_option maxRecDepth 100000 in
set_option maxHeartbeats 400000 in
theorem send_bad (p : Nat) (n : Int) (hn : n < 1 ∨ 2 < n) (hi : -9223372036854775808 ≤ n ∧ n ≤ 9223372036854775807) (bv : Value) (xs : Nat → List UInt8) (m : Nat) (o : Nat → Option Nat) (x : Nat × Nat) (w : World) (h : Lk w p xs m o x) : Calls Try.prog 15 #[.pointer (some ⟨p, 0, none⟩), .int .i64 n, bv] w fun e w' => e = .returned (.int .i64 2) ∧ Below w.heap.size w w' := by
  have CT := hid (from_bad n hn hi w)
  have HL := hid h
  clear hn hi h
  go_enter Try.func15, Try.ntmps15
  go_wp2_with (first
    | (go_at_call 26; refine CT.out.mono ?_; rintro e w1 ⟨rfl, hb⟩; have B1 := hid hb; clear hb)
    | (go_at_call 22; refine (find_bad p _ (HL.out.kept B1.out (Nat.le_refl _)).made).mono ?_; rintro e w2 ⟨rfl, rfl⟩))
  go_ret
  exact ⟨rfl, B1.out⟩
set_option maxRecDepth 100000 in
set_option maxHeartbeats 1000000 in
theorem send_any (k : Nat) (hk : k < 2) (p : Nat) (n : Int) (hn : n = 2 - (k : Int)) (bv : Value) (ys : List UInt8) (A : Option Addr) (cap bb off : Nat) (hy : ys.length ≤ 500000) (xs : Nat → List UInt8) (m : Nat) (o : Nat → Option Nat) (x : Nat × Nat) (w : World) (h : Lk w p xs m o x) (hs : Bytes w bv ys A cap bb off) :
    Calls Try.prog 15 #[.pointer (some ⟨p, 0, none⟩), .int .i64 n, bv] w fun e w' => e = .returned (.int .i64 (sendE (xs k) ys)) ∧ ∃ o', Lk w' p (upd xs k (sendX (xs k) ys)) m (upd o k o') (0, 0) ∧ Nx (o k) o' w ∧ Chg p (o k) w w' := by
  have CT := hid (from_any k hk n hn w)
  have HL := hid h.weak
  have HK := hid hk
  have HS := hid hs
  have HY := hid hy
  have CF : Hid (∀ w1 f, Below w.heap.size w w1 → PickIs w1 f k → Calls Try.prog 22 #[.pointer (some ⟨p, 0, none⟩), f] w1 fun e w' => e = .returned (.tuple #[.pointer (some ⟨p, 2 + k, none⟩), .int .i64 0]) ∧ Below w.heap.size w w' ∧ ∃ A c, w'.cell? ⟨p, 2 + k, none⟩ = some (.slice A (xs k).length c) ∧ Que w' (.slice A (xs k).length c) (xs k) (o k) (0, 0)) := fun w1 f hb hf => by
    have h1 := HL.out.kept hb (Nat.le_refl _)
    refine (find_any k HK.out p f w1 h1.made hf).mono ?_
    rintro e w' ⟨rfl, hb2⟩
    obtain ⟨v, hc, _, hq⟩ := (h1.kept hb2 (Nat.le_refl _)).cell HK.out
    obtain ⟨A, c, rfl⟩ := hq.form
    exact ⟨rfl, hb.trans (hb2.mono hb.size), A, c, hc, hq⟩
  have HLN : Hid ((xs k).length ≤ 262144) := h.len hk
  have HXS : Hid (∀ j g, j < 2 → o j = some g → g < w.heap.size) := fun j g hj hg => h.row hj hg
  obtain rfl := hs.form
  have g2 : wrap64 ((262144 : Int) - ((xs k).length : Int)) = (262144 : Int) - ((xs k).length : Int) := by have := HLN.out; simp [wrap64]; omega
  obtain ⟨L, hL⟩ : ∃ L, (xs k).length = L := ⟨_, rfl⟩
  have HLL := hid hL
  rw [hL] at g2 CF
  by_cases hlt : 262144 < L + ys.length
  · have E1 : Hid (sendE (xs k) ys = 7 ∧ sendX (xs k) ys = xs k) := by show _ ∧ _; simp [sendE, sendX, hL, hlt]
    rw [E1.out.1, E1.out.2]
    have g1 : (262144 : Int) - (L : Int) < (ys.length : Int) := by omega
    clear hlt h hs hk hn hL hy
    go_enter Try.func15, Try.ntmps15
    go_wp2_with (first
      | (go_at_call 26; refine CT.out.mono ?_; rintro e w1 ⟨⟨f, rfl, hf⟩, hb⟩; have B1 := hid hb; have F1 := hid hf; clear hb hf)
      | (go_at_call 22; refine (CF.out _ _ B1.out F1.out).mono ?_; rintro e w2 ⟨rfl, hb, A2, c2, hc, _⟩; have B2 := hid hb; clear hb))
    go_ret
    refine ⟨rfl, o k, ?_, .inl rfl, Chg.of_below B2.out⟩
    rw [upd_self, upd_self]
    exact HL.out.kept B2.out (Nat.le_refl _)
  · have E1 : Hid (sendE (xs k) ys = 0 ∧ sendX (xs k) ys = xs k ++ ys) := by show _ ∧ _; simp [sendE, sendX, hL, hlt]
    rw [E1.out.1, E1.out.2]
    have g1 : ¬ (262144 : Int) - (L : Int) < (ys.length : Int) := by omega
    have HB : Hid ((xs k ++ ys).length ≤ 262144) := by show _ ≤ _; rw [List.length_append]; omega
    clear hlt h hs hk hn hL hy
    go_enter Try.func15, Try.ntmps15
    go_wp2_with (first
      | (go_at_call 26; refine CT.out.mono ?_; rintro e w1 ⟨⟨f, rfl, hf⟩, hb⟩; have B1 := hid hb; have F1 := hid hf; clear hb hf)
      | (go_at_call 22; refine (CF.out _ _ B1.out F1.out).mono ?_; rintro e w2 ⟨rfl, hb, A2, c2, hc, hq⟩; have B2 := hid hb; have Q2 := hid hq; clear hb hq)
      | (at_builtin; refine wpList_append_run (by rfl) _ _ 46 26 (by rfl) ?_
         obtain ⟨v3, w3, o3, hr, hq, hnx, hgr⟩ := que_append w2 Q2.out (HS.out.kept B2.out (Nat.le_refl _)) (by have := HB.out; rw [List.length_append] at this; omega)
         refine ⟨v3, w3, (append_stream _ _ _).trans hr, ?_⟩
         obtain ⟨A9, c9, rfl⟩ := hq.form
         have HQ3 := hid hq
         have HX3 := hid hnx
         have HG3 := hid hgr
         have HP3 : Hid (∃ old, w3.cell? ⟨p, 2 + k, none⟩ = some old ∧ w3.frozen? ⟨p, 2 + k, none⟩ = false ∧ old = .slice A2 L c2) := by
           have h2 := HL.out.kept B2.out (Nat.le_refl _)
           obtain ⟨v, hc', hf', _⟩ := h2.cell HK.out
           have hb := hgr.block p h2.inside (fun e => h2.ne HK.out e.symm)
           refine ⟨.slice A2 L c2, ?_, ?_, rfl⟩
           · rw [← hc]; exact World.cell?_of_block hb
           · rw [← hf']; simp only [World.frozen?, hb]
         obtain ⟨old, c3, f3, rfl⟩ := HP3.out
         clear hr hq hnx hgr hc))
    go_ret
    obtain ⟨z1, z2⟩ := lk_put (HL.out.kept B2.out (Nat.le_refl _)) HK.out HG3.out HQ3.out HX3.out HB.out (fun _ _ _ => .inr rfl)
    rw [List.length_append] at z1 z2
    refine ⟨rfl, o3, z1, ?_, (Chg.of_below B2.out).trans z2 (.inl rfl)⟩
    rcases HX3.out with h | h | ⟨g, h, hg⟩
    · exact .inl h
    · exact .inr (.inl h)
    · exact .inr (.inr ⟨g, h, Nat.le_trans B2.out.size hg⟩)
end Go.Proofs.Ytcfmjebnjjpajaa
