/- NewReader, (*Reader).Push: what each call does. Conditions: a reader; at most 300000 bytes that come in. -/
import Derived.Test.YtakgbopkkechgaaFC
namespace Go.Proofs.Ytakgbopkkechgaa
open Go.RowKit
set_option maxRecDepth 100000 in
set_option maxHeartbeats 400000 in
theorem new_any (w : World) (hw : 0 < w.heap.size) : Calls Try.prog 14 #[] w fun e w' => e = .returned (.pointer (some ⟨w.heap.size, 0, none⟩)) ∧ Rd w' w.heap.size (false, []) none ∧ Below w.heap.size w w' := by
  have HW := hid hw
  clear hw
  go_enter Try.func14, Try.ntmps14
  go_wp2
  go_ret
  exact ⟨rfl, ⟨.slice none 0 0, 0, Has.fresh w 61 _, by simp, HW.out, .inl ⟨rfl, rfl, Que.nil _, by simp⟩⟩, (Below.refl _ _).alloc (Nat.le_refl _) _⟩
/-- The reader's block stored to. -/
theorem rd_store {w : World} {p : Nat} {v v' : Value} {l : Int} {xs : List UInt8} {o : Option Nat} (h : Has w p 61 #[.bool true, v, .int .i64 l]) (hp : 0 < p) (hq : Que w v' xs o) (hl : l = 0) (hlen : xs.length ≤ 131072) (ho : o ≠ some p) :
    Rd (w.setCell ⟨p, 1, none⟩ v') p (false, xs) o ∧ Grw p w (w.setCell ⟨p, 1, none⟩ v') := by
  have hg := Grw.of_set p 1 w v'
  subst hl
  exact ⟨⟨v', 0, h.put 1 v', hlen, hp, .inl ⟨rfl, rfl, hq.same (fun k hk => hg.block k (hq.inside hk) (fun e => ho (by rw [hk, Option.some.inj e]))), ho⟩⟩, hg⟩
theorem push_none (v bv : Value) (w : World) (h : NoRd w v) : Calls Try.prog 15 #[v, bv] w fun e w' => e = .returned (.int .i64 1) ∧ w = w' := by
  have C := hid (ready_none v w h)
  clear h
  go_enter Try.func15, Try.ntmps15
  go_wp2_with (go_at_call 25; refine C.out.mono ?_; rintro e w' ⟨rfl, rfl⟩)
  go_ret
  exact ⟨rfl, rfl⟩
set_option maxRecDepth 100000 in
set_option maxHeartbeats 1000000 in
theorem push_any (p : Nat) (R : RS) (o : Option Nat) (bv : Value) (ys : List UInt8) (A : Option Addr) (cap bb off : Nat) (hn : ys.length ≤ 300000) (w : World) (h : Rd w p R o) (hs : Bytes w bv ys A cap bb off) :
    Calls Try.prog 15 #[.pointer (some ⟨p, 0, none⟩), bv] w fun e w' => e = .returned (.int .i64 (pushE R ys)) ∧ ∃ o', Rd w' p (pushR R ys) o' ∧ Nx o o' w ∧ Chg p o w w' := by
  have C := hid (ready_any p R o w h)
  have HR := hid h
  have HS := hid hs
  have HN := hid hn
  obtain rfl := hs.form
  obtain ⟨b, xs⟩ := R
  obtain ⟨v, l, h1, h2, h3, h4⟩ := h
  have c1 : w.cell? ⟨p, 1, none⟩ = some v := h1.at_ 1
  have f1 := h1.free 1
  have H1 := hid h1
  have H3 := hid h3
  have H2 : Hid (xs.length ≤ 131072) := h2
  clear hs hn
  rcases h4 with ⟨hb, hl, hq, ho⟩ | ⟨hb, hv, hl, h0, ho⟩
  · simp only at hb hl hq
    subst hb
    subst hl
    simp only [stE, Bool.false_eq_true, if_false] at C
    obtain ⟨Av, cv, rfl⟩ := hq.form
    have HQ := hid hq
    have HO := hid ho
    by_cases hlt : 131072 < xs.length + ys.length
    · have E1 : Hid (pushE (false, xs) ys = 3 ∧ pushR (false, xs) ys = (false, xs)) := by show _ ∧ _; simp [pushE, pushR, hlt]
      rw [E1.out.1, E1.out.2]
      have g1 : (131072 : Int) - (xs.length : Int) < (ys.length : Int) := by omega
      have g2 : wrap64 ((131072 : Int) - (xs.length : Int)) = (131072 : Int) - (xs.length : Int) := by have : xs.length ≤ 131072 := h2; simp [wrap64]; omega
      clear hlt h1 h2 h3 hq ho
      go_enter Try.func15, Try.ntmps15
      go_wp2_with (go_at_call 25; refine C.out.mono ?_; rintro e w' ⟨rfl, rfl⟩)
      go_ret
      exact ⟨rfl, o, HR.out, .inl rfl, Chg.refl _ _ _⟩
    · have E1 : Hid (pushE (false, xs) ys = 0 ∧ pushR (false, xs) ys = (false, xs ++ ys)) := by show _ ∧ _; simp [pushE, pushR, hlt]
      rw [E1.out.1, E1.out.2]
      have g1 : ¬ (131072 : Int) - (xs.length : Int) < (ys.length : Int) := by omega
      have g2 : wrap64 ((131072 : Int) - (xs.length : Int)) = (131072 : Int) - (xs.length : Int) := by have : xs.length ≤ 131072 := h2; simp [wrap64]; omega
      have HB : Hid (xs.length + ys.length ≤ 131072) := by show _ ≤ _; omega
      clear hlt h1 h2 h3 hq ho
      go_enter Try.func15, Try.ntmps15
      go_wp2_with (first
        | (go_at_call 25; refine C.out.mono ?_; rintro e w' ⟨rfl, rfl⟩)
        | (at_builtin; refine wpList_append_run (by rfl) _ _ 22 22 (by rfl) ?_
           obtain ⟨v', w', o', hr, hq, hnx, hgr⟩ := que_append _ HQ.out HS.out (by have := HB.out; omega)
           refine ⟨v', w', hr, ?_⟩
           obtain ⟨A9, c9, rfl⟩ := hq.form
           have HQ2 := hid hq
           have HX := hid hnx
           have HG := hid hgr
           have k1 : Hid (Has w' p 61 #[.bool true, .slice Av xs.length cv, .int .i64 0]) := (hgr.block p H1.out.inside (fun e => HO.out e.symm)).trans H1.out
           have f2 := k1.out.free 1
           have c2 : w'.cell? ⟨p, 1, none⟩ = some (.slice Av xs.length cv) := k1.out.at_ 1
           clear hr hq hnx hgr c1 f1))
      go_ret
      have HZ := rd_store k1.out H3.out HQ2.out rfl (by rw [List.length_append]; exact HB.out) (HX.out.ne HO.out H1.out.inside)
      rw [List.length_append] at HZ
      exact ⟨rfl, o', HZ.1, HX.out, (Chg.of_row HG.out).trans (Chg.of_grw HZ.2) (.inl rfl)⟩
  · simp only at hb hl h0
    subst hb
    simp only [stE, if_true] at C
    have E1 : Hid (pushE (true, xs) ys = 4 ∧ pushR (true, xs) ys = (true, xs)) := by show _ ∧ _; simp [pushE, pushR]
    rw [E1.out.1, E1.out.2]
    clear h1 h2 h3 hv hl h0 ho
    go_enter Try.func15, Try.ntmps15
    go_wp2_with (go_at_call 25; refine C.out.mono ?_; rintro e w' ⟨rfl, rfl⟩)
    go_ret
    exact ⟨rfl, o, HR.out, .inl rfl, Chg.refl _ _ _⟩
end Go.Proofs.Ytakgbopkkechgaa
