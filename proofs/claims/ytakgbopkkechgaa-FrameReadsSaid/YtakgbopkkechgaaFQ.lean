/- The document's reader in memory; (*caravanref10.Reader).Push: what each call does. Conditions: a reader; at most 300000 bytes that come in. -/
import Derived.Test.YtakgbopkkechgaaFJ
namespace Go.Proofs.Ytakgbopkkechgaa
open Go.RowKit
/-- The document's reader lies in block p. -/
def Qr (w : World) (p : Nat) (R : RS) (bb : Nat) : Prop := ∃ A cap off, Has w p 37 #[.slice A R.2.length cap, .bool R.1] ∧ Bytes w (.slice A R.2.length cap) R.2 A cap bb off ∧ bb ≠ p ∧ R.2.length ≤ 131072 ∧ 0 < p
/-- The block of the bytes is the one before, or none, or a new one. -/
def Ny (b b' : Nat) (w : World) : Prop := b' = b ∨ b' = 0 ∨ w.heap.size ≤ b'
theorem Qr.inside {w : World} {p : Nat} {R : RS} {bb : Nat} (h : Qr w p R bb) : p < w.heap.size := by obtain ⟨_, _, _, h1, _⟩ := h; exact h1.inside
theorem Qr.kept {w w' : World} {p : Nat} {R : RS} {bb : Nat} (h : Qr w p R bb) (hb : Below w.heap.size w w') : Qr w' p R bb := by
  obtain ⟨A, cap, off, h1, h2, h3⟩ := h
  exact ⟨A, cap, off, h1.kept hb h1.inside, h2.kept hb (Nat.le_refl _), h3⟩
theorem Qr.new (w : World) (hw : 0 < w.heap.size) : Qr (w.alloc (.cells #[.slice none 0 0, .bool false] 37)) w.heap.size (false, []) 0 :=
  ⟨none, 0, 0, Has.fresh w 37 _, Bytes.nil _ (by simp), by simp; omega, by simp, hw⟩
theorem qr_store {w : World} {p : Nat} {v : Value} {xs : List UInt8} {b : Bool} {A : Option Addr} {n cap bb off : Nat} {v0 : Value} (h : Has w p 37 #[v0, .bool b]) (hy : Bytes w v xs A cap bb off) (hv : v = .slice A n cap) (hne : bb ≠ p) (hl : xs.length ≤ 131072) (hp : 0 < p) :
    Qr (w.setCell ⟨p, 0, none⟩ (.slice A n cap)) p (b, xs) bb ∧ Grw p w (w.setCell ⟨p, 0, none⟩ (.slice A n cap)) := by
  have e := hy.form
  rw [hv] at e hy
  injection e with _ e2 _
  subst e2
  have hg := Grw.of_set p 0 w (.slice A xs.length cap)
  exact ⟨⟨A, cap, off, h.put 0 _, hy.grw hg hne, hne, hl, hp⟩, hg⟩
theorem qr_break {w : World} {p : Nat} {xs : List UInt8} {bb : Nat} (h : Qr w p (false, xs) bb) : Qr (w.setCell ⟨p, 1, none⟩ (.bool true)) p (true, xs) bb ∧ Grw p w (w.setCell ⟨p, 1, none⟩ (.bool true)) := by
  obtain ⟨A, cap, off, h1, h2, h3, h4⟩ := h
  have hg := Grw.of_set p 1 w (.bool true)
  exact ⟨⟨A, cap, off, h1.put 1 _, h2.grw hg h3, h3, h4⟩, hg⟩
set_option maxRecDepth 100000 in
set_option maxHeartbeats 1000000 in
theorem rpush_any (p : Nat) (R : RS) (bv : Value) (ys : List UInt8) (A : Option Addr) (cap bb off : Nat) (hn : ys.length ≤ 300000) (bq : Nat) (w : World) (h : Qr w p R bq) (hs : Bytes w bv ys A cap bb off) :
    Calls Try.prog 16 #[.pointer (some ⟨p, 0, none⟩), bv] w fun e w' => e = .returned (.int .i64 (pushE R ys)) ∧ ∃ bb', Qr w' p (pushR R ys) bb' ∧ Ny bq bb' w ∧ Grw p w w' := by
  have HR := hid h
  have HS := hid hs
  have HN := hid hn
  obtain rfl := hs.form
  obtain ⟨b, xs⟩ := R
  obtain ⟨Aq, cq, oq, h1, h2, h3, h4, h5⟩ := h
  have c0 : w.cell? ⟨p, 0, none⟩ = some (.slice Aq xs.length cq) := h1.at_ 0
  have c1 : w.cell? ⟨p, 1, none⟩ = some (.bool b) := h1.at_ 1
  have H1 : Hid (Has w p 37 #[.slice Aq xs.length cq, .bool b]) := h1
  have HQY : Hid (Bytes w (.slice Aq xs.length cq) xs Aq cq bq oq) := h2
  have H4 : Hid (xs.length ≤ 131072) := h4
  have HPW : Hid (0 < p ∧ p < w.heap.size) := ⟨h5, h1.inside⟩
  clear hs h1 h2 h3 h5
  simp only at h4
  cases b
  · by_cases hlt : 131072 < xs.length + ys.length
    · have E1 : Hid (pushE (false, xs) ys = 3 ∧ pushR (false, xs) ys = (false, xs)) := by show _ ∧ _; simp [pushE, pushR, hlt]
      rw [E1.out.1, E1.out.2]
      have g1 : (131072 : Int) < (xs.length : Int) + (ys.length : Int) := by omega
      have g2 : wrap64 ((xs.length : Int) + (ys.length : Int)) = (xs.length : Int) + (ys.length : Int) := by simp [wrap64]; omega
      clear hlt hn h4
      go_enter Try.func16, Try.ntmps16
      go_wp2
      go_ret
      exact ⟨rfl, bq, HR.out, .inl rfl, Grw.refl _ _⟩
    · have E1 : Hid (pushE (false, xs) ys = 0 ∧ pushR (false, xs) ys = (false, xs ++ ys)) := by show _ ∧ _; simp [pushE, pushR, hlt]
      rw [E1.out.1, E1.out.2]
      have g1 : ¬ (131072 : Int) < (xs.length : Int) + (ys.length : Int) := by omega
      have g2 : wrap64 ((xs.length : Int) + (ys.length : Int)) = (xs.length : Int) + (ys.length : Int) := by simp [wrap64]; omega
      have HB : Hid (xs.length + ys.length ≤ 131072) := by show _ ≤ _; omega
      clear hlt hn h4
      go_enter Try.func16, Try.ntmps16
      go_wp2_with (first
        | (at_builtin; refine wpList_append_run (by rfl) _ _ 22 22 (by rfl) ?_
           obtain ⟨v1, w1, hr, ho, hg, _, _⟩ := append_bytes w w.heap.size (.slice none 0 0) 0 [] (World.ownsRow_nil _ _ _ _) HQY.out (by have := H4.out; omega) (Nat.le_refl _)
           refine ⟨v1, w1, hr, ?_⟩
           rw [List.nil_append, Nat.zero_add] at ho
           have O1 := hid ho
           have B1 : Hid (Below w.heap.size w w1) := (Below.refl _ _).grown hg (Nat.le_refl _) (fun k hk => by cases hk)
           have S1 := hid (HS.out.kept B1.out (Nat.le_refl _))
           clear hr ho hg HQY HS)
        | (at_builtin; refine wpList_append_run (by rfl) _ _ 22 22 (by rfl) ?_
           obtain ⟨v2, w2, hr, ho, hg, _, _⟩ := append_bytes w1 w.heap.size v1 xs.length _ O1.out S1.out (by have := HB.out; omega) B1.out.size
           refine ⟨v2, w2, hr, ?_⟩
           have B2 : Hid (Below w.heap.size w w2) := B1.out.grown hg B1.out.size (fun k hk => (O1.out.lt k hk).1)
           rw [← List.map_append] at ho
           have hlt2 := ho.lt
           obtain ⟨A2, c2, b2, y2, _, hob⟩ := own_bytes (ys := xs ++ ys) (by rw [List.length_append]) (by have := HPW.out; have := B2.out.size; omega) ho
           have ey2 := y2.form
           rw [List.length_append] at ey2
           subst ey2
           have Y2 := hid y2
           have N2 : Hid (b2 ≠ p) := by
             show _ ≠ _
             rcases hob with e | ⟨_, e⟩
             · have := (hlt2 _ e).1; have := HPW.out; omega
             · have := HPW.out; omega
           have M2 : Hid (b2 = 0 ∨ w.heap.size ≤ b2) := by
             rcases hob with e | ⟨_, e⟩
             · exact .inr (hlt2 _ e).1
             · exact .inl e
           have K2 := hid (H1.out.kept B2.out HPW.out.2)
           have d0 := K2.out.at_ 0
           have e0 := K2.out.free 0
           simp at d0
           clear hr ho hg hlt2 hob y2))
      go_ret
      have HZ := qr_store K2.out Y2.out rfl N2.out (by rw [List.length_append]; exact HB.out) HPW.out.1
      exact ⟨rfl, b2, HZ.1, .inr M2.out, (Grw.of_below B2.out).trans HZ.2⟩
  · have E1 : Hid (pushE (true, xs) ys = 4 ∧ pushR (true, xs) ys = (true, xs)) := by show _ ∧ _; simp [pushE, pushR]
    rw [E1.out.1, E1.out.2]
    clear hn h4
    go_enter Try.func16, Try.ntmps16
    go_wp2
    go_ret
    exact ⟨rfl, bq, HR.out, .inl rfl, Grw.refl _ _⟩
end Go.Proofs.Ytakgbopkkechgaa
