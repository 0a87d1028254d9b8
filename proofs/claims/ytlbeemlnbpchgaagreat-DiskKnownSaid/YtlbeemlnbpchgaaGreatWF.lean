/- A tree in a world: isTime, add, write, mkdir, link, remove: each as the plain model says. Conditions: paths of at most 4000 bytes, data of at most 10 million. -/
import Derived.Test.YtlbeemlnbpchgaaGreatWE
namespace Go.Proofs.YtlbeemlnbpchgaaGreat
open Go.RowKit Go.Maps
/-- What an effect leaves of a tree in a world. -/
def SP (w : World) (g o m : Nat) (t : TypeId) (cs : Array Value) (room : Nat) (r : Int × Tr) (e : Ending) (w' : World) : Prop :=
  e = .returned (.int .i64 r.1) ∧ Turn (Two g m) w w' ∧ TreeS w' g o m t (cs.setIfInBounds (o + 1) (.int .i64 ((usedL r.2 : Nat) : Int))) r.2 (usedL r.2) room
section
variable {w : World} {g o m : Nat} {t : TypeId} {cs : Array Value} {L : Tr} {room : Nat}
theorem SP.err (h : TreeS w g o m t cs L (usedL L) room) {w' : World} (hb : Below w.heap.size w w') (c : Int) : SP w g o m t cs room (c, L) (.returned (.int .i64 c)) w' :=
  ⟨rfl, Turn.of_below hb, (h.on hb (Nat.le_refl _)).same⟩
theorem SP.ahead {w1 w2 : World} {r : Int × Tr} {e : Ending} (hb : Below w.heap.size w w1) (h : SP w1 g o m t cs room r e w2) : SP w g o m t cs room r e w2 :=
  ⟨h.1, (Turn.of_below hb).then h.2.1, h.2.2⟩
set_option maxRecDepth 100000 in
set_option maxHeartbeats 2000000 in
theorem isTime_any (tm : Int) (w : World) : Calls Tryz.prog 107 #[.int .i64 tm] w fun e w' => e = .returned (.bool (timeB tm)) ∧ w = w' := by
  by_cases h0 : 0 ≤ tm
  · by_cases h1 : tm ≤ 4294967295
    · have HT : Hid (timeB tm = true) := by show _ = _; simp [timeB, h0, h1]
      have d1 : decide (0 ≤ tm) = true := by simpa using h0
      have d2 : decide (tm ≤ 4294967295) = true := by simpa using h1
      go_enter Tryz.func107, Tryz.ntmps107
      go_wp2
      go_ret
      exact ⟨by rw [HT.out]; rfl, rfl⟩
    · have HT : Hid (timeB tm = false) := by show _ = _; simp [timeB, h1]
      have d1 : decide (0 ≤ tm) = true := by simpa using h0
      have d2 : decide (tm ≤ 4294967295) = false := by simpa using h1
      go_enter Tryz.func107, Tryz.ntmps107
      go_wp2
      go_ret
      exact ⟨by rw [HT.out]; rfl, rfl⟩
  · have HT : Hid (timeB tm = false) := by show _ = _; simp [timeB, h0]
    have d1 : decide (0 ≤ tm) = false := by simpa using h0
    go_enter Tryz.func107, Tryz.ntmps107
    go_wp2
    go_ret
    exact ⟨by rw [HT.out]; rfl, rfl⟩
theorem mayk_any (p : By) (b : Bool) (hb : mayB p = b) (w : World) (hG : Gd w) (hp : p.length ≤ 4000) : Calls Tryz.prog 70 #[kS p] w fun e w' => e = .returned (.bool b) ∧ Below w.heap.size w w' := by
  have := may_any (ba p) w hG (by rw [ba_size]; exact hp)
  rw [tl_ba, hb] at this; exact this
set_option maxRecDepth 100000 in
set_option maxHeartbeats 4000000 in
theorem tadd_any (h : TreeS w g o m t cs L (usedL L) room) (hW : WFT room L) (hr : room ≤ 1048576) (hG : Gd w) (p : By) (hp : p.length ≤ 4000) (hm : mayB p = true) (n : Nd) (hn : n.data.length ≤ 10000000) :
    Calls Tryz.prog 106 #[.pointer (some ⟨g, o, none⟩), kS p, nodeV n] w fun e w' => SP w g o m t cs room (addE room L p n) e w' := by
  obtain ⟨k, d, x, tm⟩ := n
  obtain ⟨w0, HW0⟩ : ∃ w0, Hid (w.alloc (.cells #[.int .i64 k, kS d, kS x, .int .i64 tm] 64) = w0) := ⟨_, rfl⟩
  have B0 : Hid (Below w.heap.size w w0) := by rw [← HW0.out]; exact (Below.refl _ _).alloc (Nat.le_refl _) _
  have X0 : Hid (Has w0 w.heap.size 64 #[.int .i64 k, kS d, kS x, .int .i64 tm]) := by rw [← HW0.out]; exact Has.fresh _ _ _
  have h0 := h.on B0.out (Nat.le_refl _)
  obtain ⟨c, HC⟩ : ∃ c, Hid (homeE L p = c) := ⟨_, rfl⟩
  obtain ⟨b, HB⟩ : ∃ b, Hid (hasB L p = b) := ⟨_, rfl⟩
  have C1 : Hid (Calls Tryz.prog 108 #[.pointer (some ⟨g, o, none⟩), kS p] w0 fun e w' => e = .returned (.int .i64 c) ∧ Below w0.heap.size w0 w') := by
    rw [← HC.out]; exact tnoHome_any h0 (hG.kept B0.out) p hp hm
  have C2 : Hid (∀ w1, Below w0.heap.size w0 w1 → Calls Tryz.prog 90 #[.pointer (some ⟨g, o, none⟩), kS p] w1 fun e w' => e = .returned (.bool b) ∧ Below w1.heap.size w1 w') := fun w1 hb => by
    rw [← HB.out]; exact thas_any (h0.on hb (Nat.le_refl _)) p hp
  have C3 : Hid (∀ w1, Below w0.heap.size w0 w1 → Calls Tryz.prog 110 #[.pointer (some ⟨g, o, none⟩), kS p, .agg #[.int .i64 k, kS d, kS x, .int .i64 tm]] w1 fun e w' => SP w1 g o m t cs room (putE room L p ⟨k, d, x, tm⟩) e w') := fun w1 hb =>
    tput_any (h0.on hb (Nat.le_refl _)) rfl hW.used hr p hp ⟨k, d, x, tm⟩ hn
  have HE : Hid (addE room L p ⟨k, d, x, tm⟩ = if c = 0 then (if b then (6, L) else putE room L p ⟨k, d, x, tm⟩) else (c, L)) := by
    show _ = _
    rw [← HC.out, ← HB.out]; rfl
  have H := hid h
  clear h h0 hW hG hm
  show Calls Tryz.prog 106 #[.pointer (some ⟨g, o, none⟩), kS p, .agg #[.int .i64 k, kS d, kS x, .int .i64 tm]] w _
  by_cases hc : c = 0
  · subst hc
    cases b with
    | true =>
      go_enter Tryz.func106, Tryz.ntmps106
      go_wp2_with fail
      rw [HW0.out]
      refine C1.out.mono ?_; rintro e1 w1 ⟨rfl, hb1⟩; have B1 := hid hb1; clear hb1
      go_wp2_with fail
      refine (C2.out _ B1.out).mono ?_; rintro e2 w2 ⟨rfl, hb2⟩; have B2 := hid hb2; clear hb2
      go_wp2
      go_ret
      rw [HE.out]
      exact SP.err H.out (B0.out.trans ((B1.out.trans (B2.out.mono B1.out.size)).mono B0.out.size)) 6
    | false =>
      go_enter Tryz.func106, Tryz.ntmps106
      go_wp2_with fail
      rw [HW0.out]
      refine C1.out.mono ?_; rintro e1 w1 ⟨rfl, hb1⟩; have B1 := hid hb1; clear hb1
      go_wp2_with fail
      refine (C2.out _ B1.out).mono ?_; rintro e2 w2 ⟨rfl, hb2⟩; have B2 := hid (B1.out.trans (hb2.mono B1.out.size)); clear hb2
      have X2 : Hid (Has w2 w.heap.size 64 #[.int .i64 k, kS d, kS x, .int .i64 tm]) := X0.out.kept B2.out X0.out.inside
      have x0 := X2.out.at_ 0
      have x1 := X2.out.at_ 1
      have x2 := X2.out.at_ 2
      have x3 := X2.out.at_ 3
      have hl := load_node X2.out
      go_wp2_with fail
      refine (C3.out _ B2.out).mono ?_; rintro e3 w3 hs3
      obtain ⟨r, HR⟩ : ∃ r, Hid (putE room L p ⟨k, d, x, tm⟩ = r) := ⟨_, rfl⟩
      rw [HR.out] at hs3
      obtain ⟨rfl, h2, h3⟩ := hs3
      have S3 : Hid (SP w2 g o m t cs room r (.returned (.int .i64 r.1)) w3) := ⟨rfl, h2, h3⟩
      clear h2 h3
      go_wp2
      go_ret
      rw [HE.out]
      simp only [if_true]
      rw [if_neg (by simp), HR.out]
      exact S3.out.ahead (B0.out.trans (B2.out.mono B0.out.size))
  · have q1 : (c == 0) = false := by simpa using hc
    have q2 : (c != 0) = true := by simpa using hc
    have HCN := hid hc
    clear hc
    go_enter Tryz.func106, Tryz.ntmps106
    go_wp2_with fail
    rw [HW0.out]
    refine C1.out.mono ?_; rintro e1 w1 ⟨rfl, hb1⟩; have B1 := hid hb1; clear hb1
    go_wp2
    go_ret
    rw [HE.out, if_neg HCN.out]
    exact SP.err H.out (B0.out.trans (B1.out.mono B0.out.size)) c
end
end Go.Proofs.YtlbeemlnbpchgaaGreat
