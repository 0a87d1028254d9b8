/- Several texts in one: WG. Conditions: those said at each. -/
import Derived.Test.YtlbeemlnbpchgaaGreatQE
/- A tree in a world: write, append, mkdir, link, remove: each as the plain model says. Conditions: paths of at most 4000 bytes, data of at most a million. -/
namespace Go.Proofs.YtlbeemlnbpchgaaGreat
open Go.RowKit Go.Maps
section
variable {w : World} {g o m : Nat} {t : TypeId} {cs : Array Value} {L : Tr} {room : Nat}
theorem SP.split {w1 w2 : World} {r r' : Int × Tr} (hb : Below w.heap.size w w1) (h : SP w1 g o m t cs room r (.returned (.int .i64 r.1)) w2) (he : r' = r) : SP w g o m t cs room r' (.returned (.int .i64 r.1)) w2 := by
  subst he; exact h.ahead hb
set_option maxRecDepth 100000 in
set_option maxHeartbeats 4000000 in
theorem tmkdir_any (h : TreeS w g o m t cs L (usedL L) room) (hW : WFT room L) (hr : room ≤ 1048576) (hG : Gd w) (p : By) (hp : p.length ≤ 4000) :
    Calls Tryz.prog 62 #[.pointer (some ⟨g, o, none⟩), kS p] w fun e w' => SP w g o m t cs room (stepE room L (.mkdir p)) e w' := by
  have H := hid h
  cases hm : mayB p with
  | false =>
    have C1 := hid (mayk_any p false hm w hG hp)
    have HE : Hid (stepE room L (.mkdir p) = (10, L)) := by show _ = _; simp [stepE, hm]
    clear h hW hG hm
    go_enter Tryz.func62, Tryz.ntmps62
    go_wp2_with (go_at_call 70; refine C1.out.mono ?_; rintro e1 w1 ⟨rfl, hb1⟩; have B1 := hid hb1; clear hb1)
    go_ret
    rw [HE.out]
    exact SP.err H.out B1.out 10
  | true =>
    have C1 := hid (mayk_any p true hm w hG hp)
    have HE : Hid (stepE room L (.mkdir p) = addE room L p ⟨2, [], [], 0⟩) := by show _ = _; simp [stepE, hm]
    have C2 : Hid (∀ w1, Below w.heap.size w w1 → Calls Tryz.prog 106 #[.pointer (some ⟨g, o, none⟩), kS p, .agg #[.int .i64 2, .string ⟨#[]⟩, .string ⟨#[]⟩, .int .i64 0]] w1 fun e w' => SP w1 g o m t cs room (addE room L p ⟨2, [], [], 0⟩) e w') := fun w1 hb =>
      tadd_any (h.on hb (Nat.le_refl _)) hW hr (hG.kept hb) p hp hm ⟨2, [], [], 0⟩ (by simp)
    clear h hW hG hm
    obtain ⟨r, HR⟩ : ∃ r, Hid (addE room L p ⟨2, [], [], 0⟩ = r) := ⟨_, rfl⟩
    rw [HR.out] at C2 HE
    go_enter Tryz.func62, Tryz.ntmps62
    go_wp2_with fail
    refine C1.out.mono ?_; rintro e1 w1 ⟨rfl, hb1⟩; have B1 := hid hb1; clear hb1
    go_wp2_with fail
    refine (C2.out _ B1.out).mono ?_; rintro e2 w2 ⟨rfl, h2, h3⟩
    have S2 : Hid (SP w1 g o m t cs room r (.returned (.int .i64 r.1)) w2) := ⟨rfl, h2, h3⟩
    clear h2 h3
    go_wp2
    go_ret
    exact SP.split B1.out S2.out HE.out
set_option maxRecDepth 100000 in
set_option maxHeartbeats 4000000 in
theorem tlink_any (h : TreeS w g o m t cs L (usedL L) room) (hW : WFT room L) (hr : room ≤ 1048576) (hG : Gd w) (p x : By) (tm : Int) (hp : p.length ≤ 4000) (hx : x.length ≤ 1000000) :
    Calls Tryz.prog 87 #[.pointer (some ⟨g, o, none⟩), kS p, kS x, .int .i64 tm] w fun e w' => SP w g o m t cs room (stepE room L (.link p x tm)) e w' := by
  have H := hid h
  cases hm : mayB p with
  | false =>
    have C1 := hid (mayk_any p false hm w hG hp)
    have HE : Hid (stepE room L (.link p x tm) = (10, L)) := by show _ = _; simp [stepE, hm]
    clear h hW hG hm
    go_enter Tryz.func87, Tryz.ntmps87
    go_wp2_with (go_at_call 70; refine C1.out.mono ?_; rintro e1 w1 ⟨rfl, hb1⟩; have B1 := hid hb1; clear hb1)
    go_ret
    rw [HE.out]
    exact SP.err H.out B1.out 10
  | true =>
    have C1 := hid (mayk_any p true hm w hG hp)
    obtain ⟨b, HB⟩ : ∃ b, Hid (timeB tm = b) := ⟨_, rfl⟩
    have C2 : Hid (∀ W, Calls Tryz.prog 107 #[.int .i64 tm] W fun e w' => e = .returned (.bool b) ∧ W = w') := by
      intro W; rw [← HB.out]; exact isTime_any tm W
    have HE : Hid (stepE room L (.link p x tm) = if b = true ∧ 1 ≤ x.length ∧ x.length ≤ 160 then addE room L p ⟨3, [], x, tm⟩ else (2, L)) := by
      show _ = _; rw [← HB.out]; simp only [stepE, hm, if_true]
      by_cases c : timeB tm = true ∧ 1 ≤ x.length ∧ x.length ≤ 160
      · rw [if_pos c, if_pos (by simp [c])]
      · rw [if_neg c, if_neg (by simpa using c)]
    have C3 : Hid (∀ w1, Below w.heap.size w w1 → Calls Tryz.prog 106 #[.pointer (some ⟨g, o, none⟩), kS p, .agg #[.int .i64 3, .string ⟨#[]⟩, kS x, .int .i64 tm]] w1 fun e w' => SP w1 g o m t cs room (addE room L p ⟨3, [], x, tm⟩) e w') := fun w1 hb =>
      tadd_any (h.on hb (Nat.le_refl _)) hW hr (hG.kept hb) p hp hm ⟨3, [], x, tm⟩ (by simp)
    have hz : (ba x).size = x.length := ba_size x
    obtain ⟨z, HZ⟩ : ∃ z, Hid ((ba x).size = z) := ⟨_, rfl⟩
    have hz2 : (ba x).size ≤ 1000000 := by omega
    have HX := hid hz
    clear h hW hG hm hz
    cases b with
    | false =>
      go_enter Tryz.func87, Tryz.ntmps87
      go_wp2_with (first
        | (go_at_call 70; refine C1.out.mono ?_; rintro e1 w1 ⟨rfl, hb1⟩; have B1 := hid hb1; clear hb1)
        | (go_at_call 107; refine (C2.out _).mono ?_; rintro e1 w2 ⟨rfl, rfl⟩))
      go_ret
      rw [HE.out, if_neg (by simp)]
      exact SP.err H.out B1.out 2
    | true =>
      by_cases h1 : (ba x).size < 1
      · go_enter Tryz.func87, Tryz.ntmps87
        go_wp2_with (first
          | (go_at_call 70; refine C1.out.mono ?_; rintro e1 w1 ⟨rfl, hb1⟩; have B1 := hid hb1; clear hb1)
          | (go_at_call 107; refine (C2.out _).mono ?_; rintro e1 w2 ⟨rfl, rfl⟩))
        go_ret
        rw [HE.out, if_neg (fun h => by have := HX.out; omega)]
        exact SP.err H.out B1.out 2
      · by_cases h2 : 160 < (ba x).size
        · go_enter Tryz.func87, Tryz.ntmps87
          go_wp2_with (first
            | (go_at_call 70; refine C1.out.mono ?_; rintro e1 w1 ⟨rfl, hb1⟩; have B1 := hid hb1; clear hb1)
            | (go_at_call 107; refine (C2.out _).mono ?_; rintro e1 w2 ⟨rfl, rfl⟩))
          go_ret
          rw [HE.out, if_neg (fun h => by have := HX.out; omega)]
          exact SP.err H.out B1.out 2
        · have HQ : Hid (stepE room L (.link p x tm) = addE room L p ⟨3, [], x, tm⟩) := by
            show _ = _; rw [HE.out, if_pos ⟨rfl, by have := HX.out; omega, by have := HX.out; omega⟩]
          obtain ⟨r, HR⟩ : ∃ r, Hid (addE room L p ⟨3, [], x, tm⟩ = r) := ⟨_, rfl⟩
          rw [HR.out] at C3 HQ
          go_enter Tryz.func87, Tryz.ntmps87
          go_wp2_with (first
            | (go_at_call 70; refine C1.out.mono ?_; rintro e1 w1 ⟨rfl, hb1⟩; have B1 := hid hb1; clear hb1)
            | (go_at_call 107; refine (C2.out _).mono ?_; rintro e1 w2 ⟨rfl, rfl⟩)
            | (go_at_call 106; refine (C3.out _ B1.out).mono ?_; rintro e2 w2 ⟨rfl, h2, h3⟩))
          have S2 : Hid (SP w1 g o m t cs room r (.returned (.int .i64 r.1)) w2) := ⟨rfl, h2, h3⟩
          clear h2 h3
          go_ret
          exact SP.split B1.out S2.out HQ.out
set_option maxRecDepth 100000 in
set_option maxHeartbeats 4000000 in
theorem twrite_any (h : TreeS w g o m t cs L (usedL L) room) (hW : WFT room L) (hr : room ≤ 1048576) (hG : Gd w) (p d : By) (tm : Int) (hp : p.length ≤ 4000) (hd : d.length ≤ 1000000) :
    Calls Tryz.prog 64 #[.pointer (some ⟨g, o, none⟩), kS p, kS d, .int .i64 tm] w fun e w' => SP w g o m t cs room (stepE room L (.write p d tm)) e w' := by
  have H := hid h
  cases hm : mayB p with
  | false =>
    have C1 := hid (mayk_any p false hm w hG hp)
    have HE : Hid (stepE room L (.write p d tm) = (10, L)) := by show _ = _; simp [stepE, hm]
    clear h hW hG hm
    go_enter Tryz.func64, Tryz.ntmps64
    go_wp2_with (go_at_call 70; refine C1.out.mono ?_; rintro e1 w1 ⟨rfl, hb1⟩; have B1 := hid hb1; clear hb1)
    go_ret
    rw [HE.out]
    exact SP.err H.out B1.out 10
  | true =>
    have C1 := hid (mayk_any p true hm w hG hp)
    obtain ⟨b, HB⟩ : ∃ b, Hid (timeB tm = b) := ⟨_, rfl⟩
    obtain ⟨c, HC⟩ : ∃ c, Hid (homeE L p = c) := ⟨_, rfl⟩
    obtain ⟨k, HK⟩ : ∃ k, Hid (takenE L p = k) := ⟨_, rfl⟩
    have C2 : Hid (∀ W, Calls Tryz.prog 107 #[.int .i64 tm] W fun e w' => e = .returned (.bool b) ∧ W = w') := by
      intro W; rw [← HB.out]; exact isTime_any tm W
    have C3 : Hid (∀ w1, Below w.heap.size w w1 → Calls Tryz.prog 108 #[.pointer (some ⟨g, o, none⟩), kS p] w1 fun e w' => e = .returned (.int .i64 c) ∧ Below w1.heap.size w1 w') := fun w1 hb => by
      rw [← HC.out]; exact tnoHome_any (h.on hb (Nat.le_refl _)) (hG.kept hb) p hp hm
    have C4 : Hid (∀ w1, Below w.heap.size w w1 → Calls Tryz.prog 109 #[.pointer (some ⟨g, o, none⟩), kS p] w1 fun e w' => e = .returned (.int .i64 k) ∧ w1 = w') := fun w1 hb => by
      rw [← HK.out]; exact ttaken_any (h.on hb (Nat.le_refl _)) p hp
    have C5 : Hid (∀ w1, Below w.heap.size w w1 → Calls Tryz.prog 110 #[.pointer (some ⟨g, o, none⟩), kS p, .agg #[.int .i64 1, kS d, .string ⟨#[]⟩, .int .i64 tm]] w1 fun e w' => SP w1 g o m t cs room (putE room L p ⟨1, d, [], tm⟩) e w') := fun w1 hb =>
      tput_any (h.on hb (Nat.le_refl _)) rfl hW.used hr p hp ⟨1, d, [], tm⟩ (by simp only; omega)
    have HE : Hid (stepE room L (.write p d tm) = if b = true then (if c = 0 then (if k = 0 then putE room L p ⟨1, d, [], tm⟩ else (k, L)) else (c, L)) else (2, L)) := by
      show _ = _; rw [← HB.out, ← HC.out, ← HK.out]; simp only [stepE, hm, if_true]
    clear h hW hG hm
    cases b with
    | false =>
      go_enter Tryz.func64, Tryz.ntmps64
      go_wp2_with (first
        | (go_at_call 70; refine C1.out.mono ?_; rintro e1 w1 ⟨rfl, hb1⟩; have B1 := hid hb1; clear hb1)
        | (go_at_call 107; refine (C2.out _).mono ?_; rintro e1 w2 ⟨rfl, rfl⟩))
      go_ret
      rw [HE.out, if_neg (by simp)]
      exact SP.err H.out B1.out 2
    | true =>
      by_cases hc : c = 0
      · subst hc
        by_cases hk : k = 0
        · subst hk
          obtain ⟨r, HR⟩ : ∃ r, Hid (putE room L p ⟨1, d, [], tm⟩ = r) := ⟨_, rfl⟩
          have HQ : Hid (stepE room L (.write p d tm) = r) := by show _ = _; rw [HE.out, if_pos (by trivial), if_pos (by trivial), if_pos (by trivial), HR.out]
          rw [HR.out] at C5
          go_enter Tryz.func64, Tryz.ntmps64
          go_wp2_with (first
            | (go_at_call 70; refine C1.out.mono ?_; rintro e1 w1 ⟨rfl, hb1⟩; have B1 := hid hb1; clear hb1)
            | (go_at_call 107; refine (C2.out _).mono ?_; rintro e1 w2 ⟨rfl, rfl⟩)
            | (go_at_call 108; refine (C3.out _ B1.out).mono ?_; rintro e3 w3 ⟨rfl, hb3⟩; have B3 := hid (B1.out.trans (hb3.mono B1.out.size)); clear hb3)
            | (go_at_call 109; refine (C4.out _ B3.out).mono ?_; rintro e4 w4 ⟨rfl, rfl⟩)
            | (go_at_call 110; refine (C5.out _ B3.out).mono ?_; rintro e5 w5 ⟨rfl, h2, h3⟩))
          have S2 : Hid (SP w3 g o m t cs room r (.returned (.int .i64 r.1)) w5) := ⟨rfl, h2, h3⟩
          clear h2 h3
          go_ret
          exact SP.split B3.out S2.out HQ.out
        · have q1 : (k == 0) = false := by simpa using hk
          have q2 : (k != 0) = true := by simpa using hk
          have HKN := hid hk
          clear hk
          go_enter Tryz.func64, Tryz.ntmps64
          go_wp2_with (first
            | (go_at_call 70; refine C1.out.mono ?_; rintro e1 w1 ⟨rfl, hb1⟩; have B1 := hid hb1; clear hb1)
            | (go_at_call 107; refine (C2.out _).mono ?_; rintro e1 w2 ⟨rfl, rfl⟩)
            | (go_at_call 108; refine (C3.out _ B1.out).mono ?_; rintro e3 w3 ⟨rfl, hb3⟩; have B3 := hid (B1.out.trans (hb3.mono B1.out.size)); clear hb3)
            | (go_at_call 109; refine (C4.out _ B3.out).mono ?_; rintro e4 w4 ⟨rfl, rfl⟩))
          go_ret
          rw [HE.out, if_pos (by trivial), if_pos (by trivial), if_neg HKN.out]
          exact SP.err H.out B3.out k
      · have q1 : (c == 0) = false := by simpa using hc
        have q2 : (c != 0) = true := by simpa using hc
        have HCN := hid hc
        clear hc
        go_enter Tryz.func64, Tryz.ntmps64
        go_wp2_with (first
          | (go_at_call 70; refine C1.out.mono ?_; rintro e1 w1 ⟨rfl, hb1⟩; have B1 := hid hb1; clear hb1)
          | (go_at_call 107; refine (C2.out _).mono ?_; rintro e1 w2 ⟨rfl, rfl⟩)
          | (go_at_call 108; refine (C3.out _ B1.out).mono ?_; rintro e3 w3 ⟨rfl, hb3⟩; have B3 := hid (B1.out.trans (hb3.mono B1.out.size)); clear hb3))
        go_ret
        rw [HE.out, if_pos (by trivial), if_neg HCN.out]
        exact SP.err H.out B3.out c
set_option maxRecDepth 100000 in
set_option maxHeartbeats 4000000 in
theorem tremove_any (h : TreeS w g o m t cs L (usedL L) room) (hW : WFT room L) (hr : room ≤ 1048576) (hG : Gd w) (p : By) (hp : p.length ≤ 4000) :
    Calls Tryz.prog 89 #[.pointer (some ⟨g, o, none⟩), kS p] w fun e w' => SP w g o m t cs room (stepE room L (.remove p)) e w' := by
  have H := hid h
  cases hm : mayB p with
  | false =>
    have C1 := hid (mayk_any p false hm w hG hp)
    have HE : Hid (stepE room L (.remove p) = (10, L)) := by show _ = _; simp [stepE, hm]
    clear h hW hG hm
    go_enter Tryz.func89, Tryz.ntmps89
    go_wp2_with (go_at_call 70; refine C1.out.mono ?_; rintro e1 w1 ⟨rfl, hb1⟩; have B1 := hid hb1; clear hb1)
    go_ret
    rw [HE.out]
    exact SP.err H.out B1.out 10
  | true =>
    have C1 := hid (mayk_any p true hm w hG hp)
    obtain ⟨b, HB⟩ : ∃ b, Hid (hasB L p = b) := ⟨_, rfl⟩
    have C2 : Hid (∀ w1, Below w.heap.size w w1 → Calls Tryz.prog 90 #[.pointer (some ⟨g, o, none⟩), kS p] w1 fun e w' => e = .returned (.bool b) ∧ Below w1.heap.size w1 w') := fun w1 hb => by
      rw [← HB.out]; exact thas_any (h.on hb (Nat.le_refl _)) p hp
    have C3 : Hid (∀ w1, Below w.heap.size w w1 → Calls Tryz.prog 75 #[.pointer (some ⟨g, o, none⟩), kS p] w1 fun e w' => InPost w1 (innerL L p) e w') := fun w1 hb =>
      twithin_any (h.on hb (Nat.le_refl _)) (fun q hq => by have := (may_parts (hW.may q hq)).1; omega) p hp
    have C4 : Hid (∀ w1, Below w.heap.size w w1 → Calls Tryz.prog 113 #[.pointer (some ⟨g, o, none⟩), kS p] w1 fun e w' => e = .returned (.tuple #[]) ∧ Turn (Two g m) w1 w' ∧ TreeS w' g o m t (cs.setIfInBounds (o + 1) (.int .i64 ((usedL (del L p) : Nat) : Int))) (del L p) (usedL (del L p)) room) := fun w1 hb =>
      tdrop_any (h.on hb (Nat.le_refl _)) rfl (by have := hW.used; omega) p hp
    have HE : Hid (stepE room L (.remove p) = if b = true then (if innerL L p = [] then (0, del L p) else (22, L)) else (5, L)) := by
      show _ = _; rw [← HB.out]; simp only [stepE, hm, if_true]; rfl
    clear h hW hG hm
    cases b with
    | false =>
      go_enter Tryz.func89, Tryz.ntmps89
      go_wp2_with (first
        | (go_at_call 70; refine C1.out.mono ?_; rintro e1 w1 ⟨rfl, hb1⟩; have B1 := hid hb1; clear hb1)
        | (go_at_call 90; refine (C2.out _ B1.out).mono ?_; rintro e2 w2 ⟨rfl, hb2⟩; have B2 := hid (B1.out.trans (hb2.mono B1.out.size)); clear hb2))
      go_ret
      rw [HE.out, if_neg (by simp)]
      exact SP.err H.out B2.out 5
    | true =>
      by_cases hi : innerL L p = []
      · have HI := hid hi
        clear hi
        go_enter Tryz.func89, Tryz.ntmps89
        go_wp2_with (first
          | (go_at_call 70; refine C1.out.mono ?_; rintro e1 w1 ⟨rfl, hb1⟩; have B1 := hid hb1; clear hb1)
          | (go_at_call 90; refine (C2.out _ B1.out).mono ?_; rintro e2 w2 ⟨rfl, hb2⟩; have B2 := hid (B1.out.trans (hb2.mono B1.out.size)); clear hb2)
          | fail)
        refine (C3.out _ B2.out).mono ?_; rintro e3 w3 ⟨v, xs, rfl, hx, ho, hb3⟩
        have B3 := hid (B2.out.trans (hb3.mono B2.out.size))
        rw [HI.out] at hx
        obtain rfl := hx.eq_nil
        obtain ⟨A, c, rfl⟩ : ∃ A c, v = .slice A 0 c := by
          rcases ho.2 with ⟨k1, _⟩ | ⟨g', c, cur, k1, _⟩
          · exact ⟨_, _, k1⟩
          · exact ⟨_, _, k1⟩
        clear hb3 ho hx
        go_wp2_with (go_at_call 113; refine (C4.out _ B3.out).mono ?_; rintro e4 w4 ⟨rfl, h2, h3⟩)
        have S2 : Hid (SP w3 g o m t cs room (0, del L p) (.returned (.int .i64 0)) w4) := ⟨rfl, h2, h3⟩
        clear h2 h3
        go_ret
        exact SP.split B3.out S2.out (by rw [HE.out, if_pos (by trivial), if_pos HI.out])
      · have HI := hid hi
        clear hi
        go_enter Tryz.func89, Tryz.ntmps89
        go_wp2_with (first
          | (go_at_call 70; refine C1.out.mono ?_; rintro e1 w1 ⟨rfl, hb1⟩; have B1 := hid hb1; clear hb1)
          | (go_at_call 90; refine (C2.out _ B1.out).mono ?_; rintro e2 w2 ⟨rfl, hb2⟩; have B2 := hid (B1.out.trans (hb2.mono B1.out.size)); clear hb2)
          | fail)
        refine (C3.out _ B2.out).mono ?_; rintro e3 w3 ⟨v, xs, rfl, hx, ho, hb3⟩
        have B3 := hid (B2.out.trans (hb3.mono B2.out.size))
        have hl : 0 < xs.length := by rw [hx.length_eq]; exact List.length_pos_iff.2 HI.out
        obtain ⟨A, n, c, rfl, hn⟩ : ∃ A n c, v = .slice A n c ∧ 0 < n := by
          rcases ho.2 with ⟨k1, k2⟩ | ⟨g', c, cur, k1, _⟩
          · omega
          · exact ⟨_, _, _, k1, hl⟩
        clear hb3 ho hx hl
        go_wp2
        go_ret
        rw [HE.out, if_pos (by trivial), if_neg HI.out]
        exact SP.err H.out B3.out 22
set_option maxRecDepth 100000 in
set_option maxHeartbeats 4000000 in
theorem tappend_any (h : TreeS w g o m t cs L (usedL L) room) (hW : WFT room L) (hr : room ≤ 1048576) (hG : Gd w) (p d : By) (hp : p.length ≤ 4000) (hd : d.length ≤ 1000000) :
    Calls Tryz.prog 67 #[.pointer (some ⟨g, o, none⟩), kS p, kS d] w fun e w' => SP w g o m t cs room (stepE room L (.append p d)) e w' := by
  have H := hid h
  cases hm : mayB p with
  | false =>
    have C1 := hid (mayk_any p false hm w hG hp)
    have HE : Hid (stepE room L (.append p d) = (10, L)) := by show _ = _; simp [stepE, hm]
    clear h hW hG hm
    go_enter Tryz.func67, Tryz.ntmps67
    go_wp2_with (go_at_call 70; refine C1.out.mono ?_; rintro e1 w1 ⟨rfl, hb1⟩; have B1 := hid hb1; clear hb1)
    go_ret
    rw [HE.out]
    exact SP.err H.out B1.out 10
  | true =>
    have C1 := hid (mayk_any p true hm w hG hp)
    have C4 : Hid (∀ k, takenE L p = k → ∀ w1, Below w.heap.size w w1 → Calls Tryz.prog 109 #[.pointer (some ⟨g, o, none⟩), kS p] w1 fun e w' => e = .returned (.int .i64 k) ∧ w1 = w') := fun k hk w1 hb => by
      rw [← hk]; exact ttaken_any (h.on hb (Nat.le_refl _)) p hp
    cases hl : look L p with
    | none =>
      have C2 : Hid (∀ w1, Below w.heap.size w w1 → Calls Tryz.prog 90 #[.pointer (some ⟨g, o, none⟩), kS p] w1 fun e w' => e = .returned (.bool false) ∧ Below w1.heap.size w1 w') := fun w1 hb => by
        have := thas_any (h.on hb (Nat.le_refl _)) p hp
        unfold hasB at this
        rw [hl] at this; exact this
      have HE : Hid (stepE room L (.append p d) = (5, L)) := by show _ = _; simp [stepE, hm, hl]
      clear h hW hG hm hl C4
      go_enter Tryz.func67, Tryz.ntmps67
      go_wp2_with (first
        | (go_at_call 70; refine C1.out.mono ?_; rintro e1 w1 ⟨rfl, hb1⟩; have B1 := hid hb1; clear hb1)
        | (go_at_call 90; refine (C2.out _ B1.out).mono ?_; rintro e2 w2 ⟨rfl, hb2⟩; have B2 := hid (B1.out.trans (hb2.mono B1.out.size)); clear hb2))
      go_ret
      rw [HE.out]
      exact SP.err H.out B2.out 5
    | some n =>
      obtain ⟨k0, d0, x0, t0⟩ := n
      have C2 : Hid (∀ w1, Below w.heap.size w w1 → Calls Tryz.prog 90 #[.pointer (some ⟨g, o, none⟩), kS p] w1 fun e w' => e = .returned (.bool true) ∧ Below w1.heap.size w1 w') := fun w1 hb => by
        have := thas_any (h.on hb (Nat.le_refl _)) p hp
        unfold hasB at this
        rw [hl] at this; exact this
      obtain ⟨k, HK⟩ : ∃ k, Hid (takenE L p = k) := ⟨_, rfl⟩
      have C5 := hid (C4.out k HK.out)
      have HE : Hid (stepE room L (.append p d) = if k = 0 then putE room L p ⟨k0, d0 ++ d, x0, t0⟩ else (k, L)) := by
        show _ = _; rw [← HK.out]; simp only [stepE, hm, if_true, hl]
      by_cases hk : k = 0
      · subst hk
        have hd0 : d0.length ≤ 1048576 := by
          have h1 := used_mem (look_mem hl)
          have h2 := hW.used
          simp only [useN] at h1
          omega
        have C6 : Hid (∀ w1, Below w.heap.size w w1 → Calls Tryz.prog 110 #[.pointer (some ⟨g, o, none⟩), kS p, .agg #[.int .i64 k0, kS (d0 ++ d), kS x0, .int .i64 t0]] w1 fun e w' => SP w1 g o m t cs room (putE room L p ⟨k0, d0 ++ d, x0, t0⟩) e w') := fun w1 hb =>
          tput_any (h.on hb (Nat.le_refl _)) rfl hW.used hr p hp ⟨k0, d0 ++ d, x0, t0⟩ (by simp only [List.length_append]; omega)
        have C7 : Hid (∀ w1, Below w.heap.size w w1 → w1.cell? ⟨g, o, none⟩ = some (.map (some m)) ∧ (Instr.lookup 57 (.map (some m)) (kS p) false).run Tryz.prog w1 = .ok (.agg #[.int .i64 k0, kS d0, kS x0, .int .i64 t0]) w1) := fun w1 hb => by
          have h' := h.on hb (Nat.le_refl _)
          have := h'.mp.look (p := p) (maxLen_le hp)
          rw [hl] at this
          exact ⟨h'.c0, this⟩
        obtain ⟨r, HR⟩ : ∃ r, Hid (putE room L p ⟨k0, d0 ++ d, x0, t0⟩ = r) := ⟨_, rfl⟩
        have HQ : Hid (stepE room L (.append p d) = r) := by show _ = _; rw [HE.out, if_pos rfl, HR.out]
        rw [HR.out] at C6
        have z1 : (ba d0).size ≤ 1048576 := by rw [ba_size]; exact hd0
        have z2 : (ba d).size ≤ 1000000 := by rw [ba_size]; exact hd
        clear h hW hG hm hl C4 HE hd0
        go_enter Tryz.func67, Tryz.ntmps67
        go_wp2_with fail
        refine C1.out.mono ?_; rintro e1 w1 ⟨rfl, hb1⟩; have B1 := hid hb1; clear hb1
        go_wp2_with fail
        refine (C2.out _ B1.out).mono ?_; rintro e2 w2 ⟨rfl, hb2⟩; have B2 := hid (B1.out.trans (hb2.mono B1.out.size)); clear hb2
        go_wp2_with fail
        refine (C5.out _ B2.out).mono ?_; rintro e3 w3 ⟨rfl, rfl⟩
        obtain ⟨c0, hlk⟩ := C7.out _ B2.out
        go_wp2_with fail
        rw [ba_append]
        have B3 : Hid (Below w.heap.size w (w2.alloc (.cells #[.int .i64 k0, .string (ba (d0 ++ d)), kS x0, .int .i64 t0] 64))) := B2.out.alloc B2.out.size _
        refine (C6.out _ B3.out).mono ?_
        rintro e4 w4 ⟨rfl, h2, h3⟩
        have S2 : Hid (SP _ g o m t cs room r (.returned (.int .i64 r.1)) w4) := ⟨rfl, h2, h3⟩
        clear h2 h3
        go_wp2
        go_ret
        exact SP.split B3.out S2.out HQ.out
      · have q1 : (k == 0) = false := by simpa using hk
        have q2 : (k != 0) = true := by simpa using hk
        have HKN := hid hk
        clear hk h hW hG hm hl C4
        go_enter Tryz.func67, Tryz.ntmps67
        go_wp2_with (first
          | (go_at_call 70; refine C1.out.mono ?_; rintro e1 w1 ⟨rfl, hb1⟩; have B1 := hid hb1; clear hb1)
          | (go_at_call 90; refine (C2.out _ B1.out).mono ?_; rintro e2 w2 ⟨rfl, hb2⟩; have B2 := hid (B1.out.trans (hb2.mono B1.out.size)); clear hb2)
          | (go_at_call 109; refine (C5.out _ B2.out).mono ?_; rintro e4 w4 ⟨rfl, rfl⟩))
        go_ret
        rw [HE.out, if_neg HKN.out]
        exact SP.err H.out B2.out k
end
end Go.Proofs.YtlbeemlnbpchgaaGreat
