/- The law IgnoreWithin: its walk. Conditions: a world in shape; texts of at most 2^47 bytes. -/
import Derived.Test.YtpipkgkfhbagmaaDoorLM
namespace Go.Proofs.YtpipkgkfhbagmaaDoor.Glob
open Go.RowKit Go.Maps
theorem at8_app {a b : By} {i : Nat} (h : i < a.length) : at8 (a ++ b) i = at8 a i := by
  simp [at8, List.getD, List.getElem?_append_left h]
theorem at8_app_r {a b : By} {i : Nat} (h : a.length ≤ i) : at8 (a ++ b) i = at8 b (i - a.length) := by
  simp [at8, List.getD, List.getElem?_append_right h]
theorem seg_app {p q : By} {a b : Nat} (h : b ≤ p.length) : seg (p ++ q) a b = seg p a b := by
  unfold seg
  by_cases hab : a ≤ b
  · rw [List.drop_append_of_le_length (by omega), List.take_append_of_le_length (by rw [List.length_drop]; omega)]
  · rw [show b - a = 0 by omega]; rfl
theorem seg_shift (q p : By) (a b : Nat) : seg (q ++ p) (q.length + a) (q.length + b) = seg p a b := by
  unfold seg
  rw [List.drop_append, List.drop_of_length_le (by omega), List.nil_append]
  congr 1
  · omega
  · congr 1; omega
/-- What lies within what matches matches. -/
theorem mB_in (rooted : Bool) (hs : H) (path behind : By) (h : mB rooted hs path = true) (hl : (path ++ 47 :: behind).length ≤ 160) : mB rooted hs (path ++ 47 :: behind) = true := by
  obtain ⟨_, a, b, hab, hb, hst, he, hw⟩ := (mB_iff _ _ _).1 h
  refine (mB_iff _ _ _).2 ⟨hl, a, b, hab, by rw [List.length_append]; omega, ?_, ?_, ?_⟩
  · unfold startB at hst ⊢
    by_cases ha : a = 0
    · subst ha; rfl
    · rw [at8_app (by omega)]; exact hst
  · unfold endB at he ⊢
    by_cases hbl : b = path.length
    · subst hbl
      rw [at8_app_r (Nat.le_refl _)]
      simp [at8]
    · rw [at8_app (by omega)]
      have : (b == path.length) = false := by simp [hbl]
      rw [this, Bool.false_or] at he
      rw [he, Bool.or_true]
  · rw [seg_app hb]; exact hw
/-- A pattern that is not rooted matches within anything. -/
theorem mayB_len {l : By} (h : mayB l = true) : l.length ≤ 160 := by
  unfold mayB at h
  simp only [Bool.and_eq_true, decide_eq_true_eq] at h
  first | exact h.1 | exact h.1.1 | exact h.1.1.1
/-- What lies within what one pattern ignores is ignored, too. -/
theorem mat_in {x p nm : By} (h : (matL [x] p).1 = true) (hm : mayB (p ++ [47] ++ nm) = true) : matL [x] (p ++ [47] ++ nm) = matL [x] p ∧ (matL [x] (p ++ [47] ++ nm)).1 = true := by
  have hq := mayB_len hm
  have e : p ++ [47] ++ nm = p ++ 47 :: nm := by simp
  unfold matL at h
  split at h
  · rename_i hmp
    have hx : ofM x p = true := by
      cases ho : ofM x p with
      | true => rfl
      | false => rw [show hitL p [x] = none by simp [hitL, ho]] at h; cases h
    have hy : ofM x (p ++ [47] ++ nm) = true := by
      unfold ofM at hx ⊢
      cases hp : parseL x with
      | none => rw [hp] at hx; cases hx
      | some y => rw [hp] at hx; rw [e] at hq ⊢; exact mB_in _ _ _ _ hx hq
    have e1 : matL [x] p = if negM x then (false, false) else (true, delM x) := by
      unfold matL; rw [if_pos hmp, show hitL p [x] = some x by simp [hitL, hx]]
    have e2 : matL [x] (p ++ [47] ++ nm) = if negM x then (false, false) else (true, delM x) := by
      unfold matL; rw [if_pos hm, show hitL (p ++ [47] ++ nm) [x] = some x by simp only [hitL, List.find?_cons, hy]]
    refine ⟨e2.trans e1.symm, ?_⟩
    rw [show hitL p [x] = some x by simp [hitL, hx]] at h
    rw [e2]; exact h
  · cases h
set_option maxRecDepth 100000 in
set_option maxHeartbeats 4000000 in
theorem iwithin_any (s0 s1 s2 : By) (w : World) (hG : Gd w) (z0 : s0.length ≤ 9223372036854775807) (z1 : s1.length ≤ 9223372036854775807) (z2 : s2.length ≤ 9223372036854775807) :
    Calls Tryd.prog 6 #[.string (ba s0), .string (ba s1), .string (ba s2)] w fun e w' => e = .returned (.bool true) ∧ Below w.heap.size w w' := by
  have HG := hid hG
  obtain ⟨m0, hm0⟩ : ∃ m, min s0.length 128 = m := ⟨_, rfl⟩
  obtain ⟨m1, hm1⟩ : ∃ m, min s1.length 200 = m := ⟨_, rfl⟩
  obtain ⟨m2, hm2⟩ : ∃ m, min s2.length 60 = m := ⟨_, rfl⟩
  have i0 : min (s0.length : Int) 128 = (m0 : Int) := by omega
  have i1 : min (s1.length : Int) 200 = (m1 : Int) := by omega
  have i2 : min (s2.length : Int) 60 = (m2 : Int) := by omega
  have l0 : (m0 : Int) ≤ (s0.length : Int) := by omega
  have l1 : (m1 : Int) ≤ (s1.length : Int) := by omega
  have l2 : (m2 : Int) ≤ (s2.length : Int) := by omega
  have e0 := ba_take s0 m0
  have e1 := ba_take s1 m1
  have e2 := ba_take s2 m2
  have q0 := ba_size s0
  have q1 := ba_size s1
  have q2 := ba_size s2
  have u0 : (s0.take m0).length ≤ 128 := by rw [List.length_take]; omega
  have u1 : (s1.take m1).length ≤ 200 := by rw [List.length_take]; omega
  have u2 : (s2.take m2).length ≤ 60 := by rw [List.length_take]; omega
  generalize s0.take m0 = u at e0 u0
  generalize s1.take m1 = p at e1 u1
  generalize s2.take m2 = nm at e2 u2
  generalize s0.length = n0 at *
  generalize s1.length = n1 at *
  generalize s2.length = n2 at *
  have HP := hid (parse_one [105] u [105] w hG (by decide) (by omega) (by decide))
  obtain ⟨X0, hX0⟩ : ∃ X, ba s0 = X := ⟨_, rfl⟩
  obtain ⟨X1, hX1⟩ : ∃ X, ba s1 = X := ⟨_, rfl⟩
  obtain ⟨X2, hX2⟩ : ∃ X, ba s2 = X := ⟨_, rfl⟩
  rw [hX0] at e0 q0 ⊢
  rw [hX1] at e1 q1 ⊢
  rw [hX2] at e2 q2 ⊢
  have a1 : ba p ++ (⟨#[47]⟩ : ByteArray) = ba (p ++ [47]) := ba_app p [47]
  have a2 : ba (p ++ [47]) ++ ba nm = ba (p ++ [47] ++ nm) := ba_app (p ++ [47]) nm
  have b1 := ba_size p
  have b2 := ba_size nm
  have b3 : (ba (p ++ [47])).size = p.length + 1 := by rw [ba_size]; simp
  have HQL : Hid ((p ++ [47] ++ nm).length ≤ 4000) := by show _ ≤ _; simp; omega
  have HPL : Hid (p.length ≤ 4000) := by show _ ≤ _; omega
  have HWK := hid (fun W (h : Below w.heap.size w W) => works_any W (hG.kept h))
  have HIN := hid (fun x => @mat_in x p nm)
  generalize hq : p ++ [47] ++ nm = q at a2 HQL HIN
  have n5 : (⟨#[105]⟩ : ByteArray) = ba [105] := rfl
  clear hX0 hX1 hX2 hm0 hm1 hm2 hG hq
  go_enter Tryd.func6, Tryd.ntmps6
  go_wp2_with (fail)
  refine HP.out.mono ?_
  rintro e3 w3 ⟨h3, hb3⟩
  have HB3 := hid hb3
  unfold ParseOut at h3
  cases hr : readL [([105], u)] 4 [] [105] [] with
  | error c =>
    rw [hr] at h3
    obtain ⟨rfl, hc⟩ := h3
    have hcz : (c == 0) = false := by simp [hc]
    have hcn : (c != 0) = true := by simp [hc]
    have HW := hid (HWK.out w3 HB3.out)
    clear hc hr hb3
    go_wp2_with (go_at_call 12; refine HW.out.mono ?_; rintro e4 w4 ⟨rfl, hb4⟩)
    go_ret
    exact ⟨rfl, HB3.out.thenG hb4⟩
  | ok qs =>
    rw [hr] at h3
    obtain ⟨L, rfl, _, hL, hlen⟩ := h3
    have HL := hid hL
    have HLEN := hid (len_any w.heap.size L qs w3 hL)
    have HQS := hid hlen
    by_cases h1 : qs.length = 1
    · obtain ⟨x, rfl⟩ := List.length_eq_one_iff.1 h1
      have HMP := hid (imatch_any w.heap.size L [x] p w3 (HG.out.kept hb3) hL (by simp) HPL.out)
      have HMQ := hid (fun W (h : Below w3.heap.size w3 W) => imatch_any w.heap.size L [x] q W (HG.out.kept (HB3.out.thenG h)) (HL.out.below h) (by simp) HQL.out)
      have HMAY := hid (fun W (h : Below w3.heap.size w3 W) => may_any (ba q) W (HG.out.kept (HB3.out.thenG h)) (by rw [ba_size]; exact HQL.out))
      have hlx : (([x] : List By).length : Int) = 1 := rfl
      rw [hlx] at HLEN
      obtain ⟨r, hr1⟩ : ∃ r, matL [x] p = r := ⟨_, rfl⟩
      obtain ⟨t, hr2⟩ : ∃ t, matL [x] q = t := ⟨_, rfl⟩
      obtain ⟨y, hy⟩ : ∃ y, mayB (tl (ba q)) = y := ⟨_, rfl⟩
      have HIX := hid (HIN.out x)
      rw [hr1] at HMP HIX
      rw [hr2] at HMQ HIX
      rw [hy] at HMAY
      have hy2 : mayB q = y := hy
      rw [hy2] at HIX
      obtain ⟨ra, rb⟩ := r
      obtain ⟨ta, tb⟩ := t
      unfold ptrV at HMP HMQ HLEN
      unfold ptrV
      clear hL hlen h1 hr hr1 hr2 hy hy2 hb3 HIN hlx
      go_wp2_with (go_at_call 13; refine HLEN.out.mono ?_; rintro e4 w4 ⟨rfl, rfl⟩)
      refine HMP.out.mono ?_
      rintro e5 w5 ⟨rfl, hb5⟩
      have HB5 := hid hb5
      have HC6 := hid (HMQ.out w5 hb5)
      clear hb5
      go_wp2_with (fail)
      refine HC6.out.mono ?_
      rintro e6 w6 ⟨rfl, hb6⟩
      have HB6 := hid (HB5.out.thenG hb6)
      have HC7 := hid (HMAY.out w6 HB6.out)
      have HW6 := hid (HWK.out w6 (HB3.out.thenG HB6.out))
      clear hb6
      cases ra with
      | false =>
        go_wp2_with (go_at_call 12; refine HW6.out.mono ?_; rintro e8 w8 ⟨rfl, hb8⟩)
        go_ret
        exact ⟨rfl, (HB3.out.thenG HB6.out).thenG hb8⟩
      | true =>
        go_wp2_with (fail)
        refine HC7.out.mono ?_
        rintro e7 w7 ⟨rfl, hb7⟩
        have HB7 := hid (HB6.out.thenG hb7)
        have HW7 := hid (HWK.out w7 (HB3.out.thenG HB7.out))
        clear hb7
        cases y with
        | false =>
          go_wp2_with (go_at_call 12; refine HW7.out.mono ?_; rintro e8 w8 ⟨rfl, hb8⟩)
          go_ret
          exact ⟨rfl, (HB3.out.thenG HB7.out).thenG hb8⟩
        | true =>
          obtain ⟨hx1, hx2⟩ := HIX.out trivial rfl
          simp only [Prod.mk.injEq] at hx1
          obtain ⟨rfl, rfl⟩ := hx1
          have hbb : (tb == tb) = true := by simp
          go_wp2_with (go_at_call 12; refine HW7.out.mono ?_; rintro e8 w8 ⟨rfl, hb8⟩)
          go_ret
          exact ⟨rfl, (HB3.out.thenG HB7.out).thenG hb8⟩
    · have h1i : ((qs.length : Int) == 1) = false := by simp; omega
      have HW := hid (HWK.out w3 HB3.out)
      generalize qs.length = k at HLEN h1i
      unfold ptrV at HLEN
      unfold ptrV
      clear hL hlen h1 hr hb3
      go_wp2_with (first
        | (go_at_call 13; refine HLEN.out.mono ?_; rintro e4 w4 ⟨rfl, rfl⟩)
        | (go_at_call 12; refine HW.out.mono ?_; rintro e8 w8 ⟨rfl, hb8⟩))
      go_ret
      exact ⟨rfl, HB3.out.thenG hb8⟩
theorem iwithin_law (s0 s1 s2 : ByteArray) (w : World) (hG : Gd w) (z0 : s0.size ≤ 9223372036854775807) (z1 : s1.size ≤ 9223372036854775807) (z2 : s2.size ≤ 9223372036854775807) :
    Calls Tryd.prog 6 #[.string s0, .string s1, .string s2] w fun e w' => e = .returned (.bool true) ∧ Below w.heap.size w w' := by
  have := iwithin_any (tl s0) (tl s1) (tl s2) w hG (by rw [tl_length]; exact z0) (by rw [tl_length]; exact z1) (by rw [tl_length]; exact z2)
  rw [ba_tl, ba_tl, ba_tl] at this; exact this
end Go.Proofs.YtpipkgkfhbagmaaDoor.Glob
