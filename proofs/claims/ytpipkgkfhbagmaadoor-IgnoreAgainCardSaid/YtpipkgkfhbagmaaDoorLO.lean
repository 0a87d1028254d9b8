/- Files of patterns, plain: files that include nothing; patterns behind others. The law IgnoreFirst: its walk. Conditions: a world in shape; texts of at most 2^63 - 1 bytes. -/
import Derived.Test.YtpipkgkfhbagmaaDoorLM
namespace Go.Proofs.YtpipkgkfhbagmaaDoor.Glob
open Go.RowKit Go.Maps
/-- Lines that are patterns, all of them. -/
def Plain (ls : List By) : Prop := ∀ s ∈ ls, pre incM s = false ∧ perr s = 0
theorem stepL_plain {rd : By → List By → Except Int (List By)} : ∀ {ls ps qs : List By}, (∀ s ∈ ls, pre incM s = true → ∀ ps, ∃ c, rd (s.drop 9) ps = .error c) → stepL rd ls ps = .ok qs → Plain ls ∧ qs = ps ++ ls
  | [], ps, qs, _, h => by
    simp only [stepL, Except.ok.injEq] at h
    exact ⟨fun s hs => (nomatch hs), by simp [h]⟩
  | s :: ls, ps, qs, hr, h => by
    unfold stepL at h
    split at h
    · rename_i hp
      obtain ⟨c, hc⟩ := hr s (by simp) hp ps
      rw [hc] at h
      cases h
    · rename_i hp
      split at h
      · cases h
      · split at h
        · cases h
        · rename_i he
          obtain ⟨h1, h2⟩ := stepL_plain (fun t ht => hr t (by simp [ht])) h
          refine ⟨fun t ht => ?_, by rw [h2]; simp⟩
          rcases List.mem_cons.1 ht with rfl | ht
          · exact ⟨by simpa using hp, by simpa using he⟩
          · exact h1 t ht
theorem stepL_lone {rd : By → List By → Except Int (List By)} : ∀ {ls : List By}, Plain ls → ∀ ps, ps.length ≤ 64 → stepL rd ls ps = addL ps ls
  | [], _, ps, hp => by
    unfold stepL addL
    rw [if_pos (by simpa using hp)]; simp
  | s :: ls, h, ps, hp => by
    obtain ⟨h1, h2⟩ := h s (by simp)
    unfold stepL
    rw [if_neg (by rw [h1]; decide)]
    by_cases h64 : ps.length = 64
    · rw [if_pos h64]; unfold addL; rw [if_neg (by simp only [List.length_cons]; omega)]
    · rw [if_neg h64, if_neg (by rw [h2]; decide), stepL_lone (fun t ht => h t (by simp [ht])) _ (by simp; omega)]
      unfold addL
      simp only [List.length_append, List.length_cons, List.length_nil, List.append_assoc, List.cons_append, List.nil_append, Nat.add_assoc, Nat.add_comm 1]
theorem readL_one {n t : By} {qs : List By} {k : Nat} (h : readL [(n, t)] (k + 1) [] n [] = .ok qs) : Plain (linesL t) ∧ qs = linesL t := by
  unfold readL at h
  have hf : findF [(n, t)] n = some t := by simp [findF]
  rw [hf] at h
  simp only at h
  rw [if_neg (by simp)] at h
  obtain ⟨h1, h2⟩ := stepL_plain (fun s _ _ ps => by
    by_cases hs : n = s.drop 9
    · refine ⟨22, ?_⟩
      cases k <;> (unfold readL; rw [show findF [(n, t)] (s.drop 9) = some t by simp [findF, hs]]; simp only; rw [if_pos (by simp [hs])])
    · refine ⟨5, ?_⟩
      have hn : findF [(n, t)] (s.drop 9) = none := by
        have : (n == s.drop 9) = false := by simp [hs]
        simp [findF, this]
      cases k <;> (unfold readL; rw [hn])) h
  exact ⟨h1, by simpa using h2⟩
def incA : By := [35, 105, 110, 99, 108, 117, 100, 101, 32, 97]
theorem lines_inc (two : By) : linesL (incA ++ [10] ++ two) = incA :: linesL two := by
  rw [linesL_cut]
  have e : cutN (incA ++ [10] ++ two) = (incA, two, true) := by rfl
  rw [e]
  have h1 : trimB incA = incA := by decide
  have h2 : idle incA = false := by decide
  simp only [h1, h2]
  simp
theorem readL_two {one two : By} {A C : List By} (ha : Plain (linesL one) ∧ A = linesL one) (hc : Plain (linesL two) ∧ C = linesL two) (hA : A.length ≤ 64) : readL [([97], one), ([98], incA ++ [10] ++ two)] 4 [] [98] [] = addL A C := by
  obtain ⟨ha1, rfl⟩ := ha
  obtain ⟨hc1, rfl⟩ := hc
  have hf : findF [([97], one), ([98], incA ++ [10] ++ two)] [98] = some (incA ++ [10] ++ two) := by rfl
  have hf2 : findF [([97], one), ([98], incA ++ [10] ++ two)] [97] = some one := by rfl
  have hi : pre incM incA = true := by decide
  unfold readL
  rw [hf]
  simp only
  rw [if_neg (by simp), lines_inc]
  unfold stepL
  rw [if_pos hi]
  have hd : incA.drop 9 = [97] := by decide
  rw [hd]
  have h1 : readL [([97], one), ([98], incA ++ [10] ++ two)] 3 ([] ++ [[98]]) [97] [] = .ok (linesL one) := by
    unfold readL
    rw [hf2]
    simp only
    rw [if_neg (by decide), stepL_lone ha1 [] (by simp)]
    unfold addL
    rw [if_pos (by simpa using hA)]; simp
  rw [h1]
  simp only
  exact stepL_lone hc1 _ hA
theorem matL_app (A C : List By) (p : By) : ((matL A p).1 = true → matL (A ++ C) p = matL A p) ∧ ((matL A p).1 = false → (matL (A ++ C) p).1 = true → matL (A ++ C) p = matL C p) := by
  unfold matL
  cases hm : mayB p with
  | false => simp
  | true =>
    simp only [if_true]
    have hh : hitL p (A ++ C) = match hitL p A with | some s => some s | none => hitL p C := by
      unfold hitL
      rw [List.find?_append]
      cases A.find? (fun s => ofM s p) <;> rfl
    rw [hh]
    cases hA : hitL p A with
    | none => simp
    | some s =>
      simp only
      refine ⟨fun _ => by first | trivial | rfl, fun h1 h2 => ?_⟩
      rw [h1] at h2
      cases h2
/-- What Parse answers, whatever it is. -/
theorem ParseOut.form {B : Nat} {fs : Fl} {name : By} {e : Ending} {W : World} (h : ParseOut B fs name e W) : ∃ A c, e = .returned (.tuple #[.pointer A, .int .i64 c]) := by
  unfold ParseOut at h
  cases hr : readL fs 4 [] name [] with
  | error c => rw [hr] at h; exact ⟨_, _, h.1⟩
  | ok qs => rw [hr] at h; obtain ⟨L, h1, _⟩ := h; exact ⟨_, _, h1⟩
set_option maxRecDepth 100000 in
set_option maxHeartbeats 4000000 in
theorem ifirst_any (s0 s1 s2 : By) (w : World) (hG : Gd w) (z0 : s0.length ≤ 9223372036854775807) (z1 : s1.length ≤ 9223372036854775807) (z2 : s2.length ≤ 9223372036854775807) :
    Calls Tryd.prog 5 #[.string (ba s0), .string (ba s1), .string (ba s2)] w fun e w' => e = .returned (.bool true) ∧ Below w.heap.size w w' := by
  have HG := hid hG
  obtain ⟨m0, hm0⟩ : ∃ m, min s0.length 600 = m := ⟨_, rfl⟩
  obtain ⟨m1, hm1⟩ : ∃ m, min s1.length 600 = m := ⟨_, rfl⟩
  obtain ⟨m2, hm2⟩ : ∃ m, min s2.length 200 = m := ⟨_, rfl⟩
  have i0 : min (s0.length : Int) 600 = (m0 : Int) := by omega
  have i1 : min (s1.length : Int) 600 = (m1 : Int) := by omega
  have i2 : min (s2.length : Int) 200 = (m2 : Int) := by omega
  have l0 : (m0 : Int) ≤ (s0.length : Int) := by omega
  have l1 : (m1 : Int) ≤ (s1.length : Int) := by omega
  have l2 : (m2 : Int) ≤ (s2.length : Int) := by omega
  have e0 := ba_take s0 m0
  have e1 := ba_take s1 m1
  have e2 := ba_take s2 m2
  have q0 := ba_size s0
  have q1 := ba_size s1
  have q2 := ba_size s2
  have u0 : (s0.take m0).length ≤ 600 := by rw [List.length_take]; omega
  have u1 : (s1.take m1).length ≤ 600 := by rw [List.length_take]; omega
  have u2 : (s2.take m2).length ≤ 200 := by rw [List.length_take]; omega
  generalize s0.take m0 = one at e0 u0
  generalize s1.take m1 = two at e1 u1
  generalize s2.take m2 = p at e2 u2
  generalize s0.length = n0 at *
  generalize s1.length = n1 at *
  generalize s2.length = n2 at *
  have HPA := hid (fun W (h : Below w.heap.size w W) => parse_one [97] one [97] W (hG.kept h) (by decide) (by omega) (by decide))
  have HPB := hid (fun W (h : Below w.heap.size w W) => parse_two [97] one [98] (incA ++ [10] ++ two) [98] W (hG.kept h) (by decide) (by omega) (by decide) (by simp [incA]; omega) (by decide))
  have HPC := hid (fun W (h : Below w.heap.size w W) => parse_one [99] two [99] W (hG.kept h) (by decide) (by omega) (by decide))
  obtain ⟨X0, hX0⟩ : ∃ X, ba s0 = X := ⟨_, rfl⟩
  obtain ⟨X1, hX1⟩ : ∃ X, ba s1 = X := ⟨_, rfl⟩
  obtain ⟨X2, hX2⟩ : ∃ X, ba s2 = X := ⟨_, rfl⟩
  rw [hX0] at e0 q0 ⊢
  rw [hX1] at e1 q1 ⊢
  rw [hX2] at e2 q2 ⊢
  have a1 : (⟨#[35, 105, 110, 99, 108, 117, 100, 101, 32, 97, 10]⟩ : ByteArray) ++ ba two = ba (incA ++ [10] ++ two) := by rw [show (⟨#[35, 105, 110, 99, 108, 117, 100, 101, 32, 97, 10]⟩ : ByteArray) = ba (incA ++ [10]) by simp [ba, incA]]; exact ba_app (incA ++ [10]) two
  have b1 := ba_size two
  have HPL : Hid (p.length ≤ 4000) := by show _ ≤ _; omega
  have HWK := hid (fun W (h : Below w.heap.size w W) => works_any W (hG.kept h))
  have HTW := hid (fun A C => @readL_two one two A C)
  have HO1 := hid (fun qs => @readL_one [97] one qs 3)
  have HO3 := hid (fun qs => @readL_one [99] two qs 3)
  clear hX0 hX1 hX2 hm0 hm1 hm2 hG
  go_enter Tryd.func5, Tryd.ntmps5
  go_wp2_with (fail)
  refine (HPA.out w (Below.refl _ _)).mono ?_
  rintro r1 w1 ⟨h1, hb1⟩
  have HB1 := hid hb1
  obtain ⟨P1, c1, hr1⟩ := h1.form
  have H1 := hid h1
  subst hr1
  clear h1 hb1
  have HCB := hid (HPB.out w1 HB1.out)
  go_wp2_with (fail)
  refine HCB.out.mono ?_
  rintro r2 w2 ⟨h2, hb2⟩
  have HB12 := hid hb2
  have HB2 : Hid (Below w.heap.size w w2) := HB1.out.thenG hb2
  obtain ⟨P2, c2, hr2⟩ := h2.form
  have H2 := hid h2
  subst hr2
  clear h2 hb2
  have HCC := hid (HPC.out w2 HB2.out)
  go_wp2_with (fail)
  refine HCC.out.mono ?_
  rintro r3 w3 ⟨h3, hb3⟩
  have HB23 := hid hb3
  have HB3 : Hid (Below w.heap.size w w3) := HB2.out.thenG hb3
  obtain ⟨P3, c3, hr3⟩ := h3.form
  have H3 := hid h3
  subst hr3
  clear h3 hb3
  have HW3 := hid (HWK.out w3 HB3.out)
  have key1 := H1.out
  have key2 := H2.out
  have key3 := H3.out
  unfold ParseOut at key1 key2 key3
  cases ga : readL [([97], one)] 4 [] [97] [] with
  | error c =>
    rw [ga] at key1
    obtain ⟨k1, hc⟩ := key1
    simp only [Ending.returned.injEq, Value.tuple.injEq, Array.mk.injEq, List.cons.injEq, Value.int.injEq, true_and, and_true] at k1
    obtain ⟨_, rfl⟩ := k1
    have hcz : (c1 == 0) = false := by simp [hc]
    have hcn : (c1 != 0) = true := by simp [hc]
    clear hc key2 key3 ga
    go_wp2_with (go_at_call 12; refine HW3.out.mono ?_; rintro e4 w4 ⟨rfl, hb4⟩)
    go_ret
    exact ⟨rfl, HB3.out.thenG hb4⟩
  | ok A =>
    rw [ga] at key1
    obtain ⟨L1, k1, _, hL1, hlen1⟩ := key1
    simp only [ptrV, Ending.returned.injEq, Value.tuple.injEq, Array.mk.injEq, List.cons.injEq, Value.int.injEq, Value.pointer.injEq, true_and, and_true] at k1
    obtain ⟨rfl, rfl⟩ := k1
    cases gb : readL [([97], one), ([98], incA ++ [10] ++ two)] 4 [] [98] [] with
    | error c =>
      rw [gb] at key2
      obtain ⟨k2, hc⟩ := key2
      simp only [Ending.returned.injEq, Value.tuple.injEq, Array.mk.injEq, List.cons.injEq, Value.int.injEq, true_and, and_true] at k2
      obtain ⟨_, rfl⟩ := k2
      have hcz : (c2 == 0) = false := by simp [hc]
      have hcn : (c2 != 0) = true := by simp [hc]
      clear hc key3 ga gb hL1 hlen1
      go_wp2_with (go_at_call 12; refine HW3.out.mono ?_; rintro e4 w4 ⟨rfl, hb4⟩)
      go_ret
      exact ⟨rfl, HB3.out.thenG hb4⟩
    | ok Bq =>
      rw [gb] at key2
      obtain ⟨L2, k2, _, hL2, hlen2⟩ := key2
      simp only [ptrV, Ending.returned.injEq, Value.tuple.injEq, Array.mk.injEq, List.cons.injEq, Value.int.injEq, Value.pointer.injEq, true_and, and_true] at k2
      obtain ⟨rfl, rfl⟩ := k2
      cases gc : readL [([99], two)] 4 [] [99] [] with
      | error c =>
        rw [gc] at key3
        obtain ⟨k3, hc⟩ := key3
        simp only [Ending.returned.injEq, Value.tuple.injEq, Array.mk.injEq, List.cons.injEq, Value.int.injEq, true_and, and_true] at k3
        obtain ⟨_, rfl⟩ := k3
        have hcz : (c3 == 0) = false := by simp [hc]
        have hcn : (c3 != 0) = true := by simp [hc]
        clear hc ga gb gc hL1 hlen1 hL2 hlen2
        go_wp2_with (go_at_call 12; refine HW3.out.mono ?_; rintro e4 w4 ⟨rfl, hb4⟩)
        go_ret
        exact ⟨rfl, HB3.out.thenG hb4⟩
      | ok C =>
        rw [gc] at key3
        obtain ⟨L3, k3, _, hL3, hlen3⟩ := key3
        simp only [ptrV, Ending.returned.injEq, Value.tuple.injEq, Array.mk.injEq, List.cons.injEq, Value.int.injEq, Value.pointer.injEq, true_and, and_true] at k3
        obtain ⟨rfl, rfl⟩ := k3
        have hB : Bq = A ++ C := by
          have := HTW.out A C (HO1.out A ga) (HO3.out C gc) hlen1
          rw [gb] at this
          unfold addL at this
          split at this
          · simp only [Except.ok.injEq] at this; exact this
          · cases this
        subst hB
        have HL1 := hid (hL1.below (HB12.out.thenG HB23.out))
        have HL2 := hid (hL2.below HB23.out)
        have HL3 := hid hL3
        obtain ⟨nA, hnA⟩ : ∃ n, A.length = n := ⟨_, rfl⟩
        obtain ⟨nC, hnC⟩ : ∃ n, C.length = n := ⟨_, rfl⟩
        obtain ⟨z, hz⟩ : ∃ z : Int, (nA : Int) + (nC : Int) = z := ⟨_, rfl⟩
        have HN1 := hid (fun W (h : Below w3.heap.size w3 W) => len_any _ L1 A W (HL1.out.below h))
        have HN2 := hid (fun W (h : Below w3.heap.size w3 W) => len_any _ L2 (A ++ C) W (HL2.out.below h))
        have HN3 := hid (fun W (h : Below w3.heap.size w3 W) => len_any _ L3 C W (HL3.out.below h))
        have hz2 : (((A ++ C).length : Nat) : Int) = z := by rw [List.length_append, hnA, hnC]; omega
        rw [hz2] at HN2
        rw [hnA] at HN1
        rw [hnC] at HN3
        have HM1 := hid (fun W (h : Below w3.heap.size w3 W) => imatch_any _ L1 A p W (HG.out.kept (HB3.out.thenG h)) (HL1.out.below h) hlen1 HPL.out)
        have HM2 := hid (fun W (h : Below w3.heap.size w3 W) => imatch_any _ L2 (A ++ C) p W (HG.out.kept (HB3.out.thenG h)) (HL2.out.below h) hlen2 HPL.out)
        have HM3 := hid (fun W (h : Below w3.heap.size w3 W) => imatch_any _ L3 C p W (HG.out.kept (HB3.out.thenG h)) (HL3.out.below h) hlen3 HPL.out)
        have hMA := matL_app A C p
        generalize matL A p = x at HM1 hMA
        generalize matL (A ++ C) p = y at HM2 hMA
        generalize matL C p = v at HM3 hMA
        obtain ⟨x1, x2⟩ := x
        obtain ⟨y1, y2⟩ := y
        obtain ⟨v1, v2⟩ := v
        have HMA := hid hMA
        have hzz : (z == z) = true := by simp
        have hzn : (z != z) = false := by simp
        have hlo : (0 : Int) ≤ (nA : Int) + (nC : Int) ∧ (nA : Int) + (nC : Int) ≤ 128 := by omega
        have hwr : IntKind.i64.wrap ((nA : Int) + (nC : Int)) = z := by rw [i64in _ (by omega) (by omega), hz]
        unfold ptrV at HN1 HN2 HN3 HM1 HM2 HM3
        clear hMA ga gb gc hL1 hlen1 hL2 hlen2 hL3 hlen3 hnA hnC hz2 hz
        have C2 := hid (HN2.out w3 (Below.refl _ _))
        have C1 := hid (HN1.out w3 (Below.refl _ _))
        have C3 := hid (HN3.out w3 (Below.refl _ _))
        go_wp2_with (fail)
        refine C2.out.mono ?_
        rintro e4 w4 ⟨rfl, rfl⟩
        go_wp2_with (fail)
        refine C1.out.mono ?_
        rintro e5 w5 ⟨rfl, rfl⟩
        go_wp2_with (fail)
        refine C3.out.mono ?_
        rintro e6 w6 ⟨rfl, rfl⟩
        have D1 := hid (HM1.out w3 (Below.refl _ _))
        go_wp2_with (fail)
        refine D1.out.mono ?_
        rintro e7 w7 ⟨rfl, hb7⟩
        have HB7 := hid hb7
        have D2 := hid (HM2.out w7 hb7)
        clear hb7
        go_wp2_with (fail)
        refine D2.out.mono ?_
        rintro e8 w8 ⟨rfl, hb8⟩
        have HB8 := hid (HB7.out.thenG hb8)
        have D3 := hid (HM3.out w8 HB8.out)
        clear hb8
        go_wp2_with (fail)
        refine D3.out.mono ?_
        rintro e9 w9 ⟨rfl, hb9⟩
        have HB9 : Hid (Below w.heap.size w w9) := HB3.out.thenG (HB8.out.thenG hb9)
        have HW9 := hid (HWK.out w9 HB9.out)
        clear hb9
        cases x1 with
        | true =>
          have hh := HMA.out.1 rfl
          simp only [Prod.mk.injEq] at hh
          obtain ⟨rfl, rfl⟩ := hh
          have hbb : (y2 == y2) = true := by simp
          have hbn : (y2 != y2) = false := by simp
          go_wp2_with (go_at_call 12; refine HW9.out.mono ?_; rintro e10 w10 ⟨rfl, hb10⟩)
          go_ret
          exact ⟨rfl, HB9.out.thenG hb10⟩
        | false =>
          cases y1 with
          | false =>
            go_wp2_with (go_at_call 12; refine HW9.out.mono ?_; rintro e10 w10 ⟨rfl, hb10⟩)
            go_ret
            exact ⟨rfl, HB9.out.thenG hb10⟩
          | true =>
            have hh := HMA.out.2 rfl rfl
            simp only [Prod.mk.injEq] at hh
            obtain ⟨rfl, rfl⟩ := hh
            have hbb : (y2 == y2) = true := by simp
            have hbn : (y2 != y2) = false := by simp
            go_wp2_with (go_at_call 12; refine HW9.out.mono ?_; rintro e10 w10 ⟨rfl, hb10⟩)
            go_ret
            exact ⟨rfl, HB9.out.thenG hb10⟩
theorem ifirst_law (s0 s1 s2 : ByteArray) (w : World) (hG : Gd w) (z0 : s0.size ≤ 9223372036854775807) (z1 : s1.size ≤ 9223372036854775807) (z2 : s2.size ≤ 9223372036854775807) :
    Calls Tryd.prog 5 #[.string s0, .string s1, .string s2] w fun e w' => e = .returned (.bool true) ∧ Below w.heap.size w w' := by
  have := ifirst_any (tl s0) (tl s1) (tl s2) w hG (by rw [tl_length]; exact z0) (by rw [tl_length]; exact z1) (by rw [tl_length]; exact z2)
  rw [ba_tl, ba_tl, ba_tl] at this; exact this
end Go.Proofs.YtpipkgkfhbagmaaDoor.Glob
