/- headOf: what the first bytes tell. Conditions: bytes in a row. -/
import Derived.Test.YtakgbopkkechgaaFD
namespace Go.Proofs.Ytakgbopkkechgaa
open Go.RowKit
/-- What the first bytes tell: a kind, how many bytes the frame has, an error. -/
def headL (l : List UInt8) : Int × Int × Int :=
  if l.length < 4 then (0, 5, 0) else
  if cnt l = 0 ∨ 16385 < cnt l then (0, 0, 4) else
  if l.length = 4 then (0, 5, 0) else
  if ¬ okKind (at8 l 4) then (0, 0, 4) else (b8 (at8 l 4), 4 + (cnt l : Int), 0)
theorem nxt_four (xs : List UInt8) (h : 4 ≤ xs.length) : nxt (false, xs) 4 = some (valL (xs.take 4)) := by
  rw [nxt, if_pos ⟨rfl, by decide, by simp only; omega⟩]; rfl
theorem nxt_one (xs : List UInt8) (h : 1 ≤ xs.length) : nxt (false, xs) 1 = some (at8 xs 0).toNat := by
  rw [nxt, if_pos ⟨rfl, by decide, by simp only; omega⟩]
  obtain ⟨x, t, rfl⟩ : ∃ x t, xs = x :: t := by cases xs with | nil => simp at h | cons x t => exact ⟨x, t, rfl⟩
  simp [valL, at8]
set_option maxRecDepth 100000 in
set_option maxHeartbeats 4000000 in
theorem headOf_any (v : Value) (l : List UInt8) (A : Option Addr) (cap bb off : Nat) (hl : l.length ≤ 131072) (w : World) (h : Bytes w v l A cap bb off) :
    Calls Try.prog 27 #[v] w fun e w' => e = .returned (.tuple #[.int .i64 (headL l).1, .int .i64 (headL l).2.1, .int .i64 (headL l).2.2]) ∧ Below w.heap.size w w' := by
  obtain ⟨m, hmv⟩ : ∃ m : Nat, (m = l.length ∧ l.length ≤ 5) ∨ (m = 5 ∧ 5 < l.length) := by
    by_cases h5 : l.length ≤ 5
    · exact ⟨_, .inl ⟨rfl, h5⟩⟩
    · exact ⟨_, .inr ⟨rfl, by omega⟩⟩
  have hml : m ≤ l.length := by omega
  have KP := h.preRun m hml
  have HY := hid (h.pre m hml)
  have e5 : l.take m = l.take 5 := by
    rcases hmv with ⟨rfl, h5⟩ | ⟨rfl, h5⟩
    · rw [List.take_length, List.take_of_length_le h5]
    · rfl
  have CT := hid (newTape_any (.slice A m cap) (l.take m) A cap bb off (by rw [List.length_take]; omega) w HY.out)
  rw [e5] at CT
  have HT5 : Hid ((l.take 5).length = m) := by show _ = _; rw [List.length_take]; omega
  obtain rfl := h.form
  have CL : Hid (∀ (w1 : World) (g : Nat) (s : St), Tp w1 g s → Calls Try.prog 33 #[.pointer (some ⟨g, 0, none⟩)] w1 fun e w' => e = .returned (.int .i64 (s.2.length : Int)) ∧ w1 = w') := fun w1 g s h => left_any g s w1 h
  have C4 : Hid (∀ (w1 : World) (g : Nat) (s : St), Tp w1 g s → Calls Try.prog 34 #[.pointer (some ⟨g, 0, none⟩), .int .i64 4, .int .u64 16385] w1 fun e w' => e = .returned (.int .i64 ((belowS s 4 16385).1 : Nat)) ∧ Tp w' g (belowS s 4 16385).2 ∧ Grw g w1 w') := fun w1 g s h => below_any g s 4 16385 w1 h
  have C1 : Hid (∀ (w1 : World) (g : Nat) (s : St), Tp w1 g s → Calls Try.prog 34 #[.pointer (some ⟨g, 0, none⟩), .int .i64 1, .int .u64 9] w1 fun e w' => e = .returned (.int .i64 ((belowS s 1 9).1 : Nat)) ∧ Tp w' g (belowS s 1 9).2 ∧ Grw g w1 w') := fun w1 g s h => below_any g s 1 9 w1 h
  clear HY
  rw [headL]
  by_cases h4 : l.length < 4
  · simp only [if_pos h4]
    have g1 : (m : Int) < 4 := by omega
    rcases hmv with ⟨hm, h5⟩ | ⟨hm, h5⟩
    · subst hm
      have hi5 : (l.length : Int) ≤ 5 := by omega
      clear h hml e5 hl h5 h4
      go_enter Try.func27, Try.ntmps27
      go_wp2_with (first
        | (go_at_call 32; refine CT.out.mono ?_; rintro e w1 ⟨g, rfl, hg, ht, hb⟩
           have T1 := hid ht
           have B1 := hid hb
           have GG := hid hg
           clear ht hb hg)
        | (go_at_call 33; with_reducible refine (CL.out _ _ _ T1.out).mono ?_; rintro e w2 ⟨rfl, rfl⟩; simp only [HT5.out]))
      go_ret3
      exact ⟨rfl, B1.out⟩
    · first
      | omega
      | subst hm
        have hi5 : (5 : Int) < (l.length : Int) := by omega
        have KP5 : ∀ w', (Instr.slice 22 (.slice A l.length cap) none (some (.int .i64 5)) none).run Try.prog w' = .ok (.slice A 5 cap) w' := KP
        clear KP
        clear h hml e5 hl h5 h4
        go_enter Try.func27, Try.ntmps27
        go_wp2_with (first
          | (go_at_call 32; refine CT.out.mono ?_; rintro e w1 ⟨g, rfl, hg, ht, hb⟩
             have T1 := hid ht
             have B1 := hid hb
             have GG := hid hg
             clear ht hb hg)
          | (go_at_call 33; with_reducible refine (CL.out _ _ _ T1.out).mono ?_; rintro e w2 ⟨rfl, rfl⟩; simp only [HT5.out]))
        go_ret3
        exact ⟨rfl, B1.out⟩
  · simp only [if_neg h4]
    have g1 : ¬ (m : Int) < 4 := by omega
    have hc : cnt l = valL ((l.take 5).take 4) := by rw [List.take_take]; rfl
    have n4 : nxt (false, l.take 5) 4 = some (cnt l) := by rw [nxt_four _ (by rw [HT5.out]; omega), hc]
    clear hc
    obtain ⟨n, hn⟩ : ∃ n, cnt l = n := ⟨_, rfl⟩
    rw [hn] at n4
    simp only [hn]
    clear hn
    by_cases hb : n = 0 ∨ 16385 < n
    · simp only [if_pos hb]
      have hbel : Hid ((belowS (false, l.take 5) 4 16385).1 = 0) := by
        show _ = _
        rw [belowS, n4]
        by_cases h0 : n = 0
        · simp [h0]
        · simp only [if_neg (show ¬ (n ≤ 16385 ∧ n ≤ 4611686018427387904) by omega)]
      rcases hmv with ⟨hm, h5⟩ | ⟨hm, h5⟩
      · subst hm
        have hi5 : (l.length : Int) ≤ 5 := by omega
        clear h hml e5 hl hb n4 h4 h5
        go_enter Try.func27, Try.ntmps27
        go_wp2_with (first
          | (go_at_call 32; refine CT.out.mono ?_; rintro e w1 ⟨g, rfl, hg, ht, hb⟩
             have T1 := hid ht
             have B1 := hid hb
             have GG := hid hg
             clear ht hb hg)
          | (go_at_call 33; with_reducible refine (CL.out _ _ _ T1.out).mono ?_; rintro e w2 ⟨rfl, rfl⟩; simp only [HT5.out])
          | (go_at_call 34; with_reducible refine (C4.out _ _ _ T1.out).mono ?_; rintro e w2 ⟨rfl, ht2, hg2⟩
             have G2 := hid hg2
             clear ht2 hg2
             simp only [hbel.out]))
        go_ret3
        exact ⟨rfl, Grw.below B1.out G2.out GG.out B1.out.size⟩
      · first
        | omega
        | subst hm
          have hi5 : (5 : Int) < (l.length : Int) := by omega
          have KP5 : ∀ w', (Instr.slice 22 (.slice A l.length cap) none (some (.int .i64 5)) none).run Try.prog w' = .ok (.slice A 5 cap) w' := KP
          clear KP
          clear h hml e5 hl hb n4 h4 h5
          go_enter Try.func27, Try.ntmps27
          go_wp2_with (first
            | (go_at_call 32; refine CT.out.mono ?_; rintro e w1 ⟨g, rfl, hg, ht, hb⟩
               have T1 := hid ht
               have B1 := hid hb
               have GG := hid hg
               clear ht hb hg)
            | (go_at_call 33; with_reducible refine (CL.out _ _ _ T1.out).mono ?_; rintro e w2 ⟨rfl, rfl⟩; simp only [HT5.out])
            | (go_at_call 34; with_reducible refine (C4.out _ _ _ T1.out).mono ?_; rintro e w2 ⟨rfl, ht2, hg2⟩
               have G2 := hid hg2
               clear ht2 hg2
               simp only [hbel.out]))
          go_ret3
          exact ⟨rfl, Grw.below B1.out G2.out GG.out B1.out.size⟩
    · simp only [if_neg hb]
      have hbel : Hid (belowS (false, l.take 5) 4 16385 = (n, (false, (l.take 5).drop 4))) := by
        show _ = _
        rw [belowS, n4]
        simp only [if_pos (show n ≤ 16385 ∧ n ≤ 4611686018427387904 by omega)]
        rfl
      have n0 : ¬ (n : Int) = 0 := by omega
      by_cases hl4 : l.length = 4
      · simp only [if_pos hl4]
        have HD : Hid (((l.take 5).drop 4).length = 0) := by show _ = _; rw [List.length_drop, List.length_take]; omega
        rcases hmv with ⟨hm, h5⟩ | ⟨hm, h5⟩
        · subst hm
          have hi5 : (l.length : Int) ≤ 5 := by omega
          clear h hml e5 hl hb n4 h4 h5 hl4
          go_enter Try.func27, Try.ntmps27
          go_wp2_with (first
            | (go_at_call 32; refine CT.out.mono ?_; rintro e w1 ⟨g, rfl, hg, ht, hb⟩
               have T1 := hid ht
               have B1 := hid hb
               have GG := hid hg
               clear ht hb hg)
            | (go_at_call 33; with_reducible refine (CL.out _ _ _ T1.out).mono ?_; rintro e w2 ⟨rfl, rfl⟩; simp only [HT5.out])
            | (go_at_call 34; with_reducible refine (C4.out _ _ _ T1.out).mono ?_; rintro e w2 ⟨rfl, ht2, hg2⟩
               rw [hbel.out] at ht2
               have T2 := hid ht2
               have G2 := hid hg2
               clear ht2 hg2 T1
               simp only [hbel.out])
            | (go_at_call 33; with_reducible refine (CL.out _ _ _ T2.out).mono ?_; rintro e w2 ⟨rfl, rfl⟩; simp only [HD.out]))
          go_ret3
          exact ⟨rfl, Grw.below B1.out G2.out GG.out B1.out.size⟩
        · first
          | omega
          | subst hm
            have hi5 : (5 : Int) < (l.length : Int) := by omega
            have KP5 : ∀ w', (Instr.slice 22 (.slice A l.length cap) none (some (.int .i64 5)) none).run Try.prog w' = .ok (.slice A 5 cap) w' := KP
            clear KP
            clear h hml e5 hl hb n4 h4 h5 hl4
            go_enter Try.func27, Try.ntmps27
            go_wp2_with (first
              | (go_at_call 32; refine CT.out.mono ?_; rintro e w1 ⟨g, rfl, hg, ht, hb⟩
                 have T1 := hid ht
                 have B1 := hid hb
                 have GG := hid hg
                 clear ht hb hg)
              | (go_at_call 33; with_reducible refine (CL.out _ _ _ T1.out).mono ?_; rintro e w2 ⟨rfl, rfl⟩; simp only [HT5.out])
              | (go_at_call 34; with_reducible refine (C4.out _ _ _ T1.out).mono ?_; rintro e w2 ⟨rfl, ht2, hg2⟩
                 rw [hbel.out] at ht2
                 have T2 := hid ht2
                 have G2 := hid hg2
                 clear ht2 hg2 T1
                 simp only [hbel.out])
              | (go_at_call 33; with_reducible refine (CL.out _ _ _ T2.out).mono ?_; rintro e w2 ⟨rfl, rfl⟩; simp only [HD.out]))
            go_ret3
            exact ⟨rfl, Grw.below B1.out G2.out GG.out B1.out.size⟩
      · simp only [if_neg hl4]
        have HD : Hid (((l.take 5).drop 4).length = 1) := by show _ = _; rw [List.length_drop, List.length_take]; omega
        have ea : at8 ((l.take 5).drop 4) 0 = at8 l 4 := by
          simp [at8, List.getD, List.getElem?_drop]
        have n1 : nxt (false, (l.take 5).drop 4) 1 = some (at8 l 4).toNat := by rw [nxt_one _ (by rw [HD.out]; omega), ea]
        by_cases hk : okKind (at8 l 4)
        · rw [if_neg (by simpa using hk)]
          obtain ⟨k, hkk⟩ : ∃ k : Nat, k = (at8 l 4).toNat := ⟨_, rfl⟩
          have hbl : Hid ((belowS (false, (l.take 5).drop 4) 1 9).1 = k) := by
            show _ = _
            have := hk.2
            rw [belowS, n1]
            simp only [if_pos (show (at8 l 4).toNat ≤ 9 ∧ (at8 l 4).toNat ≤ 4611686018427387904 by omega), hkk]
          have k0 : ¬ (k : Int) = 0 := by have := hk.1; omega
          have hb8 : Hid (b8 (at8 l 4) = (k : Int)) := by show _ = _; rw [hkk]; rfl
          simp only [hb8.out]
          have wn : wrap64 (4 + (n : Int)) = 4 + (n : Int) := by
            have hn9 : n ≤ 16385 := by omega
            clear hb hmv hml hl h4 hl4
            simp [wrap64]; omega
          rcases hmv with ⟨hm, h5⟩ | ⟨hm, h5⟩
          · subst hm
            have hi5 : (l.length : Int) ≤ 5 := by omega
            clear h hml e5 hl hb n4 h4 h5 hl4 hk hkk n1 ea
            go_enter Try.func27, Try.ntmps27
            go_wp2_with (first
              | (go_at_call 32; refine CT.out.mono ?_; rintro e w1 ⟨g, rfl, hg, ht, hb⟩
                 have T1 := hid ht
                 have B1 := hid hb
                 have GG := hid hg
                 clear ht hb hg)
              | (go_at_call 33; with_reducible refine (CL.out _ _ _ T1.out).mono ?_; rintro e w2 ⟨rfl, rfl⟩; simp only [HT5.out])
              | (go_at_call 34; with_reducible refine (C4.out _ _ _ T1.out).mono ?_; rintro e w2 ⟨rfl, ht2, hg2⟩
                 rw [hbel.out] at ht2
                 have T2 := hid ht2
                 have G2 := hid hg2
                 clear ht2 hg2 T1
                 simp only [hbel.out])
              | (go_at_call 33; with_reducible refine (CL.out _ _ _ T2.out).mono ?_; rintro e w2 ⟨rfl, rfl⟩; simp only [HD.out])
              | (go_at_call 34; with_reducible refine (C1.out _ _ _ T2.out).mono ?_; rintro e w3 ⟨rfl, ht3, hg3⟩
                 have G3 := hid hg3
                 clear ht3 hg3 T2
                 simp only [hbl.out]))
            go_ret3
            exact ⟨by show Ending.returned (.tuple #[_, .int .i64 (wrap64 (4 + (n : Int))), _]) = _; rw [wn]; rfl, Grw.below B1.out (G2.out.trans G3.out) GG.out B1.out.size⟩
          · first
            | omega
            | subst hm
              have hi5 : (5 : Int) < (l.length : Int) := by omega
              have KP5 : ∀ w', (Instr.slice 22 (.slice A l.length cap) none (some (.int .i64 5)) none).run Try.prog w' = .ok (.slice A 5 cap) w' := KP
              clear KP
              clear h hml e5 hl hb n4 h4 h5 hl4 hk hkk n1 ea
              go_enter Try.func27, Try.ntmps27
              go_wp2_with (first
                | (go_at_call 32; refine CT.out.mono ?_; rintro e w1 ⟨g, rfl, hg, ht, hb⟩
                   have T1 := hid ht
                   have B1 := hid hb
                   have GG := hid hg
                   clear ht hb hg)
                | (go_at_call 33; with_reducible refine (CL.out _ _ _ T1.out).mono ?_; rintro e w2 ⟨rfl, rfl⟩; simp only [HT5.out])
                | (go_at_call 34; with_reducible refine (C4.out _ _ _ T1.out).mono ?_; rintro e w2 ⟨rfl, ht2, hg2⟩
                   rw [hbel.out] at ht2
                   have T2 := hid ht2
                   have G2 := hid hg2
                   clear ht2 hg2 T1
                   simp only [hbel.out])
                | (go_at_call 33; with_reducible refine (CL.out _ _ _ T2.out).mono ?_; rintro e w2 ⟨rfl, rfl⟩; simp only [HD.out])
                | (go_at_call 34; with_reducible refine (C1.out _ _ _ T2.out).mono ?_; rintro e w3 ⟨rfl, ht3, hg3⟩
                   have G3 := hid hg3
                   clear ht3 hg3 T2
                   simp only [hbl.out]))
              go_ret3
              exact ⟨by show Ending.returned (.tuple #[_, .int .i64 (wrap64 (4 + (n : Int))), _]) = _; rw [wn]; rfl, Grw.below B1.out (G2.out.trans G3.out) GG.out B1.out.size⟩
        · rw [if_pos hk]
          have hbl : Hid ((belowS (false, (l.take 5).drop 4) 1 9).1 = 0) := by
            show _ = _
            rw [belowS, n1]
            by_cases h9 : (at8 l 4).toNat ≤ 9
            · have h0 : (at8 l 4).toNat = 0 := by unfold okKind at hk; omega
              simp [h0]
            · simp only [if_neg (show ¬ ((at8 l 4).toNat ≤ 9 ∧ (at8 l 4).toNat ≤ 4611686018427387904) by omega)]
          rcases hmv with ⟨hm, h5⟩ | ⟨hm, h5⟩
          · subst hm
            have hi5 : (l.length : Int) ≤ 5 := by omega
            clear h hml e5 hl hb n4 h4 h5 hl4 hk n1 ea
            go_enter Try.func27, Try.ntmps27
            go_wp2_with (first
              | (go_at_call 32; refine CT.out.mono ?_; rintro e w1 ⟨g, rfl, hg, ht, hb⟩
                 have T1 := hid ht
                 have B1 := hid hb
                 have GG := hid hg
                 clear ht hb hg)
              | (go_at_call 33; with_reducible refine (CL.out _ _ _ T1.out).mono ?_; rintro e w2 ⟨rfl, rfl⟩; simp only [HT5.out])
              | (go_at_call 34; with_reducible refine (C4.out _ _ _ T1.out).mono ?_; rintro e w2 ⟨rfl, ht2, hg2⟩
                 rw [hbel.out] at ht2
                 have T2 := hid ht2
                 have G2 := hid hg2
                 clear ht2 hg2 T1
                 simp only [hbel.out])
              | (go_at_call 33; with_reducible refine (CL.out _ _ _ T2.out).mono ?_; rintro e w2 ⟨rfl, rfl⟩; simp only [HD.out])
              | (go_at_call 34; with_reducible refine (C1.out _ _ _ T2.out).mono ?_; rintro e w3 ⟨rfl, ht3, hg3⟩
                 have G3 := hid hg3
                 clear ht3 hg3 T2
                 simp only [hbl.out]))
            go_ret3
            exact ⟨rfl, Grw.below B1.out (G2.out.trans G3.out) GG.out B1.out.size⟩
          · first
            | omega
            | subst hm
              have hi5 : (5 : Int) < (l.length : Int) := by omega
              have KP5 : ∀ w', (Instr.slice 22 (.slice A l.length cap) none (some (.int .i64 5)) none).run Try.prog w' = .ok (.slice A 5 cap) w' := KP
              clear KP
              clear h hml e5 hl hb n4 h4 h5 hl4 hk n1 ea
              go_enter Try.func27, Try.ntmps27
              go_wp2_with (first
                | (go_at_call 32; refine CT.out.mono ?_; rintro e w1 ⟨g, rfl, hg, ht, hb⟩
                   have T1 := hid ht
                   have B1 := hid hb
                   have GG := hid hg
                   clear ht hb hg)
                | (go_at_call 33; with_reducible refine (CL.out _ _ _ T1.out).mono ?_; rintro e w2 ⟨rfl, rfl⟩; simp only [HT5.out])
                | (go_at_call 34; with_reducible refine (C4.out _ _ _ T1.out).mono ?_; rintro e w2 ⟨rfl, ht2, hg2⟩
                   rw [hbel.out] at ht2
                   have T2 := hid ht2
                   have G2 := hid hg2
                   clear ht2 hg2 T1
                   simp only [hbel.out])
                | (go_at_call 33; with_reducible refine (CL.out _ _ _ T2.out).mono ?_; rintro e w2 ⟨rfl, rfl⟩; simp only [HD.out])
                | (go_at_call 34; with_reducible refine (C1.out _ _ _ T2.out).mono ?_; rintro e w3 ⟨rfl, ht3, hg3⟩
                   have G3 := hid hg3
                   clear ht3 hg3 T2
                   simp only [hbl.out]))
              go_ret3
              exact ⟨rfl, Grw.below B1.out (G2.out.trans G3.out) GG.out B1.out.size⟩
end Go.Proofs.Ytakgbopkkechgaa
