/- The law FrameBack: what its call does. Conditions: a heap that has a block; frames and bytes that come in. -/
import Derived.Test.YtakgbopkkechgaaFY
import Derived.Lib.AppendStr
import Derived.Deep.RegionHeld3
namespace Go.Proofs.Ytakgbopkkechgaa
open Go.RowKit
theorem wrap64_small (x : Int) (h0 : 0 ≤ x) (h : x < 9223372036854775808) : wrap64 x = x := by simp [wrap64]; omega
theorem append_str (w : World) (B : Nat) (v : Value) (n : Nat) (ys : List UInt8) (hown : w.ownsRow B 5 1 v n (ys.map V8)) (s : ByteArray) (hn : n + s.size ≤ 1000000) (hB : B ≤ w.heap.size) :
    ∃ v' w', (Builtin.append_ #[22, 9] 22 #[v, .string s]).run Try.prog w = .ok v' w' ∧ w'.ownsRow B 5 1 v' (n + s.size) ((ys ++ tl s).map V8) ∧ w.grownBy w' v.ownBlock := by
  obtain ⟨i0, hi, hz0, hz1, hz2⟩ := info_parts info5
  obtain ⟨v', w', h1, h2, h3, _⟩ := Lib.run_append_own_string (P := Try.prog) w B 22 9 22 5 i0 Try.underlying22 Try.underlying9 hi hz0 hz1 hz2 v n (ys.map V8) hown s (by unfold maxLen; omega) (by omega) hB
  refine ⟨v', w', h1, ?_, h3⟩
  rw [List.map_append]
  exact h2
theorem drop_cons (ws : List Fr) (j : Nat) (h : j < ws.length) (z : Fr) : ws.drop j = ws.getD j z :: ws.drop (j + 1) := by
  rw [List.drop_eq_getElem_cons h, List.getD, List.getElem?_eq_getElem h]; rfl
theorem take_succ (ws : List Fr) (j : Nat) (h : j < ws.length) (z : Fr) : ws.take (j + 1) = ws.take j ++ [ws.getD j z] := by
  rw [List.take_succ_eq_append_getElem h, List.getD, List.getElem?_eq_getElem h]; rfl
theorem flat_drop (ws : List Fr) (j : Nat) : (flat (ws.drop j)).length ≤ (flat ws).length := by
  have : flat ws = flat (ws.take j) ++ flat (ws.drop j) := by
    unfold flat
    rw [← List.flatten_append, ← List.map_append, List.take_append_drop]
  rw [this, List.length_append]; omega
/-- What a reader that holds the beginning of what is to come gives next. -/
theorem next_of (ws : List Fr) (hw : ∀ f ∈ ws, okW f) (t : List UInt8) (ht : t.length ≤ 3) (j : Nat) (hj : j ≤ ws.length) (h rest : List UInt8) (e : h ++ rest = flat (ws.drop j) ++ t) :
    outL h = .wait ∨ ∃ f h', j < ws.length ∧ ws.take (j + 1) = ws.take j ++ [f] ∧ outL h = .one f.1 (tl f.2) h' ∧ h' ++ rest = flat (ws.drop (j + 1)) ++ t ∧ okW f := by
  by_cases hl : j < ws.length
  · have hd := drop_cons ws j hl (0, ⟨#[]⟩)
    have htk := take_succ ws j hl (0, ⟨#[]⟩)
    have hm : ws.getD j (0, ⟨#[]⟩) ∈ ws := by rw [List.getD, List.getElem?_eq_getElem hl]; exact List.getElem_mem hl
    generalize ws.getD j (0, ⟨#[]⟩) = f at hd htk hm
    have hok := hw f hm
    rw [hd, flat_cons, List.append_assoc] at e
    rcases out_pre hok.1 (by rw [tl_length]; have := hok.2; omega) e with ⟨h1, _⟩ | ⟨h', h1, _, h3⟩
    · exact .inl h1
    · exact .inr ⟨f, h', hl, htk, h1, h3, hok⟩
  · have hj2 : ws.drop j = [] := List.drop_of_length_le (by omega)
    rw [hj2] at e
    have e2 := congrArg List.length e
    simp only [flat, List.map_nil, List.flatten_nil, List.nil_append, List.length_append] at e2
    exact .inl (out_short (by omega))
/-- At the end all frames have come out. -/
theorem all_out (ws : List Fr) (hw : ∀ f ∈ ws, okW f) (t : List UInt8) (j : Nat) (hj : j ≤ ws.length) (h : List UInt8) (e : h = flat (ws.drop j) ++ t) (ho : outL h = .wait) : j = ws.length ∧ h = t := by
  by_cases hl : j < ws.length
  · have hd := drop_cons ws j hl (0, ⟨#[]⟩)
    have hm : ws.getD j (0, ⟨#[]⟩) ∈ ws := by rw [List.getD, List.getElem?_eq_getElem hl]; exact List.getElem_mem hl
    generalize ws.getD j (0, ⟨#[]⟩) = f at hd hm
    have hok := hw f hm
    rw [hd, flat_cons, List.append_assoc] at e
    rw [e, out_fr f.1 _ _ hok.1 (by rw [tl_length]; have := hok.2; omega)] at ho
    cases ho
  · refine ⟨by omega, ?_⟩
    rw [e, List.drop_of_length_le (by omega)]; simp [flat]
theorem part_next (L : List UInt8) (a e : Nat) (h : a ≤ e) : (L.take e).drop a ++ L.drop e = L.drop a := by
  by_cases he : e ≤ L.length
  · rw [← List.drop_append_of_le_length (by rw [List.length_take]; omega), List.take_append_drop]
  · rw [List.take_of_length_le (by omega), List.drop_of_length_le (show L.length ≤ e by omega), List.append_nil]
/-- The law in the course of its loops: the reader, the frames that came out, what is to come. -/
def Back (W0 w : World) (p : Nat) (ws : List Fr) (t rest : List UInt8) (v : Value) (j : Nat) (o : Option Nat) (h : List UInt8) : Prop :=
  Ses W0 w p (false, h) o ∧ FRow W0.heap.size w v (ws.take j) ∧ h ++ rest = flat (ws.drop j) ++ t ∧ j ≤ ws.length
theorem FRow.ses {W0 w : World} {p : Nat} {R : RS} {o : Option Nat} {v : Value} {ws : List Fr} {B : Nat} (hf : FRow B w v ws) (h : Ses W0 w p R o) {k : Nat} (hk : v.ownBlock = some k) : k ≠ p ∧ o ≠ some k := by
  obtain ⟨cs, hc⟩ := hf.type hk
  obtain ⟨v', l, h1, _, _, h4⟩ := h.rd
  refine ⟨fun e => ?_, fun e => ?_⟩
  · subst e
    have := type_apart hc h1
    revert this; decide
  · rcases h4 with ⟨_, _, hq, _⟩ | ⟨_, _, _, _, h5⟩
    · rcases hq with ⟨_, _, h6⟩ | ⟨g, off, cap, cur, h6, _, hg, _⟩
      · rw [h6] at e; cases e
      · rw [h6] at e
        cases e
        have := type_apart hc hg
        revert this; decide
    · rw [h5] at e; cases e
theorem FRow.chg {W0 w w' : World} {p : Nat} {R : RS} {o : Option Nat} {v : Value} {ws : List Fr} {B : Nat} (hf : FRow B w v ws) (h : Ses W0 w p R o) (hc : Chg p o w w') : FRow B w' v ws :=
  hf.same (fun k hk => hc.block k (hf.lt hk).2 (hf.ses h hk).1 (hf.ses h hk).2)
set_option maxRecDepth 100000 in
set_option maxHeartbeats 16000000 in
theorem back_law (A : Option Addr) (n cap bp off : Nat) (xs : List (Int × ByteArray)) (As : Option Addr) (ns caps bs os : Nat) (szs : List UInt8) (s : ByteArray) (w : World) (hp : 0 < w.heap.size) (hr : FrmsIn w A n bp off xs) (hs : BytsIn w As ns bs os szs ∧ ns ≤ maxLen) :
    Calls Try.prog 6 #[.slice A n cap, .slice As ns caps, .string s] w fun e w' => e = .returned (.bool true) ∧ Below w.heap.size w w' := by
  have HP := hid hp
  have HS : Hid (BytsIn w As ns bs os szs) := hs.1
  have HNS : Hid (ns ≤ 9223372036854775807) := by show _ ≤ _; have := hs.2; unfold maxLen at this; omega
  have CL := hid (laid_any A n cap bp off xs w hp hr)
  obtain ⟨t, ht, hc⟩ := cut_text s 3
  have HT3 : Hid (t.size ≤ 3) := ht
  clear hp hr hs ht
  go_enter Try.func6, Try.ntmps6
  go_wp2_with (fail)
  refine CL.out.mono ?_
  rintro e1 w1 ⟨v1, v2, rfl, ws, hl1, hl2, hl3, hl4, hl5⟩
  obtain ⟨A1, c1, e1⟩ := hl1.form
  obtain ⟨nw, hnw⟩ : ∃ nw, ws.length = nw := ⟨_, rfl⟩
  rw [hnw] at e1
  subst e1
  have HNW : Hid (ws.length = nw ∧ nw ≤ 20) := ⟨hnw, by omega⟩
  have F1 := hid hl1
  have O1 := hid hl2
  have B1 := hid hl3
  have OK := hid hl4
  have HFL : Hid ((flat ws).length ≤ 50000) := by show _ ≤ _; have := flat_len ws hl4; omega
  clear hl1 hl2 hl3 hl4 hl5 hnw CL
  rcases hc with ⟨rfl, hss⟩ | ⟨hss, e0⟩
  all_goals
    go_wp2_with (at_builtin; refine wpList_append_run (by rfl) _ _ 22 9 (by rfl) ?_
                 obtain ⟨v3, w2, hr3, ho3, hg3⟩ := append_str w1 w.heap.size _ _ _ O1.out t (by have := HFL.out; have := HT3.out; omega) B1.out.size
                 refine ⟨v3, w2, hr3, ?_⟩
                 have O3 := hid ho3
                 have B2 : Hid (Below w.heap.size w w2) := B1.out.grown hg3 B1.out.size (fun g hg => (O1.out.lt g hg).1)
                 have F2 := hid (F1.out.same (fun g hg => hg3.block g (F1.out.lt hg).2 (fun e => F1.out.bytes O1.out hg e.symm)))
                 clear hr3 ho3 hg3 F1 O1)
    obtain ⟨L, hL⟩ : ∃ L, flat ws ++ tl t = L := ⟨_, rfl⟩
    have HLL : Hid (flat ws ++ tl t = L) := hL
    have HP2 : Hid (0 < w2.heap.size) := Nat.lt_of_lt_of_le HP.out B2.out.size
    have hlen3 : L.length = (flat ws).length + t.size := by rw [← hL, List.length_append, tl_length]
    obtain ⟨A3, c3, b3, y3, _, _⟩ := own_bytes (ys := L) (by rw [hlen3]) HP2.out (by rw [← hL]; exact O3.out)
    obtain ⟨nL, hnL⟩ : ∃ nL, L.length = nL := ⟨_, rfl⟩
    have HNL : Hid (L.length = nL) := hnL
    have ey3 := y3.form
    rw [hnL] at ey3
    have hnL9 : nL ≤ 50003 := by have := HFL.out; have := HT3.out; omega
    subst ey3

    have YL : Hid (Bytes w2 (.slice A3 nL c3) L A3 c3 b3 0) := y3
    have CN := hid (ses_new (w0 := w2) (Below.refl _ _) HP2.out)
    clear hL hlen3 hnL y3 O3
    go_wp2_with (fail)
    refine CN.out.mono ?_
    rintro e3 w3 ⟨rfl, h3, _⟩
    have S3 := hid h3
    clear h3 CN
    go_wp2_with (fail)
    go_loopw [10, 11, 12] (fun vg tv av wr => ∃ (turn at_ j : Nat) (o : Option Nat) (h : List UInt8), turn ≤ ns ∧ tv = .int .i64 (turn : Int) ∧ av = .int .i64 (at_ : Int) ∧ at_ ≤ nL ∧ Hid (Back w2 wr w2.heap.size ws (tl t) (L.drop at_) vg j o h) ∧ Hid (outL h = .wait)) (fun _ tv av _ => (nL - (intOf av).toNat) + (ns - (intOf tv).toNat))
    case atStart => exact ⟨0, 0, 0, none, [], by omega, rfl, rfl, by omega, ⟨S3.out, FRow.nil _ _, by rw [List.drop_zero, List.drop_zero, HLL.out]; rfl, by omega⟩, out_short (by simp)⟩
    case round =>
      obtain ⟨turn, at_, j, o, h, htn, rfl, rfl, hat, HBK, HOW0⟩ := hrel
      obtain ⟨Ag, cg, eg⟩ := HBK.out.2.1.form
      obtain ⟨ng, hng⟩ : ∃ ng, (ws.take j).length = ng := ⟨_, rfl⟩
      rw [hng] at eg
      subst eg
      by_cases hlt : at_ < nL
      · have ga : (at_ : Int) < (nL : Int) := by omega
        obtain ⟨m0, hm0⟩ : ∃ m0, nL - at_ = m0 := ⟨_, rfl⟩
        have WT : Hid (turn ≤ 9223372036854775806 → wrap64 ((turn : Int) + 1) = ((turn + 1 : Nat) : Int)) := fun h => by
          rw [show ((turn + 1 : Nat) : Int) = (turn : Int) + 1 by omega]; exact wrap64_small _ (by omega) (by omega)
        clear HOW0 hng
        by_cases hlt2 : turn < ns
        · have HTN : Hid (turn ≤ 9223372036854775806) := by show _ ≤ _; have := HNS.out; omega
          have cz := (HS.out.kept (B2.out.trans (HBK.out.1.below.mono B2.out.size)) (Nat.le_refl _)).2.2 turn hlt2
          obtain rfl := (HS.out.2.1 (by omega)).1
          obtain ⟨mz, hmz⟩ : ∃ mz : Nat, (at8 szs turn).toNat = mz := ⟨_, rfl⟩
          have hmz9 : mz < 256 := by have := (at8 szs turn).toNat_lt; omega
          rw [show b8 (at8 szs turn) = (mz : Int) by rw [← hmz]; rfl] at cz
          have wz : IntKind.i64.wrap (mz : Int) = (mz : Int) := i64in _ (by omega) (by omega)
          have gt : (turn : Int) < (ns : Int) := by omega
          have gt0 : (0 : Int) ≤ (turn : Int) := by omega
          clear hmz
          by_cases hmn : m0 ≤ mz
          · have gm : (nL : Int) - (at_ : Int) ≤ (mz : Int) := by omega
            have HAE : Hid (at_ ≤ nL ∧ nL ≤ L.length) := ⟨by omega, by have := HNL.out; omega⟩
            obtain ⟨A5, hr5, hy5⟩ := (YL.out.kept HBK.out.1.below (Nat.le_refl _)).mid at_ nL HAE.out.1 HAE.out.2
            obtain ⟨mm, hmm⟩ : ∃ mm, nL - at_ = mm := ⟨_, rfl⟩
            rw [hmm] at hr5 hy5
            rw [show (nL : Int) = (at_ : Int) + ((nL : Int) - (at_ : Int)) by omega] at hr5
            have hlen5 : h.length + ((L.take nL).drop at_).length ≤ 131072 ∧ ((L.take nL).drop at_).length ≤ 300000 := by
              have h1 := congrArg List.length HBK.out.2.2.1
              have h2 := flat_drop ws j
              have h3 := HFL.out
              have h4 := HT3.out
              have h5 : ((L.take nL).drop at_).length ≤ (L.drop at_).length := by rw [← part_next L at_ nL HAE.out.1, List.length_append]; omega
              rw [List.length_append, List.length_append, tl_length] at h1
              omega
            have CP : Hid (Calls Try.prog 15 #[.pointer (some ⟨w2.heap.size, 0, none⟩), .slice A5 mm (c3 - at_)] wr fun e' w' => e' = .returned (.int .i64 0) ∧ ∃ o', Back w2 w' w2.heap.size ws (tl t) (L.drop nL) (.slice Ag ng cg) j o' (h ++ (L.take nL).drop at_)) := by
              refine (ses_push HBK.out.1 hy5 hlen5.2).mono ?_
              rintro e' w' ⟨rfl, o', h2, hn2, hc2⟩
              have e1 : pushE (false, h) ((L.take nL).drop at_) = 0 := by simp only [pushE, if_neg (show ¬ 131072 < h.length + ((L.take nL).drop at_).length by omega)]; rfl
              have e2 : pushR (false, h) ((L.take nL).drop at_) = (false, h ++ (L.take nL).drop at_) := by simp only [pushR, if_neg (show ¬ 131072 < h.length + ((L.take nL).drop at_).length by omega)]; rfl
              rw [e2] at h2
              refine ⟨by rw [e1], o', h2, HBK.out.2.1.chg HBK.out.1 hc2, ?_, HBK.out.2.2.2⟩
              rw [List.append_assoc, part_next L at_ nL HAE.out.1]
              exact HBK.out.2.2.1
            have HEX : Hid (nL ≤ nL ∧ (nL - nL) + (ns - (turn + 1)) < (nL - at_) + (ns - turn)) := by
              have := HNL.out
              exact ⟨by omega, by omega⟩
            clear hlen5 hy5 hmm hm0 hlt hat
            have wt := WT.out HTN.out
            go_wp2_with (fail)
            refine CP.out.mono ?_
            rintro e6 w6 ⟨rfl, o5, h6⟩
            have HB5 := hid h6
            clear h6 CP hr5 HBK
            go_wp2_with (fail)
            clear wt
            go_loopw [10, 14] (fun vg kv wr => ∃ (k j : Nat) (o : Option Nat) (h : List UInt8), k ≤ 30 ∧ k ≤ j ∧ kv = .int .i64 (k : Int) ∧ Hid (Back w2 wr w2.heap.size ws (tl t) (L.drop nL) vg j o h)) (fun _ kv _ => 30 - (intOf kv).toNat)
            case atStart => exact ⟨0, j, o5, h ++ (L.take nL).drop at_, by omega, by omega, rfl, HB5.out⟩
            case round =>
              obtain ⟨k, j, o, h, hk, hkj, rfl, HB4⟩ := hrel
              have gk : (k : Int) < 30 := by have := HB4.out.2.2.2; have := HNW.out; omega
              have HJ : Hid (j ≤ nw ∧ k ≤ j) := ⟨by have := HB4.out.2.2.2; have := HNW.out; omega, hkj⟩
              rcases next_of ws OK.out (tl t) (by rw [tl_length]; exact HT3.out) j HB4.out.2.2.2 h _ HB4.out.2.2.1 with hO | ⟨f, h', hjl, htk, hO, heq, hok⟩
              · have HOW := hid hO
                have CX := hid (ses_wait HB4.out.1 hO)
                have HB5 := hid HB4.out
                clear hO HB4
                go_wp2_with (fail)
                refine CX.out.mono ?_
                rintro e7 w7 ⟨rfl, h7, hb7⟩
                have S7 := hid h7
                have F7 := hid (HB5.out.2.1.kept hb7)
                clear h7 hb7 CX
                go_wp2
                go_roundw
                case rel => exact ⟨(turn + 1), nL, j, o, h, by omega, by go_num, by rw [show (at_ : Int) + ((nL : Int) - (at_ : Int)) = (nL : Int) by omega], HEX.out.1, ⟨S7.out, F7.out, HB5.out.2.2⟩, HOW.out⟩
                case measure => have := HEX.out.2; simp [intOf]; omega
              · have CX := hid (ses_one HB4.out.1 hO)
                have HB5 := hid HB4.out
                have HTK : Hid (ws.take (j + 1) = ws.take j ++ [f] ∧ h' ++ L.drop nL = flat (ws.drop (j + 1)) ++ tl t ∧ j < ws.length) := ⟨htk, heq, hjl⟩
                obtain ⟨fk, fb⟩ := f
                clear hO HB4 htk heq hjl hok
                go_wp2_with (fail)
                refine CX.out.mono ?_
                rintro e7 w7 ⟨v7, A7, c7, b7, rfl, hy7, _, h7, hg7⟩
                have k7 := conv_list (s := fb) hy7 (ba_tl fb)
                have ey := hy7.form
                obtain ⟨n7, hn7⟩ : ∃ n7, (tl fb).length = n7 := ⟨_, rfl⟩
                rw [hn7] at ey
                subst ey
                have S7 := hid h7
                have F7 := hid (HB5.out.2.1.chg HB5.out.1 (Chg.of_grw hg7))
                have HL7 : Hid ((ws.take j).length ≤ 1000) := by show _ ≤ _; rw [List.length_take]; have := HNW.out; omega
                clear hy7 h7 hg7 hn7 CX
                go_wp2_with (at_builtin; refine wpList_append_run (by rfl) _ _ 48 48 (by rfl) ?_
                             obtain ⟨v8, w8, hr8, ho8, hg8⟩ := F7.out.append fk fb HL7.out S7.out.below.size
                             refine ⟨v8, w8, hr8, ?_⟩
                             rw [← HTK.out.1] at ho8
                             have F8 := hid ho8
                             have FA := F7.out.kept (up_row w7 (.cells #[.int .i64 (b8 fk), .string fb] 52))
                             have SA := S7.out.alloc (.cells #[.int .i64 (b8 fk), .string fb] 52)
                             have S8 := hid (SA.grown hg8 (fun e => (FA.ses SA e).1 rfl) (fun g hg e => (FA.ses SA hg).2 e) (fun g hg => (FA.lt hg).1))
                             clear hr8 ho8 hg8 FA SA F7 S7)
                go_roundw
                case rel => exact ⟨k + 1, j + 1, o, h', by omega, by omega, by go_num, S8.out, F8.out, HTK.out.2.1, by have := HTK.out.2.2; omega⟩
                case measure => simp [intOf]; omega
          · have gm : ¬ (nL : Int) - (at_ : Int) ≤ (mz : Int) := by omega
            have HAE : Hid (at_ ≤ (at_ + mz) ∧ (at_ + mz) ≤ L.length) := ⟨by omega, by have := HNL.out; omega⟩
            obtain ⟨A5, hr5, hy5⟩ := (YL.out.kept HBK.out.1.below (Nat.le_refl _)).mid at_ (at_ + mz) HAE.out.1 HAE.out.2
            obtain ⟨mm, hmm⟩ : ∃ mm, (at_ + mz) - at_ = mm := ⟨_, rfl⟩
            rw [hmm] at hr5 hy5
            rw [show ((at_ + mz : Nat) : Int) = (at_ : Int) + (mz : Int) by omega] at hr5
            have hlen5 : h.length + ((L.take (at_ + mz)).drop at_).length ≤ 131072 ∧ ((L.take (at_ + mz)).drop at_).length ≤ 300000 := by
              have h1 := congrArg List.length HBK.out.2.2.1
              have h2 := flat_drop ws j
              have h3 := HFL.out
              have h4 := HT3.out
              have h5 : ((L.take (at_ + mz)).drop at_).length ≤ (L.drop at_).length := by rw [← part_next L at_ (at_ + mz) HAE.out.1, List.length_append]; omega
              rw [List.length_append, List.length_append, tl_length] at h1
              omega
            have CP : Hid (Calls Try.prog 15 #[.pointer (some ⟨w2.heap.size, 0, none⟩), .slice A5 mm (c3 - at_)] wr fun e' w' => e' = .returned (.int .i64 0) ∧ ∃ o', Back w2 w' w2.heap.size ws (tl t) (L.drop (at_ + mz)) (.slice Ag ng cg) j o' (h ++ (L.take (at_ + mz)).drop at_)) := by
              refine (ses_push HBK.out.1 hy5 hlen5.2).mono ?_
              rintro e' w' ⟨rfl, o', h2, hn2, hc2⟩
              have e1 : pushE (false, h) ((L.take (at_ + mz)).drop at_) = 0 := by simp only [pushE, if_neg (show ¬ 131072 < h.length + ((L.take (at_ + mz)).drop at_).length by omega)]; rfl
              have e2 : pushR (false, h) ((L.take (at_ + mz)).drop at_) = (false, h ++ (L.take (at_ + mz)).drop at_) := by simp only [pushR, if_neg (show ¬ 131072 < h.length + ((L.take (at_ + mz)).drop at_).length by omega)]; rfl
              rw [e2] at h2
              refine ⟨by rw [e1], o', h2, HBK.out.2.1.chg HBK.out.1 hc2, ?_, HBK.out.2.2.2⟩
              rw [List.append_assoc, part_next L at_ (at_ + mz) HAE.out.1]
              exact HBK.out.2.2.1
            have HEX : Hid ((at_ + mz) ≤ nL ∧ (nL - (at_ + mz)) + (ns - (turn + 1)) < (nL - at_) + (ns - turn)) := by
              have := HNL.out
              exact ⟨by omega, by omega⟩
            clear hlen5 hy5 hmm hm0 hlt hat
            have wt := WT.out HTN.out
            go_wp2_with (fail)
            refine CP.out.mono ?_
            rintro e6 w6 ⟨rfl, o5, h6⟩
            have HB5 := hid h6
            clear h6 CP hr5 HBK
            go_wp2_with (fail)
            clear wt
            go_loopw [10, 14] (fun vg kv wr => ∃ (k j : Nat) (o : Option Nat) (h : List UInt8), k ≤ 30 ∧ k ≤ j ∧ kv = .int .i64 (k : Int) ∧ Hid (Back w2 wr w2.heap.size ws (tl t) (L.drop (at_ + mz)) vg j o h)) (fun _ kv _ => 30 - (intOf kv).toNat)
            case atStart => exact ⟨0, j, o5, h ++ (L.take (at_ + mz)).drop at_, by omega, by omega, rfl, HB5.out⟩
            case round =>
              obtain ⟨k, j, o, h, hk, hkj, rfl, HB4⟩ := hrel
              have gk : (k : Int) < 30 := by have := HB4.out.2.2.2; have := HNW.out; omega
              have HJ : Hid (j ≤ nw ∧ k ≤ j) := ⟨by have := HB4.out.2.2.2; have := HNW.out; omega, hkj⟩
              rcases next_of ws OK.out (tl t) (by rw [tl_length]; exact HT3.out) j HB4.out.2.2.2 h _ HB4.out.2.2.1 with hO | ⟨f, h', hjl, htk, hO, heq, hok⟩
              · have HOW := hid hO
                have CX := hid (ses_wait HB4.out.1 hO)
                have HB5 := hid HB4.out
                clear hO HB4
                go_wp2_with (fail)
                refine CX.out.mono ?_
                rintro e7 w7 ⟨rfl, h7, hb7⟩
                have S7 := hid h7
                have F7 := hid (HB5.out.2.1.kept hb7)
                clear h7 hb7 CX
                go_wp2
                go_roundw
                case rel => exact ⟨(turn + 1), (at_ + mz), j, o, h, by omega, by go_num, by go_num, HEX.out.1, ⟨S7.out, F7.out, HB5.out.2.2⟩, HOW.out⟩
                case measure => have := HEX.out.2; simp [intOf]; omega
              · have CX := hid (ses_one HB4.out.1 hO)
                have HB5 := hid HB4.out
                have HTK : Hid (ws.take (j + 1) = ws.take j ++ [f] ∧ h' ++ L.drop (at_ + mz) = flat (ws.drop (j + 1)) ++ tl t ∧ j < ws.length) := ⟨htk, heq, hjl⟩
                obtain ⟨fk, fb⟩ := f
                clear hO HB4 htk heq hjl hok
                go_wp2_with (fail)
                refine CX.out.mono ?_
                rintro e7 w7 ⟨v7, A7, c7, b7, rfl, hy7, _, h7, hg7⟩
                have k7 := conv_list (s := fb) hy7 (ba_tl fb)
                have ey := hy7.form
                obtain ⟨n7, hn7⟩ : ∃ n7, (tl fb).length = n7 := ⟨_, rfl⟩
                rw [hn7] at ey
                subst ey
                have S7 := hid h7
                have F7 := hid (HB5.out.2.1.chg HB5.out.1 (Chg.of_grw hg7))
                have HL7 : Hid ((ws.take j).length ≤ 1000) := by show _ ≤ _; rw [List.length_take]; have := HNW.out; omega
                clear hy7 h7 hg7 hn7 CX
                go_wp2_with (at_builtin; refine wpList_append_run (by rfl) _ _ 48 48 (by rfl) ?_
                             obtain ⟨v8, w8, hr8, ho8, hg8⟩ := F7.out.append fk fb HL7.out S7.out.below.size
                             refine ⟨v8, w8, hr8, ?_⟩
                             rw [← HTK.out.1] at ho8
                             have F8 := hid ho8
                             have FA := F7.out.kept (up_row w7 (.cells #[.int .i64 (b8 fk), .string fb] 52))
                             have SA := S7.out.alloc (.cells #[.int .i64 (b8 fk), .string fb] 52)
                             have S8 := hid (SA.grown hg8 (fun e => (FA.ses SA e).1 rfl) (fun g hg e => (FA.ses SA hg).2 e) (fun g hg => (FA.lt hg).1))
                             clear hr8 ho8 hg8 FA SA F7 S7)
                go_roundw
                case rel => exact ⟨k + 1, j + 1, o, h', by omega, by omega, by go_num, S8.out, F8.out, HTK.out.2.1, by have := HTK.out.2.2; omega⟩
                case measure => simp [intOf]; omega
        · have gt : ¬ (turn : Int) < (ns : Int) := by omega
          have HAE : Hid (at_ ≤ nL ∧ nL ≤ L.length) := ⟨by omega, by have := HNL.out; omega⟩
          obtain ⟨A5, hr5, hy5⟩ := (YL.out.kept HBK.out.1.below (Nat.le_refl _)).mid at_ nL HAE.out.1 HAE.out.2
          obtain ⟨mm, hmm⟩ : ∃ mm, nL - at_ = mm := ⟨_, rfl⟩
          rw [hmm] at hr5 hy5
          rw [show (nL : Int) = (at_ : Int) + ((nL : Int) - (at_ : Int)) by omega] at hr5
          have hlen5 : h.length + ((L.take nL).drop at_).length ≤ 131072 ∧ ((L.take nL).drop at_).length ≤ 300000 := by
            have h1 := congrArg List.length HBK.out.2.2.1
            have h2 := flat_drop ws j
            have h3 := HFL.out
            have h4 := HT3.out
            have h5 : ((L.take nL).drop at_).length ≤ (L.drop at_).length := by rw [← part_next L at_ nL HAE.out.1, List.length_append]; omega
            rw [List.length_append, List.length_append, tl_length] at h1
            omega
          have CP : Hid (Calls Try.prog 15 #[.pointer (some ⟨w2.heap.size, 0, none⟩), .slice A5 mm (c3 - at_)] wr fun e' w' => e' = .returned (.int .i64 0) ∧ ∃ o', Back w2 w' w2.heap.size ws (tl t) (L.drop nL) (.slice Ag ng cg) j o' (h ++ (L.take nL).drop at_)) := by
            refine (ses_push HBK.out.1 hy5 hlen5.2).mono ?_
            rintro e' w' ⟨rfl, o', h2, hn2, hc2⟩
            have e1 : pushE (false, h) ((L.take nL).drop at_) = 0 := by simp only [pushE, if_neg (show ¬ 131072 < h.length + ((L.take nL).drop at_).length by omega)]; rfl
            have e2 : pushR (false, h) ((L.take nL).drop at_) = (false, h ++ (L.take nL).drop at_) := by simp only [pushR, if_neg (show ¬ 131072 < h.length + ((L.take nL).drop at_).length by omega)]; rfl
            rw [e2] at h2
            refine ⟨by rw [e1], o', h2, HBK.out.2.1.chg HBK.out.1 hc2, ?_, HBK.out.2.2.2⟩
            rw [List.append_assoc, part_next L at_ nL HAE.out.1]
            exact HBK.out.2.2.1
          have HEX : Hid (nL ≤ nL ∧ (nL - nL) + (ns - turn) < (nL - at_) + (ns - turn)) := by
            have := HNL.out
            exact ⟨by omega, by omega⟩
          clear hlen5 hy5 hmm hm0 hlt hat
          go_wp2_with (fail)
          refine CP.out.mono ?_
          rintro e6 w6 ⟨rfl, o5, h6⟩
          have HB5 := hid h6
          clear h6 CP hr5 HBK
          go_wp2_with (fail)
          go_loopw [10, 14] (fun vg kv wr => ∃ (k j : Nat) (o : Option Nat) (h : List UInt8), k ≤ 30 ∧ k ≤ j ∧ kv = .int .i64 (k : Int) ∧ Hid (Back w2 wr w2.heap.size ws (tl t) (L.drop nL) vg j o h)) (fun _ kv _ => 30 - (intOf kv).toNat)
          case atStart => exact ⟨0, j, o5, h ++ (L.take nL).drop at_, by omega, by omega, rfl, HB5.out⟩
          case round =>
            obtain ⟨k, j, o, h, hk, hkj, rfl, HB4⟩ := hrel
            have gk : (k : Int) < 30 := by have := HB4.out.2.2.2; have := HNW.out; omega
            have HJ : Hid (j ≤ nw ∧ k ≤ j) := ⟨by have := HB4.out.2.2.2; have := HNW.out; omega, hkj⟩
            rcases next_of ws OK.out (tl t) (by rw [tl_length]; exact HT3.out) j HB4.out.2.2.2 h _ HB4.out.2.2.1 with hO | ⟨f, h', hjl, htk, hO, heq, hok⟩
            · have HOW := hid hO
              have CX := hid (ses_wait HB4.out.1 hO)
              have HB5 := hid HB4.out
              clear hO HB4
              go_wp2_with (fail)
              refine CX.out.mono ?_
              rintro e7 w7 ⟨rfl, h7, hb7⟩
              have S7 := hid h7
              have F7 := hid (HB5.out.2.1.kept hb7)
              clear h7 hb7 CX
              go_wp2
              go_roundw
              case rel => exact ⟨turn, nL, j, o, h, by omega, by go_num, by rw [show (at_ : Int) + ((nL : Int) - (at_ : Int)) = (nL : Int) by omega], HEX.out.1, ⟨S7.out, F7.out, HB5.out.2.2⟩, HOW.out⟩
              case measure => have := HEX.out.2; simp [intOf]; omega
            · have CX := hid (ses_one HB4.out.1 hO)
              have HB5 := hid HB4.out
              have HTK : Hid (ws.take (j + 1) = ws.take j ++ [f] ∧ h' ++ L.drop nL = flat (ws.drop (j + 1)) ++ tl t ∧ j < ws.length) := ⟨htk, heq, hjl⟩
              obtain ⟨fk, fb⟩ := f
              clear hO HB4 htk heq hjl hok
              go_wp2_with (fail)
              refine CX.out.mono ?_
              rintro e7 w7 ⟨v7, A7, c7, b7, rfl, hy7, _, h7, hg7⟩
              have k7 := conv_list (s := fb) hy7 (ba_tl fb)
              have ey := hy7.form
              obtain ⟨n7, hn7⟩ : ∃ n7, (tl fb).length = n7 := ⟨_, rfl⟩
              rw [hn7] at ey
              subst ey
              have S7 := hid h7
              have F7 := hid (HB5.out.2.1.chg HB5.out.1 (Chg.of_grw hg7))
              have HL7 : Hid ((ws.take j).length ≤ 1000) := by show _ ≤ _; rw [List.length_take]; have := HNW.out; omega
              clear hy7 h7 hg7 hn7 CX
              go_wp2_with (at_builtin; refine wpList_append_run (by rfl) _ _ 48 48 (by rfl) ?_
                           obtain ⟨v8, w8, hr8, ho8, hg8⟩ := F7.out.append fk fb HL7.out S7.out.below.size
                           refine ⟨v8, w8, hr8, ?_⟩
                           rw [← HTK.out.1] at ho8
                           have F8 := hid ho8
                           have FA := F7.out.kept (up_row w7 (.cells #[.int .i64 (b8 fk), .string fb] 52))
                           have SA := S7.out.alloc (.cells #[.int .i64 (b8 fk), .string fb] 52)
                           have S8 := hid (SA.grown hg8 (fun e => (FA.ses SA e).1 rfl) (fun g hg e => (FA.ses SA hg).2 e) (fun g hg => (FA.lt hg).1))
                           clear hr8 ho8 hg8 FA SA F7 S7)
              go_roundw
              case rel => exact ⟨k + 1, j + 1, o, h', by omega, by omega, by go_num, S8.out, F8.out, HTK.out.2.1, by have := HTK.out.2.2; omega⟩
              case measure => simp [intOf]; omega
      · have hae : at_ = nL := by omega
        subst hae
        have ga : ¬ (at_ : Int) < (at_ : Int) := by omega
        have hh := HBK.out.2.2.1
        rw [List.drop_of_length_le (Nat.le_of_eq HNL.out), List.append_nil] at hh
        obtain ⟨hj, hht⟩ := all_out ws OK.out (tl t) j HBK.out.2.2.2 h hh HOW0.out
        have htk : ws.take j = ws := List.take_of_length_le (by omega)
        have S9 := hid HBK.out.1
        have hng2 : ng = nw := by rw [← hng, htk]; exact HNW.out.1
        subst hng2
        have F9 : Hid (FRow w2.heap.size wr (.slice Ag ng cg) ws) := by have := HBK.out.2.1; rw [htk] at this; exact this
        have CH : Hid (Calls Try.prog 19 #[.pointer (some ⟨w2.heap.size, 0, none⟩)] wr fun e w' => e = .returned (.int .i64 (t.size : Int)) ∧ Below wr.heap.size wr w') := by
          refine (ses_held S9.out).mono ?_
          rintro e w' ⟨rfl, _, hb⟩
          exact ⟨by rw [hht, tl_length], hb⟩
        have HB9 := hid S9.out.below
        clear hh hht hj htk hng HBK HOW0 S9 hlt htn
        go_wp2_with (fail)
        refine CH.out.mono ?_
        rintro e7 w7 ⟨rfl, hb7⟩
        have F7 := hid (F9.out.kept hb7)
        have B7 : Hid (Below w2.heap.size w2 w7) := HB9.out.trans (hb7.mono HB9.out.size)
        clear hb7 CH F9 HB9
        go_wp2_with (fail)
        go_loopw [19] (fun i wr => ∃ (k : Nat), k ≤ ng ∧ i = .int .i64 (k : Int) ∧ Hid (FRow w2.heap.size wr (.slice Ag ng cg) ws) ∧ Hid (Below w2.heap.size w2 wr)) (fun i _ => ng - (intOf i).toNat)
        case atStart => exact ⟨0, by omega, rfl, F7.out, B7.out⟩
        case round =>
          obtain ⟨k, hk, rfl, HF, HBB⟩ := hrel
          obtain ⟨W0, hW0⟩ : ∃ W0, W0 = wr := ⟨_, rfl⟩
          subst hW0
          by_cases hkl : k < ng
          · have gk : (k : Int) < (ng : Int) := by omega
            have gk0 : (0 : Int) ≤ (k : Int) := by omega
            have hkw : k < ws.length := by have := HNW.out.1; omega
            obtain ⟨gg, cg', eg, _, d0, d1⟩ := HF.out.at_ k hkw (0, ⟨#[]⟩)
            obtain ⟨gw, cw', ew, _, d2, d3⟩ := (F2.out.kept HBB.out).at_ k hkw (0, ⟨#[]⟩)
            injection eg with eg _ _
            injection ew with ew _ _
            subst eg ew
            obtain ⟨f, hf⟩ : ∃ f, ws.getD k (0, ⟨#[]⟩) = f := ⟨_, rfl⟩
            rw [hf] at d0 d1 d2 d3
            obtain ⟨fk, fb⟩ := f
            simp only at d0 d1 d2 d3
            have HLG : Hid (∀ W, Below W0.heap.size W0 W → (loadVar 52 ⟨gg, k * 2, none⟩).run Try.prog W = .ok (.agg #[.int .i64 (b8 fk), .string fb]) W) := fun W hb => load_frame ((hb.cell (p := ⟨gg, k * 2, none⟩) (block_lt_of_cell d0)).trans d0) ((hb.cell (p := ⟨gg, k * 2 + 1, none⟩) (block_lt_of_cell d1)).trans d1)
            have HLW : Hid (∀ W, Below W0.heap.size W0 W → (loadVar 52 ⟨gw, k * 2, none⟩).run Try.prog W = .ok (.agg #[.int .i64 (b8 fk), .string fb]) W) := fun W hb => load_frame ((hb.cell (p := ⟨gw, k * 2, none⟩) (block_lt_of_cell d2)).trans d2) ((hb.cell (p := ⟨gw, k * 2 + 1, none⟩) (block_lt_of_cell d3)).trans d3)
            have hnw9 := HNW.out.2
            clear d0 d1 d2 d3 hf hkw hkl
            go_wp2_with (fail)
            have z0 : Below W0.heap.size W0 W0.drew := (Below.refl _ _).drew
            refine wp_region_noPanic ?_
            refine wp_region_held_drew (S := Below W0.heap.size W0) (by kernel_rfl) (z0) (fun hS => ?_)
            refine wpAnyH_take (i := 0) (v := ?_) (by simp only [List.getElem?_toArray, List.getElem?_cons_zero]; rfl) (by kernel_rfl) (by kernel_rfl) (by kernel_rfl) (fun _ _ _ h => h) (Or.inl ⟨by rfl, ?_⟩) (by assumption) ?_
            rotate_left 1
            · intro w hSw
              go_simp
              with_reducible rfl
            simp only [Act.put, List.setIfInBounds_toArray, List.set_cons_zero, List.set_cons_succ]
            refine wpAnyH_take (i := 1) (v := ?_) (by simp only [List.getElem?_toArray, List.getElem?_cons_zero, List.getElem?_cons_succ]; rfl) (by kernel_rfl) (by kernel_rfl) (by kernel_rfl) (fun _ _ _ h => h) (Or.inl ⟨by rfl, ?_⟩) (by assumption) ?_
            rotate_left 1
            · intro w hSw
              go_simp
              with_reducible rfl
            simp only [Act.put, List.setIfInBounds_toArray, List.set_cons_zero, List.set_cons_succ]
            refine wpAnyH_take (i := 2) (v := ?_) (by simp only [List.getElem?_toArray, List.getElem?_cons_zero, List.getElem?_cons_succ]; rfl) (by kernel_rfl) (by kernel_rfl) (by kernel_rfl) (fun _ _ _ h => h) (Or.inl ⟨by rfl, ?_⟩) (by assumption) ?_
            rotate_left 1
            · intro w hSw
              go_simp
              with_reducible rfl
            simp only [Act.put, List.setIfInBounds_toArray, List.set_cons_zero, List.set_cons_succ]
            refine' wpAnyH_take (i := 3) (v := _) (by simp only [List.getElem?_toArray, List.getElem?_cons_zero, List.getElem?_cons_succ]; rfl) (by kernel_rfl) (by kernel_rfl) (by kernel_rfl) (fun _ _ _ h => h) (yields_loadF (by rfl) (.tmp 109) rfl gg (k * 2) rfl _ (fun w hw => HLG.out w hw)) (by assumption) ?_
            simp only [Act.put, List.setIfInBounds_toArray, List.set_cons_zero, List.set_cons_succ]
            refine wpAnyH_take (i := 4) (v := ?_) (by simp only [List.getElem?_toArray, List.getElem?_cons_zero, List.getElem?_cons_succ]; rfl) (by kernel_rfl) (by kernel_rfl) (by kernel_rfl) (fun _ _ _ h => h) (Or.inl ⟨by rfl, ?_⟩) (by assumption) ?_
            rotate_left 1
            · intro w hSw
              go_simp
              with_reducible rfl
            simp only [Act.put, List.setIfInBounds_toArray, List.set_cons_zero, List.set_cons_succ]
            refine wpAnyH_take (i := 5) (v := ?_) (by simp only [List.getElem?_toArray, List.getElem?_cons_zero, List.getElem?_cons_succ]; rfl) (by kernel_rfl) (by kernel_rfl) (by kernel_rfl) (fun _ _ _ h => h) (Or.inl ⟨by rfl, ?_⟩) (by assumption) ?_
            rotate_left 1
            · intro w hSw
              go_simp
              with_reducible rfl
            simp only [Act.put, List.setIfInBounds_toArray, List.set_cons_zero, List.set_cons_succ]
            refine wpAnyH_take (i := 6) (v := ?_) (by simp only [List.getElem?_toArray, List.getElem?_cons_zero, List.getElem?_cons_succ]; rfl) (by kernel_rfl) (by kernel_rfl) (by kernel_rfl) (fun _ _ _ h => h) (Or.inl ⟨by rfl, ?_⟩) (by assumption) ?_
            rotate_left 1
            · intro w hSw
              go_simp
              with_reducible rfl
            simp only [Act.put, List.setIfInBounds_toArray, List.set_cons_zero, List.set_cons_succ]
            refine' wpAnyH_take (i := 7) (v := _) (by simp only [List.getElem?_toArray, List.getElem?_cons_zero, List.getElem?_cons_succ]; rfl) (by kernel_rfl) (by kernel_rfl) (by kernel_rfl) (fun _ _ _ h => h) (yields_loadF (by rfl) (.tmp 113) rfl gw (k * 2) rfl _ (fun w hw => HLW.out w hw)) (by assumption) ?_
            simp only [Act.put, List.setIfInBounds_toArray, List.set_cons_zero, List.set_cons_succ]
            refine' wpAnyH_take (i := 8) (v := _) (by simp only [List.getElem?_toArray, List.getElem?_cons_zero, List.getElem?_cons_succ]; rfl) (by kernel_rfl) (by kernel_rfl) (by kernel_rfl) (fun _ _ _ h => h) (yields_neqF (by rfl) (.tmp 110) (.tmp 114) rfl (b8 fk) fb rfl rfl) (by assumption) ?_
            simp only [Act.put, List.setIfInBounds_toArray, List.set_cons_zero, List.set_cons_succ]
            refine wpAnyH_done (by kernel_rfl) ?_ _
            refine NoPanic.normal ?_
            clear HLG HLW z0
            go_wp2
            go_roundw
            case rel => exact ⟨k + 1, by omega, by go_num, HF.out.kept (Below.refl _ _).drew, HBB.out.drew⟩
            case measure => simp [intOf]; omega
          · have gk : ¬ (k : Int) < (ng : Int) := by omega
            have CW := hid (works_any W0 (Nat.lt_of_lt_of_le HP2.out HBB.out.size))
            clear hk hkl HF
            go_wp2_with (fail)
            refine CW.out.mono ?_
            rintro e8 w8 ⟨rfl, hb8⟩
            have B8 : Hid (Below w.heap.size w w8) := (B2.out.trans (HBB.out.mono B2.out.size)).trans (hb8.mono (Nat.le_trans B2.out.size HBB.out.size))
            clear hb8
            go_wp2
            go_ret
            exact ⟨rfl, B8.out⟩
end Go.Proofs.Ytakgbopkkechgaa
