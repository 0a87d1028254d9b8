/- ignore: List.parse, eachLine: what each call does. Conditions: lists of at most 64 patterns, texts of at most 4000 bytes, a world in shape. -/
import Derived.Test.YtpipkgkfhbagmaaGreatDoorLD
namespace Go.Proofs.YtpipkgkfhbagmaaGreatDoor.Glob
open Go.RowKit Go.Maps
/-- A line that includes nothing. -/
def lineP (s : By) (ps : List By) : Except Int (List By) := if ps.length = 64 then .error 3 else if perr s ≠ 0 then .error (perr s) else .ok (ps ++ [s])
def lineL (rd : By → List By → Except Int (List By)) (s : By) (ps : List By) : Except Int (List By) := if pre incM s then rd (s.drop 9) ps else lineP s ps
def foldE (f : By → List By → Except Int (List By)) : List By → List By → Except Int (List By)
  | [], ps => .ok ps
  | s :: ls, ps => match f s ps with | .error e => .error e | .ok qs => foldE f ls qs
theorem stepL_fold (rd : By → List By → Except Int (List By)) : ∀ ls ps, stepL rd ls ps = foldE (lineL rd) ls ps := by
  intro ls
  induction ls with
  | nil => intro ps; rfl
  | cons s ls ih =>
    intro ps
    unfold stepL foldE lineL lineP
    split
    · cases rd (s.drop 9) ps with
      | error e => rfl
      | ok qs => exact ih qs
    · split
      · rfl
      · split
        · rfl
        · exact ih _
theorem sclone_any (s : By) (w : World) (hs : s.length ≤ 100000) : Calls Tryz.prog 35 #[.string (ba s)] w fun e w' => e = .returned (.string (ba s)) ∧ Below w.heap.size w w' := by
  have HC := hid (Tryz.stringslite_Clone (ba s) w (by rw [ba_size]; omega))
  go_enter Tryz.func35, Tryz.ntmps35
  go_wp2_with (go_at_call 61; refine HC.out.mono ?_; rintro e1 w1 ⟨rfl, hb1⟩)
  go_ret
  exact ⟨rfl, hb1⟩
theorem More.one {w : World} {g : Nat} {s : By} {p : Pt} (h : PatIs w g s p) (h1 : parseL s = some p) (h2 : perr s = 0) : More (w.alloc (.cells #[ptrV g] 58)) (.slice (some ⟨w.heap.size, 0, none⟩) 1 1) [s] := by
  have hb : Below w.heap.size w (w.alloc (.cells #[ptrV g] 58)) := (Below.refl _ _).alloc (Nat.le_refl _) _
  refine ⟨[g], _, 1, rfl, PtrTo.one (h.stays hb) h1 h2, fun e => (nomatch e), fun a ha j u hj => ?_⟩
  simp only [Option.some.injEq] at ha
  subst ha
  match j, hj with
  | 0, hj => simp at hj; subst hj; exact (Has.fresh w 58 #[ptrV g]).at_ 0
  | j + 1, hj => simp at hj
set_option maxRecDepth 100000 in
set_option maxHeartbeats 1000000 in
theorem lparse_any (B L : Nat) (ps : List By) (s : By) (w : World) (hL : ListIs B w L ps) (h1 : ps.length ≤ 64) (hs : s.length ≤ 100000) (hB : B ≤ L) :
    Calls Tryz.prog 17 #[ptrV L, .string (ba s)] w fun e w' => Out (lineP s ps) e True (fun rs => ListIs B w' L rs) ∧ (∀ D r, Fr L D r w w') ∧ (∀ (a : World), Below B a w → Below B a w') := by
  have HL := hid hL
  obtain ⟨v, hh, hp⟩ := hL
  have hBs : B ≤ w.heap.size := by have := hh.inside; omega
  have c0 := hh.at_ 0
  obtain ⟨A, cp, rfl⟩ := hp.form
  have HBS := hid hBs
  have HB := hid hB
  have H1 := hid h1
  have HCL := hid (sclone_any s w hs)
  by_cases h64 : ps.length = 64
  · have HE : Hid (lineP s ps = .error 3) := by show _ = _; unfold lineP; rw [if_pos h64]
    have g1 : (ps.length : Int) = 64 := by omega
    generalize hn : ps.length = n at *
    clear hp hh HL H1 h1 h64 hs hB hBs
    unfold ptrV
    go_enter Tryz.func17, Tryz.ntmps17
    go_wp2
    go_ret
    exact ⟨Out.err HE.out rfl (by decide) trivial, fun D r => Fr.refl _ _ _ _, fun _ h => h⟩
  · have HE : Hid (lineP s ps = if perr s ≠ 0 then .error (perr s) else .ok (ps ++ [s])) := by show _ = _; unfold lineP; rw [if_neg h64]
    have g1 : ¬ ((ps.length : Int) = 64) := by omega
    have HAD : Hid (addL ps [s] = .ok (ps ++ [s])) := by show _ = _; unfold addL; rw [if_pos (by simp; omega)]
    generalize hn : ps.length = n at g1 c0
    clear hp hh h1 h64 hs hB hBs
    unfold ptrV
    go_enter Tryz.func17, Tryz.ntmps17
    go_wp2_with (fail)
    refine HCL.out.mono ?_
    rintro e1 w1 ⟨rfl, hb1⟩
    go_wp2_with (fail)
    refine (parse_any s w1).mono ?_
    rintro e2 w2 ⟨hp2, hb2⟩
    have HB2 : Hid (Below w.heap.size w w2) := hb1.thenG hb2
    clear hb1 hb2
    rcases parse_cases hp2 with ⟨c, hc, hpe, rfl⟩ | ⟨p, g, hl, hpl, hpe, rfl, hpat⟩
    · have hc0 : (c == 0) = false := by simp [hc]
      have HPE := hid hpe
      have HC := hid hc
      have HGE : Hid (lineP s ps = .error c) := by show _ = _; rw [HE.out, if_pos (by rw [hpe]; exact hc), hpe]
      clear hp2 hpe hc
      go_wp2
      go_ret
      exact ⟨Out.err HGE.out rfl HC.out trivial, fun D r => Fr.of_below HB2.out, fun a ha => ha.trans (HB2.out.mono HBS.out)⟩
    · have HPE := hid hpe
      have HGE : Hid (lineP s ps = .ok (ps ++ [s])) := by show _ = _; rw [HE.out, if_neg (by rw [hpe]; decide)]
      have HM := hid (More.one hpat hpl hpe)
      have HL3 : Hid (ListIs B (w2.alloc (.cells #[ptrV g] 58)) L ps) := HL.out.below (HB2.out.alloc HB2.out.size _)
      have HB3 : Hid (Below w.heap.size w (w2.alloc (.cells #[ptrV g] 58))) := HB2.out.alloc HB2.out.size _
      have HCA := hid (add_any B L ps [s] _ _ HL3.out HM.out H1.out (by simp) HB.out)
      rw [HAD.out] at HCA
      unfold ptrV at HCA HB3 HM HL3
      clear hp2 hpe hl hpl hpat
      go_wp2_with (fail)
      refine HCA.out.mono ?_
      intro e3 w3 h3
      obtain ⟨rfl, hl3, hf3, hbb3⟩ := h3.of_ok
      clear h3
      have HLL := hid hl3
      have HF := hid hf3
      have HBB := hid hbb3
      clear hl3 hf3 hbb3
      go_wp2
      go_ret
      exact ⟨Out.ok HGE.out rfl HLL.out, fun D r => (Fr.of_below HB3.out).tr (HF.out D r), fun a ha => HBB.out a (ha.trans (HB3.out.mono HBS.out))⟩
theorem idle_no {u : By} (h : idle u = false) : ∃ x u', u = x :: u' ∧ pre [47, 47] u = false := by
  unfold idle at h
  cases u with
  | nil => simp at h
  | cons x u' => exact ⟨x, u', rfl, by simpa using h⟩
theorem idle_yes {u : By} (h : idle u = true) : u = [] ∨ ∃ x u', u = x :: u' ∧ pre [47, 47] u = true := by
  cases u with
  | nil => exact .inl rfl
  | cons x u' => exact .inr ⟨x, u', rfl, by unfold idle at h; simpa using h⟩
set_option maxRecDepth 100000 in
set_option maxHeartbeats 2000000 in
theorem lines_any (text : By) (k : Nat) (lb : Array Value) (ek : ∀ (args : Array Value) (w : World), (callFunc k args).run Tryz.prog w = .ok (.enter k args) w) (I : List By → World → Prop) (E : World → Prop) (stp : By → List By → Except Int (List By))
    (hI : ∀ ps W W', I ps W → Below W.heap.size W W' → I ps W') (hG : ∀ ps W, I ps W → Gd W)
    (hst : ∀ ps W s, s ∈ linesL text → I ps W → Calls Tryz.prog k (#[.string (ba s)] ++ lb) W fun e W' => Out (stp s ps) e (E W') (fun qs => I qs W'))
    (ps : List By) (w : World) (h0 : I ps w) (hl : text.length ≤ 100000) :
    Calls Tryz.prog 14 #[.string (ba text), .func (.func k) #[] lb] w fun e W => Out (foldE stp (linesL text) ps) e (E W) (fun qs => I qs W) := by
  have HI := hid hI; have HG := hid hG; have HST := hid hst; have H0 := hid h0
  clear hI hG hst h0
  obtain ⟨goal, HC⟩ : ∃ g, Hid (foldE stp (linesL text) ps = g) := ⟨_, rfl⟩
  rw [HC.out]
  go_enter Tryz.func14, Tryz.ntmps14
  go_wp2
  go_loopw [0, 5] (fun s0 m wr => ∃ (t : By) (g : Bool) (qs : List By), s0 = .string (ba t) ∧ m = .bool g ∧ t.length ≤ 100000 ∧ Hid (goal = if g then foldE stp (linesL t) qs else .ok qs) ∧ Hid (I qs wr) ∧ Hid (g = true → ∀ s ∈ linesL t, s ∈ linesL text))
    (fun s0 m _ => match s0, m with | .string x, .bool true => x.size + 1 | _, _ => 0)
  case atStart => exact ⟨text, true, ps, rfl, rfl, hl, HC.out.symm, H0, fun _ _ h => h⟩
  case round =>
    obtain ⟨t, g, qs, rfl, rfl, ht, HE, HW, HM⟩ := hrel
    cases g with
    | false =>
      go_wp2
      go_ret
      exact Out.ok HE.out rfl HW.out
    | true =>
      obtain ⟨p, q, m, HCU⟩ : ∃ p q m, Hid (cutN t = (p, q, m)) := ⟨_, _, _, rfl⟩
      have hp : p.length ≤ 100000 := by have := (cutYtpipkgkfhbagmaaGreatDoorlen t).2.1; rw [HCU.out] at this; simp only at this; omega
      have hq : q.length ≤ 100000 := by have := (cutYtpipkgkfhbagmaaGreatDoorlen t).1; rw [HCU.out] at this; simp only at this; omega
      have HQ : Hid (m = true → q.length < t.length) := by intro hm; have := (cutYtpipkgkfhbagmaaGreatDoorlen t).2.2; rw [HCU.out] at this; exact this hm
      have HLN : Hid (linesL t = (if idle (trimB p) then [] else [trimB p]) ++ (if m then linesL q else [])) := by show _ = _; rw [linesL_cut, HCU.out]
      have HNL := hid (nl_any t p q m HCU wr (HG.out _ _ HW.out) ht)
      have HTR := hid (fun W => trim_any p W hp)
      have HZT := hid (ba_size t)
      have HZQ := hid (ba_size q)
      have HQL := hid hq
      generalize trimB p = u at HLN HTR
      cases hid0 : idle u with
      | true =>
        rw [hid0] at HLN
        have HE2 : Hid (goal = if m then foldE stp (linesL q) qs else .ok qs) := by
          show _ = _; rw [HE.out, if_pos rfl, HLN.out]; cases m <;> rfl
        have HM2 : Hid (m = true → ∀ s ∈ linesL q, s ∈ linesL text) := fun hm s hs => HM.out rfl s (by rw [HLN.out, hm]; simpa using hs)
        rcases idle_yes hid0 with rfl | ⟨x, u', rfl, hpre⟩
        · have zt : (ba ([] : By)).toList = [] := toList_ba _
          generalize ba ([] : By) = X at zt HTR
          clear hid0 hp hq
          go_wp2_with (first
            | (go_at_call 30; refine HNL.out.mono ?_; rintro e1 w1 ⟨rfl, nd, rfl⟩)
            | (go_at_call 31; refine (HTR.out _).mono ?_; rintro e2 w2 ⟨rfl, hb2⟩
               have HW2 : Hid (I qs w2) := HI.out _ _ _ HW.out (((Below.refl _ _).drewG nd).thenG hb2)
               clear hb2))
          go_roundw
          case rel => exact ⟨q, m, qs, rfl, rfl, HQL.out, HE2, HW2, HM2⟩
          case measure =>
            cases m with
            | false => simp
            | true => simp only; rw [HZQ.out, HZT.out]; have := HQ.out rfl; omega
        · have HPR := hid (fun W => pre_any (x :: u') [47, 47] W)
          rw [hpre] at HPR
          have zt : (ba (x :: u')).toList = x :: u' := toList_ba _
          generalize ba (x :: u') = X at zt HTR HPR
          clear hid0 hp hq hpre
          go_wp2_with (first
            | (go_at_call 30; refine HNL.out.mono ?_; rintro e1 w1 ⟨rfl, nd, rfl⟩)
            | (go_at_call 31; refine (HTR.out _).mono ?_; rintro e2 w2 ⟨rfl, hb2⟩
               have HW2 : Hid (I qs w2) := HI.out _ _ _ HW.out (((Below.refl _ _).drewG nd).thenG hb2)
               clear hb2)
            | (go_at_call 32; refine (HPR.out _).mono ?_; rintro e3 w3 ⟨rfl, rfl⟩))
          go_roundw
          case rel => exact ⟨q, m, qs, rfl, rfl, HQL.out, HE2, HW2, HM2⟩
          case measure =>
            cases m with
            | false => simp
            | true => simp only; rw [HZQ.out, HZT.out]; have := HQ.out rfl; omega
      | false =>
        obtain ⟨x, u', hu, hpre⟩ := idle_no hid0
        rw [hid0] at HLN
        have HIN : Hid (u ∈ linesL text) := HM.out rfl u (by rw [HLN.out]; simp)
        have HT : Hid (∀ W, I qs W → Calls Tryz.prog k (#[.string (ba u)] ++ lb) W fun e W' => Out (stp u qs) e (E W') (fun rs => I rs W')) := fun W h => HST.out qs W u HIN.out h
        have HPR := hid (fun W => pre_any u [47, 47] W)
        rw [hpre] at HPR
        have zt : (ba u).toList = x :: u' := by rw [toList_ba, hu]
        cases hsp : stp u qs with
        | error c =>
          have HE2 : Hid (goal = .error c) := by
            show _ = _; rw [HE.out, if_pos rfl, HLN.out]; show foldE stp ([u] ++ _) qs = _
            rw [List.singleton_append, foldE, hsp]
          rw [hsp] at HT
          generalize ba u = X at zt HTR HPR HT
          clear hid0 hp hq hpre hsp hu
          go_wp2_with (first
            | (go_at_call 30; refine HNL.out.mono ?_; rintro e1 w1 ⟨rfl, nd, rfl⟩)
            | (go_at_call 31; refine (HTR.out _).mono ?_; rintro e2 w2 ⟨rfl, hb2⟩
               have HW2 : Hid (I qs w2) := HI.out _ _ _ HW.out (((Below.refl _ _).drewG nd).thenG hb2)
               clear hb2)
            | (go_at_call 32; refine (HPR.out _).mono ?_; rintro e3 w3 ⟨rfl, rfl⟩)
            | (go_at_fn k; refine (HT.out _ HW2.out).mono ?_; intro e4 w4 h4; obtain ⟨rfl, hc4, he4⟩ := h4.of_err; clear h4
               have hcz : (c == 0) = false := by simp [hc4]
               have HC4 := hid hc4
               have HE4 := hid he4
               clear hc4 he4))
          go_ret
          exact Out.err HE2.out rfl HC4.out HE4.out
        | ok rs =>
          have HE2 : Hid (goal = if m then foldE stp (linesL q) rs else .ok rs) := by
            show _ = _; rw [HE.out, if_pos rfl, HLN.out]; show foldE stp ([u] ++ _) qs = _
            rw [List.singleton_append, foldE, hsp]; cases m <;> rfl
          have HM2 : Hid (m = true → ∀ s ∈ linesL q, s ∈ linesL text) := fun hm s hs => HM.out rfl s (by rw [HLN.out, hm]; simp [hs])
          rw [hsp] at HT
          generalize ba u = X at zt HTR HPR HT
          clear hid0 hp hq hpre hsp hu
          go_wp2_with (first
            | (go_at_call 30; refine HNL.out.mono ?_; rintro e1 w1 ⟨rfl, nd, rfl⟩)
            | (go_at_call 31; refine (HTR.out _).mono ?_; rintro e2 w2 ⟨rfl, hb2⟩
               have HW2 : Hid (I qs w2) := HI.out _ _ _ HW.out (((Below.refl _ _).drewG nd).thenG hb2)
               clear hb2)
            | (go_at_call 32; refine (HPR.out _).mono ?_; rintro e3 w3 ⟨rfl, rfl⟩)
            | (go_at_fn k; refine (HT.out _ HW2.out).mono ?_; intro e4 w4 h4; obtain ⟨rfl, he4⟩ := h4.of_ok; clear h4
               have HE4 := hid he4
               clear he4))
          go_roundw
          case rel => exact ⟨q, m, rs, rfl, rfl, HQL.out, HE2, HE4, HM2⟩
          case measure =>
            cases m with
            | false => simp
            | true => simp only; rw [HZQ.out, HZT.out]; have := HQ.out rfl; omega
end Go.Proofs.YtpipkgkfhbagmaaGreatDoor.Glob
