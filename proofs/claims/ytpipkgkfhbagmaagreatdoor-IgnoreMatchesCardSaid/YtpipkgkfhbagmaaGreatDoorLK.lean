/- ignore: List.Len, Match, Lines: what each call does. Conditions: a list that Parse made, or nil; paths of at most 4000 bytes; a world in shape. -/
import Derived.Test.YtpipkgkfhbagmaaGreatDoorLJ
namespace Go.Proofs.YtpipkgkfhbagmaaGreatDoor.Glob
open Go.RowKit Go.Maps
theorem len_any (B L : Nat) (ps : List By) (w : World) (h : ListIs B w L ps) : Calls Tryz.prog 28 #[ptrV L] w fun e w' => e = .returned (.int .i64 (ps.length : Int)) ∧ w = w' := by
  obtain ⟨v, h1, h2⟩ := h
  obtain ⟨A, c, rfl⟩ := h2.form
  have c0 := h1.at_ 0
  generalize ps.length = n at *
  unfold ptrV
  clear h1 h2
  go_enter Tryz.func28, Tryz.ntmps28
  go_wp2
  go_ret
  exact ⟨rfl, rfl⟩
theorem len_nil (w : World) : Calls Tryz.prog 28 #[.pointer none] w fun e w' => e = .returned (.int .i64 0) ∧ w = w' := by
  go_enter Tryz.func28, Tryz.ntmps28
  go_wp2
  go_ret
  exact ⟨rfl, rfl⟩
/-- Does a pattern's text match a path? -/
def ofM (s path : By) : Bool := match parseL s with | none => false | some p => mB p.rooted p.hs path
def negM (s : By) : Bool := match parseL s with | none => false | some p => p.m &&& 1 != 0
def delM (s : By) : Bool := match parseL s with | none => false | some p => p.m &&& 4 != 0
/-- The first pattern that matches. -/
def hitL (path : By) (ps : List By) : Option By := ps.find? fun s => ofM s path
/-- What Match answers. -/
def matL (ps : List By) (path : By) : Bool × Bool :=
  if mayB path then match hitL path ps with | none => (false, false) | some s => if negM s then (false, false) else (true, delM s) else (false, false)
theorem Pats.at_ {B : Nat} {w : World} {v : Value} {ps : List By} (h : Pats B w v ps) (h0 : 0 < ps.length) : ∃ g c, v = .slice (some ⟨g, 0, none⟩) ps.length c ∧ g < w.heap.size ∧ ∀ k (hk : k < ps.length), ∃ pg p, w.cell? ⟨g, k, none⟩ = some (ptrV pg) ∧ PatIs w pg ps[k] p ∧ parseL ps[k] = some p := by
  obtain ⟨gs, ho, hl, hp⟩ := h
  obtain ⟨g, c, h1, _, h3, _, h5⟩ := own_cells ho h0
  refine ⟨g, c, h1, h3, fun k hk => ?_⟩
  have hg : gs[k]? = some gs[k] := List.getElem?_eq_getElem (by omega)
  obtain ⟨p, a1, a2, _⟩ := hp k gs[k] ps[k] hg (List.getElem?_eq_getElem hk)
  exact ⟨gs[k], p, h5 k _ (by rw [List.getElem?_map, hg]; rfl), a1, a2⟩
theorem find_at {ps : List By} {path : By} {k : Nat} (hk : k < ps.length) (h1 : (ps.take k).any (fun s => ofM s path) = false) (h2 : ofM ps[k] path = true) : hitL path ps = some ps[k] := by
  obtain ⟨s, hs⟩ : ∃ s, ps[k] = s := ⟨_, rfl⟩
  rw [hs] at h2 ⊢
  have e : ps.take k ++ s :: ps.drop (k + 1) = ps := by rw [← hs, List.getElem_cons_drop, List.take_append_drop]
  have e2 : hitL path ps = (ps.take k ++ s :: ps.drop (k + 1)).find? fun s => ofM s path := by rw [e]; rfl
  rw [e2, List.find?_append]
  rw [List.find?_eq_none.2 (fun x hx hm => by rw [List.any_eq_false] at h1; exact h1 x hx hm)]
  simp [h2]
theorem find_not {ps : List By} {path : By} (h1 : ps.any (fun s => ofM s path) = false) : hitL path ps = none := by
  unfold hitL
  exact List.find?_eq_none.2 (fun x hx hm => by rw [List.any_eq_false] at h1; exact h1 x hx hm)
theorem matchC_any (g pb : Nat) (s path : By) (p : Pt) (w : World) (hp : PatIs w g s p) (hl : parseL s = some p) (hb : Has w pb 9 #[.string (ba path)]) :
    Calls Tryz.prog 21 #[ptrV g, .pointer (some ⟨pb, 0, none⟩)] w fun e w' => e = .returned (.bool (ofM s path)) ∧ Below w.heap.size w w' := by
  have HM := hid (match_any g s p path w hp)
  have ho : ofM s path = mB p.rooted p.hs path := by unfold ofM; rw [hl]
  rw [← ho] at HM
  have c0 := hb.at_ 0
  generalize ofM s path = b at HM
  unfold ptrV
  clear hp hl ho hb
  go_enter Tryz.func21, Tryz.ntmps21
  go_wp2_with (go_at_call 22; refine HM.out.mono ?_; rintro e1 w1 ⟨rfl, hb1⟩)
  go_ret
  exact ⟨rfl, hb1⟩
set_option maxRecDepth 100000 in
set_option maxHeartbeats 1000000 in
theorem index_any (B : Nat) (v : Value) (ps : List By) (path : By) (pb : Nat) (w : World) (h : Pats B w v ps) (hb : Has w pb 9 #[.string (ba path)]) (hn : ps.length ≤ 64) :
    Calls Tryz.prog 20 #[v, .func (.func 21) #[] #[.pointer (some ⟨pb, 0, none⟩)]] w fun e w' => (∃ z : Int, e = .returned (.int .i64 z) ∧ ((z = -1 ∧ hitL path ps = none) ∨ ∃ (k : Nat) (s : By), ps[k]? = some s ∧ z = (k : Int) ∧ hitL path ps = some s)) ∧ Below w.heap.size w w' := by
  by_cases h0 : ps.length = 0
  · obtain rfl := List.length_eq_zero_iff.1 h0
    obtain ⟨A, c, rfl⟩ := h.form
    clear h hb
    go_enter Tryz.func20, Tryz.ntmps20
    go_wp2
    refine wp_loop_rounds 1 ?_
    rw [rounds_succ]
    go_wp2
    go_ret
    exact ⟨⟨-1, rfl, .inl ⟨rfl, rfl⟩⟩, Below.refl _ _⟩
  · obtain ⟨g, cap, rfl, hg, hcell⟩ := h.at_ (by omega)
    have HC := hid hcell
    have HBX := hid hb
    obtain ⟨n, hnp⟩ : ∃ n, ps.length = n := ⟨_, rfl⟩
    have HNP := hid hnp
    rw [hnp] at hn
    rw [hnp]
    clear h hb hcell h0 hnp
    go_enter Tryz.func20, Tryz.ntmps20
    go_wp2
    go_loopw [5, 8] (fun _ i wr => ∃ k : Nat, i = .int .i64 (k : Int) ∧ k ≤ n ∧ Hid ((ps.take k).any (fun s => ofM s path) = false) ∧ Hid (Below w.heap.size w wr))
      (fun _ i _ => n - (intOf i).toNat)
    case atStart => exact ⟨0, rfl, Nat.zero_le _, rfl, Below.refl _ _⟩
    case round =>
      obtain ⟨k, rfl, hk, HT, HB⟩ := hrel
      by_cases hlt : k < n
      · have hlt2 : k < ps.length := by rw [HNP.out]; exact hlt
        obtain ⟨pg, p, hc0, hpat, hpl⟩ := HC.out k hlt2
        have c0 := (HB.out.cell (p := ⟨g, k, none⟩) hg).trans hc0
        have CP := hid (matchC_any pg pb ps[k] path p wr (hpat.stays HB.out) hpl (HBX.out.stays HB.out))
        have HN := hid (any_take_succ ps (fun s => ofM s path) k hlt2)
        unfold ptrV at c0 CP
        cases hbv : ofM ps[k] path with
        | true =>
          have HA : Hid (hitL path ps = some ps[k]) := find_at hlt2 HT.out hbv
          rw [hbv] at CP
          clear hbv hpat hpl hc0
          go_wp2_with (go_at_call 21; refine CP.out.mono ?_; rintro e1 w1 ⟨rfl, hb1⟩)
          go_ret
          exact ⟨⟨(k : Int), rfl, .inr ⟨k, _, List.getElem?_eq_getElem hlt2, rfl, HA.out⟩⟩, HB.out.thenG hb1⟩
        | false =>
          have HN2 : Hid ((ps.take (k + 1)).any (fun s => ofM s path) = false) := by show _ = _; rw [HN.out, HT.out, hbv]; rfl
          rw [hbv] at CP
          clear hbv HN hpat hpl hc0
          go_wp2_with (go_at_call 21; refine CP.out.mono ?_; rintro e1 w1 ⟨rfl, hb1⟩)
          exact ⟨⟨k + 1, by go_num, by omega, HN2.out, HB.out.thenG hb1⟩, by simp [intOf]; omega⟩
      · have HK : Hid (k = ps.length) := by show _ = _; rw [HNP.out]; omega
        go_wp2
        go_ret
        refine ⟨⟨-1, rfl, .inl ⟨rfl, ?_⟩⟩, HB.out⟩
        have := HT.out
        rw [HK.out, List.take_length] at this
        exact find_not this
theorem match_nil (path : By) (w : World) : Calls Tryz.prog 7 #[.pointer none, .string (ba path)] w fun e w' => e = .returned (.tuple #[.bool false, .bool false]) ∧ Below w.heap.size w w' := by
  go_enter Tryz.func7, Tryz.ntmps7
  go_wp2
  go_ret2
  exact ⟨rfl, (Below.refl _ _).alloc (Nat.le_refl _) _⟩
set_option maxRecDepth 100000 in
set_option maxHeartbeats 2000000 in
theorem imatch_any (B L : Nat) (ps : List By) (path : By) (w : World) (hG : Gd w) (h : ListIs B w L ps) (hn : ps.length ≤ 64) (hp : path.length ≤ 4000) :
    Calls Tryz.prog 7 #[ptrV L, .string (ba path)] w fun e w' => e = .returned (.tuple #[.bool (matL ps path).1, .bool (matL ps path).2]) ∧ Below w.heap.size w w' := by
  obtain ⟨W0, hW0⟩ : ∃ W0, w.alloc (.cells #[.string (ba path)] 9) = W0 := ⟨_, rfl⟩
  have b0 : Below w.heap.size w W0 := hW0 ▸ (Below.refl _ _).alloc (Nat.le_refl _) _
  have p0 : Has W0 w.heap.size 9 #[.string (ba path)] := hW0 ▸ Has.fresh _ _ _
  have HMAY := hid (may_any (ba path) W0 (hG.kept b0) (by rw [ba_size]; exact hp))
  have HB0 := hid b0
  have HP0 := hid p0
  have HL := hid (h.below b0)
  have HNL := hid hn
  have cp0 := p0.at_ 0
  cases hm : mayB path with
  | false =>
    have HR : Hid (matL ps path = (false, false)) := by show _ = _; unfold matL; rw [if_neg (by rw [hm]; decide)]
    have hmm : mayB (tl (ba path)) = false := hm
    rw [hmm] at HMAY
    rw [HR.out]
    unfold ptrV
    clear h hG hn hp b0 p0 hm hmm
    go_enter Tryz.func7, Tryz.ntmps7
    go_wp2_with (go_at_call 19; refine HMAY.out.mono ?_; rintro e1 w1 ⟨rfl, hb1⟩)
    go_ret2
    exact ⟨rfl, HB0.out.thenG hb1⟩
  | true =>
    have HR : Hid (matL ps path = match hitL path ps with | none => (false, false) | some s => if negM s then (false, false) else (true, delM s)) := by show _ = _; unfold matL; rw [if_pos hm]
    have hmm : mayB (tl (ba path)) = true := hm
    rw [hmm] at HMAY
    obtain ⟨r, HRR⟩ : ∃ r, Hid (matL ps path = r) := ⟨_, rfl⟩
    rw [HRR.out]
    rw [HRR.out] at HR
    unfold ptrV
    clear h hG hn hp b0 hm hmm
    go_enter Tryz.func7, Tryz.ntmps7
    go_wp2_with (fail)
    refine HMAY.out.mono ?_
    rintro e1 w1 ⟨rfl, hb1⟩
    have HB1 := hid hb1
    have HL1 := hid (HL.out.below hb1)
    obtain ⟨v, hLh, hLp⟩ := HL1.out
    obtain ⟨A, c, hv⟩ := hLp.form
    obtain ⟨n, hnp⟩ : ∃ n, ps.length = n := ⟨_, rfl⟩
    rw [hnp] at hv
    subst hv
    have HNP := hid hnp
    have HIX := hid (index_any B (.slice A n c) ps path w.heap.size w1 hLp (HP0.out.stays hb1) HNL.out)
    have HLH := hid hLh
    have HLP := hid hLp
    have cL := hLh.at_ 0
    clear hb1 hLp hLh hnp
    go_wp2_with (fail)
    refine HIX.out.mono ?_
    rintro e2 w2 ⟨⟨z, rfl, hz⟩, hb2⟩
    have HB2 := hid hb2
    have cL2 := (HLH.out.stays hb2).at_ 0
    rcases hz with ⟨rfl, hz⟩ | ⟨k, s, hks, rfl, hz⟩
    · have HR2 : Hid (r = (false, false)) := by show _ = _; rw [HR.out, hz]
      clear hb2 hz
      go_wp2
      go_ret2
      refine ⟨by rw [HR2.out]; rfl, (HB0.out.thenG HB1.out).thenG HB2.out⟩
    · obtain ⟨hk, hks⟩ := List.getElem?_eq_some_iff.1 hks
      obtain ⟨g, cap, hge, hg, hcell⟩ := HLP.out.at_ (by omega)
      rw [HNP.out] at hge
      simp only [Value.slice.injEq, true_and] at hge
      obtain ⟨rfl, rfl⟩ := hge
      obtain ⟨pg, p, hc0, hpat, hpl⟩ := hcell k hk
      rw [hks] at hpat hpl
      have c0 := (hb2.cell (p := ⟨g, k, none⟩) hg).trans hc0
      have HNEG := hid (Negated_yes (hpat.stays hb2))
      have HDEL := hid (Deletable_yes (hpat.stays hb2))
      have hne : (p.m &&& 1 != 0) = negM s := by unfold negM; rw [hpl]
      have hde : (p.m &&& 4 != 0) = delM s := by unfold delM; rw [hpl]
      rw [hne] at HNEG
      rw [hde] at HDEL
      have hkn : (k : Int) < (n : Int) := by have := HNP.out; omega
      rw [hz] at HR
      unfold ptrV at c0
      cases hng : negM s with
      | true =>
        rw [hng] at HNEG
        have HR2 : Hid (r = (false, false)) := by show _ = _; rw [HR.out]; simp only; rw [if_pos hng]
        clear hb2 hz hcell hc0 hpat hpl hne hde hng hks hk
        go_wp2_with (go_at_call 23; refine HNEG.out.mono ?_; rintro e3 w3 ⟨rfl, rfl⟩)
        go_ret2
        refine ⟨by rw [HR2.out]; rfl, (HB0.out.thenG HB1.out).thenG HB2.out⟩
      | false =>
        rw [hng] at HNEG
        have HR2 : Hid (r = (true, delM s)) := by show _ = _; rw [HR.out]; simp only; rw [if_neg (by rw [hng]; decide)]
        generalize delM s = dl at HDEL HR2
        clear hb2 hz hcell hc0 hpat hpl hne hde hng hks hk
        go_wp2_with (first
          | (go_at_call 23; refine HNEG.out.mono ?_; rintro e3 w3 ⟨rfl, rfl⟩)
          | (go_at_call 24; refine HDEL.out.mono ?_; rintro e3 w3 ⟨rfl, rfl⟩))
        go_ret2
        refine ⟨by rw [HR2.out]; rfl, (HB0.out.thenG HB1.out).thenG HB2.out⟩
end Go.Proofs.YtpipkgkfhbagmaaGreatDoor.Glob
