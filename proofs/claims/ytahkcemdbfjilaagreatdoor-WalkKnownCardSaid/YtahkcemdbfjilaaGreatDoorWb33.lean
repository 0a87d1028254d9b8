/- Several texts in one. Conditions: those said at each. -/
import Derived.Test.YtahkcemdbfjilaaGreatDoorWb32
import Derived.Test.YtahkcemdbfjilaaGreatDoorWb20
set_option linter.unusedSimpArgs false
set_option linter.unusedVariables false
set_option maxRecDepth 100000
namespace Go.Proofs.YtahkcemdbfjilaaGreatDoor.Glob
open Go.RowKit Go.Maps
def ParseOut (B : Nat) (fs : Fl) (name : By) (e : Ending) (W : World) : Prop :=
 match readL fs 4 [] name [] with
 | .error c => e = .returned (.tuple #[.pointer none, .int .i64 c]) ∧ c ≠ 0
 | .ok qs => ∃ L, e = .returned (.tuple #[ptrV L, .int .i64 0]) ∧ B ≤ L ∧ ListIs B W L qs ∧ qs.length ≤ 64
def bx (w w1 : World) (pm : Nat) (fv : Value) : Bx := ⟨w1.heap.size, w1.heap.size + 1 + 1, w1.heap.size + 1 + 1 + 1 + 1, w.heap.size, w1.heap.size + 1 + 1 + 1 + 1 + 1, w1.heap.size + 1 + 1 + 1, w1.heap.size + 1, pm, w.heap.size, fv⟩
theorem env_made {w W0 w1 : World} {pm c : Nat} {fv : Value} {fs : Fl} (b0 : Below w.heap.size w W0) (_s0 : W0.heap.size = w.heap.size + 1) (f0 : Has W0 w.heap.size 23 #[fv]) (hb1 : Below W0.heap.size W0 w1) (hf : FilesIs w1 fv fs) (hm : MapZ w1 (.int .i64 0) pm c (plF fs 0)) :
 ∀ W, W = ((((((w1.alloc (Obj.cells #[Value.map (some pm)] 101)).alloc (Obj.map #[] 0)).alloc (Obj.cells #[Value.map (some (w1.heap.size + 1))] 103)).alloc (Obj.cells #[Value.slice none 0 0] 106)).alloc (Obj.cells #[ptrV (w1.heap.size + 1 + 1 + 1)] 30)).alloc (Obj.cells #[readV (bx w w1 pm fv)] 107)) →
 Env (bx w w1 pm fv) fs W ∧ St (bx w w1 pm fv) fs [] W ∧ Below w.heap.size w W := by
 intro W hW
 have B1 : Below w.heap.size w w1 := b0.thenG hb1
 have f1 : Has w1 w.heap.size 23 #[fv] := f0.stays hb1
 obtain ⟨Wa, ha⟩ : ∃ Wa, w1.alloc (Obj.cells #[Value.map (some pm)] 101) = Wa := ⟨_, rfl⟩
 obtain ⟨Wb, hb⟩ : ∃ Wb, Wa.alloc (Obj.map #[] 0) = Wb := ⟨_, rfl⟩
 obtain ⟨Wc, hc⟩ : ∃ Wc, Wb.alloc (Obj.cells #[Value.map (some (w1.heap.size + 1))] 103) = Wc := ⟨_, rfl⟩
 obtain ⟨Wd, hd⟩ : ∃ Wd, Wc.alloc (Obj.cells #[Value.slice none 0 0] 106) = Wd := ⟨_, rfl⟩
 obtain ⟨We, he⟩ : ∃ We, Wd.alloc (Obj.cells #[ptrV (w1.heap.size + 1 + 1 + 1)] 30) = We := ⟨_, rfl⟩
 rw [ha, hb, hc, hd, he] at hW
 have sa : Wa.heap.size = w1.heap.size + 1 := by rw [← ha]; simp
 have sb : Wb.heap.size = w1.heap.size + 1 + 1 := by rw [← hb]; simp [sa]
 have sc : Wc.heap.size = w1.heap.size + 1 + 1 + 1 := by rw [← hc]; simp [sb]
 have sd : Wd.heap.size = w1.heap.size + 1 + 1 + 1 + 1 := by rw [← hd]; simp [sc]
 have se : We.heap.size = w1.heap.size + 1 + 1 + 1 + 1 + 1 := by rw [← he]; simp [sd]
 have ba : Below w1.heap.size w1 Wa := ha ▸ (Below.refl _ _).alloc (Nat.le_refl _) _
 have bb : Below Wa.heap.size Wa Wb := hb ▸ (Below.refl _ _).alloc (Nat.le_refl _) _
 have bc : Below Wb.heap.size Wb Wc := hc ▸ (Below.refl _ _).alloc (Nat.le_refl _) _
 have bd : Below Wc.heap.size Wc Wd := hd ▸ (Below.refl _ _).alloc (Nat.le_refl _) _
 have be : Below Wd.heap.size Wd We := he ▸ (Below.refl _ _).alloc (Nat.le_refl _) _
 have bf : Below We.heap.size We W := hW ▸ (Below.refl _ _).alloc (Nat.le_refl _) _
 have be2 := be.thenG bf
 have bd2 := bd.thenG be2
 have bc2 := bc.thenG bd2
 have bb2 := bb.thenG bc2
 have ba2 := ba.thenG bb2
 have h1 : Has W w1.heap.size 101 #[.map (some pm)] := (ha ▸ Has.fresh w1 101 _ : Has Wa w1.heap.size 101 _).stays bb2
 have h2 : MapZ W zR (w1.heap.size + 1) 0 (fun _ => none) := by
  have := MapZ.made Wa zR
  rw [hb, sa] at this
  exact this.kept (bc2.block _ this.inside)
 have h3 : Has W (w1.heap.size + 1 + 1) 103 #[.map (some (w1.heap.size + 1))] := (hc ▸ Has.fresh' Wb 103 _ sb.symm : Has Wc (w1.heap.size + 1 + 1) 103 _).stays bd2
 have h4 : Has W (w1.heap.size + 1 + 1 + 1) 106 #[.slice none 0 0] := (hd ▸ Has.fresh' Wc 106 _ sc.symm : Has Wd (w1.heap.size + 1 + 1 + 1) 106 _).stays be2
 have h5 : Has W (w1.heap.size + 1 + 1 + 1 + 1) 30 #[ptrV (w1.heap.size + 1 + 1 + 1)] := (he ▸ Has.fresh' Wd 30 _ sd.symm : Has We (w1.heap.size + 1 + 1 + 1 + 1) 30 _).stays bf
 have h6 : Has W (w1.heap.size + 1 + 1 + 1 + 1 + 1) 107 #[readV (bx w w1 pm fv)] := hW ▸ Has.fresh' We 107 _ se.symm
 have hpm := hm.inside
 have hsz := B1.size
 refine ⟨⟨h1, h3, h5, f1.stays ba2, h6, ⟨c, hm.kept (ba2.block _ hm.inside)⟩, ?_, ?_⟩, ⟨⟨_, h4, Pats.nil _ _⟩, ⟨0, _, h2, Done.none _ _⟩, ?_⟩, B1.thenG ba2⟩
 · show pm ≠ w1.heap.size + 1; omega
 · show w.heap.size ≤ w1.heap.size + 1; omega
 · show w.heap.size ≤ w1.heap.size + 1 + 1 + 1; omega
set_option maxHeartbeats 4000000 in
theorem iparse_any (fs : Fl) (name : By) (v : Value) (w : World) (hgd : Gd w) (hf : FilesIs w v fs) (hfl : fs.length ≤ 1000) (hn : ∀ i (hi : i < fs.length), fs[i].1.length ≤ 100000) (htx : ∀ i (hi : i < fs.length), fs[i].2.length ≤ 100000) (hnm : name.length ≤ 1000000000000000) :
 Calls Tryz.prog 11 #[v, .string (ba name)] w fun e W => ParseOut w.heap.size fs name e W ∧ Below w.heap.size w W := by
 have hmm := @run_makeMap Tryz.prog
 have hmf : ∀ (fn : Fn) (first cap : Array Value) (w : World), (Instr.makeFunc fn first cap).run Tryz.prog w = .ok (.func fn first cap) w := fun _ _ _ _ => rfl
 obtain ⟨W0, hW0⟩ : ∃ W0, w.alloc (.cells #[v] 23) = W0 := ⟨_, rfl⟩
 have b0 : Below w.heap.size w W0 := hW0 ▸ (Below.refl _ _).alloc (Nat.le_refl _) _
 have f0 : Has W0 w.heap.size 23 #[v] := hW0 ▸ Has.fresh _ _ _
 have s0 : W0.heap.size = w.heap.size + 1 := by rw [← hW0]; simp
 have HPL := hid (places_any v fs W0 (hf.stays b0) hfl hn)
 have HF := hid (hf.stays b0)
 have HB0 := hid b0
 have HF0 := hid f0
 have HGD := hid hgd
 have HRD := hid (fun x (hv : x.fv = v) (h : x.B = w.heap.size) => read_ok x fs w hgd (by rw [hv]; exact hf) h hfl htx 4)
 have HNM := hid hnm
 obtain ⟨A, cp, hv⟩ := hf.form
 obtain ⟨nf, hnf⟩ : ∃ nf, fs.length = nf := ⟨_, rfl⟩
 rw [hnf] at hv
 subst hv
 have cf0 := f0.at_ 0
 clear hf hn htx hfl hgd hnm f0 b0
 go_enter Tryz.func11, Tryz.ntmps11
 go_wp2_with (fail)
 refine HPL.out.mono ?_
 rintro e1 w1 ⟨⟨pm, c, rfl, hpm, hm⟩, hb1⟩
 have HM1 := hid hm
 have HB1 := hid hb1
 have HPM := hid hpm
 clear hm hb1 hpm
 obtain ⟨W6, hW6⟩ : ∃ W, W = ((((((w1.alloc (Obj.cells #[Value.map (some pm)] 101)).alloc (Obj.map #[] 0)).alloc (Obj.cells #[Value.map (some (w1.heap.size + 1))] 103)).alloc (Obj.cells #[Value.slice none 0 0] 106)).alloc (Obj.cells #[ptrV (w1.heap.size + 1 + 1 + 1)] 30)).alloc (Obj.cells #[readV (bx w w1 pm (.slice A nf cp))] 107)) := ⟨_, rfl⟩
 obtain ⟨HEV, HST, HBW⟩ := env_made (fs := fs) HB0.out s0 HF0.out HB1.out (HF.out.stays HB1.out) HM1.out W6 hW6
 have HEV := hid HEV
 have HST := hid HST
 have HBW := hid HBW
 have HCR := hid (HRD.out (bx w w1 pm (.slice A nf cp)) rfl rfl [] name [] (.slice none 0 0) W6 rfl HNM.out HEV.out HST.out (World.ownsRow_nil _ _ _ _) (Chain.nil _ _) (by simp) HBW.out)
 obtain ⟨g, HG⟩ : ∃ g, Hid (readL fs 4 [] name [] = g) := ⟨_, rfl⟩
 rw [HG.out] at HCR
 unfold readV ptrV bx at hW6
 dsimp only at hW6
 unfold ptrV at HCR
 go_wp2_with (fail)
 rw [← hW6]
 refine HCR.out.mono ?_
 intro e6 w6 h6
 obtain ⟨h6, hf6, hb6⟩ := h6
 have HLB : Hid (Has w6 (w1.heap.size + 1 + 1 + 1 + 1) 30 #[ptrV (w1.heap.size + 1 + 1 + 1)]) := (HEV.out.fr hf6).l
 have HB6 := hid hb6
 have hclb := HLB.out.at_ 0
 unfold ptrV at hclb
 clear hf6 hb6
 cases g with
 | error c =>
  obtain ⟨rfl, hc, _⟩ := h6.of_err
  have hcz : (c == 0) = false := by simp [hc]
  have HC := hid hc
  clear h6 hc
  go_wp2
  go_ret2
  refine ⟨?_, HB6.out⟩
  unfold ParseOut
  rw [HG.out]
  exact ⟨rfl, HC.out⟩
 | ok rs =>
  obtain ⟨rfl, hs6, _⟩ := h6.of_ok
  have HS6 := hid hs6
  clear h6 hs6
  go_wp2
  go_ret2
  refine ⟨?_, HB6.out⟩
  unfold ParseOut
  rw [HG.out]
  exact ⟨_, rfl, HS6.out.low, HS6.out.list, readL_64 _ _ _ _ _ _ HG.out (by simp)⟩
end Go.Proofs.YtahkcemdbfjilaaGreatDoor.Glob
namespace Go.Proofs.YtahkcemdbfjilaaGreatDoor.Glob
open Go.RowKit Go.Maps
def ofM (s path : By) : Bool := match parseL s with | none => false | some p => mB p.rooted p.hs path
def negM (s : By) : Bool := match parseL s with | none => false | some p => p.m &&& 1 != 0
def delM (s : By) : Bool := match parseL s with | none => false | some p => p.m &&& 4 != 0
def hitL (path : By) (ps : List By) : Option By := ps.find? fun s => ofM s path
def matL (ps : List By) (path : By) : Bool × Bool :=
 if mayB path then match hitL path ps with | none => (false, false) | some s => if negM s then (false, false) else (true, delM s) else (false, false)
theorem Pats.at_ {B : Nat} {w : World} {v : Value} {ps : List By} (h : Pats B w v ps) (h0 : 0 < ps.length) : ∃ g c, v = .slice (some ⟨g, 0, none⟩) ps.length c ∧ g < w.heap.size ∧ ∀ k (hk : k < ps.length), ∃ pg p, w.cell? ⟨g, k, none⟩ = some (ptrV pg) ∧ PatIs w pg ps[k] p ∧ parseL ps[k] = some p := by
 obtain ⟨gs, ho, hl, hp⟩ := h
 obtain ⟨g, c, h1, _, h3, _, h5⟩ := own_cells ho h0
 refine ⟨g, c, h1, h3, fun k hk => ?_⟩
 have hg : gs[k]? = some gs[k] := List.getElem?_eq_getElem (by omega)
 obtain ⟨p, a1, a2, _⟩ := hp k gs[k] ps[k] hg (List.getElem?_eq_getElem hk)
 exact ⟨gs[k], p, h5 k _ (by rw [List.getElem?_map, hg]; rfl), a1, a2⟩
theorem find_at {ps : List By} {path : By} {k : Nat} (hk : k < ps.length) (h1 : (ps.take k).any (fun s => ofM s path) = false) (h2 : ofM ps[k] path = true) : hitL path ps = some ps[k] := by
 obtain ⟨s, hs⟩ : ∃ s, ps[k] = s := ⟨_, rfl⟩
 rw [hs] at h2 ⊢
 have e : ps.take k ++ s :: ps.drop (k + 1) = ps := by rw [← hs, List.getElem_cons_drop, List.take_append_drop]
 have e2 : hitL path ps = (ps.take k ++ s :: ps.drop (k + 1)).find? fun s => ofM s path := by rw [e]; rfl
 rw [e2, List.find?_append]
 rw [List.find?_eq_none.2 (fun x hx hm => by rw [List.any_eq_false] at h1; exact h1 x hx hm)]
 simp [h2]
theorem find_not {ps : List By} {path : By} (h1 : ps.any (fun s => ofM s path) = false) : hitL path ps = none := by
 unfold hitL
 exact List.find?_eq_none.2 (fun x hx hm => by rw [List.any_eq_false] at h1; exact h1 x hx hm)
theorem matchC_any (g pb : Nat) (s path : By) (p : Pt) (w : World) (hp : PatIs w g s p) (hl : parseL s = some p) (hb : Has w pb 9 #[.string (ba path)]) :
 Calls Tryz.prog 157 #[ptrV g, .pointer (some ⟨pb, 0, none⟩)] w fun e w' => e = .returned (.bool (ofM s path)) ∧ Below w.heap.size w w' := by
 have HM := hid (match_any g s p path w hp)
 have ho : ofM s path = mB p.rooted p.hs path := by unfold ofM; rw [hl]
 rw [← ho] at HM
 have c0 := hb.at_ 0
 generalize ofM s path = b at HM
 unfold ptrV
 clear hp hl ho hb
 go_enter Tryz.func157, Tryz.ntmps157
 go_wp2_with (go_at_call 158; refine HM.out.mono ?_; rintro e1 w1 ⟨rfl, hb1⟩)
 go_ret
 exact ⟨rfl, hb1⟩
set_option maxHeartbeats 1000000 in
theorem index_any (B : Nat) (v : Value) (ps : List By) (path : By) (pb : Nat) (w : World) (h : Pats B w v ps) (hb : Has w pb 9 #[.string (ba path)]) (hn : ps.length ≤ 64) :
 Calls Tryz.prog 156 #[v, .func (.func 157) #[] #[.pointer (some ⟨pb, 0, none⟩)]] w fun e w' => (∃ z : Int, e = .returned (.int .i64 z) ∧ ((z = -1 ∧ hitL path ps = none) ∨ ∃ (k : Nat) (s : By), ps[k]? = some s ∧ z = (k : Int) ∧ hitL path ps = some s)) ∧ Below w.heap.size w w' := by
 by_cases h0 : ps.length = 0
 · obtain rfl := List.length_eq_zero_iff.1 h0
   obtain ⟨A, c, rfl⟩ := h.form
   clear h hb
   go_enter Tryz.func156, Tryz.ntmps156
   go_wp2
   refine wp_loop_rounds 1 ?_
   rw [rounds_succ]
   go_wp2
   go_ret
   exact ⟨⟨-1, rfl, .inl ⟨rfl, rfl⟩⟩, Below.refl _ _⟩
 · obtain ⟨g, cap, rfl, hg, hcell⟩ := h.at_ (by omega)
   have HC := hid hcell
   have HBX := hid hb
   obtain ⟨n, hnp⟩ : ∃ n, ps.length = n := ⟨_, rfl⟩
   have HNP := hid hnp
   rw [hnp] at hn
   rw [hnp]
   clear h hb hcell h0 hnp
   go_enter Tryz.func156, Tryz.ntmps156
   go_wp2
   go_loopw [5, 8] (fun _ i wr => ∃ k : Nat, i = .int .i64 (k : Int) ∧ k ≤ n ∧ Hid ((ps.take k).any (fun s => ofM s path) = false) ∧ Hid (Below w.heap.size w wr))
    (fun _ i _ => n - (intOf i).toNat)
   case atStart => exact ⟨0, rfl, Nat.zero_le _, rfl, Below.refl _ _⟩
   case round =>
    obtain ⟨k, rfl, hk, HT, HB⟩ := hrel
    by_cases hlt : k < n
    · have hlt2 : k < ps.length := by rw [HNP.out]; exact hlt
      obtain ⟨pg, p, hc0, hpat, hpl⟩ := HC.out k hlt2
      have c0 := (HB.out.cell (p := ⟨g, k, none⟩) hg).trans hc0
      have CP := hid (matchC_any pg pb ps[k] path p wr (hpat.stays HB.out) hpl (HBX.out.stays HB.out))
      have HN := hid (any_take_succ ps (fun s => ofM s path) k hlt2)
      unfold ptrV at c0 CP
      cases hbv : ofM ps[k] path with
      | true =>
       have HA : Hid (hitL path ps = some ps[k]) := find_at hlt2 HT.out hbv
       rw [hbv] at CP
       clear hbv hpat hpl hc0
       go_wp2_with (go_at_call 157; refine CP.out.mono ?_; rintro e1 w1 ⟨rfl, hb1⟩)
       go_ret
       exact ⟨⟨(k : Int), rfl, .inr ⟨k, _, List.getElem?_eq_getElem hlt2, rfl, HA.out⟩⟩, HB.out.thenG hb1⟩
      | false =>
       have HN2 : Hid ((ps.take (k + 1)).any (fun s => ofM s path) = false) := by show _ = _; rw [HN.out, HT.out, hbv]; rfl
       rw [hbv] at CP
       clear hbv HN hpat hpl hc0
       go_wp2_with (go_at_call 157; refine CP.out.mono ?_; rintro e1 w1 ⟨rfl, hb1⟩)
       exact ⟨⟨k + 1, by go_num, by omega, HN2.out, HB.out.thenG hb1⟩, by simp [intOf]; omega⟩
    · have HK : Hid (k = ps.length) := by show _ = _; rw [HNP.out]; omega
      go_wp2
      go_ret
      refine ⟨⟨-1, rfl, .inl ⟨rfl, ?_⟩⟩, HB.out⟩
      have := HT.out
      rw [HK.out, List.take_length] at this
      exact find_not this
set_option maxHeartbeats 2000000 in
theorem imatch_any (B L : Nat) (ps : List By) (path : By) (w : World) (hG : Gd w) (h : ListIs B w L ps) (hn : ps.length ≤ 64) (hp : path.length ≤ 4000) :
 Calls Tryz.prog 100 #[ptrV L, .string (ba path)] w fun e w' => e = .returned (.tuple #[.bool (matL ps path).1, .bool (matL ps path).2]) ∧ Below w.heap.size w w' := by
 obtain ⟨W0, hW0⟩ : ∃ W0, w.alloc (.cells #[.string (ba path)] 9) = W0 := ⟨_, rfl⟩
 have b0 : Below w.heap.size w W0 := hW0 ▸ (Below.refl _ _).alloc (Nat.le_refl _) _
 have p0 : Has W0 w.heap.size 9 #[.string (ba path)] := hW0 ▸ Has.fresh _ _ _
 have HMAY := hid (may_any (ba path) W0 (hG.kept b0) (by rw [ba_size]; exact hp))
 have HB0 := hid b0
 have HP0 := hid p0
 have HL := hid (h.below b0)
 have HNL := hid hn
 have cp0 := p0.at_ 0
 cases hm : mayB path with
 | false =>
  have HR : Hid (matL ps path = (false, false)) := by show _ = _; unfold matL; rw [if_neg (by rw [hm]; decide)]
  have hmm : mayB (tl (ba path)) = false := hm
  rw [hmm] at HMAY
  rw [HR.out]
  unfold ptrV
  clear h hG hn hp b0 p0 hm hmm
  go_enter Tryz.func100, Tryz.ntmps100
  go_wp2_with (go_at_call 99; refine HMAY.out.mono ?_; rintro e1 w1 ⟨rfl, hb1⟩)
  go_ret2
  exact ⟨rfl, HB0.out.thenG hb1⟩
 | true =>
  have HR : Hid (matL ps path = match hitL path ps with | none => (false, false) | some s => if negM s then (false, false) else (true, delM s)) := by show _ = _; unfold matL; rw [if_pos hm]
  have hmm : mayB (tl (ba path)) = true := hm
  rw [hmm] at HMAY
  obtain ⟨r, HRR⟩ : ∃ r, Hid (matL ps path = r) := ⟨_, rfl⟩
  rw [HRR.out]
  rw [HRR.out] at HR
  unfold ptrV
  clear h hG hn hp b0 hm hmm
  go_enter Tryz.func100, Tryz.ntmps100
  go_wp2_with (fail)
  refine HMAY.out.mono ?_
  rintro e1 w1 ⟨rfl, hb1⟩
  have HB1 := hid hb1
  have HL1 := hid (HL.out.below hb1)
  obtain ⟨v, hLh, hLp⟩ := HL1.out
  obtain ⟨A, c, hv⟩ := hLp.form
  obtain ⟨n, hnp⟩ : ∃ n, ps.length = n := ⟨_, rfl⟩
  rw [hnp] at hv
  subst hv
  have HNP := hid hnp
  have HIX := hid (index_any B (.slice A n c) ps path w.heap.size w1 hLp (HP0.out.stays hb1) HNL.out)
  have HLH := hid hLh
  have HLP := hid hLp
  have cL := hLh.at_ 0
  clear hb1 hLp hLh hnp
  go_wp2_with (fail)
  refine HIX.out.mono ?_
  rintro e2 w2 ⟨⟨z, rfl, hz⟩, hb2⟩
  have HB2 := hid hb2
  have cL2 := (HLH.out.stays hb2).at_ 0
  rcases hz with ⟨rfl, hz⟩ | ⟨k, s, hks, rfl, hz⟩
  · have HR2 : Hid (r = (false, false)) := by show _ = _; rw [HR.out, hz]
    clear hb2 hz
    go_wp2
    go_ret2
    refine ⟨by rw [HR2.out]; rfl, (HB0.out.thenG HB1.out).thenG HB2.out⟩
  · obtain ⟨hk, hks⟩ := List.getElem?_eq_some_iff.1 hks
    obtain ⟨g, cap, hge, hg, hcell⟩ := HLP.out.at_ (by omega)
    rw [HNP.out] at hge
    simp only [Value.slice.injEq, true_and] at hge
    obtain ⟨rfl, rfl⟩ := hge
    obtain ⟨pg, p, hc0, hpat, hpl⟩ := hcell k hk
    rw [hks] at hpat hpl
    have c0 := (hb2.cell (p := ⟨g, k, none⟩) hg).trans hc0
    have HNEG := hid (Negated_yes (hpat.stays hb2))
    have HDEL := hid (Deletable_yes (hpat.stays hb2))
    have hne : (p.m &&& 1 != 0) = negM s := by unfold negM; rw [hpl]
    have hde : (p.m &&& 4 != 0) = delM s := by unfold delM; rw [hpl]
    rw [hne] at HNEG
    rw [hde] at HDEL
    have hkn : (k : Int) < (n : Int) := by have := HNP.out; omega
    rw [hz] at HR
    unfold ptrV at c0
    cases hng : negM s with
    | true =>
     rw [hng] at HNEG
     have HR2 : Hid (r = (false, false)) := by show _ = _; rw [HR.out]; simp only; rw [if_pos hng]
     clear hb2 hz hcell hc0 hpat hpl hne hde hng hks hk
     go_wp2_with (go_at_call 159; refine HNEG.out.mono ?_; rintro e3 w3 ⟨rfl, rfl⟩)
     go_ret2
     refine ⟨by rw [HR2.out]; rfl, (HB0.out.thenG HB1.out).thenG HB2.out⟩
    | false =>
     rw [hng] at HNEG
     have HR2 : Hid (r = (true, delM s)) := by show _ = _; rw [HR.out]; simp only; rw [if_neg (by rw [hng]; decide)]
     generalize delM s = dl at HDEL HR2
     clear hb2 hz hcell hc0 hpat hpl hne hde hng hks hk
     go_wp2_with (first
      | (go_at_call 159; refine HNEG.out.mono ?_; rintro e3 w3 ⟨rfl, rfl⟩)
      | (go_at_call 160; refine HDEL.out.mono ?_; rintro e3 w3 ⟨rfl, rfl⟩))
     go_ret2
     refine ⟨by rw [HR2.out]; rfl, (HB0.out.thenG HB1.out).thenG HB2.out⟩
end Go.Proofs.YtahkcemdbfjilaaGreatDoor.Glob
namespace Go.Proofs.YtahkcemdbfjilaaGreatDoor
open Go.RowKit Go.Maps
set_option maxHeartbeats 400000 in
theorem find_big (s : ByteArray) (w : World) (hs : 4000 < s.size) :
 Calls Tryz.prog 74 #[.string s] w fun e w' => e = .returned (.agg #[.string ⟨#[]⟩, .string ⟨#[]⟩]) ∧ Below w.heap.size w w' := by
 have h1 : (160 : Int) < (s.size : Int) := by omega
 clear hs
 go_enter Tryz.func74, Tryz.ntmps74
 go_wp2
 exact bodyPost_ret (results_cell_row rfl _ _ w.heap.size 156 #[.string ⟨#[]⟩, .string ⟨#[]⟩] (0, 0) _ rfl (Has.fresh _ _ _) Tryz.underlying156 rfl iPlace) rfl ⟨rfl, (Below.refl _ _).alloc (Nat.le_refl _) _⟩
theorem mayB_big {l : By} (h : 4000 < l.length) : mayB l = false := by
 cases e : mayB l with
 | false => rfl
 | true => have := (may_parts e).1; omega
set_option maxHeartbeats 400000 in
theorem mayAll_any (p : By) (b : Bool) (hb : mayB p = b) (w : World) (hG : Gd w) : Calls Tryz.prog 99 #[kS p] w fun e w' => e = .returned (.bool b) ∧ Below w.heap.size w w' := by
 by_cases h : p.length ≤ 4000
 · exact mayk_any p b hb w hG h
 · have e : b = false := hb.symm.trans (mayB_big (by omega))
   subst e
   have C := hid (find_big (ba p) w (by rw [ba_size]; omega))
   clear hG hb h
   go_enter Tryz.func99, Tryz.ntmps99
   go_wp2_with (go_at_call 74; refine C.out.mono ?_; rintro e1 w1 ⟨rfl, hb1⟩; have B1 := hid hb1; clear hb1)
   go_ret
   exact ⟨rfl, B1.out⟩
set_option maxHeartbeats 400000 in
theorem nowhere_any (p : Nat) (s : By) (w : World) (hG : Gd w) : Calls Tryz.prog 60 #[.pointer (some ⟨p, 0, none⟩), kS s] w fun e w' => e = .returned (.int .i64 (if mayB s then 0 else 10)) ∧ Below w.heap.size w w' := by
 cases hm : mayB s with
 | true =>
  have C := hid (mayAll_any s true hm w hG)
  clear hm hG
  go_enter Tryz.func60, Tryz.ntmps60
  go_wp2_with (go_at_call 99; refine C.out.mono ?_; rintro e1 w1 ⟨rfl, hb1⟩; have B1 := hid hb1; clear hb1)
  go_ret
  exact ⟨rfl, B1.out⟩
 | false =>
  have C := hid (mayAll_any s false hm w hG)
  clear hm hG
  go_enter Tryz.func60, Tryz.ntmps60
  go_wp2_with (go_at_call 99; refine C.out.mono ?_; rintro e1 w1 ⟨rfl, hb1⟩; have B1 := hid hb1; clear hb1)
  go_ret
  exact ⟨rfl, B1.out⟩
def rootE (L : Tr) (root : By) : Int := if mayB root then noDirE L root else 10
set_option maxHeartbeats 1000000 in
theorem noRoot_any {own : Nat → Prop} {w : World} {p : Nat} {M : Mo} (h : Dsk own w p M) (hG : Gd w) (root : By) : Calls Tryz.prog 50 #[.pointer (some ⟨p, 0, none⟩), kS root] w fun e w' => e = .returned (.int .i64 (rootE M.now root)) ∧ Below w.heap.size w w' := by
 have C := hid (nowhere_any p root w hG)
 unfold rootE
 cases hm : mayB root with
 | false =>
  rw [hm] at C
  clear h hG hm
  go_enter Tryz.func50, Tryz.ntmps50
  go_wp2_with (go_at_call 60; refine C.out.mono ?_; rintro e1 w1 ⟨rfl, hb1⟩; have B1 := hid hb1; clear hb1)
  go_ret
  exact ⟨rfl, B1.out⟩
 | true =>
  rw [hm] at C
  have hne := may_ne hm
  have hle : root.length ≤ 4000 := by have := (may_parts hm).1; omega
  obtain ⟨c, HC⟩ : ∃ c, Hid (noDirE M.now root = c) := ⟨_, rfl⟩
  have CD : Hid (∀ W, Below w.heap.size w W → Calls Tryz.prog 98 #[.pointer (some ⟨p, 0, none⟩), kS root] W fun e w' => ∃ A c' n, e = .returned (.tuple #[.slice A n c', .int .i64 c]) ∧ Below W.heap.size W w') := fun W hb => by
   refine (dList_any (h.on hb) (hG.kept hb) root hle).mono ?_
   rintro e w' ⟨A, c', g, rfl, _, hb'⟩
   refine ⟨A, c', (listM M.now root).1.length, ?_, hb'⟩
   have e2 : (listM M.now root).2 = c := by
    unfold listM
    rw [hm]
    simp only [Bool.not_true, Bool.and_false, Bool.false_eq_true, if_false]
    rw [← HC.out]
    split
    · rename_i k; rw [k]
    · rfl
   rw [e2]
  rw [HC.out]
  clear h hG hm hne hle
  go_enter Tryz.func50, Tryz.ntmps50
  go_wp2_with fail
  refine C.out.mono ?_; rintro e1 w1 ⟨rfl, hb1⟩
  have B1 := hid hb1
  clear hb1
  go_wp2_with fail
  refine (CD.out _ B1.out).mono ?_; rintro e2 w2 ⟨A, c', n, rfl, hb2⟩
  have B2 : Hid (Below w.heap.size w w2) := B1.out.trans (hb2.mono B1.out.size)
  clear hb2
  go_wp2
  go_ret
  exact ⟨rfl, B2.out⟩
inductive Lst (w : World) : Value → Option (List By) → Prop
 | none : Lst w (.pointer Option.none) Option.none
 | some (B L : Nat) (ps : List By) : Glob.ListIs B w L ps → ps.length ≤ 64 → Lst w (.pointer (Option.some ⟨L, 0, Option.none⟩)) (Option.some ps)
theorem Lst.on {w w' : World} {v : Value} {lo : Option (List By)} (h : Lst w v lo) (hb : Below w.heap.size w w') : Lst w' v lo := by
 cases h with
 | none => exact .none
 | some B L ps h1 h2 => exact .some B L ps (h1.below hb) h2
def igB (lo : Option (List By)) (p : By) : Bool := match lo with
 | none => false
 | some ps => (Glob.matL ps p).1
set_option maxHeartbeats 400000 in
theorem imatch_nil (p : By) (w : World) : Calls Tryz.prog 100 #[.pointer none, kS p] w fun e w' => e = .returned (.tuple #[.bool false, .bool false]) ∧ Below w.heap.size w w' := by
 go_enter Tryz.func100, Tryz.ntmps100
 go_wp2
 go_ret2
 exact ⟨rfl, (Below.refl _ _).alloc (Nat.le_refl _) _⟩
set_option maxHeartbeats 400000 in
theorem isIgnored_any {w : World} {v : Value} {lo : Option (List By)} (h : Lst w v lo) (hG : Gd w) (p : By) (hp : p.length ≤ 4000) : Calls Tryz.prog 52 #[v, kS p] w fun e w' => e = .returned (.bool (igB lo p)) ∧ Below w.heap.size w w' := by
 have C : Hid (Calls Tryz.prog 100 #[v, kS p] w fun e w' => ∃ d, e = .returned (.tuple #[.bool (igB lo p), .bool d]) ∧ Below w.heap.size w w') := by
  cases h with
  | none => exact (imatch_nil p w).mono fun e w' ⟨h1, h2⟩ => ⟨false, h1, h2⟩
  | some B L ps h1 h2 =>
   exact (Glob.imatch_any B L ps p w hG h1 h2 hp).mono fun e w' ⟨h1, h2⟩ => ⟨_, h1, h2⟩
 generalize igB lo p = b at C
 clear h hG hp
 go_enter Tryz.func52, Tryz.ntmps52
 go_wp2_with (go_at_call 100; refine C.out.mono ?_; rintro e1 w1 ⟨d, rfl, hb1⟩; have B1 := hid hb1; clear hb1)
 go_ret
 exact ⟨rfl, B1.out⟩
set_option maxHeartbeats 400000 in
theorem isBad_any (n : Nd) (hd : n.data.length ≤ 140737488355328) (w : World) : Calls Tryz.prog 53 #[nodeV n] w fun e w' => e = .returned (.bool (badN n)) ∧ Below w.heap.size w w' := by
 obtain ⟨k, d, x, t⟩ := n
 have HB : Hid (badN ⟨k, d, x, t⟩ = decide ((4096 : Int) < (((ba d).size : Nat) : Int))) := by
  show _ = _
  unfold badN
  rw [ba_size]
  simp only [decide_eq_decide]; omega
 rw [HB.out]
 show Calls Tryz.prog 53 #[.agg #[.int .i64 k, kS d, kS x, .int .i64 t]] w _
 go_enter Tryz.func53, Tryz.ntmps53
 go_wp2
 go_ret
 exact ⟨rfl, (Below.refl _ _).alloc (Nat.le_refl _) _⟩
end Go.Proofs.YtahkcemdbfjilaaGreatDoor
