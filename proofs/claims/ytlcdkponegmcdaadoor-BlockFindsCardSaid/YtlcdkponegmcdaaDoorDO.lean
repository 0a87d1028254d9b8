/- Finder.note: what the call does to the places of a digest. Conditions: a finder; a digest of 32 bytes. -/
import Derived.Test.YtlcdkponegmcdaaDoorDN
namespace Go.Proofs.YtlcdkponegmcdaaDoor
open Go.RowKit Go.Maps
open Classical in
/-- The places behind note. -/
noncomputable def noteP (P : By → List Pl) (d : By) (q : Pl) : By → List Pl := fun x => if x = d then (if hasN (P d) q.1 then P d else ins (P d) q) else P x
theorem noteP_id {P : By → List Pl} {d : By} {q : Pl} (h : hasN (P d) q.1 = true) : noteP P d q = P := by
  funext x
  unfold noteP
  by_cases e : x = d
  · subst e; simp [h]
  · simp [e]
/-- What a call on a finder leaves. -/
def FPost (own : Nat → Prop) (w : World) (p : Nat) (F : By → Option By) (P : By → List Pl) (cf N : Nat) (w' : World) : Prop :=
  ∃ own', Fin own' w' p F P cf N ∧ Turn own w w' ∧ (∀ g, own g → own' g) ∧ ∀ g, own' g → own g ∨ w.heap.size ≤ g
theorem Fin.more {own : Nat → Prop} {w : World} {p : Nat} {F : By → Option By} {P : By → List Pl} {cf N M : Nat} (h : Fin own w p F P cf N) (hm : N ≤ M) : Fin own w p F P cf M := by
  obtain ⟨m1, m2, fv, pv, cp, h⟩ := h
  exact ⟨m1, m2, fv, pv, cp, { h with cf := Nat.le_trans h.cf hm, cp := Nat.le_trans h.cp hm, len := fun d => Nat.le_trans (h.len d) hm }⟩
theorem FPost.refl {own : Nat → Prop} {w w' : World} {p : Nat} {F : By → Option By} {P : By → List Pl} {cf N : Nat} (h : Fin own w p F P cf N) (hb : Below w.heap.size w w') : FPost own w p F P cf N w' :=
  ⟨own, h.on hb (Nat.le_refl _), Turn.of_below hb, fun _ h => h, fun _ h => .inl h⟩
open Classical in
theorem note_end {own : Nat → Prop} {w wd w5 w6 : World} {p m1 m2 : Nat} {fv pv : Value → Option Value} {F : By → Option By} {P : By → List Pl} {cf cp N : Nat} (h : FinI own w p m1 m2 fv pv F P cf cp N) (d : By) (q : Pl) (v v' : Value) (hhas : hasN (P d) q.1 = false)
    (hv : (pv (kH d)).getD nilV = v) (hown : ∀ g, v.ownBlock = some g → own g) (hb : Below w.heap.size w wd) (hg5 : wd.grownBy w5 v.ownBlock) (hp5 : Pls 0 w5 v' (ins (P d) q)) (hv' : v'.ownBlock = v.ownBlock ∨ v'.ownBlock = some wd.heap.size)
    (hg6 : Grw m2 w5 w6) (hm : ∃ c, MapIs w6 27 m2 c (fun y => if y = kH d then some v' else pv y) ∧ c ≤ N + 1) : FPost own w p F (noteP P d q) cf (N + 1) w6 := by
  have hs : w.heap.size ≤ w6.heap.size := Nat.le_trans hb.size (Nat.le_trans hg5.size hg6.size)
  have hbk : ∀ g, g < w.heap.size → g ≠ m2 → v.ownBlock ≠ some g → w6.heap[g]? = w.heap[g]? := fun g hg h1 h2 =>
    ((hg6.block g (Nat.lt_of_lt_of_le hg (Nat.le_trans hb.size hg5.size)) (fun e => h1 (Option.some.inj e))).trans (hg5.block g (Nat.lt_of_lt_of_le hg hb.size) (fun e => h2 e.symm))).trans (hb.block g hg)
  have hpl : Pls 0 w6 v' (ins (P d) q) := row_of hp5 (fun g hg => by
    rcases hp5.2 with ⟨k1, _⟩ | ⟨g', c, cur, k1, _, k3, _⟩
    · rw [k1] at hg; cases hg
    · rw [k1] at hg; injection hg with hg; subst hg
      refine hg6.block _ (Array.getElem?_eq_some_iff.1 k3).1 (fun e => ?_)
      injection e with e
      obtain ⟨c2, ⟨D, ⟨es, ck, hh, _⟩, _⟩, _⟩ := hm
      rcases hv' with hx | hx
      · rw [k1] at hx
        have := hown _ hx.symm
        obtain ⟨D2, ⟨es2, ck2, hh2, _⟩, _⟩ := h.m2
        obtain ⟨v0, e0, ho0, _⟩ := h.at_ d
        obtain rfl : v = v0 := hv.symm.trans e0
        rcases ho0.2 with ⟨z1, _⟩ | ⟨g2, c2', cur2, z1, _, z3, _⟩
        · rw [z1] at hx; cases hx
        · rw [z1] at hx; injection hx with hx
          have : g2 = m2 := by rw [← e]; exact hx.symm
          rw [this, hh2] at z3; cases z3
      · rw [k1] at hx; injection hx with hx
        have := h.low m2 h.o2
        have := hb.size
        omega)
  obtain ⟨c, hm, hc⟩ := hm
  have hF := h.set d v v' (ins (P d) q) hv hs (fun g ho h1 h2 => hbk g (h.low g ho) h1 h2) hm hc hpl (by have := ins_len (P d) q; intro e; rw [e] at this; simp at this) (ins_srt (h.srt d) hhas) (by rw [ins_len]; have := h.len d; omega)
    (fun g hg => by rcases hv' with hx | hx; exact .inl (hx ▸ hg); rw [hx] at hg; injection hg with hg; have := hb.size; exact .inr (by omega))
  have hP : (fun x => if x = d then ins (P d) q else P x) = noteP P d q := by funext x; unfold noteP; rw [hhas]; rfl
  rw [hP] at hF
  refine ⟨_, ⟨m1, m2, fv, _, c, hF⟩, ?_, fun g hg => .inl hg, ?_⟩
  · exact ⟨hg6.os.trans (hg5.os.trans hb.os), hg6.tape.trans (hg5.tape.trans hb.tape), hg6.output.trans (hg5.output.trans hb.output), hs, fun g hg hn => hbk g hg (fun e => hn (e ▸ h.o2)) (fun e => hn (hown g e))⟩
  · rintro g (hg | hg)
    · exact .inl hg
    · rcases hv' with hx | hx
      · rw [hx] at hg; exact .inl (hown g hg)
      · rw [hx] at hg; injection hg with hg; have := hb.size; exact .inr (by omega)
/-- What the loads of note's last region need. -/
structure BS (p m2 b1 : Nat) (d : By) (q : Pl) (W : World) : Prop where
  has : ∃ m1, Has W p 66 #[.map (some m1), .map (some m2)]
  box : Has W b1 27 (hvec d)
  box2 : Has W (b1 + 1) 54 (pcell q).toArray
theorem BS.cell2 {p m2 b1 : Nat} {d : By} {q : Pl} {W : World} (h : BS p m2 b1 d q W) : W.cell? ⟨p, 1, none⟩ = some (.map (some m2)) := by
  obtain ⟨m1, h1⟩ := h.has; exact h1.at_ 1
theorem BS.kept {own : Nat → Prop} {w w5 w6 : World} {p m1 m2 b1 : Nat} {fv pv : Value → Option Value} {F : By → Option By} {P : By → List Pl} {cf cp N : Nat} {d : By} {q : Pl} (h : BS p m2 b1 d q w5) (hg : Grw m2 w5 w6) (hI : FinI own w p m1 m2 fv pv F P cf cp N)
    (hb : w.heap.size ≤ b1 := by first | exact Nat.le_refl _ | omega) : BS p m2 b1 d q w6 := by
  have hpm : p ≠ m2 := fun e => by
    obtain ⟨D, ⟨es, ck, hh, _⟩, _⟩ := hI.m2
    have := hI.has
    unfold Has at this
    rw [e, hh] at this; cases this
  have hl := hI.low m2 hI.o2
  obtain ⟨k1, hk⟩ := h.has
  exact ⟨⟨k1, hk.grw hg hpm⟩, h.box.grw hg (by omega), h.box2.grw hg (by omega)⟩
theorem note_mid {own : Nat → Prop} {w w3 WA w5 : World} {p m1 m2 : Nat} {fv pv : Value → Option Value} {F : By → Option By} {P : By → List Pl} {cf cp N : Nat} (h : FinI own w p m1 m2 fv pv F P cf cp N) {d : By} {q : Pl} {v : Value}
    (hv : (pv (kH d)).getD nilV = v) (hown : ∀ g, v.ownBlock = some g → own g) (_hs : w.heap.size ≤ w3.heap.size) (hb : Below w.heap.size w WA) (hz : NS p m2 cp pv w.heap.size d WA ∧ Has WA (w.heap.size + 1) 54 (pcell q).toArray) (hg : WA.grownBy w5 v.ownBlock) :
    NS p m2 cp pv w.heap.size d w5 ∧ Has w5 (w.heap.size + 1) 54 (pcell q).toArray := by
  obtain ⟨v0, e0, ho0, _⟩ := h.at_ d
  obtain rfl : v = v0 := hv.symm.trans e0
  have hrow : ∀ g, v.ownBlock = some g → ∃ cur, w.heap[g]? = some (.cells cur 54 (0, 0)) := by
    intro g hg
    rcases ho0.2 with ⟨h1, _⟩ | ⟨g', c, cur, h1, _, h3, _⟩
    · rw [h1] at hg; cases hg
    · rw [h1] at hg; injection hg with hg; exact ⟨cur, by rw [← hg]; exact h3⟩
  have hlt : ∀ g, v.ownBlock = some g → g < w.heap.size := fun g hg => h.low g (hown g hg)
  have hnp : some p ≠ v.ownBlock := fun e => by
    obtain ⟨cur, hcur⟩ := hrow p e.symm
    have := h.has
    unfold Has at this
    rw [hcur] at this
    injection this with this; injection this with _ this; revert this; decide
  have hn2 : some m2 ≠ v.ownBlock := fun e => by
    obtain ⟨cur, hcur⟩ := hrow m2 e.symm
    obtain ⟨D, ⟨es, ck, hh, _⟩, _⟩ := h.m2
    rw [hcur] at hh; cases hh
  refine ⟨hz.1.kept (fun g hg' => ?_), (hg.block _ hz.2.inside (fun e => by have := hlt _ e.symm; omega)).trans hz.2⟩
  rcases hg' with e | e | e
  · subst e; exact hg.block _ (Nat.lt_of_lt_of_le (h.low _ h.op) hb.size) hnp
  · subst e; exact hg.block _ (Nat.lt_of_lt_of_le (h.low _ h.o2) hb.size) hn2
  · subst e; exact hg.block _ hz.1.box.inside (fun e => by have := hlt _ e.symm; omega)
set_option maxRecDepth 100000 in
set_option maxHeartbeats 8000000 in
theorem note_has {own : Nat → Prop} {w : World} {p : Nat} {F : By → Option By} {P : By → List Pl} {cf N : Nat} (h : Fin own w p F P cf N) (d : By) (hd : d.length = 32) (q : Pl) (hN : N ≤ 1000000) (hh : hasN (P d) q.1 = true) :
    Calls Tryd.prog 45 #[.pointer (some ⟨p, 0, none⟩), .agg (hvec d), .agg #[.string (ba q.1), .int .i64 (q.2 : Int)]] w fun e w' => e = .returned (.tuple #[]) ∧ FPost own w p F (noteP P d q) cf (N + 1) w' := by
  obtain ⟨m1, m2, fv, pv, cp, h⟩ := h
  obtain ⟨v, hv, hpl, hown⟩ := h.at_ d
  obtain ⟨kl, hk⟩ := hash_key d hd
  have HK := hid hk
  have HD := hid hd
  have HV := hid hv
  obtain ⟨W0, HW0⟩ : ∃ W0, Hid (((w.alloc (.cells (hvec d) 27)).alloc (.cells #[.string (ba q.1), .int .i64 (q.2 : Int)] 54)).drew = W0) := ⟨_, rfl⟩
  have hb0 : Below w.heap.size w W0 := by rw [← HW0.out]; exact (((Below.refl _ _).alloc (Nat.le_refl _) _).alloc (by simp) _).drew
  have hbox : Has W0 w.heap.size 27 (hvec d) := by rw [← HW0.out]; exact (Has.fresh w 27 (hvec d)).more _
  have hbox2 : Has W0 (w.heap.size + 1) 54 (pcell q).toArray := by rw [← HW0.out]; exact Has.fresh' (w.alloc _) 54 _ (by simp)
  have hI0 := h.kept hb0.size (fun g hg => hb0.block g (h.low g hg))
  have NS0 : Hid (NS p m2 cp pv w.heap.size d (((w.alloc (.cells (hvec d) 27)).alloc (.cells #[.string (ba q.1), .int .i64 (q.2 : Int)] 54)).drew)) := by
    rw [HW0.out]; exact ⟨⟨m1, hI0.has⟩, hI0.m2, hbox⟩
  have HCB : Hid (W0.cell? ⟨w.heap.size + 1, 0, none⟩ = some (.string (ba q.1))) := hbox2.at_ 0
  have HPL0 : Pls 0 W0 v (P d) := hpl.kept hb0 (Nat.le_refl _)
  have HCP := hid (placeOf_any 0 v (P d) (h.srt d) q.1 W0 HPL0 (by have := h.len d; omega))
  rw [hh] at HCP
  have HB0 := hid hb0
  have HEND : Hid (∀ w3, Below W0.heap.size W0 w3 → FPost own w p F (noteP P d q) cf (N + 1) w3) := fun w3 hb3 => by
    rw [noteP_id hh]
    exact FPost.refl (Fin.more ⟨m1, m2, fv, pv, cp, h⟩ (Nat.le_succ N)) (hb0.trans (hb3.mono hb0.size))
  clear h hv hpl hown hk hd hb0 hbox hbox2 hI0 HPL0 hh
  go_enter Tryd.func45, Tryd.ntmps45
  go_wp2
  refine wp_region_noPanic ?_
  refine wp_region_held_drew (S := NS p m2 cp pv w.heap.size d) (by kernel_rfl) (NS0.out) (fun hS => ?_)
  refine wpAnyH_take (i := 0) (v := ?_) (by simp only [List.getElem?_toArray, List.getElem?_cons_zero]; rfl) (by kernel_rfl) (by kernel_rfl) (by kernel_rfl) (fun _ _ _ h => h) (Or.inl ⟨by rfl, ?_⟩) (by assumption) ?_
  rotate_left 1
  · intro w hSw
    have hc2 := hSw.cell2
    go_simp
    with_reducible rfl
  simp only [Act.put, List.setIfInBounds_toArray, List.set_cons_zero, List.set_cons_succ]
  refine wpAnyH_take (i := 1) (v := ?_) (by simp only [List.getElem?_toArray, List.getElem?_cons_zero, List.getElem?_cons_succ]; rfl) (by kernel_rfl) (by kernel_rfl) (by kernel_rfl) (fun _ _ _ h => h) (Or.inl ⟨by rfl, ?_⟩) (by assumption) ?_
  rotate_left 1
  · intro w hSw
    have hc2 := hSw.cell2
    go_simp
    with_reducible rfl
  simp only [Act.put, List.setIfInBounds_toArray, List.set_cons_zero, List.set_cons_succ]
  refine wpAnyH_take (i := 2) (v := ?_) (by simp only [List.getElem?_toArray, List.getElem?_cons_zero, List.getElem?_cons_succ]; rfl) (by kernel_rfl) (by kernel_rfl) (by kernel_rfl) (fun _ _ _ h => h) (Or.inl ⟨by rfl, ?_⟩) (by assumption) ?_
  rotate_left 1
  · intro w hSw
    have hc2 := hSw.cell2
    go_simp
    with_reducible rfl
  simp only [Act.put, List.setIfInBounds_toArray, List.set_cons_zero, List.set_cons_succ]
  refine wpAnyH_take (i := 3) (v := ?_) (by simp only [List.getElem?_toArray, List.getElem?_cons_zero, List.getElem?_cons_succ]; rfl) (by kernel_rfl) (by kernel_rfl) (by kernel_rfl) (fun _ _ _ h => h) (Or.inl ⟨by rfl, ?_⟩) (by assumption) ?_
  rotate_left 1
  · intro w hSw
    have hc2 := hSw.cell2
    go_simp
    with_reducible rfl
  simp only [Act.put, List.setIfInBounds_toArray, List.set_cons_zero, List.set_cons_succ]
  refine' wpAnyH_take (i := 4) (v := _) (by simp only [List.getElem?_toArray, List.getElem?_cons_zero, List.getElem?_cons_succ]; rfl) (by kernel_rfl) (by kernel_rfl) (by kernel_rfl) (fun _ _ _ h => h) (yields_load_h (by rfl) (.tmp 4) rfl w.heap.size 0 rfl d (fun w hS => load_h hS.box HD.out)) (by assumption) ?_
  simp only [Act.put, List.setIfInBounds_toArray, List.set_cons_zero, List.set_cons_succ]
  refine' wpAnyH_take (i := 5) (v := _) (by simp only [List.getElem?_toArray, List.getElem?_cons_zero, List.getElem?_cons_succ]; rfl) (by kernel_rfl) (by kernel_rfl) (by kernel_rfl) (fun _ _ _ h => h) (yields_look (by rfl) (.tmp 12) (.tmp 13) rfl (.map (some m2)) (.agg (hvec d)) v rfl rfl (fun w hS => hS.look HK.out HV.out)) (by assumption) ?_
  simp only [Act.put, List.setIfInBounds_toArray, List.set_cons_zero, List.set_cons_succ]
  refine wpAnyH_take (i := 6) (v := ?_) (by simp only [List.getElem?_toArray, List.getElem?_cons_zero, List.getElem?_cons_succ]; rfl) (by kernel_rfl) (by kernel_rfl) (by kernel_rfl) (fun _ _ _ h => h) (Or.inl ⟨by rfl, ?_⟩) (by assumption) ?_
  rotate_left 1
  · intro w hSw
    go_simp
    with_reducible rfl
  simp only [Act.put, List.setIfInBounds_toArray, List.set_cons_zero, List.set_cons_succ]
  refine wpAnyH_done (by kernel_rfl) ?_ _
  refine NoPanic.normal ?_
  generalize hWd : World.drew _ = wd
  obtain rfl : W0 = wd := HW0.out.symm.trans hWd
  clear hWd
  have cb1 := HCB.out
  go_wp2_with (go_at_call 58; refine HCP.out.mono ?_; rintro e3 w3 ⟨rfl, hb3⟩)
  go_end0
  exact ⟨rfl, HEND.out _ hb3⟩
set_option maxRecDepth 100000 in
set_option maxHeartbeats 8000000 in
theorem note_new {own : Nat → Prop} {w : World} {p : Nat} {F : By → Option By} {P : By → List Pl} {cf N : Nat} (h : Fin own w p F P cf N) (d : By) (hd : d.length = 32) (q : Pl) (hN : N ≤ 1000000) (hh : hasN (P d) q.1 = false) :
    Calls Tryd.prog 45 #[.pointer (some ⟨p, 0, none⟩), .agg (hvec d), .agg #[.string (ba q.1), .int .i64 (q.2 : Int)]] w fun e w' => e = .returned (.tuple #[]) ∧ FPost own w p F (noteP P d q) cf (N + 1) w' := by
  obtain ⟨m1, m2, fv, pv, cp, h⟩ := h
  obtain ⟨v, hv, hpl, hown⟩ := h.at_ d
  obtain ⟨kl, hk⟩ := hash_key d hd
  have HK := hid hk
  have HD := hid hd
  have HV := hid hv
  obtain ⟨W0, HW0⟩ : ∃ W0, Hid (((w.alloc (.cells (hvec d) 27)).alloc (.cells #[.string (ba q.1), .int .i64 (q.2 : Int)] 54)).drew = W0) := ⟨_, rfl⟩
  have hb0 : Below w.heap.size w W0 := by rw [← HW0.out]; exact (((Below.refl _ _).alloc (Nat.le_refl _) _).alloc (by simp) _).drew
  have hbox : Has W0 w.heap.size 27 (hvec d) := by rw [← HW0.out]; exact (Has.fresh w 27 (hvec d)).more _
  have hbox2 : Has W0 (w.heap.size + 1) 54 (pcell q).toArray := by rw [← HW0.out]; exact Has.fresh' (w.alloc _) 54 _ (by simp)
  have hI0 := h.kept hb0.size (fun g hg => hb0.block g (h.low g hg))
  have NS0 : Hid (NS p m2 cp pv w.heap.size d (((w.alloc (.cells (hvec d) 27)).alloc (.cells #[.string (ba q.1), .int .i64 (q.2 : Int)] 54)).drew)) := by
    rw [HW0.out]; exact ⟨⟨m1, hI0.has⟩, hI0.m2, hbox⟩
  have HCB : Hid (W0.cell? ⟨w.heap.size + 1, 0, none⟩ = some (.string (ba q.1))) := hbox2.at_ 0
  have HPL0 : Pls 0 W0 v (P d) := hpl.kept hb0 (Nat.le_refl _)
  have HCP := hid (placeOf_any 0 v (P d) (h.srt d) q.1 W0 HPL0 (by have := h.len d; omega))
  rw [hh] at HCP
  have HB0 := hid hb0
  have HI := hid h
  have HBX := hid hbox
  have HBX2 := hid hbox2
  have HPL := hid HPL0
  have HOWN := hid hown
  have HH := hid hh
  have HNN := hid hN
  have mixed : Tryd.prog.follows Departure.mixedOrders = true := by kernel_rfl
  clear h hv hpl hown hk hd hb0 hbox hbox2 hI0 HPL0 hh
  go_enter Tryd.func45, Tryd.ntmps45
  go_wp2
  refine wp_region_noPanic ?_
  refine wp_region_held_drew (S := NS p m2 cp pv w.heap.size d) (by kernel_rfl) (NS0.out) (fun hS => ?_)
  refine wpAnyH_take (i := 0) (v := ?_) (by simp only [List.getElem?_toArray, List.getElem?_cons_zero]; rfl) (by kernel_rfl) (by kernel_rfl) (by kernel_rfl) (fun _ _ _ h => h) (Or.inl ⟨by rfl, ?_⟩) (by assumption) ?_
  rotate_left 1
  · intro w hSw
    have hc2 := hSw.cell2
    go_simp
    with_reducible rfl
  simp only [Act.put, List.setIfInBounds_toArray, List.set_cons_zero, List.set_cons_succ]
  refine wpAnyH_take (i := 1) (v := ?_) (by simp only [List.getElem?_toArray, List.getElem?_cons_zero, List.getElem?_cons_succ]; rfl) (by kernel_rfl) (by kernel_rfl) (by kernel_rfl) (fun _ _ _ h => h) (Or.inl ⟨by rfl, ?_⟩) (by assumption) ?_
  rotate_left 1
  · intro w hSw
    have hc2 := hSw.cell2
    go_simp
    with_reducible rfl
  simp only [Act.put, List.setIfInBounds_toArray, List.set_cons_zero, List.set_cons_succ]
  refine wpAnyH_take (i := 2) (v := ?_) (by simp only [List.getElem?_toArray, List.getElem?_cons_zero, List.getElem?_cons_succ]; rfl) (by kernel_rfl) (by kernel_rfl) (by kernel_rfl) (fun _ _ _ h => h) (Or.inl ⟨by rfl, ?_⟩) (by assumption) ?_
  rotate_left 1
  · intro w hSw
    have hc2 := hSw.cell2
    go_simp
    with_reducible rfl
  simp only [Act.put, List.setIfInBounds_toArray, List.set_cons_zero, List.set_cons_succ]
  refine wpAnyH_take (i := 3) (v := ?_) (by simp only [List.getElem?_toArray, List.getElem?_cons_zero, List.getElem?_cons_succ]; rfl) (by kernel_rfl) (by kernel_rfl) (by kernel_rfl) (fun _ _ _ h => h) (Or.inl ⟨by rfl, ?_⟩) (by assumption) ?_
  rotate_left 1
  · intro w hSw
    have hc2 := hSw.cell2
    go_simp
    with_reducible rfl
  simp only [Act.put, List.setIfInBounds_toArray, List.set_cons_zero, List.set_cons_succ]
  refine' wpAnyH_take (i := 4) (v := _) (by simp only [List.getElem?_toArray, List.getElem?_cons_zero, List.getElem?_cons_succ]; rfl) (by kernel_rfl) (by kernel_rfl) (by kernel_rfl) (fun _ _ _ h => h) (yields_load_h (by rfl) (.tmp 4) rfl w.heap.size 0 rfl d (fun w hS => load_h hS.box HD.out)) (by assumption) ?_
  simp only [Act.put, List.setIfInBounds_toArray, List.set_cons_zero, List.set_cons_succ]
  refine' wpAnyH_take (i := 5) (v := _) (by simp only [List.getElem?_toArray, List.getElem?_cons_zero, List.getElem?_cons_succ]; rfl) (by kernel_rfl) (by kernel_rfl) (by kernel_rfl) (fun _ _ _ h => h) (yields_look (by rfl) (.tmp 12) (.tmp 13) rfl (.map (some m2)) (.agg (hvec d)) v rfl rfl (fun w hS => hS.look HK.out HV.out)) (by assumption) ?_
  simp only [Act.put, List.setIfInBounds_toArray, List.set_cons_zero, List.set_cons_succ]
  refine wpAnyH_take (i := 6) (v := ?_) (by simp only [List.getElem?_toArray, List.getElem?_cons_zero, List.getElem?_cons_succ]; rfl) (by kernel_rfl) (by kernel_rfl) (by kernel_rfl) (fun _ _ _ h => h) (Or.inl ⟨by rfl, ?_⟩) (by assumption) ?_
  rotate_left 1
  · intro w hSw
    go_simp
    with_reducible rfl
  simp only [Act.put, List.setIfInBounds_toArray, List.set_cons_zero, List.set_cons_succ]
  refine wpAnyH_done (by kernel_rfl) ?_ _
  refine NoPanic.normal ?_
  generalize hWd : World.drew _ = wd
  obtain rfl : W0 = wd := HW0.out.symm.trans hWd
  clear hWd
  have cb1 := HCB.out
  go_wp2_with (go_at_call 58; refine HCP.out.mono ?_; rintro e3 w3 ⟨rfl, hb3⟩)
  have hI3 := HI.out.kept (Nat.le_trans HB0.out.size hb3.size) (fun g hg => (hb3.block g (Nat.lt_of_lt_of_le (HI.out.low g hg) HB0.out.size)).trans (HB0.out.block g (HI.out.low g hg)))
  have NS3 : Hid (NS p m2 cp pv w.heap.size d w3.drew) := ⟨⟨m1, hI3.has⟩, hI3.m2, id (HBX.out.on hb3 : Has w3 w.heap.size 27 (hvec d))⟩
  have BX3 : Hid (Has w3 (w.heap.size + 1) 54 (pcell q).toArray) := HBX2.out.on hb3
  have PL3 : Hid (Pls 0 w3 v (P d)) := HPL.out.kept hb3 (Nat.le_refl _)
  have B3 : Hid (Below w.heap.size w w3) := HB0.out.trans (hb3.mono HB0.out.size)
  clear hb3 hI3
  refine wp_region_noPanic ?_
  refine wp_region_held_drew (S := BS p m2 w.heap.size d q) (by kernel_rfl) (⟨NS3.out.has, NS3.out.box, BX3.out⟩) (fun hS => ?_)
  refine wpAnyH_take (i := 0) (v := ?_) (by simp only [List.getElem?_toArray, List.getElem?_cons_zero]; rfl) (by kernel_rfl) (by kernel_rfl) (by kernel_rfl) (fun _ _ _ h => h) (Or.inl ⟨by rfl, ?_⟩) (by assumption) ?_
  rotate_left 1
  · intro w hSw
    have hc2 := hSw.cell2
    go_simp
    with_reducible rfl
  simp only [Act.put, List.setIfInBounds_toArray, List.set_cons_zero, List.set_cons_succ]
  refine wpAnyH_take (i := 1) (v := ?_) (by simp only [List.getElem?_toArray, List.getElem?_cons_zero, List.getElem?_cons_succ]; rfl) (by kernel_rfl) (by kernel_rfl) (by kernel_rfl) (fun _ _ _ h => h) (Or.inl ⟨by rfl, ?_⟩) (by assumption) ?_
  rotate_left 1
  · intro w hSw
    have hc2 := hSw.cell2
    go_simp
    with_reducible rfl
  simp only [Act.put, List.setIfInBounds_toArray, List.set_cons_zero, List.set_cons_succ]
  refine wpAnyH_take (i := 2) (v := ?_) (by simp only [List.getElem?_toArray, List.getElem?_cons_zero, List.getElem?_cons_succ]; rfl) (by kernel_rfl) (by kernel_rfl) (by kernel_rfl) (fun _ _ _ h => h) (Or.inl ⟨by rfl, ?_⟩) (by assumption) ?_
  rotate_left 1
  · intro w hSw
    have hc2 := hSw.cell2
    go_simp
    with_reducible rfl
  simp only [Act.put, List.setIfInBounds_toArray, List.set_cons_zero, List.set_cons_succ]
  refine wpAnyH_take (i := 3) (v := ?_) (by simp only [List.getElem?_toArray, List.getElem?_cons_zero, List.getElem?_cons_succ]; rfl) (by kernel_rfl) (by kernel_rfl) (by kernel_rfl) (fun _ _ _ h => h) (Or.inl ⟨by rfl, ?_⟩) (by assumption) ?_
  rotate_left 1
  · intro w hSw
    have hc2 := hSw.cell2
    go_simp
    with_reducible rfl
  simp only [Act.put, List.setIfInBounds_toArray, List.set_cons_zero, List.set_cons_succ]
  refine' wpAnyH_take (i := 4) (v := _) (by simp only [List.getElem?_toArray, List.getElem?_cons_zero, List.getElem?_cons_succ]; rfl) (by kernel_rfl) (by kernel_rfl) (by kernel_rfl) (fun _ _ _ h => h) (yields_load_h (by rfl) (.tmp 4) rfl w.heap.size 0 rfl d (fun w hS => load_h hS.box HD.out)) (by assumption) ?_
  simp only [Act.put, List.setIfInBounds_toArray, List.set_cons_zero, List.set_cons_succ]
  refine wpAnyH_take (i := 5) (v := ?_) (by simp only [List.getElem?_toArray, List.getElem?_cons_zero, List.getElem?_cons_succ]; rfl) (by kernel_rfl) (by kernel_rfl) (by kernel_rfl) (fun _ _ _ h => h) (Or.inl ⟨by rfl, ?_⟩) (by assumption) ?_
  rotate_left 1
  · intro w hSw
    go_simp
    with_reducible rfl
  simp only [Act.put, List.setIfInBounds_toArray, List.set_cons_zero, List.set_cons_succ]
  refine wpAnyH_take (i := 6) (v := ?_) (by simp only [List.getElem?_toArray, List.getElem?_cons_zero, List.getElem?_cons_succ]; rfl) (by kernel_rfl) (by kernel_rfl) (by kernel_rfl) (fun _ _ _ h => h) (Or.inl ⟨by rfl, ?_⟩) (by assumption) ?_
  rotate_left 1
  · intro w hSw
    go_simp
    with_reducible rfl
  simp only [Act.put, List.setIfInBounds_toArray, List.set_cons_zero, List.set_cons_succ]
  refine' wpAnyH_take (i := 7) (v := _) (by simp only [List.getElem?_toArray, List.getElem?_cons_zero, List.getElem?_cons_succ]; rfl) (by kernel_rfl) (by kernel_rfl) (by kernel_rfl) (fun _ _ _ h => h) (yields_load_pl (by rfl) (.tmp 5) rfl (w.heap.size + 1) 0 rfl (.agg (pcell q).toArray) (fun w hS => load_pl hS.box2)) (by assumption) ?_
  simp only [Act.put, List.setIfInBounds_toArray, List.set_cons_zero, List.set_cons_succ]
  refine wpAnyH_ready (rs := [8]) (by kernel_rfl) (by simp) ?_
  refine AllReadyH.cons (by simp only [List.getElem?_toArray, List.getElem?_cons_zero, List.getElem?_cons_succ]; rfl) (fun K hK => ?_) AllReadyH.nil
  refine step_build_pl (by rfl) (.tmp 31) rfl q rfl ?_
  have hbA : Below w3.heap.size w3 (w3.drew.alloc (.cells (pcell q).toArray 54)) := (Below.refl _ w3).drew.alloc (Nat.le_refl _) _
  obtain ⟨WA, hWA⟩ : ∃ WA, w3.drew.alloc (.cells (pcell q).toArray 54) = WA := ⟨_, rfl⟩
  have hgA : Has WA w3.heap.size 54 (pcell q).toArray := by rw [← hWA]; exact Has.fresh w3.drew 54 _
  obtain ⟨ga, hga⟩ : ∃ ga, w3.drew.heap.size = ga := ⟨_, rfl⟩
  rw [hWA] at hbA ⊢
  rw [hga]
  have hga2 : w3.heap.size = ga := hga
  rw [hga2] at hgA
  have hz1 : NS p m2 cp pv w.heap.size d WA ∧ Has WA (w.heap.size + 1) 54 (pcell q).toArray := ⟨NS3.out.kept (fun g hg => hbA.block g (by rcases hg with e | e | e; rw [e]; exact (NS3.out.has.choose_spec).inside; rw [e]; exact NS3.out.m2.inside; rw [e]; exact NS3.out.box.inside)), BX3.out.on hbA⟩
  have CI := hid (insert_any 0 v (P d) q (posOf (P d) q.1) ga WA (PL3.out.kept hbA (Nat.le_refl _)) hgA (fun e => by have := (PL3.out.lt ga e).2; omega) (posOf_le _ _) (by have := HI.out.len d; omega) (Nat.zero_le _))
  have BA : Hid (Below w.heap.size w WA) := B3.out.trans (hbA.mono B3.out.size)
  clear hbA hgA hWA hga hga2
  refine hK.out _ _ ⟨hz1.1.has, hz1.1.box, hz1.2⟩ (fun hS => ?_)
  clear hK K hS
  refine wpAnyH_ready (rs := [9]) (by kernel_rfl) (by simp) ?_
  refine AllReadyH.cons (by simp only [List.getElem?_toArray, List.getElem?_cons_zero, List.getElem?_cons_succ]; rfl) (fun K hK => ?_) AllReadyH.nil
  go_simp
  refine CI.out.mono ?_
  rintro e5 w5 ⟨v5, rfl, hp5, hg5, hv5⟩
  have hz2 : NS p m2 cp pv w.heap.size d w5 ∧ Has w5 (w.heap.size + 1) 54 (pcell q).toArray := note_mid HI.out HV.out HOWN.out B3.out.size BA.out hz1 hg5
  refine hK.out _ _ ⟨hz2.1.has, hz2.1.box, hz2.2⟩ (fun hS => ?_)
  clear hK K hS
  refine wpAnyH_ready (rs := [10]) (by kernel_rfl) (by simp) ?_
  refine AllReadyH.cons (by simp only [List.getElem?_toArray, List.getElem?_cons_zero, List.getElem?_cons_succ]; rfl) (fun K hK => ?_) AllReadyH.nil
  obtain ⟨w6, hr6, hm6, hg6⟩ := hz2.1.m2.store hash_keyed Tryd.underlying64 (by have := HI.out.cp; omega) (v := v5) HK.out
  refine step_update (by rfl) (.tmp 27) (.tmp 28) (.tmp 33) rfl (.map (some m2)) (.agg (hvec d)) v5 rfl rfl rfl hr6 ?_
  have hend := hid (note_end HI.out d q v v5 HH.out HV.out HOWN.out BA.out hg5 hp5 hv5 hg6 ⟨_, hm6, by have := HI.out.cp; split <;> omega⟩)
  refine hK.out _ _ ((BS.kept ⟨hz2.1.has, hz2.1.box, hz2.2⟩) hg6 HI.out) (fun hS => ?_)
  clear hK K hS
  refine wpAnyH_done (by kernel_rfl) ?_ _
  refine NoPanic.normal ?_
  go_wp2
  go_end0
  exact ⟨rfl, hend.out⟩
end Go.Proofs.YtlcdkponegmcdaaDoor
