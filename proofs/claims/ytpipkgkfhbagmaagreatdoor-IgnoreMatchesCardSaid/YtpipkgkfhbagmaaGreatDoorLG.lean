/- ignore: a line that includes a file (Parse's inner closure): what the call does. Conditions: as the state says. -/
import Derived.Test.YtpipkgkfhbagmaaGreatDoorLF
namespace Go.Proofs.YtpipkgkfhbagmaaGreatDoor.Glob
open Go.RowKit Go.Maps
/-- Behind an append to the files that are being read. -/
theorem tell_mid {x : Bx} {fs : Fl} {w0 W1 : World} {within : List By} {name : By} {v : Value} {nb ab : Nat} {ps : List By} {w W : World} (h : Ln x fs w0 W1 within name v nb ab ps w) (ho : Ar x.B W v within) (hg : w.grownBy W v.ownBlock) : Ln x fs w0 W1 within name v nb ab ps W := by
  have hf : Fr x.L x.D v.ownBlock w W := Fr.of_str h.ar hg
  exact ⟨h.env.fr hf, h.st.str h.ar hg, hf.str h.nbx h.ne, hf.has h.abx (by decide) (by decide) (by decide), ho, h.few, h.fr.tr hf, grown_below hg h.low (fun k hk => (own_inside h.ar k hk).1) h.size, h.ne⟩
/-- The row that was appended to, behind what was done to the longer one. -/
theorem Ar.back {L D B : Nat} {w W : World} {v v' : Value} {l : List By} {s : By} {N : Nat} (h1 : Ar B w v l) (h2 : Ar B w v' (l ++ [s])) (h3 : Ar B W v' (l ++ [s])) (hf : Fr L D v'.ownBlock w W) (hk : v'.ownBlock = v.ownBlock ∨ v'.ownBlock = some N) (hN : ∀ k, v.ownBlock = some k → k < N) : Ar B W v l := by
  rcases hk with hk | hk
  · refine ⟨h1.1, ?_⟩
    rcases h1.2 with h | ⟨g, c, cur, rfl, hB, a3, a4, a5, a6, a7⟩
    · exact .inl h
    · refine .inr ?_
      rcases h2.2 with ⟨rfl, _⟩ | ⟨g2, c2, cur2, rfl, hB2, b3, b4, b5, b6, b7⟩
      · cases hk
      · obtain rfl : g2 = g := Option.some.inj hk
        have e := Option.some.inj (a3.symm.trans b3)
        simp only [Obj.cells.injEq, and_true] at e
        subst e
        have hc : c2 = c := by omega
        subst hc
        rcases h3.2 with ⟨h, _⟩ | ⟨g3, c3, cur3, h, hB3, d3, d4, d5, d6, d7⟩
        · cases h
        · simp only [Value.slice.injEq, Option.some.injEq, Addr.mk.injEq, and_true, true_and] at h
          obtain ⟨rfl, rfl⟩ := h
          refine ⟨g2, c2, cur3, rfl, hB, d3, a4, a5, d6, ?_⟩
          have := congrArg (List.take (l.length * 1)) d7
          rw [List.take_take, Nat.min_eq_left (by simp), List.map_append, List.take_append_of_le_length (by simp), List.take_of_length_le (l := l.map strV) (by simp)] at this
          exact this
  · exact h1.fr hf (fun k hk2 e => by have := hN k hk2; rw [hk] at e; injection e with e; omega)
set_option maxRecDepth 100000 in
set_option maxHeartbeats 4000000 in
theorem tell_inc (x : Bx) (fs : Fl) (w0 W1 : World) (k : Nat) (hrd : ReadOk x fs w0 k) (within : List By) (name : By) (v : Value) (nb ab : Nat) (ps : List By) (s : By) (w : World) (h : Ln x fs w0 W1 within name v nb ab ps w) (hs : s.length ≤ 100000) (hp : pre incM s = true) (hk : within.length + 1 + k = 4) (hch : Chain fs (within ++ [name]) (s.drop 9)) :
    Calls Tryz.prog 15 #[.string (ba s), ptrV x.rb, ptrV ab, ptrV nb, ptrV x.lb] w fun e W =>
      Out (lineL (readL fs k (within ++ [name])) s ps) e (Fr x.L x.D v.ownBlock W1 W ∧ Below x.B w0 W) (fun qs => Ln x fs w0 W1 within name v nb ab qs W) := by
  have HL : Hid (lineL (readL fs k (within ++ [name])) s ps = readL fs k (within ++ [name]) (s.drop 9) ps) := by show _ = _; unfold lineL; rw [if_pos hp]
  have HH := hid h
  have HCP := hid (fun W => cut_any s incM W)
  rw [hp] at HCP
  have hcu : cutP incM s = s.drop 9 := by unfold cutP; rw [if_pos hp]; rfl
  rw [hcu] at HCP
  have HUL : Hid ((s.drop 9).length ≤ 1000000000000000) := by show _ ≤ _; rw [List.length_drop]; omega
  have HRD := hid hrd
  have HN4 : Hid (within.length ≤ 100000) := by show _ ≤ _; omega
  have HNK : Hid ((within ++ [name]).length + k = 4) := by show _ = _; rw [List.length_append, List.length_singleton]; exact hk
  have HCH := hid hch
  have HSZ := hid h.fr.1
  rw [HL.out]
  generalize s.drop 9 = u at HL HCP HUL HCH
  obtain ⟨g, HG⟩ : ∃ g, Hid (readL fs k (within ++ [name]) u ps = g) := ⟨_, rfl⟩
  rw [HG.out]
  obtain ⟨Av, cv, hv⟩ := own_form h.ar
  obtain ⟨nv, hnv⟩ : ∃ nv, within.length = nv := ⟨_, rfl⟩
  rw [hnv] at hv
  subst hv
  have c4 := h.env.l.at_ 0
  unfold ptrV at c4
  unfold ptrV
  clear h hp hs hk hch hcu hrd hnv
  go_enter Tryz.func15, Tryz.ntmps15
  go_wp2_with (fail)
  refine (HCP.out _).mono ?_
  rintro e1 w1 ⟨rfl, rfl⟩
  go_wp2_with (fail)
  refine wp_region_noPanic ?_
  refine wp_region_held_drew (S := fun U => Has U x.rb 42 #[readV x] ∧ Has U ab 23 #[.slice Av nv cv] ∧ Has U nb 9 #[.string (ba name)]) (by kernel_rfl) (⟨HH.out.env.r, HH.out.abx, HH.out.nbx⟩) (fun hS => ?_)
  refine wpAnyH_take (i := 0) (v := ?_) (by simp only [List.getElem?_toArray, List.getElem?_cons_zero]; rfl) (by kernel_rfl) (by kernel_rfl) (by kernel_rfl) (fun _ _ _ h => h) (Or.inl ⟨by rfl, ?_⟩) (by assumption) ?_
  rotate_left 1
  · intro w hSw
    have c1 := hSw.1.at_ 0
    have c2 := hSw.2.1.at_ 0
    have c3 := hSw.2.2.at_ 0
    unfold readV ptrV at c1
    go_simp
    with_reducible rfl
  simp only [Act.put, List.setIfInBounds_toArray, List.set_cons_zero, List.set_cons_succ]
  refine wpAnyH_take (i := 1) (v := ?_) (by simp only [List.getElem?_toArray, List.getElem?_cons_zero, List.getElem?_cons_succ]; rfl) (by kernel_rfl) (by kernel_rfl) (by kernel_rfl) (fun _ _ _ h => h) (Or.inl ⟨by rfl, ?_⟩) (by assumption) ?_
  rotate_left 1
  · intro w hSw
    have c1 := hSw.1.at_ 0
    have c2 := hSw.2.1.at_ 0
    have c3 := hSw.2.2.at_ 0
    unfold readV ptrV at c1
    go_simp
    with_reducible rfl
  simp only [Act.put, List.setIfInBounds_toArray, List.set_cons_zero, List.set_cons_succ]
  refine wpAnyH_take (i := 2) (v := ?_) (by simp only [List.getElem?_toArray, List.getElem?_cons_zero, List.getElem?_cons_succ]; rfl) (by kernel_rfl) (by kernel_rfl) (by kernel_rfl) (fun _ _ _ h => h) (Or.inl ⟨by rfl, ?_⟩) (by assumption) ?_
  rotate_left 1
  · intro w hSw
    have c1 := hSw.1.at_ 0
    have c2 := hSw.2.1.at_ 0
    have c3 := hSw.2.2.at_ 0
    unfold readV ptrV at c1
    go_simp
    with_reducible rfl
  simp only [Act.put, List.setIfInBounds_toArray, List.set_cons_zero, List.set_cons_succ]
  refine wpAnyH_take (i := 3) (v := ?_) (by simp only [List.getElem?_toArray, List.getElem?_cons_zero, List.getElem?_cons_succ]; rfl) (by kernel_rfl) (by kernel_rfl) (by kernel_rfl) (fun _ _ _ h => h) (Or.inl ⟨by rfl, ?_⟩) (by assumption) ?_
  rotate_left 1
  · intro w hSw
    have c1 := hSw.1.at_ 0
    have c2 := hSw.2.1.at_ 0
    have c3 := hSw.2.2.at_ 0
    unfold readV ptrV at c1
    go_simp
    with_reducible rfl
  simp only [Act.put, List.setIfInBounds_toArray, List.set_cons_zero, List.set_cons_succ]
  refine wpAnyH_ready (rs := [4]) (by kernel_rfl) (by simp) ?_
  refine AllReadyH.cons (by simp only [List.getElem?_toArray, List.getElem?_cons_zero, List.getElem?_cons_succ]; rfl) (fun K hK => ?_) (AllReadyH.nil)
  refine step_build1 (by rfl) (.tmp 18) rfl (ba name) rfl ?_
  generalize hWb : World.alloc _ _ = Wb
  have BB : Hid (Below w.heap.size w Wb) := by rw [← hWb]; exact ((Below.refl _ _).drew).alloc (Nat.le_refl _) _
  have HNG : Hid (Has Wb w.drew.heap.size 9 #[.string (ba name)]) := by rw [← hWb]; exact Has.fresh w.drew 9 _
  clear hWb
  have HHb := hid (HH.out.below BB.out)
  refine hK.out _ _ ⟨HHb.out.env.r, HHb.out.abx, HHb.out.nbx⟩ (fun hS => ?_)
  clear hK K hS
  obtain ⟨v', w5, hr5, ha5, ho5, hg5, hk5⟩ := append_str HHb.out.ar HNG.out HN4.out HHb.out.size 23
  have HR5 := hid hr5
  have H5 : Hid (Ar x.B w5 v' (within ++ [name]) ∧ Ar x.B w5 (.slice Av nv cv) within ∧ Wb.grownBy w5 (Value.slice Av nv cv).ownBlock ∧ (v'.ownBlock = (Value.slice Av nv cv).ownBlock ∨ v'.ownBlock = some Wb.heap.size)) := ⟨ha5, ho5, hg5, hk5⟩
  obtain ⟨A5, c5, hv5⟩ := own_form ha5
  obtain ⟨n5, hn5⟩ : ∃ n5, (within ++ [name]).length = n5 := ⟨_, rfl⟩
  rw [hn5] at hv5
  subst hv5
  clear hr5 ha5 ho5 hg5 hk5 hn5
  have HS5 := hid (tell_mid HHb.out H5.out.2.1 H5.out.2.2.1)
  refine wpAnyH_ready (rs := [5]) (by kernel_rfl) (by simp) ?_
  refine AllReadyH.cons (by simp only [List.getElem?_toArray, List.getElem?_cons_zero, List.getElem?_cons_succ]; rfl) (fun K hK => ?_) (AllReadyH.nil)
  refine step_append_run rfl (.tmp 17) (.tmp 19) 23 23 rfl (.slice Av nv cv) (.slice (some ⟨w.drew.heap.size, 0, none⟩) 1 1) rfl rfl HR5.out ?_
  refine hK.out _ _ ⟨HS5.out.env.r, HS5.out.abx, HS5.out.nbx⟩ (fun hS => ?_)
  clear hK K hS
  have HCR := hid (HRD.out (within ++ [name]) u ps _ w5 HNK.out HUL.out HS5.out.env HS5.out.st H5.out.1 HCH.out HS5.out.few HS5.out.low)
  rw [HG.out] at HCR
  unfold ptrV at HCR
  refine wpAnyH_ready (rs := [6]) (by kernel_rfl) (by simp) ?_
  refine AllReadyH.cons (by simp only [List.getElem?_toArray, List.getElem?_cons_zero, List.getElem?_cons_succ]; rfl) (fun K hK => ?_) (AllReadyH.nil)
  go_simp
  refine HCR.out.mono ?_
  intro e6 w6 h6
  obtain ⟨h6, hf6, hb6⟩ := h6
  have HNB6 : Hid (Has w6 nb 9 #[.string (ba name)]) := hf6.str HS5.out.nbx (fun e => H5.out.2.2.2.elim (fun h => HH.out.ne (e.trans h)) (fun h => absurd (Option.some.inj (e.trans h)) (Nat.ne_of_lt HHb.out.nbx.inside)))
  have HAB6 : Hid (Has w6 ab 23 #[.slice Av nv cv]) := hf6.has HS5.out.abx (by decide) (by decide) (by decide)
  have HE6 := hid (HS5.out.env.fr hf6)
  have HF6 : Hid (Fr x.L x.D (Value.slice Av nv cv).ownBlock W1 w6) := HS5.out.fr.trans hf6 (fun j hj e => H5.out.2.2.2.elim (fun h => e.trans h) (fun h => absurd (Option.some.inj (e.trans h)) (by have := HHb.out.fr.1; omega)))
  have HF7 := hid hf6
  have HB6 := hid hb6
  have hS6 := hid h6
  clear hf6 hb6
  cases g with
  | error c =>
    obtain ⟨rfl, hc, _⟩ := h6.of_err
    have HC := hid hc
    clear h6 hS6 hc
    have hz6 : Has w6 x.rb 42 #[readV x] ∧ Has w6 ab 23 #[.slice Av nv cv] ∧ Has w6 nb 9 #[.string (ba name)] := ⟨HE6.out.r, HAB6.out, HNB6.out⟩
    refine hK.out _ _ hz6 (fun hS => ?_)
    clear hK K hS
    refine wpAnyH_take (i := 7) (v := ?_) (by simp only [List.getElem?_toArray, List.getElem?_cons_zero, List.getElem?_cons_succ]; rfl) (by kernel_rfl) (by kernel_rfl) (by kernel_rfl) (fun _ _ _ h => h) (Or.inl ⟨by rfl, ?_⟩) (by assumption) ?_
    rotate_left 1
    · intro w hSw
      go_simp
      with_reducible rfl
    simp only [Act.put, List.setIfInBounds_toArray, List.set_cons_zero, List.set_cons_succ]
    refine wpAnyH_done (by kernel_rfl) ?_ _
    refine NoPanic.normal ?_
    go_wp2
    go_ret
    exact Out.err rfl rfl HC.out ⟨HF6.out, HB6.out⟩
  | ok rs =>
    obtain ⟨rfl, hst, har⟩ := h6.of_ok
    have HST := hid hst
    have HAR := hid har
    clear h6 hS6 hst har
    have hz6 : Has w6 x.rb 42 #[readV x] ∧ Has w6 ab 23 #[.slice Av nv cv] ∧ Has w6 nb 9 #[.string (ba name)] := ⟨HE6.out.r, HAB6.out, HNB6.out⟩
    refine hK.out _ _ hz6 (fun hS => ?_)
    clear hK K hS
    refine wpAnyH_take (i := 7) (v := ?_) (by simp only [List.getElem?_toArray, List.getElem?_cons_zero, List.getElem?_cons_succ]; rfl) (by kernel_rfl) (by kernel_rfl) (by kernel_rfl) (fun _ _ _ h => h) (Or.inl ⟨by rfl, ?_⟩) (by assumption) ?_
    rotate_left 1
    · intro w hSw
      go_simp
      with_reducible rfl
    simp only [Act.put, List.setIfInBounds_toArray, List.set_cons_zero, List.set_cons_succ]
    refine wpAnyH_done (by kernel_rfl) ?_ _
    refine NoPanic.normal ?_
    go_wp2
    go_ret
    exact Out.ok rfl rfl ⟨HE6.out, HST.out, HNB6.out, HAB6.out, H5.out.2.1.back H5.out.1 HAR.out HF7.out H5.out.2.2.2 (fun k hk => (own_inside HHb.out.ar k hk).2), readL_64 _ _ _ _ _ _ HG.out HH.out.few, HF6.out, HB6.out, HH.out.ne⟩
end Go.Proofs.YtpipkgkfhbagmaaGreatDoor.Glob
