/- The law IgnoreParses: its walk. Conditions: a world in shape. -/
import Derived.Test.YtpipkgkfhbagmaaDoorLL
import Derived.Test.YtpipkgkfhbagmaaDoorMB
import Derived.Test.YtpipkgkfhbagmaaDoorLS
namespace Go.Proofs.YtpipkgkfhbagmaaDoor.Glob
open Go.RowKit Go.Maps
set_option maxRecDepth 100000 in
set_option maxHeartbeats 1000000 in
theorem same_any (B B' : Nat) (v v' : Value) (l : List By) (w : World) (h : Ar B w v l) (h' : Ar B' w v' l) (hn : l.length ≤ 1000) :
    Calls Tryd.prog 14 #[v, v'] w fun e w' => e = .returned (.bool true) ∧ Below w.heap.size w w' := by
  have HA := hid h
  have HA' := hid h'
  obtain ⟨A, c, hv⟩ := own_form h
  obtain ⟨A', c', hv'⟩ := own_form h'
  obtain ⟨n, hnl⟩ : ∃ n, l.length = n := ⟨_, rfl⟩
  have HNL := hid hnl
  rw [hnl] at hv hv' hn
  subst hv hv'
  have hnn : ((n : Int) == (n : Int)) = true := by simp
  have hnn2 : ((n : Int) != (n : Int)) = false := by simp
  clear h h' hnl
  go_enter Tryd.func14, Tryd.ntmps14
  go_wp2
  go_loopw [5] (fun i wr => ∃ k : Nat, i = .int .i64 (k : Int) ∧ k ≤ n ∧ Hid (Below w.heap.size w wr))
    (fun i _ => n - (intOf i).toNat)
  case atStart => exact ⟨0, rfl, Nat.zero_le _, Below.refl _ _⟩
  case round =>
    obtain ⟨k, rfl, hk, HB⟩ := hrel
    by_cases hlt : k < n
    · have hlt2 : k < l.length := by rw [HNL.out]; exact hlt
      obtain ⟨g, cp, hge, hg, hcell⟩ := Ar.at_ (own_below HA.out HB.out) (by omega)
      obtain ⟨g', cp', hge', hg', hcell'⟩ := Ar.at_ (own_below HA'.out HB.out) (by omega)
      rw [HNL.out] at hge hge'
      simp only [Value.slice.injEq, true_and] at hge hge'
      obtain ⟨rfl, rfl⟩ := hge
      obtain ⟨rfl, rfl⟩ := hge'
      have C0 := hid (hcell k hlt2)
      have C1 := hid (hcell' k hlt2)
      have hki : (k : Int) < (n : Int) := by omega
      generalize ba l[k] = X at C0 C1
      clear hcell hcell' hlt2 hlt hg hg'
      go_wp2_with (fail)
      refine wp_region_noPanic ?_
      refine wp_region_held_drew (S := fun U => U.cell? ⟨g, k, none⟩ = some (.string X) ∧ U.cell? ⟨g', k, none⟩ = some (.string X)) (by kernel_rfl) ((show wr.drew.cell? _ = _ ∧ wr.drew.cell? _ = _ from ⟨C0.out, C1.out⟩)) (fun hS => ?_)
      refine wpAnyH_take (i := 0) (v := ?_) (by simp only [List.getElem?_toArray, List.getElem?_cons_zero]; rfl) (by kernel_rfl) (by kernel_rfl) (by kernel_rfl) (fun _ _ _ h => h) (Or.inl ⟨by rfl, ?_⟩) (by assumption) ?_
      rotate_left 1
      · intro w hSw
        have d0 := hSw.1
        have d1 := hSw.2
        go_simp
        with_reducible rfl
      simp only [Act.put, List.setIfInBounds_toArray, List.set_cons_zero, List.set_cons_succ]
      refine wpAnyH_take (i := 1) (v := ?_) (by simp only [List.getElem?_toArray, List.getElem?_cons_zero, List.getElem?_cons_succ]; rfl) (by kernel_rfl) (by kernel_rfl) (by kernel_rfl) (fun _ _ _ h => h) (Or.inl ⟨by rfl, ?_⟩) (by assumption) ?_
      rotate_left 1
      · intro w hSw
        have d0 := hSw.1
        have d1 := hSw.2
        go_simp
        with_reducible rfl
      simp only [Act.put, List.setIfInBounds_toArray, List.set_cons_zero, List.set_cons_succ]
      refine wpAnyH_take (i := 2) (v := ?_) (by simp only [List.getElem?_toArray, List.getElem?_cons_zero, List.getElem?_cons_succ]; rfl) (by kernel_rfl) (by kernel_rfl) (by kernel_rfl) (fun _ _ _ h => h) (Or.inl ⟨by rfl, ?_⟩) (by assumption) ?_
      rotate_left 1
      · intro w hSw
        have d0 := hSw.1
        have d1 := hSw.2
        go_simp
        with_reducible rfl
      simp only [Act.put, List.setIfInBounds_toArray, List.set_cons_zero, List.set_cons_succ]
      refine wpAnyH_take (i := 3) (v := ?_) (by simp only [List.getElem?_toArray, List.getElem?_cons_zero, List.getElem?_cons_succ]; rfl) (by kernel_rfl) (by kernel_rfl) (by kernel_rfl) (fun _ _ _ h => h) (Or.inl ⟨by rfl, ?_⟩) (by assumption) ?_
      rotate_left 1
      · intro w hSw
        have d0 := hSw.1
        have d1 := hSw.2
        go_simp
        with_reducible rfl
      simp only [Act.put, List.setIfInBounds_toArray, List.set_cons_zero, List.set_cons_succ]
      refine wpAnyH_take (i := 4) (v := ?_) (by simp only [List.getElem?_toArray, List.getElem?_cons_zero, List.getElem?_cons_succ]; rfl) (by kernel_rfl) (by kernel_rfl) (by kernel_rfl) (fun _ _ _ h => h) (Or.inl ⟨by rfl, ?_⟩) (by assumption) ?_
      rotate_left 1
      · intro w hSw
        have d0 := hSw.1
        have d1 := hSw.2
        go_simp
        with_reducible rfl
      simp only [Act.put, List.setIfInBounds_toArray, List.set_cons_zero, List.set_cons_succ]
      refine wpAnyH_take (i := 5) (v := ?_) (by simp only [List.getElem?_toArray, List.getElem?_cons_zero, List.getElem?_cons_succ]; rfl) (by kernel_rfl) (by kernel_rfl) (by kernel_rfl) (fun _ _ _ h => h) (Or.inl ⟨by rfl, ?_⟩) (by assumption) ?_
      rotate_left 1
      · intro w hSw
        have d0 := hSw.1
        have d1 := hSw.2
        go_simp
        with_reducible rfl
      simp only [Act.put, List.setIfInBounds_toArray, List.set_cons_zero, List.set_cons_succ]
      refine wpAnyH_take (i := 6) (v := ?_) (by simp only [List.getElem?_toArray, List.getElem?_cons_zero, List.getElem?_cons_succ]; rfl) (by kernel_rfl) (by kernel_rfl) (by kernel_rfl) (fun _ _ _ h => h) (Or.inl ⟨by rfl, ?_⟩) (by assumption) ?_
      rotate_left 1
      · intro w hSw
        have d0 := hSw.1
        have d1 := hSw.2
        go_simp
        with_reducible rfl
      simp only [Act.put, List.setIfInBounds_toArray, List.set_cons_zero, List.set_cons_succ]
      refine wpAnyH_take (i := 7) (v := ?_) (by simp only [List.getElem?_toArray, List.getElem?_cons_zero, List.getElem?_cons_succ]; rfl) (by kernel_rfl) (by kernel_rfl) (by kernel_rfl) (fun _ _ _ h => h) (Or.inl ⟨by rfl, ?_⟩) (by assumption) ?_
      rotate_left 1
      · intro w hSw
        have d0 := hSw.1
        have d1 := hSw.2
        go_simp
        with_reducible rfl
      simp only [Act.put, List.setIfInBounds_toArray, List.set_cons_zero, List.set_cons_succ]
      refine wpAnyH_take (i := 8) (v := ?_) (by simp only [List.getElem?_toArray, List.getElem?_cons_zero, List.getElem?_cons_succ]; rfl) (by kernel_rfl) (by kernel_rfl) (by kernel_rfl) (fun _ _ _ h => h) (Or.inl ⟨by rfl, ?_⟩) (by assumption) ?_
      rotate_left 1
      · intro w hSw
        have d0 := hSw.1
        have d1 := hSw.2
        go_simp
        with_reducible rfl
      simp only [Act.put, List.setIfInBounds_toArray, List.set_cons_zero, List.set_cons_succ]
      refine wpAnyH_done (by kernel_rfl) ?_ _
      refine NoPanic.normal ?_
      go_wp2
      exact ⟨⟨k + 1, by go_num, by omega, HB.out.drew⟩, by simp [intOf]; omega⟩
    · have hki : ¬ ((k : Int) < (n : Int)) := by omega
      clear hlt
      go_wp2
      go_ret
      exact ⟨rfl, HB.out⟩
set_option maxRecDepth 100000 in
set_option maxHeartbeats 4000000 in
theorem iparses_any (v0 : Value) (fs : Fl) (name : By) (w : World) (hG : Gd w) (hf : FilesIn w v0 fs) (hn : name.length ≤ 1000000000000000) :
    Calls Tryd.prog 3 #[v0, .string (ba name)] w fun e w' => e = .returned (.bool true) ∧ Below w.heap.size w w' := by
  have HG := hid hG
  obtain ⟨A0, n0, cp0, bb0, off0, rfl, hfa, hn0⟩ := hf
  have HFW := hid (fun W (hb : Below w.heap.size w W) => few_any A0 n0 cp0 bb0 off0 fs W (hfa.stays hb) hn0)
  have HPA := hid (fun W v (hb : Below w.heap.size w W) (h : FilesIs W v (fewL fs)) => iparse_any (fewL fs) name v W (hG.kept hb) h (by have := fewL_len fs; omega) (fewL_name fs) (fewL_text fs) hn)
  have HPR := hid (fun W v (h : FilesIs W v (fewL fs)) => rparse8_any (fewL fs) name v W h (by have := fewL_len fs; omega) (fewL_text fs))
  have HWK := hid (fun W (h : Below w.heap.size w W) => works_any W (hG.kept h))
  obtain ⟨nf, hnf⟩ : ∃ nf, (fewL fs).length = nf := ⟨_, rfl⟩
  have HNF := hid hnf
  clear hG hfa hn0 hn hnf
  go_enter Tryd.func3, Tryd.ntmps3
  go_wp2_with (fail)
  refine (HFW.out w (Below.refl _ _)).mono ?_
  rintro e1 w1 ⟨⟨vf, rfl, hvf⟩, hb1⟩
  have HB1 := hid hb1
  have HCP := hid (HPA.out w1 vf hb1 hvf)
  obtain ⟨Af, cf, hvfe⟩ := hvf.form
  rw [HNF.out] at hvfe
  subst hvfe
  clear hb1 hvf
  go_wp2_with (fail)
  refine HCP.out.mono ?_
  rintro e2 w2 ⟨h2, hb2⟩
  have HB2 : Hid (Below w.heap.size w w2) := HB1.out.thenG hb2
  unfold ParseOut at h2
  clear hb2
  cases gr : readL (fewL fs) 4 [] name [] with
  | error c =>
    rw [gr] at h2
    obtain ⟨rfl, hc⟩ := h2
    have hcz : (c == 0) = false := by simp [hc]
    have hcn : (c != 0) = true := by simp [hc]
    have hcc : (c == c) = true := by simp
    have hcc2 : (c != c) = false := by simp
    have HGR := hid gr
    clear hc gr
    go_wp2_with (fail)
    refine (HFW.out w2 HB2.out).mono ?_
    rintro e3 w3 ⟨⟨vg, rfl, hvg⟩, hb3⟩
    have HB3 := hid (HB2.out.thenG hb3)
    have HCR := hid (HPR.out w3 vg hvg)
    obtain ⟨Ag, cg, hvge⟩ := hvg.form
    rw [HNF.out] at hvge
    subst hvge
    clear hb3 hvg
    go_wp2_with (fail)
    refine HCR.out.mono ?_
    rintro e4 w4 ⟨h4, hb4⟩
    unfold ParseOutR at h4
    rw [HGR.out] at h4
    obtain ⟨rfl, _⟩ := h4
    have HB4 := hid (HB3.out.thenG hb4)
    have HW4 := hid (HWK.out w4 HB4.out)
    clear hb4
    go_wp2_with (go_at_call 12; refine HW4.out.mono ?_; rintro e5 w5 ⟨rfl, hb5⟩)
    go_ret
    exact ⟨rfl, HB4.out.thenG hb5⟩
  | ok qs =>
    rw [gr] at h2
    obtain ⟨L, rfl, _, hL, hlen⟩ := h2
    have HL := hid hL
    have HLEN := hid hlen
    have HGR := hid gr
    unfold ptrV
    clear gr hL hlen
    go_wp2_with (fail)
    refine (HFW.out w2 HB2.out).mono ?_
    rintro e3 w3 ⟨⟨vg, rfl, hvg⟩, hb3⟩
    have HB23 := hid hb3
    have HB3 := hid (HB2.out.thenG hb3)
    have HCR := hid (HPR.out w3 vg hvg)
    obtain ⟨Ag, cg, hvge⟩ := hvg.form
    rw [HNF.out] at hvge
    subst hvge
    clear hb3 hvg
    go_wp2_with (fail)
    refine HCR.out.mono ?_
    rintro e4 w4 ⟨h4, hb4⟩
    unfold ParseOutR at h4
    rw [HGR.out] at h4
    obtain ⟨r, rfl, har⟩ := h4
    have HB4 := hid (HB3.out.thenG hb4)
    have HL4 := hid (HL.out.below (HB23.out.thenG hb4))
    obtain ⟨nq, hnq⟩ : ∃ nq, qs.length = nq := ⟨_, rfl⟩
    have HLE := hid (len_any _ L qs w4 HL4.out)
    have HLI := hid (ilines_any _ L qs w4 HL4.out HLEN.out)
    have HAR := hid har
    obtain ⟨Ar2, cr2, hre⟩ := own_form har
    rw [hnq] at hre HLE
    subst hre
    have hqq : ((nq : Int) == (nq : Int)) = true := by simp
    have HNQ := hid hnq
    unfold ptrV at HLE HLI
    clear hb4 har hnq
    go_wp2_with (fail)
    refine HLE.out.mono ?_
    rintro e5 w5 ⟨rfl, rfl⟩
    go_wp2_with (fail)
    refine HLI.out.mono ?_
    rintro e6 w6 ⟨⟨vl, rfl, hvl⟩, hb6⟩
    have HB6 := hid (HB4.out.thenG hb6)
    have HSM := hid (same_any _ _ _ _ qs w6 hvl (own_below HAR.out hb6) (by have := HLEN.out; omega))
    obtain ⟨Al, cl, hvle⟩ := own_form hvl
    rw [HNQ.out] at hvle
    subst hvle
    clear hb6 hvl
    go_wp2_with (fail)
    refine HSM.out.mono ?_
    rintro e7 w7 ⟨rfl, hb7⟩
    have HB7 := hid (HB6.out.thenG hb7)
    have HW7 := hid (HWK.out w7 HB7.out)
    clear hb7
    go_wp2_with (go_at_call 12; refine HW7.out.mono ?_; rintro e8 w8 ⟨rfl, hb8⟩)
    go_ret
    exact ⟨rfl, HB7.out.thenG hb8⟩
theorem iparses_law (v0 : Value) (fs : Fl) (name : ByteArray) (w : World) (hG : Gd w) (hf : FilesIn w v0 fs) (hn : name.size ≤ 140737488355328) :
    Calls Tryd.prog 3 #[v0, .string name] w fun e w' => e = .returned (.bool true) ∧ Below w.heap.size w w' := by
  have := iparses_any v0 fs (tl name) w hG hf (by rw [tl_length]; omega)
  rw [ba_tl] at this; exact this
end Go.Proofs.YtpipkgkfhbagmaaDoor.Glob
