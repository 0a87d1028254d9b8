/- Several texts in one: MD, ME. Conditions: those said at each. -/
import Derived.Test.YtpipkgkfhbagmaaGreatDoorMB
import Derived.Test.YtpipkgkfhbagmaaGreatDoorKH
import Derived.Test.YtpipkgkfhbagmaaGreatDoorPZ
import Derived.Test.YtpipkgkfhbagmaaGreatDoorLQ
import Derived.Test.YtpipkgkfhbagmaaGreatDoorLS
/- The document's files of patterns: Match: what the call does. Conditions: at most 64 patterns, a path of at most 4000 bytes. -/
namespace Go.Proofs.YtpipkgkfhbagmaaGreatDoor.Glob
open Go.RowKit Go.Maps
theorem perr_zero {s : By} (h : perr s = 0) : ¬ 128 < s.length ∧ ∃ p, parseL s = some p := by
  unfold perr at h
  by_cases hl : 128 < s.length
  · rw [if_pos hl] at h; cases h
  · rw [if_neg hl] at h
    cases hp : parseL s with
    | none => rw [hp] at h; cases h
    | some p => exact ⟨hl, p, rfl⟩
theorem stepL_perr {rd : By → List By → Except Int (List By)} (h : ∀ y ps qs, rd y ps = .ok qs → (∀ s ∈ ps, perr s = 0) → ∀ s ∈ qs, perr s = 0) : ∀ ls ps qs, stepL rd ls ps = .ok qs → (∀ s ∈ ps, perr s = 0) → ∀ s ∈ qs, perr s = 0 := by
  intro ls
  induction ls with
  | nil => intro ps qs hq hp; simp only [stepL, Except.ok.injEq] at hq; rw [← hq]; exact hp
  | cons s ls ih =>
    intro ps qs hq hp
    unfold stepL at hq
    split at hq
    · cases h1 : rd (s.drop 9) ps with
      | error e => rw [h1] at hq; cases hq
      | ok rs => rw [h1] at hq; exact ih _ _ hq (h _ _ _ h1 hp)
    · split at hq
      · cases hq
      · split at hq
        · cases hq
        · rename_i he
          refine ih _ _ hq fun t ht => ?_
          rcases List.mem_append.1 ht with ht | ht
          · exact hp t ht
          · obtain rfl := List.mem_singleton.1 ht
            exact Classical.not_not.1 he
theorem readL_perr (fs : Fl) (k : Nat) : ∀ within name ps qs, readL fs k within name ps = .ok qs → (∀ s ∈ ps, perr s = 0) → ∀ s ∈ qs, perr s = 0 := by
  induction k with
  | zero =>
    intro within name ps qs h
    unfold readL at h
    split at h
    · cases h
    · split at h <;> cases h
  | succ k ih =>
    intro within name ps qs h
    unfold readL at h
    cases hf : findF fs name with
    | none => rw [hf] at h; cases h
    | some t =>
      rw [hf] at h
      simp only at h
      split at h
      · cases h
      · exact stepL_perr (fun y ps qs => ih _ y ps qs) _ _ _ h
theorem elemL_sets {s t : By} {neg : Bool} {rs : List Rg} (h : elemL s = some (.set neg rs, t)) : rs.length ≤ s.length := by
  unfold elemL at h
  split at h
  · simp at h
  split at h
  · simp at h
  split at h
  · simp at h
  split at h
  · split at h
    · cases h
    · rename_i rs' r1 hc
      simp only [Option.some.injEq, Prod.mk.injEq, El.set.injEq] at h
      have := (clsF_len _ _ _ _ _ hc).2
      have h3 : (if pre [33] (s.drop 1) = true then (s.drop 1).drop 1 else s.drop 1).length ≤ s.length := by split <;> simp <;> omega
      rw [← h.1.2]
      simp only [List.length_nil] at this
      omega
  · split at h
    · cases h
    · simp at h
theorem elemsF_sets (n : Nat) : ∀ s acc l, elemsF n s acc = some l → s.length ≤ 128 → (∀ neg rs, El.set neg rs ∈ acc → rs.length ≤ 1000) → ∀ neg rs, El.set neg rs ∈ l → rs.length ≤ 1000 := by
  induction n with
  | zero =>
    intro s acc l h hs ha
    unfold elemsF at h
    split at h
    · split at h
      · cases h
      · simp only [Option.some.injEq] at h; subst h; exact ha
    · cases h
  | succ n ih =>
    intro s acc l h hs ha
    unfold elemsF at h
    split at h
    · split at h
      · cases h
      · simp only [Option.some.injEq] at h; subst h; exact ha
    · rename_i h0
      split at h
      · cases h
      · rename_i e t he
        have hl := elemL_len (by rintro rfl; exact h0 rfl) he
        refine ih t _ l h (by omega) fun neg rs hm => ?_
        rcases List.mem_append.1 hm with hm | hm
        · exact ha neg rs hm
        · simp only [List.mem_singleton] at hm
          subst hm
          have := elemL_sets he
          omega
theorem parse_sets {s : By} {p : Pt} (hl : ¬ 128 < s.length) (h : parseL s = some p) : ∀ neg rs, El.set neg rs ∈ p.els → rs.length ≤ 1000 := by
  unfold parseL at h
  split at h
  · cases h
  · rename_i m t hm
    split at h
    · cases h
    · rename_i l hq
      simp only [Option.some.injEq] at h
      subst h
      have h1 := marksF_len _ _ _ _ _ hm
      have h3 : (if pre [47] t = true then t.drop 1 else t).length ≤ t.length := by split <;> simp
      exact elemsF_sets _ _ _ _ hq (by omega) (fun neg rs hm => by cases hm)
theorem take_any {l : List By} {k : Nat} {f : By → Bool} (hk : k < l.length) (h : (l.take k).any f = false) (hx : f l[k] = false) : (l.take (k + 1)).any f = false := by
  rw [List.take_succ_eq_append_getElem hk, List.any_append, h]
  simp [hx]
set_option maxRecDepth 100000 in
set_option maxHeartbeats 4000000 in
theorem rmatch8_any (B : Nat) (v : Value) (qs : List By) (path : By) (w : World) (h : Ar B w v qs) (hn : qs.length ≤ 64) (hok : ∀ s ∈ qs, perr s = 0) (hp : path.length ≤ 4000) :
    Calls Tryz.prog 8 #[v, .string (ba path)] w fun e w' => e = .returned (.tuple #[.bool (matL qs path).1, .bool (matL qs path).2]) ∧ Below w.heap.size w w' := by
  have HMAY := hid (rmay_any (ba path) w (by rw [ba_size]; exact hp))
  have HA := hid h
  have HOK := hid hok
  obtain ⟨A, c, hv⟩ := own_form h
  obtain ⟨n, hnl⟩ : ∃ n, qs.length = n := ⟨_, rfl⟩
  have HNL := hid hnl
  rw [hnl] at hv hn
  subst hv
  cases hm : mayB path with
  | false =>
    have HR : Hid (matL qs path = (false, false)) := by show _ = _; unfold matL; rw [if_neg (by rw [hm]; decide)]
    have hmm : mayB (tl (ba path)) = false := hm
    rw [hmm] at HMAY
    rw [HR.out]
    clear h hok hp hm hmm hnl
    go_enter Tryz.func8, Tryz.ntmps8
    go_wp2_with (go_at_call 25; refine HMAY.out.mono ?_; rintro e1 w1 ⟨rfl, hb1⟩)
    go_ret2
    exact ⟨rfl, hb1⟩
  | true =>
    have HR : Hid (matL qs path = match hitL path qs with | none => (false, false) | some s => if negM s then (false, false) else (true, delM s)) := by show _ = _; unfold matL; rw [if_pos hm]; cases hitL path qs <;> rfl
    have hmm : mayB (tl (ba path)) = true := hm
    rw [hmm] at HMAY
    obtain ⟨r, HRR⟩ : ∃ r, Hid (matL qs path = r) := ⟨_, rfl⟩
    rw [HRR.out]
    rw [HRR.out] at HR
    clear h hok hp hm hmm hnl
    go_enter Tryz.func8, Tryz.ntmps8
    go_wp2_with (fail)
    refine HMAY.out.mono ?_
    rintro e1 w1 ⟨rfl, hb1⟩
    have HB1 := hid hb1
    clear hb1
    go_wp2_with (fail)
    go_loopw [6] (fun v wr => ∃ j : Nat, v = .int .i64 (j : Int) ∧ j ≤ n ∧ Hid ((qs.take j).any (fun s => ofM s path) = false) ∧ Hid (Below w.heap.size w wr))
      (fun v _ => n - (intOf v).toNat)
    case atStart => exact ⟨0, rfl, Nat.zero_le _, by show List.any (List.take 0 qs) _ = false; simp, HB1.out⟩
    case round =>
      obtain ⟨j, rfl, hj, HNO, HB⟩ := hrel
      by_cases hlt : j < n
      · have hlt2 : j < qs.length := by rw [HNL.out]; exact hlt
        obtain ⟨g, cp, hge, hg, hcell⟩ := Ar.at_ (own_below HA.out HB.out) (by omega)
        rw [HNL.out] at hge
        simp only [Value.slice.injEq, true_and] at hge
        obtain ⟨rfl, rfl⟩ := hge
        have c0 := hcell j hlt2
        have hji : (j : Int) < (n : Int) := by omega
        have he0 := HOK.out _ (List.getElem_mem hlt2)
        have hfa := hid (fun h2 => find_at (path := path) hlt2 HNO.out h2)
        have hta := hid (fun h2 => take_any (f := fun s => ofM s path) hlt2 HNO.out h2)
        generalize qs[j] = s at c0 he0 hfa hta
        have HPR := hid (rparse_any s wr)
        obtain ⟨hl128, pt, hpt⟩ := perr_zero he0
        have HE0 := hid he0
        have HPT := hid hpt
        have HL128 := hid hl128
        generalize ba s = X at c0 HPR
        clear hcell hlt2 hlt hg he0 hpt hl128
        go_wp2_with (fail)
        refine HPR.out.mono ?_
        rintro e2 w2 ⟨⟨nn, f, d, rr, A', l, c', rfl, hrp⟩, hb2⟩
        obtain ⟨hne, hf, hde, hr, hre, hrl⟩ := hrp pt HE0.out HPT.out
        rw [HE0.out]
        obtain ⟨W0, hW0⟩ : ∃ W0, w2.alloc (.cells #[.bool nn, .bool f, .bool d, .bool rr, .slice A' l c'] 62) = W0 := ⟨_, rfl⟩
        have B0 : Below w2.heap.size w2 W0 := hW0 ▸ (Below.refl _ _).alloc (Nat.le_refl _) _
        have HX : Hid (Has W0 w2.heap.size 62 #[.bool nn, .bool f, .bool d, .bool rr, .slice A' l c']) := hW0 ▸ Has.fresh _ _ _
        have HB0 : Hid (Below w.heap.size w W0) := (HB.out.thenG hb2).thenG B0
        have hpn := parseL_len HPT.out
        have hle : l ≤ 128 := by have := HL128.out; omega
        have CM := hid (rmatch_any nn f d rr A' l c' pt.els path W0 (hrl.stays B0) hre hle (parse_sets HL128.out HPT.out))
        have hof : Hid (mB rr (hsOf f pt.els) path = ofM s path) := by
          show _ = _
          unfold ofM
          rw [HPT.out, hf, hr]
          rfl
        rw [hof.out] at CM
        have HN : Hid (negM s = nn) := by show _ = _; unfold negM; rw [HPT.out, hne]
        have HD : Hid (delM s = d) := by show _ = _; unfold delM; rw [HPT.out, hde]
        clear hrp hne hf hde hr hre hrl hb2 B0 hpn hle hof
        cases hof : ofM s path with
        | true =>
          rw [hof] at CM
          have HH := hid (hfa.out hof)
          have HRV : Hid (r = if nn then (false, false) else (true, d)) := by show _ = _; rw [HR.out, HH.out]; simp only; rw [HN.out, HD.out]
          clear hof
          go_wp2_with (first
            | (refine wpList_load_row rfl 62 _ rfl w2.heap.size rfl 62 #[.bool nn, .bool f, .bool d, .bool rr, .slice A' l c'] (0, 0) _ (by first | exact HX.out | (rw [hW0]; exact HX.out)) Tryz.underlying62 rfl iRP ?_)
            | (go_at_call 27; refine CM.out.mono ?_; rintro e3 w3 ⟨rfl, hb3⟩))
          have HX3 := hid (HX.out.stays hb3)
          have HB3 := hid (HB0.out.thenG hb3)
          have d0 := HX3.out.at_ 0
          have d2 := HX3.out.at_ 2
          simp only [List.getElem?_toArray, List.getElem?_cons_zero, List.getElem?_cons_succ] at d0 d2
          generalize w2.heap.size = gp at *
          clear hb3
          cases nn with
          | true =>
            refine wp_region_noPanic ?_
            refine wp_region_held_drew (S := fun U => U.cell? ⟨gp, 0, none⟩ = some (.bool true) ∧ U.cell? ⟨gp, 2, none⟩ = some (.bool d)) (by kernel_rfl) (show w3.drew.cell? _ = _ ∧ w3.drew.cell? _ = _ from ⟨d0, d2⟩) (fun hS => ?_)
            refine wpAnyH_take (i := 0) (v := ?_) (by simp only [List.getElem?_toArray, List.getElem?_cons_zero]; rfl) (by kernel_rfl) (by kernel_rfl) (by kernel_rfl) (fun _ _ _ h => h) (Or.inl ⟨by rfl, ?_⟩) (by assumption) ?_
            rotate_left 1
            · intro w hSw
              have q0 := hSw.1
              have q2 := hSw.2
              go_simp
              with_reducible rfl
            simp only [Act.put, List.setIfInBounds_toArray, List.set_cons_zero, List.set_cons_succ]
            refine wpAnyH_take (i := 1) (v := ?_) (by simp only [List.getElem?_toArray, List.getElem?_cons_zero, List.getElem?_cons_succ]; rfl) (by kernel_rfl) (by kernel_rfl) (by kernel_rfl) (fun _ _ _ h => h) (Or.inl ⟨by rfl, ?_⟩) (by assumption) ?_
            rotate_left 1
            · intro w hSw
              have q0 := hSw.1
              have q2 := hSw.2
              go_simp
              with_reducible rfl
            simp only [Act.put, List.setIfInBounds_toArray, List.set_cons_zero, List.set_cons_succ]
            refine wpAnyH_take (i := 2) (v := ?_) (by simp only [List.getElem?_toArray, List.getElem?_cons_zero, List.getElem?_cons_succ]; rfl) (by kernel_rfl) (by kernel_rfl) (by kernel_rfl) (fun _ _ _ h => h) (Or.inl ⟨by rfl, ?_⟩) (by assumption) ?_
            rotate_left 1
            · intro w hSw
              have q0 := hSw.1
              have q2 := hSw.2
              go_simp
              with_reducible rfl
            simp only [Act.put, List.setIfInBounds_toArray, List.set_cons_zero, List.set_cons_succ]
            refine wpAnyH_take (i := 3) (v := ?_) (by simp only [List.getElem?_toArray, List.getElem?_cons_zero, List.getElem?_cons_succ]; rfl) (by kernel_rfl) (by kernel_rfl) (by kernel_rfl) (fun _ _ _ h => h) (Or.inl ⟨by rfl, ?_⟩) (by assumption) ?_
            rotate_left 1
            · intro w hSw
              have q0 := hSw.1
              have q2 := hSw.2
              go_simp
              with_reducible rfl
            simp only [Act.put, List.setIfInBounds_toArray, List.set_cons_zero, List.set_cons_succ]
            refine wpAnyH_take (i := 4) (v := ?_) (by simp only [List.getElem?_toArray, List.getElem?_cons_zero, List.getElem?_cons_succ]; rfl) (by kernel_rfl) (by kernel_rfl) (by kernel_rfl) (fun _ _ _ h => h) (Or.inl ⟨by rfl, ?_⟩) (by assumption) ?_
            rotate_left 1
            · intro w hSw
              have q0 := hSw.1
              have q2 := hSw.2
              go_simp
              with_reducible rfl
            simp only [Act.put, List.setIfInBounds_toArray, List.set_cons_zero, List.set_cons_succ]
            refine wpAnyH_take (i := 5) (v := ?_) (by simp only [List.getElem?_toArray, List.getElem?_cons_zero, List.getElem?_cons_succ]; rfl) (by kernel_rfl) (by kernel_rfl) (by kernel_rfl) (fun _ _ _ h => h) (Or.inl ⟨by rfl, ?_⟩) (by assumption) ?_
            rotate_left 1
            · intro w hSw
              have q0 := hSw.1
              have q2 := hSw.2
              go_simp
              with_reducible rfl
            simp only [Act.put, List.setIfInBounds_toArray, List.set_cons_zero, List.set_cons_succ]
            refine wpAnyH_take (i := 6) (v := ?_) (by simp only [List.getElem?_toArray, List.getElem?_cons_zero, List.getElem?_cons_succ]; rfl) (by kernel_rfl) (by kernel_rfl) (by kernel_rfl) (fun _ _ _ h => h) (Or.inl ⟨by rfl, ?_⟩) (by assumption) ?_
            rotate_left 1
            · intro w hSw
              have q0 := hSw.1
              have q2 := hSw.2
              go_simp
              with_reducible rfl
            simp only [Act.put, List.setIfInBounds_toArray, List.set_cons_zero, List.set_cons_succ]
            refine wpAnyH_take (i := 7) (v := undef) (by simp only [List.getElem?_toArray, List.getElem?_cons_zero, List.getElem?_cons_succ]; rfl) (by kernel_rfl) (by kernel_rfl) (by kernel_rfl) (fun _ _ _ h => h) (Or.inr ⟨by rfl, rfl⟩) (by assumption) ?_
            simp only [Act.put, List.setIfInBounds_toArray, List.set_cons_zero, List.set_cons_succ]
            refine wpAnyH_take (i := 8) (v := undef) (by simp only [List.getElem?_toArray, List.getElem?_cons_zero, List.getElem?_cons_succ]; rfl) (by kernel_rfl) (by kernel_rfl) (by kernel_rfl) (fun _ _ _ h => h) (Or.inr ⟨by rfl, rfl⟩) (by assumption) ?_
            simp only [Act.put, List.setIfInBounds_toArray, List.set_cons_zero, List.set_cons_succ]
            refine wpAnyH_take (i := 9) (v := ?_) (by simp only [List.getElem?_toArray, List.getElem?_cons_zero, List.getElem?_cons_succ]; rfl) (by kernel_rfl) (by kernel_rfl) (by kernel_rfl) (fun _ _ _ h => h) (Or.inl ⟨by rfl, ?_⟩) (by assumption) ?_
            rotate_left 1
            · intro w hSw
              have q0 := hSw.1
              have q2 := hSw.2
              go_simp
              with_reducible rfl
            simp only [Act.put, List.setIfInBounds_toArray, List.set_cons_zero, List.set_cons_succ]
            refine wpAnyH_take (i := 10) (v := ?_) (by simp only [List.getElem?_toArray, List.getElem?_cons_zero, List.getElem?_cons_succ]; rfl) (by kernel_rfl) (by kernel_rfl) (by kernel_rfl) (fun _ _ _ h => h) (Or.inl ⟨by rfl, ?_⟩) (by assumption) ?_
            rotate_left 1
            · intro w hSw
              have q0 := hSw.1
              have q2 := hSw.2
              go_simp
              with_reducible rfl
            simp only [Act.put, List.setIfInBounds_toArray, List.set_cons_zero, List.set_cons_succ]
            refine wpAnyH_take (i := 11) (v := ?_) (by simp only [List.getElem?_toArray, List.getElem?_cons_zero, List.getElem?_cons_succ]; rfl) (by kernel_rfl) (by kernel_rfl) (by kernel_rfl) (fun _ _ _ h => h) (Or.inl ⟨by rfl, ?_⟩) (by assumption) ?_
            rotate_left 1
            · intro w hSw
              have q0 := hSw.1
              have q2 := hSw.2
              go_simp
              with_reducible rfl
            simp only [Act.put, List.setIfInBounds_toArray, List.set_cons_zero, List.set_cons_succ]
            refine wpAnyH_done (by kernel_rfl) ?_ _
            refine NoPanic.normal ?_
            go_wp2
            go_ret2
            exact ⟨by rw [HRV.out]; rfl, HB3.out.drew⟩
          | false =>
            go_region_held (fun U => U.cell? ⟨gp, 0, none⟩ = some (.bool false) ∧ U.cell? ⟨gp, 2, none⟩ = some (.bool d)) (exact ⟨d0, d2⟩) (fail)
            all_goals go_wp2
            all_goals go_ret2
            all_goals exact ⟨by rw [HRV.out]; rfl, HB3.out.drew⟩
        | false =>
          rw [hof] at CM
          have HN2 := hid (hta.out hof)
          clear hof
          go_wp2_with (first
            | (refine wpList_load_row rfl 62 _ rfl w2.heap.size rfl 62 #[.bool nn, .bool f, .bool d, .bool rr, .slice A' l c'] (0, 0) _ (by first | exact HX.out | (rw [hW0]; exact HX.out)) Tryz.underlying62 rfl iRP ?_)
            | (go_at_call 27; refine CM.out.mono ?_; rintro e3 w3 ⟨rfl, hb3⟩; have HB3 := hid (HB0.out.thenG hb3); clear hb3))
          exact ⟨⟨j + 1, by go_num, by omega, HN2.out, HB3.out⟩, by simp [intOf]; omega⟩
      · have hji : ¬ ((j : Int) < (n : Int)) := by omega
        have HRV : Hid (r = (false, false)) := by
          have := HNO.out
          rw [List.take_of_length_le (by have := HNL.out; omega)] at this
          show _ = _; rw [HR.out, find_not this]
        clear hlt
        go_wp2
        go_ret2
        exact ⟨by rw [HRV.out]; rfl, HB.out⟩
end Go.Proofs.YtpipkgkfhbagmaaGreatDoor.Glob
/- The law IgnoreMatches: its walk. Conditions: a world in shape. -/
namespace Go.Proofs.YtpipkgkfhbagmaaGreatDoor.Glob
open Go.RowKit Go.Maps
theorem matL_nil (path : By) : matL [] path = (false, false) := by unfold matL; split <;> rfl
/-- What both answer, of one list of patterns. -/
theorem out_both {B : Nat} {fs : Fl} {name : By} {e : Ending} {w : World} (h : ParseOut B fs name e w) : ∃ (A : Option Addr) (c : Int) (qs : List By), e = .returned (.tuple #[.pointer A, .int .i64 c]) ∧ qs.length ≤ 64 ∧ (∀ s ∈ qs, perr s = 0) ∧
    (∀ W path, Gd W → Below w.heap.size w W → path.length ≤ 4000 → Calls Tryz.prog 7 #[.pointer A, .string (ba path)] W fun e w' => e = .returned (.tuple #[.bool (matL qs path).1, .bool (matL qs path).2]) ∧ Below W.heap.size W w') ∧
    ∀ e' W, ParseOutR fs name e' W → ∃ (A' : Option Addr) (n' k' : Nat), e' = .returned (.tuple #[.slice A' n' k', .int .i64 c]) ∧ Ar 0 W (.slice A' n' k') qs := by
  unfold ParseOut at h
  unfold ParseOutR
  cases gr : readL fs 4 [] name [] with
  | error c =>
    rw [gr] at h
    refine ⟨none, c, [], h.1, by simp, fun s hs => (nomatch hs), fun W path _ _ _ => ?_, fun e' W h' => ⟨none, 0, 0, h'.1, World.ownsRow_nil _ _ _ _⟩⟩
    rw [matL_nil]
    exact match_nil path W
  | ok qs =>
    rw [gr] at h
    obtain ⟨L, h1, _, hL, hlen⟩ := h
    refine ⟨_, 0, qs, h1, hlen, readL_perr _ _ _ _ _ _ gr (fun s hs => nomatch hs), fun W path hG hb hp => imatch_any B L qs path W hG (hL.below hb) hlen hp, fun e' W h' => ?_⟩
    obtain ⟨r, h2, har⟩ := h'
    obtain ⟨A', k', hf⟩ := own_form har
    subst hf
    exact ⟨A', _, k', h2, har⟩
set_option maxRecDepth 100000 in
set_option maxHeartbeats 4000000 in
theorem imatches_any (v0 : Value) (fs : Fl) (name : By) (v2 : Value) (xs : List By) (w : World) (hG : Gd w) (hf : FilesIn w v0 fs) (hn : name.length ≤ 1000000000000000) (hx : NamesIn w v2 xs) :
    Calls Tryz.prog 3 #[v0, .string (ba name), v2] w fun e w' => e = .returned (.bool true) ∧ Below w.heap.size w w' := by
  have HG := hid hG
  obtain ⟨A0, n0, cp0, bb0, off0, rfl, hfa, hn0⟩ := hf
  obtain ⟨A2, n2, cp2, bb2, off2, rfl, hxa, hn2⟩ := hx
  have HFW := hid (fun W (hb : Below w.heap.size w W) => few_any A0 n0 cp0 bb0 off0 fs W (hfa.stays hb) hn0)
  have HXA := hid hxa
  have hn2' : n2 ≤ 9223372036854775807 := by unfold maxLen at hn2; omega
  have HPA := hid (fun W v (hb : Below w.heap.size w W) (h : FilesIs W v (fewL fs)) => iparse_any (fewL fs) name v W (hG.kept hb) h (by have := fewL_len fs; omega) (fewL_name fs) (fewL_text fs) hn)
  have HPR := hid (fun W v (h : FilesIs W v (fewL fs)) => rparse8_any (fewL fs) name v W h (by have := fewL_len fs; omega) (fewL_text fs))
  have HWK := hid (fun W (h : Below w.heap.size w W) => works_any W (hG.kept h))
  obtain ⟨nf, hnf⟩ : ∃ nf, (fewL fs).length = nf := ⟨_, rfl⟩
  have HNF := hid hnf
  clear hG hfa hxa hn0 hn2 hn hnf
  go_enter Tryz.func3, Tryz.ntmps3
  go_wp2_with (fail)
  refine (HFW.out w (Below.refl _ _)).mono ?_
  rintro e1 w1 ⟨⟨vf, rfl, hvf⟩, hb1⟩
  have HB1 := hid hb1
  have HCP := hid (HPA.out w1 vf hb1 hvf)
  obtain ⟨Af, cf, hvfe⟩ := hvf.form
  rw [HNF.out] at hvfe
  subst hvfe
  clear hb1 hvf
  go_wp2_with (fail)
  refine HCP.out.mono ?_
  rintro e2 w2 ⟨h2, hb2⟩
  have HB2 : Hid (Below w.heap.size w w2) := HB1.out.thenG hb2
  obtain ⟨A, c, qs, rfl, hlen, hperr, him, hre⟩ := out_both h2
  have HLEN := hid hlen
  have HPERR := hid hperr
  have HIM := hid him
  have HRE := hid hre
  have hcc : (c == c) = true := by simp
  have hcc2 : (c != c) = false := by simp
  clear h2 hb2 hlen hperr him hre
  go_wp2_with (fail)
  refine (HFW.out w2 HB2.out).mono ?_
  rintro e3 w3 ⟨⟨vg, rfl, hvg⟩, hb3⟩
  have HB23 := hid hb3
  have HB3 := hid (HB2.out.thenG hb3)
  have HCR := hid (HPR.out w3 vg hvg)
  obtain ⟨Ag, cg, hvge⟩ := hvg.form
  rw [HNF.out] at hvge
  subst hvge
  clear hb3 hvg
  go_wp2_with (fail)
  refine HCR.out.mono ?_
  rintro e4 w4 ⟨h4, hb4⟩
  obtain ⟨A', n', k', rfl, har⟩ := HRE.out _ _ h4
  have HB4 := hid (HB3.out.thenG hb4)
  have HB24 := hid (HB23.out.thenG hb4)
  have HAR := hid har
  have HM1 := hid (fun W p (h : Below w4.heap.size w4 W) (hp : p.length ≤ 4000) => HIM.out W p (HG.out.kept (HB4.out.thenG h)) (HB24.out.thenG h) hp)
  have HM2 := hid (fun W p (h : Below w4.heap.size w4 W) (hp : p.length ≤ 4000) => rmatch8_any 0 (.slice A' n' k') qs p W (own_below HAR.out h) HLEN.out HPERR.out hp)
  have HX4 := hid (HXA.out.stays HB4.out)
  clear h4 hb4 har
  go_wp2
  go_loopw [11] (fun i wr => ∃ k : Nat, i = .int .i64 (k : Int) ∧ k ≤ 10 ∧ k ≤ n2 ∧ Hid (Below w4.heap.size w4 wr))
    (fun i _ => 10 - (intOf i).toNat)
  case atStart => exact ⟨0, rfl, by omega, Nat.zero_le _, Below.refl _ _⟩
  case round =>
    obtain ⟨k, rfl, hk10, hkn, HB⟩ := hrel
    by_cases hlt : k < n2
    · by_cases h10 : k < 10
      · have hlt2 : k < xs.length := by rw [HX4.out.len]; exact hlt
        obtain ⟨hA, hbb⟩ := HX4.out.src (by omega)
        subst hA
        have c0 := (HB.out.cell (p := ⟨bb2, off2 + k, none⟩) hbb).trans (HX4.out.at_ k hlt2)
        have b1 := HX4.out.ok k hlt2
        have hki : (k : Int) < (n2 : Int) := by omega
        have hki2 : (k : Int) < 10 := by omega
        obtain ⟨m1, hm1⟩ : ∃ m, min xs[k].length 200 = m := ⟨_, rfl⟩
        have i1 : min (xs[k].length : Int) 200 = (m1 : Int) := by omega
        have l1 : (m1 : Int) ≤ (xs[k].length : Int) := by omega
        have e1 := ba_take xs[k] m1
        have q1 := ba_size xs[k]
        have u1 : (xs[k].take m1).length ≤ 4000 := by rw [List.length_take]; omega
        generalize xs[k].take m1 = u at e1 u1
        generalize xs[k].length = n1 at *
        obtain ⟨X1, hX1⟩ : ∃ X, ba xs[k] = X := ⟨_, rfl⟩
        rw [hX1] at c0 e1 q1
        have HC0 := hid c0
        have HU := hid u1
        clear hX1 hm1 hbb u1 c0
        go_wp2_with (fail)
        refine wp_region_noPanic ?_
        refine wp_region_held_drew (S := fun U => U.cell? ⟨bb2, off2 + k, none⟩ = some (.string X1)) (by kernel_rfl) ((show wr.drew.cell? _ = _ from HC0.out)) (fun hS => ?_)
        refine wpAnyH_take (i := 0) (v := ?_) (by simp only [List.getElem?_toArray, List.getElem?_cons_zero]; rfl) (by kernel_rfl) (by kernel_rfl) (by kernel_rfl) (fun _ _ _ h => h) (Or.inl ⟨by rfl, ?_⟩) (by assumption) ?_
        rotate_left 1
        · intro w hSw
          have d0 := hSw
          go_simp
          with_reducible rfl
        simp only [Act.put, List.setIfInBounds_toArray, List.set_cons_zero, List.set_cons_succ]
        refine wpAnyH_take (i := 1) (v := ?_) (by simp only [List.getElem?_toArray, List.getElem?_cons_zero, List.getElem?_cons_succ]; rfl) (by kernel_rfl) (by kernel_rfl) (by kernel_rfl) (fun _ _ _ h => h) (Or.inl ⟨by rfl, ?_⟩) (by assumption) ?_
        rotate_left 1
        · intro w hSw
          have d0 := hSw
          go_simp
          with_reducible rfl
        simp only [Act.put, List.setIfInBounds_toArray, List.set_cons_zero, List.set_cons_succ]
        refine wpAnyH_take (i := 2) (v := ?_) (by simp only [List.getElem?_toArray, List.getElem?_cons_zero, List.getElem?_cons_succ]; rfl) (by kernel_rfl) (by kernel_rfl) (by kernel_rfl) (fun _ _ _ h => h) (Or.inl ⟨by rfl, ?_⟩) (by assumption) ?_
        rotate_left 1
        · intro w hSw
          have d0 := hSw
          go_simp
          with_reducible rfl
        simp only [Act.put, List.setIfInBounds_toArray, List.set_cons_zero, List.set_cons_succ]
        refine wpAnyH_take (i := 3) (v := ?_) (by simp only [List.getElem?_toArray, List.getElem?_cons_zero, List.getElem?_cons_succ]; rfl) (by kernel_rfl) (by kernel_rfl) (by kernel_rfl) (fun _ _ _ h => h) (Or.inl ⟨by rfl, ?_⟩) (by assumption) ?_
        rotate_left 1
        · intro w hSw
          have d0 := hSw
          go_simp
          with_reducible rfl
        simp only [Act.put, List.setIfInBounds_toArray, List.set_cons_zero, List.set_cons_succ]
        refine wpAnyH_take (i := 4) (v := ?_) (by simp only [List.getElem?_toArray, List.getElem?_cons_zero, List.getElem?_cons_succ]; rfl) (by kernel_rfl) (by kernel_rfl) (by kernel_rfl) (fun _ _ _ h => h) (Or.inl ⟨by rfl, ?_⟩) (by assumption) ?_
        rotate_left 1
        · intro w hSw
          have d0 := hSw
          go_simp
          with_reducible rfl
        simp only [Act.put, List.setIfInBounds_toArray, List.set_cons_zero, List.set_cons_succ]
        refine wpAnyH_take (i := 5) (v := ?_) (by simp only [List.getElem?_toArray, List.getElem?_cons_zero, List.getElem?_cons_succ]; rfl) (by kernel_rfl) (by kernel_rfl) (by kernel_rfl) (fun _ _ _ h => h) (Or.inl ⟨by rfl, ?_⟩) (by assumption) ?_
        rotate_left 1
        · intro w hSw
          have d0 := hSw
          go_simp
          with_reducible rfl
        simp only [Act.put, List.setIfInBounds_toArray, List.set_cons_zero, List.set_cons_succ]
        refine wpAnyH_take (i := 6) (v := ?_) (by simp only [List.getElem?_toArray, List.getElem?_cons_zero, List.getElem?_cons_succ]; rfl) (by kernel_rfl) (by kernel_rfl) (by kernel_rfl) (fun _ _ _ h => h) (Or.inl ⟨by rfl, ?_⟩) (by assumption) ?_
        rotate_left 1
        · intro w hSw
          have d0 := hSw
          go_simp
          with_reducible rfl
        simp only [Act.put, List.setIfInBounds_toArray, List.set_cons_zero, List.set_cons_succ]
        refine wpAnyH_take (i := 7) (v := ?_) (by simp only [List.getElem?_toArray, List.getElem?_cons_zero, List.getElem?_cons_succ]; rfl) (by kernel_rfl) (by kernel_rfl) (by kernel_rfl) (fun _ _ _ h => h) (Or.inl ⟨by rfl, ?_⟩) (by assumption) ?_
        rotate_left 1
        · intro w hSw
          have d0 := hSw
          go_simp
          with_reducible rfl
        simp only [Act.put, List.setIfInBounds_toArray, List.set_cons_zero, List.set_cons_succ]
        refine wpAnyH_take (i := 8) (v := ?_) (by simp only [List.getElem?_toArray, List.getElem?_cons_zero, List.getElem?_cons_succ]; rfl) (by kernel_rfl) (by kernel_rfl) (by kernel_rfl) (fun _ _ _ h => h) (Or.inl ⟨by rfl, ?_⟩) (by assumption) ?_
        rotate_left 1
        · intro w hSw
          have d0 := hSw
          go_simp
          with_reducible rfl
        simp only [Act.put, List.setIfInBounds_toArray, List.set_cons_zero, List.set_cons_succ]
        refine wpAnyH_take (i := 9) (v := ?_) (by simp only [List.getElem?_toArray, List.getElem?_cons_zero, List.getElem?_cons_succ]; rfl) (by kernel_rfl) (by kernel_rfl) (by kernel_rfl) (fun _ _ _ h => h) (Or.inl ⟨by rfl, ?_⟩) (by assumption) ?_
        rotate_left 1
        · intro w hSw
          have d0 := hSw
          go_simp
          with_reducible rfl
        simp only [Act.put, List.setIfInBounds_toArray, List.set_cons_zero, List.set_cons_succ]
        refine wpAnyH_take (i := 10) (v := ?_) (by simp only [List.getElem?_toArray, List.getElem?_cons_zero, List.getElem?_cons_succ]; rfl) (by kernel_rfl) (by kernel_rfl) (by kernel_rfl) (fun _ _ _ h => h) (Or.inl ⟨by rfl, ?_⟩) (by assumption) ?_
        rotate_left 1
        · intro w hSw
          have d0 := hSw
          go_simp
          with_reducible rfl
        simp only [Act.put, List.setIfInBounds_toArray, List.set_cons_zero, List.set_cons_succ]
        refine wpAnyH_take (i := 11) (v := ?_) (by simp only [List.getElem?_toArray, List.getElem?_cons_zero, List.getElem?_cons_succ]; rfl) (by kernel_rfl) (by kernel_rfl) (by kernel_rfl) (fun _ _ _ h => h) (Or.inl ⟨by rfl, ?_⟩) (by assumption) ?_
        rotate_left 1
        · intro w hSw
          have d0 := hSw
          go_simp
          with_reducible rfl
        simp only [Act.put, List.setIfInBounds_toArray, List.set_cons_zero, List.set_cons_succ]
        refine wpAnyH_done (by kernel_rfl) ?_ _
        refine NoPanic.normal ?_
        have HBD : Hid (Below w4.heap.size w4 wr.drew) := HB.out.drew
        have D1 := hid (HM1.out wr.drew u HBD.out HU.out)
        obtain ⟨y, hy⟩ : ∃ y, matL qs u = y := ⟨_, rfl⟩
        rw [hy] at D1
        obtain ⟨ya, yb⟩ := y
        have hya : (ya == ya) = true := by simp
        have hyan : (ya != ya) = false := by simp
        have hyb : (yb == yb) = true := by simp
        have hybn : (yb != yb) = false := by simp
        go_wp2_with (fail)
        refine D1.out.mono ?_
        rintro e8 w8 ⟨rfl, hb8⟩
        have HB8 : Hid (Below w4.heap.size w4 w8) := HBD.out.thenG hb8
        have D2 := hid (HM2.out w8 u HB8.out HU.out)
        rw [hy] at D2
        clear hb8
        go_wp2_with (fail)
        refine D2.out.mono ?_
        rintro e9 w9 ⟨rfl, hb9⟩
        have HB9 : Hid (Below w4.heap.size w4 w9) := HB8.out.thenG hb9
        clear hb9 hy
        go_wp2
        exact ⟨⟨k + 1, by go_num, by omega, by omega, HB9.out⟩, by simp [intOf]; omega⟩
      · have hki2 : ¬ ((k : Int) < 10) := by omega
        have HWW := hid (HWK.out wr (HB4.out.thenG HB.out))
        go_wp2_with (go_at_call 9; refine HWW.out.mono ?_; rintro e10 w10 ⟨rfl, hb10⟩)
        go_ret
        exact ⟨rfl, (HB4.out.thenG HB.out).thenG hb10⟩
    · have hki : ¬ ((k : Int) < (n2 : Int)) := by omega
      have HWW := hid (HWK.out wr (HB4.out.thenG HB.out))
      go_wp2_with (go_at_call 9; refine HWW.out.mono ?_; rintro e10 w10 ⟨rfl, hb10⟩)
      go_ret
      exact ⟨rfl, (HB4.out.thenG HB.out).thenG hb10⟩
theorem imatches_law (v0 : Value) (fs : Fl) (name : ByteArray) (v2 : Value) (xs : List By) (w : World) (hG : Gd w) (hf : FilesIn w v0 fs) (hn : name.size ≤ 140737488355328) (hx : NamesIn w v2 xs) :
    Calls Tryz.prog 3 #[v0, .string name, v2] w fun e w' => e = .returned (.bool true) ∧ Below w.heap.size w w' := by
  have := imatches_any v0 fs (tl name) v2 xs w hG hf (by rw [tl_length]; omega) hx
  rw [ba_tl] at this; exact this
end Go.Proofs.YtpipkgkfhbagmaaGreatDoor.Glob
