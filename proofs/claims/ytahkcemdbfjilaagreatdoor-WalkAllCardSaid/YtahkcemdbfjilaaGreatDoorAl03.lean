/- The law WalkAll, proved: of all that is in a root each thing is among the items, or passed over, or within what is passed over, and just one of these; items stand behind the directories that hold them, and Item tells of each the same. No conditions beyond the card's. -/
import Derived.Test.YtahkcemdbfjilaaGreatDoorAl02
set_option linter.unusedSimpArgs false
set_option linter.unusedVariables false
set_option maxRecDepth 100000
namespace Go.Proofs.YtahkcemdbfjilaaGreatDoor
open Go.ChangeShapes Go.WideShapes Go.ChangeAt Go.ChangeMaps Go.WideElems Go.RowKit Go.Deep
theorem files_is {w : World} {A : Option Addr} {n c bb off : Nat} {fs : Glob.Fl} (h : Glob.FilesAt w A n bb off fs) : Glob.FilesIs w (.slice A n c) fs :=
 ⟨A, c, bb, off, by rw [h.len], fun h0 => h.src (by rw [← h.len]; exact h0), h.at_⟩
theorem parse_in {w : World} {A : Option Addr} {n c bb off : Nat} {fs : Glob.Fl} (hG : Gd w) (h : Glob.FilesAt w A n bb off fs) (hl : fs.length ≤ 10) (hs : ∀ f ∈ fs, f.1.length ≤ 8000 ∧ f.2.length ≤ 8000) (W : World) (hb : Below w.heap.size w W) :
 Calls Tryz.prog 11 #[.slice A n c, .string ⟨#[105]⟩] W fun e w' => ∃ o c lo, e = .returned (.tuple #[.pointer o, .int .i64 c]) ∧ Lst w' (.pointer o) lo ∧ Below W.heap.size W w' := by
 refine (Glob.iparse_any fs [105] _ W (hG.kept hb) (files_is (c := c) (h.stays hb)) (by omega) (fun i hi => by have := (hs _ (List.getElem_mem hi)).1; omega) (fun i hi => by have := (hs _ (List.getElem_mem hi)).2; omega) (by decide)).mono ?_
 rintro e w' ⟨h1, h2⟩
 unfold Glob.ParseOut at h1
 cases hr : Glob.readL fs 4 [] [105] [] with
 | error c =>
  rw [hr] at h1
  exact ⟨none, c, none, h1.1, .none, h2⟩
 | ok qs =>
  rw [hr] at h1
  obtain ⟨L, a1, _, a3, a4⟩ := h1
  exact ⟨some ⟨L, 0, none⟩, 0, some qs, a1, .some _ L _ a3 a4, h2⟩
theorem all_lifted (os : Os) (started : os.Started) (H : Type) (enc : TypeId × Value → H) :
 ReturnsInHanded {} Tryz.checked os 6 .any (fun w args => (Rows.walkAllSpec.pre enc Tryz.prog Tryz.f6 [] false w args ∧ laidMetH Tryz.prog laidW w) ∧ sizedMet enc Tryz.prog Tryz.f6 (OpenSpec.ofChange Rows.walkAllSpec) false w args)
  (Rows.walkAllSpec.post enc Tryz.prog Tryz.f6 false true false false) := by
 refine handed_shaped (C := Tryz.checked) (X := fun w _ => laidMetH Tryz.prog laidW w) (fun _ _ _ hh h => h.of_heap hh) own started (by kernel_rfl) Tryz.func6
  (ChangeSpec.witness_shaped (enc := enc) (C := Tryz.checked) (os := os) (X := fun w _ => laidMetH Tryz.prog laidW w) false (World.laidAll Tryz.prog os laidW) #[.slice none 0 0, .string ⟨#[]⟩, .slice none 0 0] 40 (World.laidAll_os _ _ _) (World.shaped_of_ZipB (by kernel_rfl) (by kernel_rfl)) (by kernel_rfl) (by kernel_rfl) (by kernel_rfl) (laid_met os _)) ?_
 intro W base args ds gs before hval0 hW hreach hsh hL
 have hval : ∀ (j : Nat) t v, Tryz.f6.params[j]? = some t → args[j]? = some v → Value.okWide Tryz.prog W .any base t v := hval0
 have hW' := hW
 obtain ⟨p, q, hA0, hV, rfl, hfz, hnd⟩ := hW
 have hA : DataW.TrodAll enc Tryz.prog W 0 (fun _ => true) true Tryz.f6.params.toList args.toList ds p := hA0
 rw [Tryz.params6] at hA hval
 obtain ⟨v0, v1, v2, d0, d1, d2, p0, p1, p2, rfl, rfl, rfl, h0, h1, h2⟩ := trodAll_three hA
 obtain ⟨rfl, rfl⟩ := trodVars_none hV
 obtain ⟨A0, n0, cap0, bb0, off0, xs0, rfl, hI0, hn0⟩ := open_puts (hval 0 22 v0 rfl rfl) h0 (fun z hz => of_decide_eq_true (List.all_eq_true.1 hreach z (DataW.weights_mem_each (j := 0) (t := 22) (d := d0) (by rw [Tryz.params6]; rfl) (by rfl) z hz)))
 obtain ⟨s1, rfl, hd1, hp1, hm1⟩ := open_string Tryz.underlying9 (hval 1 9 v1 rfl rfl) h1
 obtain ⟨A2, n2, cap2, bb2, off2, fs2, rfl, hI2, hfb2, hn2⟩ := open_files (hval 2 23 v2 rfl rfl) h2 (fun z hz => of_decide_eq_true (List.all_eq_true.1 hreach z (DataW.weights_mem_each (j := 2) (t := 23) (d := d2) (by rw [Tryz.params6]; rfl) (by rfl) z hz)))
 have hlt : ∀ x ∈ (p0 ++ p1 ++ p2) ++ [], x.block < W.heap.size := fun x hx => hW'.lt x hx
 have hgd := gd_of hsh
 have key := all_law (cap := cap0) (cap2 := cap2) W hI0 hI2 hfb2 hn0 hn2 hgd (tab_of hL) (tl s1) (fun hlb W' hb => by
  obtain ⟨_, g2, _, g4⟩ := large_false hlb
  exact parse_in hgd hI2 g2 g4 W' hb)
 have e1 : kS (tl s1) = .string s1 := by show Value.string (ba (tl s1)) = _; rw [ba_tl]
 rw [e1] at key
 refine key.mono fun e W' ⟨he, hb⟩ => ?_
 subst he
 refine ⟨_, rfl, post_law (pa := p0 ++ (p1 ++ p2)) rfl rfl hW' rfl hb ?_⟩
 rw [Tryz.params6]
 exact trodAll_mk3 (Below.trod laidOut (by kernel_rfl) (of_decide_eq_true (by kernel_rfl)) h0 hb (fun x hx => hlt x (by simp [hx]))) (Below.trod laidOut (by kernel_rfl) (of_decide_eq_true (by kernel_rfl)) h1 hb (fun x hx => hlt x (by simp [hx]))) (Below.trod laidOut (by kernel_rfl) (of_decide_eq_true (by kernel_rfl)) h2 hb (fun x hx => hlt x (by simp [hx])))
theorem all_holds : Rows.WalkAllSaid :=
 OpenClaim.holds_of_wide 6 Tryz.f6 rfl rfl rfl rfl rfl rfl rfl ⟨rfl, rfl, rfl, rfl, rfl⟩ rfl rfl rfl rfl rfl (by kernel_rfl) Tryz.func6 (by kernel_rfl)
  (of_decide_eq_true (by kernel_rfl)) (by unfold Func.isWrapper; first | (rw [if_pos (by decide +kernel)]; kernel_rfl) | (rw [if_neg (by decide +kernel)]; exact ⟨rfl, rfl⟩))
  (fun os started H enc _ => all_lifted os started H enc)
theorem all_card : Rows.WalkAllCardSaid :=
 Claim7.holds_tied_plain_at .later [] [.data, .data, .pinned] true (true, "1216c860bcd7e6bccceab7fedb0008ce5430f84bf76c7ab633c2b8ff50a25b22") false
  all_holds (fun _ h => by cases h) (by kernel_rfl) (fun _ h => by cases h) walkAll_row_tie rfl ⟨rfl, rfl⟩ (by kernel_rfl) rfl
  (fun f fn hf hfn => by
    obtain rfl : f = 6 := Option.some.inj ((show Tryz.prog.funcNamed "caravan/caravanlaw17.WalkAll" = some 6 by kernel_rfl).symm.trans hf) |>.symm
    obtain rfl : fn = Tryz.f6 := (Option.some.inj (Tryz.func6.symm.trans hfn)).symm
    exact ⟨by kernel_rfl, fun j t ht => by
     rw [Tryz.params6] at ht
     have hm : t ∈ [22, 9, 23] := by simpa using Array.mem_of_getElem? ht
     have hall : ([22, 9, 23].all fun u => !Tryz.prog.wantsStandIn u) = true := by kernel_rfl
     exact (show Tryz.prog.wantsStandIn t = false by simpa using List.all_eq_true.1 hall t hm)⟩)
  (by kernel_rfl)
end Go.Proofs.YtahkcemdbfjilaaGreatDoor
