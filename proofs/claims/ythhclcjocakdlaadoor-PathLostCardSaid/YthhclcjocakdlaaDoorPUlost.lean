/- The law PathLost, proved: of one path, conflict names of unlike times, or devices, are unlike, for every text, two times, two devices. No conditions beyond the card's. -/
import Derived.Test.YthhclcjocakdlaaDoorPT
import Derived.Test.YthhclcjocakdlaaDoorPQ
namespace Go.Proofs.YthhclcjocakdlaaDoor
open Go.ChangeShapes Go.WideShapes Go.ChangeAt Go.ChangeMaps Go.WideElems Go.RowKit
section
variable {H : Type} {enc : TypeId × Value → H} {w : World} {base : Nat} {spare : Nat → Bool} {held : Bool}
theorem int_in {k : IntKind} {n : Int} (h : (Lit.int k n).wf = true) : k.min ≤ n ∧ n ≤ k.max := by
  simpa [Lit.wf] using h
set_option maxRecDepth 100000 in
/-- A path, two times and two devices that come in. -/
theorem open_lost {r : Reach} {b0 : Nat} {v : Value} {d : DataW H} {p : List MemPlace} (hv : Value.okWide Tryd.prog w r b0 46 v) (h : DataW.Trod enc Tryd.prog w base spare held 46 v d p) :
    ∃ (s : ByteArray) (t1 t2 b1 b2 : Int), v = .agg #[.string s, .int .u32 t1, .int .u32 t2, .int .u8 b1, .int .u8 b2] ∧ s.size ≤ maxLen ∧ 0 ≤ t1 ∧ t1 ≤ 4294967295 ∧ 0 ≤ t2 ∧ t2 ≤ 4294967295 ∧ 0 ≤ b1 ∧ b1 ≤ 255 ∧ 0 ≤ b2 ∧ b2 ≤ 255 := by
  obtain ⟨cs, rfl, hsz⟩ := okWide_struct Tryd.underlying46 hv
  have hC : Tryd.prog.cellsOf 46 = 5 := by kernel_rfl
  have hs1 : Tryd.prog.cellsOf 9 = 1 := by kernel_rfl
  have hs2 : Tryd.prog.cellsOf 42 = 1 := by kernel_rfl
  have hs3 : Tryd.prog.cellsOf 44 = 2 := by kernel_rfl
  have hs4 : Tryd.prog.cellsOf 5 = 1 := by kernel_rfl
  obtain ⟨l⟩ := cs
  match l, hsz.trans hC with
  | [c0, c1, c2, c3, c4], _ =>
    obtain ⟨fuel, hf⟩ := h
    obtain ⟨xs, n, _, hx, _, hlen, hg⟩ := DataW.trod_struct Tryd.underlying46 hf
    match xs, hlen with
    | [y0, y1, y2, y3], _ =>
      have g0 : DataW.trod enc Tryd.prog w base spare held n 9 [c0] = some y0 := by have := hg 0 _ rfl; simpa [Value.cells, hs1] using this
      have g1 : DataW.trod enc Tryd.prog w base spare held n 42 [c1] = some y1 := by have := hg 1 _ rfl; simpa [Value.cells, hs2] using this
      have g2 : DataW.trod enc Tryd.prog w base spare held n 42 [c2] = some y2 := by have := hg 2 _ rfl; simpa [Value.cells, hs2] using this
      have g3 : DataW.trod enc Tryd.prog w base spare held n 44 [c3, c4] = some y3 := by have := hg 3 _ rfl; simpa [Value.cells, hs3] using this
      obtain ⟨zs, m, _, _, _, hzl, hz⟩ := DataW.trod_array Tryd.underlying44 g3
      have e3 : DataW.trod enc Tryd.prog w base spare held m 5 [c3] = zs[0]? := by have := hz 0 (by omega); simpa [hs4] using this
      have e4 : DataW.trod enc Tryd.prog w base spare held m 5 [c4] = zs[1]? := by have := hz 1 (by omega); simpa [hs4] using this
      rw [List.getElem?_eq_getElem (by omega)] at e3 e4
      obtain ⟨s, i0, _, q0⟩ := DataW.trod_string Tryd.underlying9 g0
      obtain ⟨t1, i1, _, q1⟩ := DataW.trod_int Tryd.underlying42 g1
      obtain ⟨t2, i2, _, q2⟩ := DataW.trod_int Tryd.underlying42 g2
      obtain ⟨b1, i3, _, q3⟩ := DataW.trod_int Tryd.underlying5 e3
      obtain ⟨b2, i4, _, q4⟩ := DataW.trod_int Tryd.underlying5 e4
      simp only [List.cons.injEq, and_true] at i0 i1 i2 i3 i4
      subst i0 i1 i2 i3 i4
      have r1 := int_in q1; have r2 := int_in q2; have r3 := int_in q3; have r4 := int_in q4
      simp [IntKind.min, IntKind.max, IntKind.signed, IntKind.bits] at r1 r2 r3 r4
      exact ⟨s, t1, t2, b1, b2, rfl, q0, r1.1, by omega, r2.1, by omega, r3.1, by omega, r4.1, by omega⟩
end
set_option maxRecDepth 100000 in
theorem lost_lifted (os : Os) (started : os.Started) (H : Type) (enc : TypeId × Value → H) :
    ReturnsInHanded {} Tryd.checked os 12 .any (fun w args => (Rows.pathLostSpec.pre enc Tryd.prog Tryd.f12 [] false w args ∧ laidMetH Tryd.prog laid3 w) ∧ sizedMet enc Tryd.prog Tryd.f12 (OpenSpec.ofChange Rows.pathLostSpec) false w args)
      (Rows.pathLostSpec.post enc Tryd.prog Tryd.f12 false true false false) := by
  refine handed_shaped (C := Tryd.checked) (X := fun w _ => laidMetH Tryd.prog laid3 w) (fun _ _ _ hh h => h.of_heap hh) own started (by kernel_rfl) Tryd.func12
    (ChangeSpec.witness_shaped (enc := enc) (C := Tryd.checked) (os := os) (X := fun w _ => laidMetH Tryd.prog laid3 w) false (World.doorLaid Tryd.prog 40 os) #[.agg #[.string ⟨#[]⟩, .int .u32 0, .int .u32 0, .int .u8 0, .int .u8 0]] 40 rfl (World.shaped_of_RefB (by kernel_rfl) (by kernel_rfl)) (by kernel_rfl) (by kernel_rfl) (by kernel_rfl) (door_met os _)) ?_
  intro W base args ds gs before hval0 hW hreach hsh hL
  have hval : ∀ (j : Nat) t v, Tryd.f12.params[j]? = some t → args[j]? = some v → Value.okWide Tryd.prog W .any base t v := hval0
  have hW' := hW
  obtain ⟨p, q, hA0, hV, rfl, hfz, hnd⟩ := hW
  have hA : DataW.TrodAll enc Tryd.prog W 0 (fun _ => true) true Tryd.f12.params.toList args.toList ds p := hA0
  rw [Tryd.params12] at hA hval
  obtain ⟨v0, d0, rfl, rfl, h0⟩ := trodAll_one hA
  obtain ⟨rfl, rfl⟩ := trodVars_none hV
  obtain ⟨s0, t1, t2, b1, b2, rfl, hm0, k1, k2, k3, k4, k5, k6, k7, k8⟩ := open_lost (hval 0 46 v0 rfl rfl) h0
  have hlt : ∀ x ∈ p ++ [], x.block < W.heap.size := fun x hx => hW'.lt x hx
  refine (lost_any s0 t1 t2 b1 b2 W (of_laid hsh hL) hm0 k1 k2 k3 k4 k5 k6 k7 k8).mono fun e W' ⟨he, hb⟩ => ?_
  subst he
  refine ⟨_, rfl, post_law (pa := p) rfl rfl hW' rfl hb ?_⟩
  rw [Tryd.params12]
  exact trodAll_mk1 (Below.trod laidOut (by kernel_rfl) (of_decide_eq_true (by kernel_rfl)) h0 hb (fun x hx => hlt x (by simp [hx])))
theorem lost_holds : Rows.PathLostSaid :=
  OpenClaim.holds_of_wide 12 Tryd.f12 rfl rfl rfl rfl rfl rfl rfl ⟨rfl, rfl, rfl, rfl, rfl⟩ rfl rfl rfl rfl rfl (by kernel_rfl) Tryd.func12 (by kernel_rfl)
    (of_decide_eq_true (by kernel_rfl)) (by unfold Func.isWrapper; first | (rw [if_pos (by decide +kernel)]; kernel_rfl) | (rw [if_neg (by decide +kernel)]; exact ⟨rfl, rfl⟩))
    (fun os started H enc _ => lost_lifted os started H enc)
theorem lost_card : Rows.PathLostCardSaid :=
  Claim7.holds_tied_plain_at .later [] [.data, .data, .data] true (true, "84336eb740e671ccf1b4486ab93059df3acf3f43080df9d093cd1d6c5bde22ab") false
    lost_holds (fun _ h => by cases h) (by kernel_rfl) (fun _ h => by cases h) pathLost_row_tie rfl ⟨rfl, rfl⟩ (by kernel_rfl) rfl
    (fun f fn hf hfn => by
      obtain rfl : f = 12 := Option.some.inj ((show Tryd.prog.funcNamed "caravan/caravanlaw02.PathLost" = some 12 by kernel_rfl).symm.trans hf) |>.symm
      obtain rfl : fn = Tryd.f12 := (Option.some.inj (Tryd.func12.symm.trans hfn)).symm
      exact ⟨by kernel_rfl, fun j t ht => by
        rw [Tryd.params12] at ht
        have hm : t ∈ [46] := by simpa using Array.mem_of_getElem? ht
        have hall : ([46].all fun u => !Tryd.prog.wantsStandIn u) = true := by kernel_rfl
        exact (show Tryd.prog.wantsStandIn t = false by simpa using List.all_eq_true.1 hall t hm)⟩)
    (by kernel_rfl)
#print axioms lost_card
end Go.Proofs.YthhclcjocakdlaaDoor
