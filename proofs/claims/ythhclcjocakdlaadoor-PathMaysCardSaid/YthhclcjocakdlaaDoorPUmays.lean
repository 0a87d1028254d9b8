/- The law PathMays, proved: which texts are names and paths, their parts, and the path of parts, are as the chapter says, for every text and every list of texts. No conditions beyond the card's. -/
import Derived.Test.YthhclcjocakdlaaDoorPT
import Derived.Test.YthhclcjocakdlaaDoorPY
import Derived.SliceStrings
namespace Go.Proofs.YthhclcjocakdlaaDoor
open Go.ChangeShapes Go.WideShapes Go.ChangeAt Go.ChangeMaps Go.WideElems Go.RowKit
theorem low_size0 {w : World} (h : w.ShapedOpen Tryd.prog) : 0 < w.heap.size := by
  have h1 := low_size h
  have h3 : decide (0 < Tryd.prog.low) = true := by kernel_rfl
  have h3 := of_decide_eq_true h3
  omega
theorem spot_none {w : World} {a : Addr} {v : Value} (h : w.cell? (a.add 0) = some v) : a = ⟨a.block, a.off, none⟩ := by
  have e : a.add 0 = a := rfl
  rw [e] at h
  obtain ⟨b, o, s⟩ := a
  cases s with
  | none => rfl
  | some x =>
    simp only [World.cell?] at h
    split at h
    · simp at h
    · cases h
theorem add_of (b o i : Nat) : (⟨b, o, none⟩ : Addr).add i = ⟨b, o + i, none⟩ := by unfold Addr.add; split <;> simp_all
set_option maxRecDepth 100000 in
/-- A list of texts that comes in. -/
theorem open_la {H : Type} {enc : TypeId × Value → H} {W : World} {r : Reach} {b0 : Nat} {v : Value} {d : DataW H} {p : List MemPlace} (h0 : 0 < W.heap.size) (hv : Value.okWide Tryd.prog W r b0 28 v) (h : DataW.Trod enc Tryd.prog W 0 (fun _ => true) true 28 v d p) :
    ∃ A len cap b o ss, v = .slice A len cap ∧ La W A len cap b o ss := by
  obtain ⟨fuel, hf⟩ := h
  obtain ⟨A, len, cap, rfl⟩ := okWide_slice Tryd.underlying28 hv
  have c1 : Tryd.prog.cellsOf 9 = 1 := by kernel_rfl
  have e : (Value.slice A len cap).cells.toList = [Value.slice A len cap] := rfl
  rcases open_strings Tryd.underlying28 Tryd.underlying9 c1 hf with ⟨h1, h2⟩ | ⟨a, len2, cap2, ss, h1, _, hl, hm, hlen, _, hc, hs⟩
  · rw [e] at h1
    simp only [List.cons.injEq, Value.slice.injEq, and_true] at h1
    obtain ⟨rfl, rfl, rfl⟩ := h1
    exact ⟨none, 0, 0, 0, 0, [], rfl, by omega, by unfold maxLen; omega, fun h => by omega, fun i hi => by omega, h0⟩
  · rw [e] at h1
    simp only [List.cons.injEq, Value.slice.injEq, and_true] at h1
    obtain ⟨rfl, rfl, rfl⟩ := h1
    simp only [if_true] at hlen
    rcases Nat.eq_zero_or_pos len with hz | hz
    · subst hz
      exact ⟨some a, 0, cap, 0, 0, [], rfl, by omega, hm, fun h => by omega, fun i hi => by omega, h0⟩
    · have hc0 := hc 0 (by omega)
      have ha := spot_none hc0
      refine ⟨some a, len, cap, a.block, a.off, ss, rfl, hl, hm, fun _ => congrArg some ha, fun i hi => ?_, block_lt_of_cell (a := a) hc0⟩
      have hci := hc i (by omega)
      rw [ha, add_of] at hci
      refine ⟨hci, hs _ ?_⟩
      simp [List.getD, List.getElem?_eq_getElem (show i < ss.length by omega)]
set_option maxRecDepth 100000 in
theorem mays_lifted (os : Os) (started : os.Started) (H : Type) (enc : TypeId × Value → H) :
    ReturnsInHanded {} Tryd.checked os 4 .any (fun w args => (Rows.pathMaysSpec.pre enc Tryd.prog Tryd.f4 [] false w args ∧ laidMetH Tryd.prog laid3 w) ∧ sizedMet enc Tryd.prog Tryd.f4 (OpenSpec.ofChange Rows.pathMaysSpec) false w args)
      (Rows.pathMaysSpec.post enc Tryd.prog Tryd.f4 false true false false) := by
  refine handed_shaped (C := Tryd.checked) (X := fun w _ => laidMetH Tryd.prog laid3 w) (fun _ _ _ hh h => h.of_heap hh) own started (by kernel_rfl) Tryd.func4
    (ChangeSpec.witness_shaped (enc := enc) (C := Tryd.checked) (os := os) (X := fun w _ => laidMetH Tryd.prog laid3 w) false (World.doorLaid Tryd.prog 40 os) #[.string ⟨#[]⟩, .slice none 0 0] 40 rfl (World.shaped_of_RefB (by kernel_rfl) (by kernel_rfl)) (by kernel_rfl) (by kernel_rfl) (by kernel_rfl) (door_met os _)) ?_
  intro W base args ds gs before hval0 hW hreach hsh hL
  have hval : ∀ (j : Nat) t v, Tryd.f4.params[j]? = some t → args[j]? = some v → Value.okWide Tryd.prog W .any base t v := hval0
  have hW' := hW
  obtain ⟨p, q, hA0, hV, rfl, hfz, hnd⟩ := hW
  have hA : DataW.TrodAll enc Tryd.prog W 0 (fun _ => true) true Tryd.f4.params.toList args.toList ds p := hA0
  rw [Tryd.params4] at hA hval
  obtain ⟨v0, v1, d0, d1, p0, p1, rfl, rfl, rfl, h0, h1⟩ := trodAll_two hA
  obtain ⟨rfl, rfl⟩ := trodVars_none hV
  obtain ⟨s0, rfl, hd0, hp0, hm0⟩ := open_string Tryd.underlying9 (hval 0 9 v0 rfl rfl) h0
  obtain ⟨A, len, cap, b, o, ss, rfl, hLa⟩ := open_la (low_size0 hsh) (hval 1 28 v1 rfl rfl) h1
  have hlt : ∀ x ∈ (p0 ++ p1) ++ [], x.block < W.heap.size := fun x hx => hW'.lt x hx
  refine (mays_any s0 A len cap b o ss W (of_laid hsh hL) hm0 hLa).mono fun e W' ⟨he, hb⟩ => ?_
  subst he
  refine ⟨_, rfl, post_law (pa := p0 ++ p1) rfl rfl hW' rfl hb ?_⟩
  rw [Tryd.params4]
  exact trodAll_mk2 (Below.trod laidOut (by kernel_rfl) (of_decide_eq_true (by kernel_rfl)) h0 hb (fun x hx => hlt x (by simp [hx]))) (Below.trod laidOut (by kernel_rfl) (of_decide_eq_true (by kernel_rfl)) h1 hb (fun x hx => hlt x (by simp [hx])))
theorem mays_holds : Rows.PathMaysSaid :=
  OpenClaim.holds_of_wide 4 Tryd.f4 rfl rfl rfl rfl rfl rfl rfl ⟨rfl, rfl, rfl, rfl, rfl⟩ rfl rfl rfl rfl rfl (by kernel_rfl) Tryd.func4 (by kernel_rfl)
    (of_decide_eq_true (by kernel_rfl)) (by unfold Func.isWrapper; first | (rw [if_pos (by decide +kernel)]; kernel_rfl) | (rw [if_neg (by decide +kernel)]; exact ⟨rfl, rfl⟩))
    (fun os started H enc _ => mays_lifted os started H enc)
theorem mays_card : Rows.PathMaysCardSaid :=
  Claim7.holds_tied_plain_at .later [] [.data, .data, .data] true (true, "84336eb740e671ccf1b4486ab93059df3acf3f43080df9d093cd1d6c5bde22ab") false
    mays_holds (fun _ h => by cases h) (by kernel_rfl) (fun _ h => by cases h) pathMays_row_tie rfl ⟨rfl, rfl⟩ (by kernel_rfl) rfl
    (fun f fn hf hfn => by
      obtain rfl : f = 4 := Option.some.inj ((show Tryd.prog.funcNamed "caravan/caravanlaw02.PathMays" = some 4 by kernel_rfl).symm.trans hf) |>.symm
      obtain rfl : fn = Tryd.f4 := (Option.some.inj (Tryd.func4.symm.trans hfn)).symm
      exact ⟨by kernel_rfl, fun j t ht => by
        rw [Tryd.params4] at ht
        have hm : t ∈ [9, 28] := by simpa using Array.mem_of_getElem? ht
        have hall : ([9, 28].all fun u => !Tryd.prog.wantsStandIn u) = true := by kernel_rfl
        exact (show Tryd.prog.wantsStandIn t = false by simpa using List.all_eq_true.1 hall t hm)⟩)
    (by kernel_rfl)
#print axioms mays_card
end Go.Proofs.YthhclcjocakdlaaDoor
