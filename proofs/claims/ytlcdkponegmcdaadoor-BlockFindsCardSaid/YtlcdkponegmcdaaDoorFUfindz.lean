/- Several texts in one: GG, FUfinds. Conditions: those said at each. -/
import Derived.Test.YtlcdkponegmcdaaDoorFR
import Derived.Test.YtlcdkponegmcdaaDoorGZ1
import Derived.Deep.Slices
import Derived.Test.YtlcdkponegmcdaaDoorGQz
/- Rows of acts that come in as a law's argument. No conditions. -/
namespace Go.Proofs.YtlcdkponegmcdaaDoor
open Go.ChangeShapes Go.WideShapes Go.ChangeAt Go.ChangeMaps Go.WideElems Go.RowKit Go.Deep
theorem add_add (a : Addr) (i j : Nat) : (a.add i).add j = a.add (i + j) := by
  obtain ⟨b, o, s⟩ := a
  unfold Addr.add
  by_cases hj0 : j = 0
  · subst hj0; simp
  · by_cases hi0 : i = 0
    · simp [hj0, hi0]
    · simp [hj0, hi0, Nat.add_assoc]
theorem list_of {α : Type} (z : α) (n : Nat) (R : Nat → α → Prop) (h : ∀ i, i < n → ∃ x, R i x) : ∃ xs : List α, xs.length = n ∧ ∀ i, i < n → R i (xs.getD i z) := by
  refine ⟨(List.range n).map fun i => if h' : i < n then Classical.choose (h i h') else z, by simp, fun i hi => ?_⟩
  have e : ((List.range n).map fun i => if h' : i < n then Classical.choose (h i h') else z).getD i z = Classical.choose (h i hi) := by
    simp [List.getD, hi]
  rw [e]; exact Classical.choose_spec (h i hi)
theorem int_in {k : IntKind} {n : Int} (h : (Lit.int k n).wf = true) : k.min ≤ n ∧ n ≤ k.max := by
  simpa [Lit.wf] using h
section
variable {H : Type} {enc : TypeId × Value → H} {w : World} {base : Nat} {spare : Nat → Bool} {held : Bool}
set_option maxRecDepth 100000 in
theorem open_acts {r : Reach} {b0 : Nat} {v : Value} {d : DataW H} {p : List MemPlace} (hv : Value.okWide Tryd.prog w r b0 39 v) (h : DataW.Trod enc Tryd.prog w base spare held 39 v d p) :
    ∃ (A : Option Addr) (n cap bb off : Nat) (xs : List ActT), v = .slice A n cap ∧ ActsIn w A n bb off xs := by
  have hC : Tryd.prog.cellsOf 47 = 4 := by kernel_rfl
  have hs1 : Tryd.prog.cellsOf 3 = 1 := by kernel_rfl
  have hs2 : Tryd.prog.cellsOf 4 = 1 := by kernel_rfl
  have hs3 : Tryd.prog.cellsOf 9 = 1 := by kernel_rfl
  obtain ⟨A, n, cap, rfl⟩ := okWide_slice Tryd.underlying39 hv
  obtain ⟨fuel, hf⟩ := h
  rcases open_slice Tryd.underlying39 hf with ⟨hcs, _⟩ | ⟨a, len, cap', m, fu, D, Pl, hcs, hb, hl, hm, hmm, _, hx⟩
  · have e : [Value.slice A n cap] = [Value.slice none 0 0] := hcs
    simp only [List.cons.injEq, Value.slice.injEq, and_true] at e
    obtain ⟨rfl, rfl, rfl⟩ := e
    exact ⟨none, 0, 0, 0, 0, [], rfl, rfl, fun h => absurd h (by omega), fun i h => absurd h (by omega), fun x h => by cases h⟩
  · have e : [Value.slice A n cap] = [Value.slice (some a) len cap'] := hcs
    simp only [List.cons.injEq, Value.slice.injEq, and_true] at e
    obtain ⟨rfl, rfl, rfl⟩ := e
    have hle : n ≤ m := by rw [hmm]; split <;> omega
    have key : ∀ i, i < n → ∃ x : ActT, w.cell? (a.add (i * 4)) = some (.bool x.gone) ∧ w.cell? (a.add (i * 4 + 1)) = some (.string x.name) ∧ w.cell? (a.add (i * 4 + 2)) = some (.string x.text) ∧ w.cell? (a.add (i * 4 + 3)) = some (.int .i64 x.long) ∧ ActOk x := by
      intro i hi
      obtain ⟨cs', h1, h2⟩ := hx i (by omega)
      rw [hC] at h1
      obtain ⟨_, hlen, hcc⟩ := World.cells?_some h1
      match cs', hlen with
      | [c0, c1, c2, c3], _ =>
        have k0 := hcc 0 (by omega)
        have k1 := hcc 1 (by omega)
        have k2 := hcc 2 (by omega)
        have k3 := hcc 3 (by omega)
        rw [add_add] at k0 k1 k2 k3
        obtain ⟨xs, m', _, _, _, hlen, hg⟩ := DataW.trod_struct Tryd.underlying47 h2
        match xs, hlen with
        | [y0, y1, y2, y3], _ =>
          have g0 : DataW.trod enc Tryd.prog w base spare held m' 4 [c0] = some y0 := by have := hg 0 _ rfl; simpa [hs2] using this
          have g1 : DataW.trod enc Tryd.prog w base spare held m' 9 [c1] = some y1 := by have := hg 1 _ rfl; simpa [hs3] using this
          have g2 : DataW.trod enc Tryd.prog w base spare held m' 9 [c2] = some y2 := by have := hg 2 _ rfl; simpa [hs3] using this
          have g3 : DataW.trod enc Tryd.prog w base spare held m' 3 [c3] = some y3 := by have := hg 3 _ rfl; simpa [hs1] using this
          obtain ⟨b0, i0, _⟩ := DataW.trod_bool Tryd.underlying4 g0
          obtain ⟨s1, i1, _, q1⟩ := DataW.trod_string Tryd.underlying9 g1
          obtain ⟨s2, i2, _, q2⟩ := DataW.trod_string Tryd.underlying9 g2
          obtain ⟨n3, i3, _, q3⟩ := DataW.trod_int Tryd.underlying3 g3
          simp only [List.cons.injEq, and_true] at i0 i1 i2 i3
          subst i0 i1 i2 i3
          have q3 := int_in q3
          simp only [IntKind.min, IntKind.max, IntKind.signed, IntKind.bits] at q3
          simp at q3
          exact ⟨⟨b0, s1, s2, n3⟩, k0, k1, k2, k3, q1, q2, q3.1, by show n3 ≤ _; omega⟩
    rcases Nat.eq_zero_or_pos n with h0 | h0
    · subst h0
      exact ⟨some a, 0, cap, 0, 0, [], rfl, rfl, fun h => absurd h (by omega), fun i h => absurd h (by omega), fun x h => by cases h⟩
    · obtain ⟨x0, k0, _⟩ := key 0 h0
      rw [Nat.zero_mul] at k0
      have ha := spot_none k0
      have hlt : a.block < w.heap.size := World.block_lt_of_cell? w (a.add 0) k0
      obtain ⟨xs, hl, hxs⟩ := list_of act0 n _ key
      have e0 : ∀ k, a.add k = ⟨a.block, a.off + k, none⟩ := fun k => by
        conv => lhs; rw [ha]
        rw [add_at]
      refine ⟨some a, n, cap, a.block, a.off, xs, rfl, hl, fun _ => ⟨by rw [← ha], hlt⟩, fun i hi => ?_, fun x hx => ?_⟩
      · obtain ⟨k0, k1, k2, k3, _⟩ := hxs i hi
        rw [e0] at k0 k1 k2 k3
        exact ⟨k0, k1, k2, k3⟩
      · obtain ⟨i, hi, rfl⟩ := List.getElem_of_mem hx
        have := (hxs i (by omega)).2.2.2.2
        rwa [List.getD, List.getElem?_eq_getElem hi] at this
end
end Go.Proofs.YtlcdkponegmcdaaDoor
/- The law BlockFinds, proved: whatever is done to a finder, what it tells is the document's; what it was handed it has not kept. No conditions beyond the card's. -/
namespace Go.Proofs.YtlcdkponegmcdaaDoor
open Go.ChangeShapes Go.WideShapes Go.ChangeAt Go.ChangeMaps Go.WideElems Go.RowKit Go.Deep
set_option maxRecDepth 100000 in
theorem finds_lifted (os : Os) (started : os.Started) (H : Type) (enc : TypeId × Value → H) :
    ReturnsInHanded {} Tryd.checked os 5 .any (fun w args => (Rows.blockFindsSpec.pre enc Tryd.prog Tryd.f5 [] false w args ∧ laidMetH Tryd.prog laid1 w) ∧ sizedMet enc Tryd.prog Tryd.f5 (OpenSpec.ofChange Rows.blockFindsSpec) false w args)
      (Rows.blockFindsSpec.post enc Tryd.prog Tryd.f5 false true false false) := by
  refine returnsInHanded_of_change_and (C := Tryd.checked) (X := fun w _ => laidMetH Tryd.prog laid1 w) (fun _ _ _ hh h => h.of_heap hh) ownK started (by kernel_rfl) Tryd.func5
    (ChangeSpec.witness_shaped (enc := enc) (C := Tryd.checked) (os := os) (X := fun w _ => laidMetH Tryd.prog laid1 w) false (World.doorLaid Tryd.prog 40 os) #[.slice none 0 0, .agg (hvec (List.replicate 32 0))] 40 rfl (World.shaped_of_RefB (by kernel_rfl) (by kernel_rfl)) (by kernel_rfl) (by kernel_rfl) (by kernel_rfl) (door_met os _)) ?_
  intro W base args ds gs before hval0 hW _ _ hL _
  have hval : ∀ (j : Nat) t v, Tryd.f5.params[j]? = some t → args[j]? = some v → Value.okWide Tryd.prog W .any base t v := hval0
  have hW' := hW
  obtain ⟨p, q, hA0, hV, rfl, hfz, hnd⟩ := hW
  have hA : DataW.TrodAll enc Tryd.prog W 0 (fun _ => true) true Tryd.f5.params.toList args.toList ds p := hA0
  rw [Tryd.params5] at hA hval
  have hT := of_laid hL
  obtain ⟨v0, v1, d0, d1, p0, p1, rfl, rfl, rfl, h0, h1⟩ := trodAll_two hA
  obtain ⟨rfl, rfl⟩ := trodVars_none hV
  obtain ⟨A0, n0, cap0, bb0, off0, xs0, rfl, hI0⟩ := open_acts (hval 0 39 v0 rfl rfl) h0
  obtain ⟨l1, rfl, hm1⟩ := open_hash (hval 1 27 v1 rfl rfl) h1
  have hlt : ∀ x ∈ (p0 ++ p1) ++ [], x.block < W.heap.size := fun x hx => hW'.lt x hx
  refine (blockfinds_any A0 n0 cap0 bb0 off0 xs0 l1 hm1 W hI0 hT).mono fun e W' ⟨he, hb⟩ => ?_
  subst he
  refine ⟨_, rfl, post_law (pa := p0 ++ p1) rfl rfl hW' rfl hb ?_⟩
  rw [Tryd.params5]
  exact trodAll_mk2 (Below.trod laidOut (by kernel_rfl) (of_decide_eq_true (by kernel_rfl)) h0 hb (fun x hx => hlt x (by simp [hx]))) (Below.trod laidOut (by kernel_rfl) (of_decide_eq_true (by kernel_rfl)) h1 hb (fun x hx => hlt x (by simp [hx])))
theorem finds_holds : Rows.BlockFindsSaid :=
  OpenClaim.holds_of_wide 5 Tryd.f5 rfl rfl rfl rfl rfl rfl rfl ⟨rfl, rfl, rfl, rfl, rfl⟩ rfl rfl rfl rfl rfl (by kernel_rfl) Tryd.func5 (by kernel_rfl)
    (of_decide_eq_true (by kernel_rfl)) (by unfold Func.isWrapper; first | (rw [if_pos (by decide +kernel)]; kernel_rfl) | (rw [if_neg (by decide +kernel)]; exact ⟨rfl, rfl⟩))
    (fun os started H enc _ => finds_lifted os started H enc)
/-- THE STATEMENT. -/
theorem finds_card : Rows.BlockFindsCardSaid :=
  Claim7.holds_tied_plain_at .later [] [.data] true (true, "38dbc88f0f33d9c6f227e14be1247494e924585b5d88b7c614a366f6c80ddb6d") false
    finds_holds (fun _ h => by cases h) (by kernel_rfl) (fun _ h => by cases h) blockFinds_row_tie rfl ⟨rfl, rfl⟩ (by kernel_rfl) rfl
    (fun f fn hf hfn => by
      obtain rfl : f = 5 := Option.some.inj ((show Tryd.prog.funcNamed "caravan/caravanlaw05.BlockFinds" = some 5 by kernel_rfl).symm.trans hf) |>.symm
      obtain rfl : fn = Tryd.f5 := (Option.some.inj (Tryd.func5.symm.trans hfn)).symm
      exact ⟨by kernel_rfl, fun j t ht => by
        rw [Tryd.params5] at ht
        have hm : t ∈ [39, 27] := by simpa using Array.mem_of_getElem? ht
        have hall : ([39, 27].all fun u => !Tryd.prog.wantsStandIn u) = true := by kernel_rfl
        exact (show Tryd.prog.wantsStandIn t = false by simpa using List.all_eq_true.1 hall t hm)⟩)
    (by kernel_rfl)
#print axioms finds_card
end Go.Proofs.YtlcdkponegmcdaaDoor
