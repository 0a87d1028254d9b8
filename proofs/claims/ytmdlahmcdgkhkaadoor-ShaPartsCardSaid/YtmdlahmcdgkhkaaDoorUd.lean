/- The law ShaParts, proved: bytes given in parts, for every slice of parts. No conditions beyond the card's. -/
import Derived.Test.YtmdlahmcdgkhkaaDoorAB
namespace Go.Proofs.YtmdlahmcdgkhkaaDoor
open Go.ChangeShapes Go.WideShapes Go.ChangeAt Go.ChangeMaps Go.WideElems Go.RowKit Go.Deep
theorem weights_in {H : Type} {P : Program} {e : TypeId} : ∀ {l : List (DataW H)} {d : DataW H}, d ∈ l → ∀ n ∈ d.weights P e, n ∈ DataW.weightsAll P e l
  | x :: r, d, h, n, hn => by
    simp only [DataW.weightsAll, List.mem_append]
    rcases List.mem_cons.1 h with rfl | h
    · exact .inl hn
    · exact .inr (weights_in h n hn)
theorem b5 : Tryd.prog.bytesOf 5 = 1 := by kernel_rfl
theorem reach_is : reachBytes = 140737488351232 := rfl
theorem weight_row {H : Type} {A : Option Addr} {L C : Nat} {zs : List Int} (hl : zs.length = C) (hA : A = none → C = 0) (h : ∀ n ∈ (intRow (H := H) .u8 A L zs).weights Tryd.prog 22, n ≤ reachBytes) : C ≤ 140737488351232 := by
  cases A with
  | none => have := hA rfl; omega
  | some a =>
    have hm : C ∈ (intRow (H := H) .u8 (some a) L zs).weights Tryd.prog 22 := by
      simp only [intRow, DataW.weights, Tryd.underlying22, List.mem_cons]
      left
      rw [b5]
      simp [lits]; omega
    have := h C hm
    rwa [reach_is] at this
def bytesOf (zs : List Int) (L : Nat) : List UInt8 := (zs.take L).map fun z => UInt8.ofNat z.toNat
theorem spot_none {w : World} {a : Addr} {v : Value} (h : w.cell? (a.add 0) = some v) : a = ⟨a.block, a.off, none⟩ := by
  have e : a.add 0 = a := rfl
  rw [e] at h
  obtain ⟨b, o, s⟩ := a
  cases s with
  | none => rfl
  | some x =>
    simp only [World.cell?] at h
    split at h
    · simp at h
    · cases h
theorem int_num {z : Int} (h : (Lit.int .u8 z).wf = true) : z = b8 (UInt8.ofNat z.toNat) := by
  simp only [Lit.wf, IntKind.min, IntKind.max, IntKind.signed, IntKind.bits, Bool.and_eq_true, decide_eq_true_eq] at h
  simp at h
  rw [b8_ofNat]
  have : ((z.toNat % 256 : Nat) : Int) = z := by omega
  rw [this]
theorem row_bytes {w : World} {A : Option Addr} {L C : Nat} {zs : List Int} (hp : 0 < w.heap.size) (hLC : L ≤ C) (hl : zs.length = C) (hwf : ∀ n ∈ zs, (Lit.int .u8 n).wf = true) (hA : A = none → C = 0)
    (hc : ∀ a', A = some a' → ∀ c, c < C → w.cell? (a'.add c) = some (.int .u8 (zs.getD c 0))) : ∃ bb off, Bytes w (.slice A L C) (bytesOf zs L) A C bb off := by
  have hlen : (bytesOf zs L).length = L := by simp [bytesOf]; omega
  have hat : ∀ j, j < L → zs.getD j 0 = b8 (at8 (bytesOf zs L) j) := by
    intro j hj
    have hj2 : j < zs.length := by omega
    simp only [at8, bytesOf, List.getD, List.getElem?_map, List.getElem?_take, if_pos hj, List.getElem?_eq_getElem hj2, Option.map_some, Option.getD_some]
    exact int_num (hwf _ (List.getElem_mem hj2))
  have hcell : ∀ a, A = some a → ∀ j, j < (bytesOf zs L).length → w.cell? (a.add j) = some (V8 (at8 (bytesOf zs L) j)) := fun a ha j hj => by
    rw [hlen] at hj
    rw [hc a ha j (by omega), hat j hj]; rfl
  rcases Nat.eq_zero_or_pos L with h0 | h0
  · exact ⟨0, 0, by rw [hlen], by omega, hA, hcell, hp, fun h => by omega⟩
  · cases A with
    | none => have := hA rfl; omega
    | some a =>
      have h1 := hc a rfl 0 (by omega)
      have h2 := spot_none h1
      refine ⟨a.block, a.off, by rw [hlen], by omega, hA, hcell, ?_, fun _ => by rw [← h2]⟩
      exact block_lt_of_cell (a := a) h1
theorem add_of (b o i : Nat) : (⟨b, o, none⟩ : Addr).add i = ⟨b, o + i, none⟩ := by unfold Addr.add; split <;> simp_all
set_option maxRecDepth 100000 in
theorem came_of {H : Type} {enc : TypeId × Value → H} {W : World} {A0 : Option Addr} {len cap : Nat} {d : DataW H} {p : List MemPlace} (hp : 0 < W.heap.size) (h : DataW.Trod enc Tryd.prog W 0 (fun _ => true) true 44 (.slice A0 len cap) d p)
    (hsz : ∀ n ∈ d.weights Tryd.prog 44, n ≤ reachBytes) : ∃ pb po ps, Came W pb po len A0 ps ∧ len ≤ 140737488351232 := by
  obtain ⟨fuel, hf⟩ := h
  have c22 : Tryd.prog.cellsOf 22 = 1 := by kernel_rfl
  have c5 : Tryd.prog.cellsOf 5 = 1 := by kernel_rfl
  have b22 : Tryd.prog.bytesOf 22 = 24 := by kernel_rfl
  rcases open_int_rows Tryd.underlying44 Tryd.underlying22 Tryd.underlying5 c22 c5 hf with ⟨h1, h2⟩ | ⟨a, len', cap', A, L, C, Z, h1, _, hl, hm, h2, h3⟩
  · have e : (Value.slice A0 len cap).cells.toList = [Value.slice A0 len cap] := rfl
    rw [e] at h1
    simp only [List.cons.injEq, Value.slice.injEq, and_true] at h1
    obtain ⟨rfl, rfl, rfl⟩ := h1
    exact ⟨0, 0, [], ⟨rfl, fun h => by omega, fun i hi => by omega, fun i hi => by omega⟩, by omega⟩
  · have e : (Value.slice A0 len cap).cells.toList = [Value.slice A0 len cap] := rfl
    rw [e] at h1
    simp only [List.cons.injEq, Value.slice.injEq, and_true] at h1
    obtain ⟨rfl, rfl, rfl⟩ := h1
    simp only [Prod.mk.injEq] at h2
    obtain ⟨rfl, _⟩ := h2
    have hrow : ∀ r, r < len → C r ≤ 140737488351232 := fun r hr => by
      have hr3 := h3 r (by omega)
      refine weight_row (H := H) (L := L r) hr3.2.2.2.1 hr3.2.2.2.2.2.1 fun n hn => hsz n ?_
      simp only [DataW.weights, Tryd.underlying44, List.mem_cons, List.mem_append]
      exact .inr (.inl (weights_in (List.mem_map.2 ⟨r, List.mem_range.2 hr, rfl⟩) n hn))
    have hlen : len ≤ 140737488351232 := by
      have := hsz ((len + (cap - len)) * 24) (by
        simp only [DataW.weights, Tryd.underlying44, List.mem_cons, List.mem_append, List.length_map, List.length_range, b22]
        exact .inl trivial)
      rw [reach_is] at this
      omega
    have hprt : ∀ i, i < len → prt ((List.range len).map fun r => bytesOf (Z r) (L r)) i = bytesOf (Z i) (L i) := fun i hi => by
      rw [prt, List.getD, List.getElem?_map, List.getElem?_range hi]; rfl
    refine ⟨a.block, a.off, (List.range len).map fun r => bytesOf (Z r) (L r), ⟨by simp, fun h0 => ?_, fun i hi => ?_, fun i hi => ?_⟩, hlen⟩
    · exact congrArg some (spot_none (h3 0 (by omega)).1)
    · obtain ⟨r1, r2, r3, r4, r5, r6, r7⟩ := h3 i (by omega)
      have ha := spot_none (h3 0 (by omega)).1
      obtain ⟨bb, off, hb⟩ := row_bytes hp r2 r4 r5 r6 (fun a' ha' => (r7 a' ha').2)
      refine ⟨_, _, _, bb, off, ?_, by rw [hprt i hi]; exact hb⟩
      rw [ha] at r1
      have e2 : (⟨a.block, a.off, none⟩ : Addr).add i = ⟨a.block, a.off + i, none⟩ := add_of _ _ _
      rwa [e2] at r1
    · obtain ⟨r1, r2, r3, r4, r5, r6, r7⟩ := h3 i (by omega)
      rw [hprt i hi]
      have h5 : (bytesOf (Z i) (L i)).length ≤ L i := by simp [bytesOf]; omega
      have := hrow i hi
      omega
set_option maxRecDepth 100000 in
theorem parts_lifted (os : Os) (started : os.Started) (H : Type) (enc : TypeId × Value → H) :
    ReturnsInHanded {} Tryd.checked os 6 .any (fun w args => (Rows.shaPartsSpec.pre enc Tryd.prog Tryd.f6 [] false w args ∧ laidMetH Tryd.prog laid1 w) ∧ sizedMet enc Tryd.prog Tryd.f6 (OpenSpec.ofChange Rows.shaPartsSpec) false w args)
      (Rows.shaPartsSpec.post enc Tryd.prog Tryd.f6 false true false false) := by
  refine returnsInHanded_of_change_and (C := Tryd.checked) (X := fun w _ => laidMetH Tryd.prog laid1 w) (fun _ _ _ hh h => h.of_heap hh) own started (by kernel_rfl) Tryd.func6
    (ChangeSpec.witness_shaped (enc := enc) (C := Tryd.checked) (os := os) (X := fun w _ => laidMetH Tryd.prog laid1 w) false (World.doorLaid Tryd.prog 40 os) #[.slice none 0 0] 40 rfl (World.shaped_of_RefB (by kernel_rfl) (by kernel_rfl)) (by kernel_rfl) (by kernel_rfl) (by kernel_rfl) (door_met os _)) ?_
  intro W base args ds gs before hval0 hW _ hsz hL _
  have hval : ∀ (j : Nat) t v, Tryd.f6.params[j]? = some t → args[j]? = some v → Value.okWide Tryd.prog W .any base t v := hval0
  have hW' := hW
  obtain ⟨p, q, hA0, hV, rfl, hfz, hnd⟩ := hW
  have hA : DataW.TrodAll enc Tryd.prog W 0 (fun _ => true) true Tryd.f6.params.toList args.toList ds p := hA0
  rw [Tryd.params6] at hA hval
  obtain ⟨v0, d0, rfl, rfl, h0⟩ := trodAll_one hA
  obtain ⟨rfl, rfl⟩ := trodVars_none hV
  obtain ⟨A0, len, cap, rfl⟩ := okWide_slice Tryd.underlying44 (hval 0 44 v0 rfl rfl)
  have hlt : ∀ x ∈ p ++ [], x.block < W.heap.size := fun x hx => hW'.lt x hx
  have hsz' : ∀ n ∈ d0.weights Tryd.prog 44, n ≤ reachBytes := fun n hn => of_decide_eq_true (List.all_eq_true.1 hsz n (DataW.weights_mem_each (j := 0) (t := 44) (by rw [Tryd.params6]; rfl) rfl n hn))
  have hT := of_laid hL
  obtain ⟨pb, po, ps, hC, hl⟩ := came_of hT.pos h0 hsz'
  refine (parts_any A0 pb po len cap ps W hT hC (Nat.le_trans hl (by omega))).mono fun e W' ⟨he, hb⟩ => ?_
  subst he
  refine ⟨_, rfl, post_law (pa := p) rfl rfl hW' rfl hb ?_⟩
  rw [Tryd.params6]
  exact trodAll_mk1 (Below.trod laidOut (by kernel_rfl) (of_decide_eq_true (by kernel_rfl)) h0 hb (fun x hx => hlt x (by simp [hx])))
theorem parts_holds : Rows.ShaPartsSaid :=
  OpenClaim.holds_of_wide 6 Tryd.f6 rfl rfl rfl rfl rfl rfl rfl ⟨rfl, rfl, rfl, rfl, rfl⟩ rfl rfl rfl rfl rfl (by kernel_rfl) Tryd.func6 (by kernel_rfl)
    (of_decide_eq_true (by kernel_rfl)) (by unfold Func.isWrapper; first | (rw [if_pos (by decide +kernel)]; kernel_rfl) | (rw [if_neg (by decide +kernel)]; exact ⟨rfl, rfl⟩))
    (fun os started H enc _ => parts_lifted os started H enc)
theorem parts_card : Rows.ShaPartsCardSaid :=
  Claim7.holds_tied_plain_at .later [] [.data] true (true, "6bfc62f05b24b53ce1bdf3de162da59eb8f1e55c5e8b4c8af2d242ab5ef9bccf") false
    parts_holds (fun _ h => by cases h) (by kernel_rfl) (fun _ h => by cases h) shaParts_row_tie rfl ⟨rfl, rfl⟩ (by kernel_rfl) rfl
    (fun f fn hf hfn => by
      obtain rfl : f = 6 := Option.some.inj ((show Tryd.prog.funcNamed "caravan/caravanlaw01.ShaParts" = some 6 by kernel_rfl).symm.trans hf) |>.symm
      obtain rfl : fn = Tryd.f6 := (Option.some.inj (Tryd.func6.symm.trans hfn)).symm
      exact ⟨by kernel_rfl, fun j t ht => by
        rw [Tryd.params6] at ht
        have hm : t ∈ [44] := by simpa using Array.mem_of_getElem? ht
        have hall : ([44].all fun u => !Tryd.prog.wantsStandIn u) = true := by kernel_rfl
        exact (show Tryd.prog.wantsStandIn t = false by simpa using List.all_eq_true.1 hall t hm)⟩)
    (by kernel_rfl)
#print axioms parts_card
end Go.Proofs.YtmdlahmcdgkhkaaDoor
