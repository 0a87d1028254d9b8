/- awake of the laws: some of the chapter's answers. Conditions: the listed table. -/
import Derived.Test.YthhclcjocakdlaaDoorSO
namespace Go.Proofs.YthhclcjocakdlaaDoor.Sha
open Go.RowKit
theorem shaL_len (xs : List UInt8) : (shaL xs).length = 32 := fin_len _
@[irreducible] def hAbc : List UInt8 := shaL [97, 98, 99]
theorem hAbc_eq : hAbc = shaL [97, 98, 99] := by unfold hAbc; rfl
theorem hAbc_len : hAbc.length = 32 := by rw [hAbc_eq]; exact shaL_len _
abbrev sAbc : ByteArray := ⟨#[98, 97, 55, 56, 49, 54, 98, 102, 56, 102, 48, 49, 99, 102, 101, 97, 52, 49, 52, 49, 52, 48, 100, 101, 53, 100, 97, 101, 50, 50, 50, 51, 98, 48, 48, 51, 54, 49, 97, 51, 57, 54, 49, 55, 55, 97, 57, 99, 98, 52, 49, 48, 102, 102, 54, 49, 102, 50, 48, 48, 49, 53, 97, 100]⟩
theorem of_of (s : ByteArray) (l h : List UInt8) (hs : s.data.toList = l) (ho : ofL l = some h) (w : World) :
    Calls Tryd.prog 44 #[.string s] w fun e w' => e = .returned (.tuple #[.agg (bvec h), .bool true]) ∧ Below w.heap.size w w' :=
  (of_any s l hs w).mono fun _ _ ⟨h1, h2⟩ => ⟨by rw [h1, ho]; rfl, h2⟩
theorem of_abc (w : World) : Calls Tryd.prog 44 #[.string sAbc] w fun e w' => e = .returned (.tuple #[.agg (bvec hAbc), .bool true]) ∧ Below w.heap.size w w' :=
  of_of sAbc _ hAbc rfl (by rw [hAbc_eq]; exact ofAbc_of) w
theorem text_abc (w : World) (hT : Tab w) : Calls Tryd.prog 45 #[.string ⟨#[97, 98, 99]⟩] w fun e w' => e = .returned (.string sAbc) ∧ Below w.heap.size w w' :=
  text_of ⟨#[97, 98, 99]⟩ [97, 98, 99] _ rfl (by simp) ofAbc_text w hT
theorem text_none (w : World) (hT : Tab w) : Calls Tryd.prog 45 #[.string ⟨#[]⟩] w fun e w' => e = .returned (.string ⟨#[101, 51, 98, 48, 99, 52, 52, 50, 57, 56, 102, 99, 49, 99, 49, 52, 57, 97, 102, 98, 102, 52, 99, 56, 57, 57, 54, 102, 98, 57, 50, 52, 50, 55, 97, 101, 52, 49, 101, 52, 54, 52, 57, 98, 57, 51, 52, 99, 97, 52, 57, 53, 57, 57, 49, 98, 55, 56, 53, 50, 98, 56, 53, 53]⟩) ∧ Below w.heap.size w w' :=
  text_of ⟨#[]⟩ [] _ rfl (by simp) ofNone_text w hT
/-- The sum of bytes of the call's own, behind the mark that a conversion lays. -/
theorem sum_lit (C : List UInt8) (n : Nat) (hn : C.length = n) (hb : n ≤ 1099511627776) (w : World) (fr : Nat × Nat) (hT : Tab w) :
    Calls Tryd.prog 15 #[.slice (some ⟨w.heap.size, 0, none⟩) n n] (w.alloc (.cells (bvec C) 5 fr)) fun e w' => e = .returned (.agg (bvec (shaL C))) ∧ Below w.heap.size w w' :=
  (sum_any w.heap.size 0 n n _ C _ (fun i hi => (World.cell?_alloc_lt w _ ⟨0, i, none⟩ hT.pos).trans (hT i hi)) (by simp) hn (Nat.le_refl _) hb (fun j hj => by
    rw [Nat.zero_add, cell_of_row _ w.heap.size j _ 5 fr (heap_alloc_new w _)]
    exact bvec_get C j (by omega)) (fun _ => rfl)).mono fun _ _ ⟨h1, h2⟩ => ⟨h1, ((Below.refl _ _).alloc (Nat.le_refl _) _).trans (h2.mono (by simp))⟩
theorem sum_abc (w : World) (fr : Nat × Nat) (hT : Tab w) :
    Calls Tryd.prog 15 #[.slice (some ⟨w.heap.size, 0, none⟩) 3 3] (w.alloc (.cells #[.int .u8 97, .int .u8 98, .int .u8 99] 5 fr)) fun e w' => e = .returned (.agg (bvec hAbc)) ∧ Below w.heap.size w w' := by
  rw [hAbc_eq]
  exact sum_lit [97, 98, 99] 3 rfl (by omega) w fr hT
theorem awake_start (w w1 : World) (hb : Below w.heap.size w w1) : ∃ W2, (w1.alloc (.cells zero32 25)).setRow w1.heap.size (bvec hAbc) = W2 ∧
    Hid (Below w.heap.size w W2) ∧ W2.rangeAt w1.heap.size 0 (hAbc.map V8) := by
  refine ⟨_, rfl, ?_, ?_⟩
  · exact (hb.alloc hb.size _).rowK hb.size _
  · intro j v hv
    have hh : Has ((w1.alloc (.cells zero32 25)).setRow w1.heap.size (bvec hAbc)) w1.heap.size 25 (bvec hAbc) := Has.row (Has.fresh w1 25 zero32)
    rw [Nat.zero_add, hh.at_ j, bvec_V8]
    simpa using hv
theorem range_below {w w' : World} {g : Nat} {vs : List Value} (h : w.rangeAt g 0 vs) (hb : Below w.heap.size w w') : w'.rangeAt g 0 vs := fun j v hv =>
  (hb.cell (p := ⟨g, 0 + j, none⟩) (block_lt_of_cell (h j v hv))).trans (h j v hv)
set_option maxRecDepth 100000 in
set_option maxHeartbeats 400000 in
theorem awake_any (w : World) (hT : Tab w) : Calls Tryd.prog 14 #[] w fun e w' => e = .returned (.bool true) ∧ Below w.heap.size w w' := by
  have HT := hid hT
  have HP := hid hT.pos
  have Y1 := size_dig hAbc hAbc_len
  have Y2 := size_zero hAbc hAbc_len
  have kc := fun (w : World) (C : Array Value) (n c : Nat) => Lib.run_convert_bytes_const (P := Tryd.prog) w 22 5 C n c Tryd.underlying22 Tryd.underlying5
  have hu25 := Tryd.underlying25
  have hi25 : (Tryd.prog.info? 25).map (·.size) = some (hAbc.map V8).length := by rw [List.length_map, hAbc_len]; exact i25
  have heq : ∀ w, (binOp .eql 25 (.agg (hAbc.map V8).toArray) (.agg (bvec hAbc))).run Tryd.prog w = .ok (.bool true) w := fun w => by
    rw [← bvec_V8, run_hash_eql hAbc hAbc hAbc_len hAbc_len w, sameL_refl]
  clear hT
  go_enter Tryd.func14, Tryd.ntmps14
  go_wp2_with (first
    | (go_at_call 44; refine (of_abc _).mono ?_; rintro e1 w1 ⟨rfl, hb1⟩)
    | (refine wpList_store_row rfl 25 (.tmp 1) (.tmp 5) rfl w1.heap.size (bvec hAbc) rfl rfl 25 zero32 (Has.fresh w1 25 zero32) Y1.out Y2.out (bvec_one _) ?_
       generalize hG : World.setRow _ _ _ = W2
       obtain ⟨W0, hG0, B2, r2⟩ := awake_start w w1 hb1
       obtain rfl : W0 = W2 := hG0.symm.trans hG
       have TB : Hid (Tab W0) := HT.out.kept B2.out HP.out
       clear hG0 hG hb1))
  have r2d : W0.drew.rangeAt w1.heap.size 0 (hAbc.map V8) := r2
  have TBd : Hid (Tab W0.drew) := TB
  have B2d : Hid (Below w.heap.size w W0.drew) := B2.out.drew
  refine wp_region_noPanic ?_
  refine wp_region_held_drew (S := fun w' => w'.rangeAt w1.heap.size 0 (hAbc.map V8)) (by kernel_rfl) r2d (fun hS => ?_)
  refine wpAnyH_ready (rs := [0]) (by kernel_rfl) (by simp) ?_
  refine AllReadyH.cons (by simp only [List.getElem?_toArray, List.getElem?_cons_zero, List.getElem?_cons_succ]; rfl) (fun K hK => ?_) AllReadyH.nil
  go_simp
  refine (text_abc _ TBd.out).mono ?_
  rintro e3 w3 ⟨rfl, hb3⟩
  have r3 : w3.rangeAt w1.heap.size 0 (hAbc.map V8) := range_below r2d hb3
  have B3 : Hid (Below w.heap.size w w3) := B2d.out.trans (hb3.mono B2d.out.size)
  have T3 : Hid (Tab w3) := HT.out.kept B3.out HP.out
  clear hb3
  refine hK.out _ _ r3 (fun hS => ?_)
  clear hK K
  refine wpAnyH_take (i := 1) (v := ?_) (by simp only [List.getElem?_toArray, List.getElem?_cons_zero, List.getElem?_cons_succ]; rfl) (by kernel_rfl) (by kernel_rfl) (by kernel_rfl) (fun _ _ _ h => h) (Or.inl ⟨by rfl, ?_⟩) (by assumption) ?_
  rotate_left 1
  · intro w hSw
    (try dsimp only at hSw)
    go_simp
    with_reducible rfl
  simp only [Act.put, List.setIfInBounds_toArray, List.set_cons_zero, List.set_cons_succ]
  refine wpAnyH_take (i := 2) (v := ?_) (by simp only [List.getElem?_toArray, List.getElem?_cons_zero, List.getElem?_cons_succ]; rfl) (by kernel_rfl) (by kernel_rfl) (by kernel_rfl) (fun _ _ _ h => h) (Or.inl ⟨by rfl, ?_⟩) (by assumption) ?_
  rotate_left 1
  · intro w hSw
    (try dsimp only at hSw)
    go_simp
    with_reducible rfl
  simp only [Act.put, List.setIfInBounds_toArray, List.set_cons_zero, List.set_cons_succ]
  refine wpAnyH_take (i := 3) (v := ?_) (by simp only [List.getElem?_toArray, List.getElem?_cons_zero, List.getElem?_cons_succ]; rfl) (by kernel_rfl) (by kernel_rfl) (by kernel_rfl) (fun _ _ _ h => h) (Or.inl ⟨by rfl, ?_⟩) (by assumption) ?_
  rotate_left 1
  · intro w hSw
    (try dsimp only at hSw)
    go_simp
    with_reducible rfl
  simp only [Act.put, List.setIfInBounds_toArray, List.set_cons_zero, List.set_cons_succ]
  refine wpAnyH_take (i := 4) (v := ?_) (by simp only [List.getElem?_toArray, List.getElem?_cons_zero, List.getElem?_cons_succ]; rfl) (by kernel_rfl) (by kernel_rfl) (by kernel_rfl) (fun _ _ _ h => h) (Or.inl ⟨by rfl, ?_⟩) (by assumption) ?_
  rotate_left 1
  · intro w hSw
    (try dsimp only at hSw)
    go_simp
    with_reducible rfl
  simp only [Act.put, List.setIfInBounds_toArray, List.set_cons_zero, List.set_cons_succ]
  refine wpAnyH_take (i := 5) (v := ?_) (by simp only [List.getElem?_toArray, List.getElem?_cons_zero, List.getElem?_cons_succ]; rfl) (by kernel_rfl) (by kernel_rfl) (by kernel_rfl) (fun _ _ _ h => h) (Or.inl ⟨by rfl, ?_⟩) (by assumption) ?_
  rotate_left 1
  · intro w hSw
    (try dsimp only at hSw)
    go_simp
    with_reducible rfl
  simp only [Act.put, List.setIfInBounds_toArray, List.set_cons_zero, List.set_cons_succ]
  refine' wpAnyH_take (i := 6) (v := _) (by simp only [List.getElem?_toArray, List.getElem?_cons_zero, List.getElem?_cons_succ]; rfl) (by kernel_rfl) (by kernel_rfl) (by kernel_rfl) (fun _ _ _ h => h)
    (yieldsIf_load_mid (by rfl) _ _ rfl _ _ rfl (hAbc.map V8) _ (fun w hSw => hSw) hu25 rfl hi25) (by assumption) ?_
  simp only [Act.put, List.setIfInBounds_toArray, List.set_cons_zero, List.set_cons_succ]
  refine wpAnyH_ready (rs := [7]) (by kernel_rfl) (by simp) ?_
  refine AllReadyH.cons (by simp only [List.getElem?_toArray, List.getElem?_cons_zero, List.getElem?_cons_succ]; rfl) (fun K hK => ?_) AllReadyH.nil
  go_simp
  refine hK.out _ _ (World.rangeAt_alloc r3 _) (fun hS => ?_)
  clear hK K
  refine wpAnyH_ready (rs := [8]) (by kernel_rfl) (by simp) ?_
  refine AllReadyH.cons (by simp only [List.getElem?_toArray, List.getElem?_cons_zero, List.getElem?_cons_succ]; rfl) (fun K hK => ?_) AllReadyH.nil
  go_simp
  refine hK.out _ _ (World.rangeAt_alloc r3 _) (fun hS => ?_)
  clear hK K
  refine wpAnyH_ready (rs := [9]) (by kernel_rfl) (by simp) ?_
  refine AllReadyH.cons (by simp only [List.getElem?_toArray, List.getElem?_cons_zero, List.getElem?_cons_succ]; rfl) (fun K hK => ?_) AllReadyH.nil
  go_simp
  refine (sum_abc w3 _ T3.out).mono ?_
  rintro e4 w4 ⟨rfl, hb4⟩
  have r4 : w4.rangeAt w1.heap.size 0 (hAbc.map V8) := range_below r3 hb4
  have B4 : Hid (Below w.heap.size w w4) := B3.out.trans (hb4.mono B3.out.size)
  have T4 : Hid (Tab w4) := HT.out.kept B4.out HP.out
  clear hb4
  refine hK.out _ _ r4 (fun hS => ?_)
  clear hK K
  refine wpAnyH_take (i := 10) (v := ?_) (by simp only [List.getElem?_toArray, List.getElem?_cons_zero, List.getElem?_cons_succ]; rfl) (by kernel_rfl) (by kernel_rfl) (by kernel_rfl) (fun _ _ _ h => h) (Or.inl ⟨by rfl, ?_⟩) (by assumption) ?_
  rotate_left 1
  · intro w hSw
    (try dsimp only at hSw)
    go_simp
    with_reducible rfl
  simp only [Act.put, List.setIfInBounds_toArray, List.set_cons_zero, List.set_cons_succ]
  refine wpAnyH_take (i := 11) (v := ?_) (by simp only [List.getElem?_toArray, List.getElem?_cons_zero, List.getElem?_cons_succ]; rfl) (by kernel_rfl) (by kernel_rfl) (by kernel_rfl) (fun _ _ _ h => h) (Or.inl ⟨by rfl, ?_⟩) (by assumption) ?_
  rotate_left 1
  · intro w hSw
    (try dsimp only at hSw)
    go_simp
    with_reducible rfl
  simp only [Act.put, List.setIfInBounds_toArray, List.set_cons_zero, List.set_cons_succ]
  refine wpAnyH_take (i := 12) (v := ?_) (by simp only [List.getElem?_toArray, List.getElem?_cons_zero, List.getElem?_cons_succ]; rfl) (by kernel_rfl) (by kernel_rfl) (by kernel_rfl) (fun _ _ _ h => h) (Or.inl ⟨by rfl, ?_⟩) (by assumption) ?_
  rotate_left 1
  · intro w hSw
    (try dsimp only at hSw)
    go_simp
    with_reducible rfl
  simp only [Act.put, List.setIfInBounds_toArray, List.set_cons_zero, List.set_cons_succ]
  refine wpAnyH_ready (rs := [13]) (by kernel_rfl) (by simp) ?_
  refine AllReadyH.cons (by simp only [List.getElem?_toArray, List.getElem?_cons_zero, List.getElem?_cons_succ]; rfl) (fun K hK => ?_) AllReadyH.nil
  go_simp
  refine (text_none _ T4.out).mono ?_
  rintro e5 w5 ⟨rfl, hb5⟩
  have r5 : w5.rangeAt w1.heap.size 0 (hAbc.map V8) := range_below r4 hb5
  have B5 : Hid (Below w.heap.size w w5) := B4.out.trans (hb5.mono B4.out.size)
  clear hb5
  refine hK.out _ _ r5 (fun hS => ?_)
  clear hK K
  refine wpAnyH_take (i := 14) (v := ?_) (by simp only [List.getElem?_toArray, List.getElem?_cons_zero, List.getElem?_cons_succ]; rfl) (by kernel_rfl) (by kernel_rfl) (by kernel_rfl) (fun _ _ _ h => h) (Or.inl ⟨by rfl, ?_⟩) (by assumption) ?_
  rotate_left 1
  · intro w hSw
    (try dsimp only at hSw)
    go_simp
    with_reducible rfl
  simp only [Act.put, List.setIfInBounds_toArray, List.set_cons_zero, List.set_cons_succ]
  refine wpAnyH_take (i := 15) (v := ?_) (by simp only [List.getElem?_toArray, List.getElem?_cons_zero, List.getElem?_cons_succ]; rfl) (by kernel_rfl) (by kernel_rfl) (by kernel_rfl) (fun _ _ _ h => h) (Or.inl ⟨by rfl, ?_⟩) (by assumption) ?_
  rotate_left 1
  · intro w hSw
    (try dsimp only at hSw)
    go_simp
    with_reducible rfl
  simp only [Act.put, List.setIfInBounds_toArray, List.set_cons_zero, List.set_cons_succ]
  refine wpAnyH_take (i := 16) (v := ?_) (by simp only [List.getElem?_toArray, List.getElem?_cons_zero, List.getElem?_cons_succ]; rfl) (by kernel_rfl) (by kernel_rfl) (by kernel_rfl) (fun _ _ _ h => h) (Or.inl ⟨by rfl, ?_⟩) (by assumption) ?_
  rotate_left 1
  · intro w hSw
    (try dsimp only at hSw)
    go_simp
    with_reducible rfl
  simp only [Act.put, List.setIfInBounds_toArray, List.set_cons_zero, List.set_cons_succ]
  refine wpAnyH_done (by kernel_rfl) ?_ _
  refine NoPanic.normal ?_
  go_wp2
  go_ret
  exact ⟨rfl, B5.out⟩
end Go.Proofs.YthhclcjocakdlaaDoor.Sha
