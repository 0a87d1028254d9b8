/- Glob: cutElement: what the call does. Conditions: at least one byte, at most 128. -/
import Derived.Test.YtpipkgkfhbagmaaGreatDoorJF
namespace Go.Proofs.YtpipkgkfhbagmaaGreatDoor.Glob
open Go.RowKit
theorem elemL_set (s : By) (h1 : pre [42, 42] s = false) (h2 : (at8 s 0 == 42) = false) (h3 : (at8 s 0 == 63) = false) (h4 : (at8 s 0 == 91) = true) : elemL s = clsL (s.drop 1) := by
  unfold elemL clsL
  rw [h1, h2, h3, h4]
  rfl
theorem elemL_byt (s : By) (h1 : pre [42, 42] s = false) (h2 : (at8 s 0 == 42) = false) (h3 : (at8 s 0 == 63) = false) (h4 : (at8 s 0 == 91) = false) : elemL s = match cbL s with | none => none | some (c, r) => some (.byt c, r) := by
  unfold elemL
  rw [h1, h2, h3, h4]
  rfl
theorem elem_fin (w : World) (W : World) (H : Has W w.heap.size 107 #[.nilFunc, .bool false]) (B : Below w.heap.size w W) (f : Value) (h : UInt8 → Bool) (hf : IsFn W f h) (m : Bool) :
    Has ((W.setCell ⟨w.heap.size, 0, none⟩ f).setCell ⟨w.heap.size, 1, none⟩ (.bool m)) w.heap.size 107 #[f, .bool m] ∧ Below w.heap.size w ((W.setCell ⟨w.heap.size, 0, none⟩ f).setCell ⟨w.heap.size, 1, none⟩ (.bool m)) ∧ IsFn ((W.setCell ⟨w.heap.size, 0, none⟩ f).setCell ⟨w.heap.size, 1, none⟩ (.bool m)) f h ∧ Gx W ((W.setCell ⟨w.heap.size, 0, none⟩ f).setCell ⟨w.heap.size, 1, none⟩ (.bool m)) := by
  have G := Gx.put (Gx.put (Gx.refl W) H 0 f) (H.put 0 f) 1 (.bool m)
  exact ⟨(H.put 0 f).put 1 (.bool m), (B.setCell (Nat.le_refl _) _).setCell (Nat.le_refl _) _, hf.gx G, G⟩
set_option maxRecDepth 100000 in
set_option maxHeartbeats 2000000 in
theorem el_all (s : By) (fold : Bool) (w : World) (h0 : 1 ≤ s.length) (hs : s.length ≤ 128) (h1 : pre [42, 42] s = true) :
    Calls Tryz.prog 75 #[.string (ba s), .bool fold] w fun e w' => ElemIs fold (elemL s) e w' ∧ Below w.heap.size w w' := by
  have HE : Hid (elemL s = some (.all, s.drop 2)) := by
    show _ = _; unfold elemL; rw [if_pos h1]
  have hp : ∀ W, Calls Tryz.prog 32 #[.string (ba s), .string ⟨#[42, 42]⟩] W fun e w' => e = .returned (.bool true) ∧ W = w' := by
    intro W; have := pre_any s [42, 42] W; rw [h1] at this; exact this
  have i0 := idx0 s h0
  have z := ba_size s
  have hpi : (1 : Int) ≤ (s.length : Int) := by omega
  generalize elemL s = goal at HE
  obtain ⟨W1, hW1⟩ : ∃ W1, w.alloc (.cells #[.nilFunc, .bool false] 107) = W1 := ⟨_, rfl⟩
  have H1 : Hid (Has W1 w.heap.size 107 #[.nilFunc, .bool false]) := hW1 ▸ Has.fresh _ _ _
  have B1 : Hid (Below w.heap.size w W1) := hW1 ▸ (Below.refl _ _).alloc (Nat.le_refl _) _
  have hl2 : (2 : Int) ≤ (s.length : Int) := by have := pre_len h1; simp at this; omega
  have zd := ba_drop s 2
  generalize s.drop 2 = u at zd HE
  clear h1 h0
  go_enter Tryz.func75, Tryz.ntmps75
  go_wp2_with (go_at_call 32; refine (hp _).mono ?_; rintro e1 w1 ⟨rfl, rfl⟩)
  have z0 : Gx W1 W1.drew := Gx.of_below (Below.refl _ _).drew
  have HD := hid (H1.out.drawn 1)
  have BD : Hid (Below w.heap.size w W1.drew) := B1.out.drew
  refine wp_region_noPanic ?_
  refine wp_region_held_drew (S := Gx W1) (by kernel_rfl) (z0) (fun hS => ?_)
  refine wpAnyH_take (i := 2) (v := ?_) (by simp only [List.getElem?_toArray, List.getElem?_cons_zero, List.getElem?_cons_succ]; rfl) (by kernel_rfl) (by kernel_rfl) (by kernel_rfl) (fun _ _ _ h => h) (Or.inl ⟨by rfl, ?_⟩) (by assumption) ?_
  rotate_left 1
  · intro w hSw
    go_simp
    with_reducible rfl
  simp only [Act.put, List.setIfInBounds_toArray, List.set_cons_zero, List.set_cons_succ]
  refine wpAnyH_take (i := 3) (v := ?_) (by simp only [List.getElem?_toArray, List.getElem?_cons_zero, List.getElem?_cons_succ]; rfl) (by kernel_rfl) (by kernel_rfl) (by kernel_rfl) (fun _ _ _ h => h) (Or.inl ⟨by rfl, ?_⟩) (by assumption) ?_
  rotate_left 1
  · intro w hSw
    go_simp
    with_reducible rfl
  simp only [Act.put, List.setIfInBounds_toArray, List.set_cons_zero, List.set_cons_succ]
  refine wpAnyH_ready (rs := [0]) (by kernel_rfl) (by simp) ?_
  refine AllReadyH.cons (by simp only [List.getElem?_toArray, List.getElem?_cons_zero]; rfl) (fun K hK => ?_) (AllReadyH.nil)
  go_simp
  refine (anyByte_any _).mono ?_
  rintro e2 y2 ⟨⟨f2, rfl, hf2⟩, hy2⟩
  obtain rfl := hy2
  have HF := hid hf2
  obtain ⟨k2, lb2, rfl⟩ := hf2.form
  clear hf2
  have hz1 := z0
  refine hK.out _ _ hz1 (fun hS => ?_)
  clear hK K hS
  refine wpAnyH_take (i := 1) (v := ?_) (by simp only [List.getElem?_toArray, List.getElem?_cons_zero, List.getElem?_cons_succ]; rfl) (by kernel_rfl) (by kernel_rfl) (by kernel_rfl) (fun _ _ _ h => h) (Or.inl ⟨by rfl, ?_⟩) (by assumption) ?_
  rotate_left 1
  · intro w hSw
    go_simp
    with_reducible rfl
  simp only [Act.put, List.setIfInBounds_toArray, List.set_cons_zero, List.set_cons_succ]
  refine wpAnyH_ready (rs := [4]) (by kernel_rfl) (by simp) ?_
  refine AllReadyH.cons (by simp only [List.getElem?_toArray, List.getElem?_cons_zero, List.getElem?_cons_succ]; rfl) (fun K hK => ?_) (AllReadyH.nil)
  have FN := hid (elem_fin w W1.drew HD.out BD.out _ _ HF.out true)
  have k0 := H1.out.at_ 0
  have k1 := H1.out.at_ 1
  have f0 := H1.out.free 0
  have f1 := H1.out.free 1
  go_simp
  have hz9 := Gx.trans hz1 FN.out.2.2.2
  refine hK.out _ _ hz9 (fun hS => ?_)
  clear hK K hS k0 k1 f0 f1
  refine wpAnyH_take (i := 5) (v := ?_) (by simp only [List.getElem?_toArray, List.getElem?_cons_zero, List.getElem?_cons_succ]; rfl) (by kernel_rfl) (by kernel_rfl) (by kernel_rfl) (fun _ _ _ h => h) (Or.inl ⟨by rfl, ?_⟩) (by assumption) ?_
  rotate_left 1
  · intro w hSw
    go_simp
    with_reducible rfl
  simp only [Act.put, List.setIfInBounds_toArray, List.set_cons_zero, List.set_cons_succ]
  refine wpAnyH_take (i := 6) (v := ?_) (by simp only [List.getElem?_toArray, List.getElem?_cons_zero, List.getElem?_cons_succ]; rfl) (by kernel_rfl) (by kernel_rfl) (by kernel_rfl) (fun _ _ _ h => h) (Or.inl ⟨by rfl, ?_⟩) (by assumption) ?_
  rotate_left 1
  · intro w hSw
    go_simp
    with_reducible rfl
  simp only [Act.put, List.setIfInBounds_toArray, List.set_cons_zero, List.set_cons_succ]
  refine wpAnyH_done (by kernel_rfl) ?_ _
  refine NoPanic.normal ?_
  go_wp2
  refine bodyPost_ret (results_ctt rfl _ _ _ w.heap.size _ _ _ (load_elem FN.out.1) rfl rfl rfl) rfl ⟨?_, FN.out.2.1⟩
  rw [HE.out]
  exact ⟨_, rfl, FN.out.2.2.1⟩
set_option maxRecDepth 100000 in
set_option maxHeartbeats 2000000 in
theorem el_part (s : By) (fold : Bool) (w : World) (h0 : 1 ≤ s.length) (hs : s.length ≤ 128) (h1 : pre [42, 42] s = false) (h2 : (at8 s 0 == 42) = true) :
    Calls Tryz.prog 75 #[.string (ba s), .bool fold] w fun e w' => ElemIs fold (elemL s) e w' ∧ Below w.heap.size w w' := by
  have HE : Hid (elemL s = some (.part, s.drop 1)) := by
    show _ = _; unfold elemL; rw [h1, h2]; rfl
  have hp : ∀ W, Calls Tryz.prog 32 #[.string (ba s), .string ⟨#[42, 42]⟩] W fun e w' => e = .returned (.bool false) ∧ W = w' := by
    intro W; have := pre_any s [42, 42] W; rw [h1] at this; exact this
  have i0 := idx0 s h0
  have z := ba_size s
  have hpi : (1 : Int) ≤ (s.length : Int) := by omega
  generalize elemL s = goal at HE
  obtain ⟨W1, hW1⟩ : ∃ W1, w.alloc (.cells #[.nilFunc, .bool false] 107) = W1 := ⟨_, rfl⟩
  have H1 : Hid (Has W1 w.heap.size 107 #[.nilFunc, .bool false]) := hW1 ▸ Has.fresh _ _ _
  have B1 : Hid (Below w.heap.size w W1) := hW1 ▸ (Below.refl _ _).alloc (Nat.le_refl _) _
  have q2 : (b8 (at8 s 0) == 42) = true := (b8_eq (at8 s 0) 42).trans h2
  have zd := ba_drop s 1
  generalize s.drop 1 = u at zd HE
  generalize at8 s 0 = x at *
  clear h1 h0 h2
  go_enter Tryz.func75, Tryz.ntmps75
  go_wp2_with (go_at_call 32; refine (hp _).mono ?_; rintro e1 w1 ⟨rfl, rfl⟩)
  have z0 : Gx W1 W1.drew := Gx.of_below (Below.refl _ _).drew
  have HD := hid (H1.out.drawn 1)
  have BD : Hid (Below w.heap.size w W1.drew) := B1.out.drew
  refine wp_region_noPanic ?_
  refine wp_region_held_drew (S := Gx W1) (by kernel_rfl) (z0) (fun hS => ?_)
  refine wpAnyH_take (i := 3) (v := ?_) (by simp only [List.getElem?_toArray, List.getElem?_cons_zero, List.getElem?_cons_succ]; rfl) (by kernel_rfl) (by kernel_rfl) (by kernel_rfl) (fun _ _ _ h => h) (Or.inl ⟨by rfl, ?_⟩) (by assumption) ?_
  rotate_left 1
  · intro w hSw
    go_simp
    with_reducible rfl
  simp only [Act.put, List.setIfInBounds_toArray, List.set_cons_zero, List.set_cons_succ]
  refine wpAnyH_take (i := 4) (v := ?_) (by simp only [List.getElem?_toArray, List.getElem?_cons_zero, List.getElem?_cons_succ]; rfl) (by kernel_rfl) (by kernel_rfl) (by kernel_rfl) (fun _ _ _ h => h) (Or.inl ⟨by rfl, ?_⟩) (by assumption) ?_
  rotate_left 1
  · intro w hSw
    go_simp
    with_reducible rfl
  simp only [Act.put, List.setIfInBounds_toArray, List.set_cons_zero, List.set_cons_succ]
  refine wpAnyH_ready (rs := [0]) (by kernel_rfl) (by simp) ?_
  refine AllReadyH.cons (by simp only [List.getElem?_toArray, List.getElem?_cons_zero]; rfl) (fun K hK => ?_) (AllReadyH.nil)
  go_simp
  refine (anyByte_any _).mono ?_
  rintro e2 y2 ⟨⟨f2, rfl, hf2⟩, hy2⟩
  obtain rfl := hy2
  have HF := hid hf2
  obtain ⟨k2, lb2, rfl⟩ := hf2.form
  clear hf2
  have hz1 := z0
  refine hK.out _ _ hz1 (fun hS => ?_)
  clear hK K hS
  refine wpAnyH_ready (rs := [1]) (by kernel_rfl) (by simp) ?_
  refine AllReadyH.cons (by simp only [List.getElem?_toArray, List.getElem?_cons_zero, List.getElem?_cons_succ]; rfl) (fun K hK => ?_) (AllReadyH.nil)
  go_simp
  refine (inPart_any _ _ _ HF.out).mono ?_
  rintro e4 y4 ⟨⟨f4, rfl, hf4⟩, hb4⟩
  have HF4 := hid hf4
  obtain ⟨k4, lb4, rfl⟩ := hf4.form
  have H4 := hid (Has.stays (w := W1.drew) HD.out hb4)
  have B4 : Hid (Below w.heap.size w y4) := BD.out.thenG hb4
  have hz2 := Gx.then_below z0 hb4
  refine hK.out _ _ hz2 (fun hS => ?_)
  clear hK K hS
  refine wpAnyH_take (i := 2) (v := ?_) (by simp only [List.getElem?_toArray, List.getElem?_cons_zero, List.getElem?_cons_succ]; rfl) (by kernel_rfl) (by kernel_rfl) (by kernel_rfl) (fun _ _ _ h => h) (Or.inl ⟨by rfl, ?_⟩) (by assumption) ?_
  rotate_left 1
  · intro w hSw
    go_simp
    with_reducible rfl
  simp only [Act.put, List.setIfInBounds_toArray, List.set_cons_zero, List.set_cons_succ]
  refine wpAnyH_ready (rs := [5]) (by kernel_rfl) (by simp) ?_
  refine AllReadyH.cons (by simp only [List.getElem?_toArray, List.getElem?_cons_zero, List.getElem?_cons_succ]; rfl) (fun K hK => ?_) (AllReadyH.nil)
  have FN := hid (elem_fin w y4 H4.out B4.out _ _ HF4.out true)
  have k0 := H4.out.at_ 0
  have k1 := H4.out.at_ 1
  have f0 := H4.out.free 0
  have f1 := H4.out.free 1
  go_simp
  have hz9 := Gx.trans hz2 FN.out.2.2.2
  refine hK.out _ _ hz9 (fun hS => ?_)
  clear hK K hS k0 k1 f0 f1
  refine wpAnyH_take (i := 6) (v := ?_) (by simp only [List.getElem?_toArray, List.getElem?_cons_zero, List.getElem?_cons_succ]; rfl) (by kernel_rfl) (by kernel_rfl) (by kernel_rfl) (fun _ _ _ h => h) (Or.inl ⟨by rfl, ?_⟩) (by assumption) ?_
  rotate_left 1
  · intro w hSw
    go_simp
    with_reducible rfl
  simp only [Act.put, List.setIfInBounds_toArray, List.set_cons_zero, List.set_cons_succ]
  refine wpAnyH_take (i := 7) (v := ?_) (by simp only [List.getElem?_toArray, List.getElem?_cons_zero, List.getElem?_cons_succ]; rfl) (by kernel_rfl) (by kernel_rfl) (by kernel_rfl) (fun _ _ _ h => h) (Or.inl ⟨by rfl, ?_⟩) (by assumption) ?_
  rotate_left 1
  · intro w hSw
    go_simp
    with_reducible rfl
  simp only [Act.put, List.setIfInBounds_toArray, List.set_cons_zero, List.set_cons_succ]
  refine wpAnyH_done (by kernel_rfl) ?_ _
  refine NoPanic.normal ?_
  go_wp2
  refine bodyPost_ret (results_ctt rfl _ _ _ w.heap.size _ _ _ (load_elem FN.out.1) rfl rfl rfl) rfl ⟨?_, FN.out.2.1⟩
  rw [HE.out]
  exact ⟨_, rfl, (show (fun c : UInt8 => !(c == 47) && true) = holdsE fold .part from funext fun c => Bool.and_true _) ▸ FN.out.2.2.1⟩
set_option maxRecDepth 100000 in
set_option maxHeartbeats 2000000 in
theorem el_one (s : By) (fold : Bool) (w : World) (h0 : 1 ≤ s.length) (hs : s.length ≤ 128) (h1 : pre [42, 42] s = false) (h2 : (at8 s 0 == 42) = false) (h3 : (at8 s 0 == 63) = true) :
    Calls Tryz.prog 75 #[.string (ba s), .bool fold] w fun e w' => ElemIs fold (elemL s) e w' ∧ Below w.heap.size w w' := by
  have HE : Hid (elemL s = some (.one, s.drop 1)) := by
    show _ = _; unfold elemL; rw [h1, h2, h3]; rfl
  have hp : ∀ W, Calls Tryz.prog 32 #[.string (ba s), .string ⟨#[42, 42]⟩] W fun e w' => e = .returned (.bool false) ∧ W = w' := by
    intro W; have := pre_any s [42, 42] W; rw [h1] at this; exact this
  have i0 := idx0 s h0
  have z := ba_size s
  have hpi : (1 : Int) ≤ (s.length : Int) := by omega
  generalize elemL s = goal at HE
  obtain ⟨W1, hW1⟩ : ∃ W1, w.alloc (.cells #[.nilFunc, .bool false] 107) = W1 := ⟨_, rfl⟩
  have H1 : Hid (Has W1 w.heap.size 107 #[.nilFunc, .bool false]) := hW1 ▸ Has.fresh _ _ _
  have B1 : Hid (Below w.heap.size w W1) := hW1 ▸ (Below.refl _ _).alloc (Nat.le_refl _) _
  have q2 : (b8 (at8 s 0) == 42) = false := (b8_eq (at8 s 0) 42).trans h2
  have q3 : (b8 (at8 s 0) == 63) = true := (b8_eq (at8 s 0) 63).trans h3
  have zd := ba_drop s 1
  generalize s.drop 1 = u at zd HE
  generalize at8 s 0 = x at *
  clear h1 h0 h2 h3
  go_enter Tryz.func75, Tryz.ntmps75
  go_wp2_with (go_at_call 32; refine (hp _).mono ?_; rintro e1 w1 ⟨rfl, rfl⟩)
  have z0 : Gx W1 W1.drew := Gx.of_below (Below.refl _ _).drew
  have HD := hid (H1.out.drawn 1)
  have BD : Hid (Below w.heap.size w W1.drew) := B1.out.drew
  refine wp_region_noPanic ?_
  refine wp_region_held_drew (S := Gx W1) (by kernel_rfl) (z0) (fun hS => ?_)
  refine wpAnyH_take (i := 3) (v := ?_) (by simp only [List.getElem?_toArray, List.getElem?_cons_zero, List.getElem?_cons_succ]; rfl) (by kernel_rfl) (by kernel_rfl) (by kernel_rfl) (fun _ _ _ h => h) (Or.inl ⟨by rfl, ?_⟩) (by assumption) ?_
  rotate_left 1
  · intro w hSw
    go_simp
    with_reducible rfl
  simp only [Act.put, List.setIfInBounds_toArray, List.set_cons_zero, List.set_cons_succ]
  refine wpAnyH_take (i := 4) (v := ?_) (by simp only [List.getElem?_toArray, List.getElem?_cons_zero, List.getElem?_cons_succ]; rfl) (by kernel_rfl) (by kernel_rfl) (by kernel_rfl) (fun _ _ _ h => h) (Or.inl ⟨by rfl, ?_⟩) (by assumption) ?_
  rotate_left 1
  · intro w hSw
    go_simp
    with_reducible rfl
  simp only [Act.put, List.setIfInBounds_toArray, List.set_cons_zero, List.set_cons_succ]
  refine wpAnyH_ready (rs := [0]) (by kernel_rfl) (by simp) ?_
  refine AllReadyH.cons (by simp only [List.getElem?_toArray, List.getElem?_cons_zero]; rfl) (fun K hK => ?_) (AllReadyH.nil)
  go_simp
  refine (anyByte_any _).mono ?_
  rintro e2 y2 ⟨⟨f2, rfl, hf2⟩, hy2⟩
  obtain rfl := hy2
  have HF := hid hf2
  obtain ⟨k2, lb2, rfl⟩ := hf2.form
  clear hf2
  have hz1 := z0
  refine hK.out _ _ hz1 (fun hS => ?_)
  clear hK K hS
  refine wpAnyH_ready (rs := [1]) (by kernel_rfl) (by simp) ?_
  refine AllReadyH.cons (by simp only [List.getElem?_toArray, List.getElem?_cons_zero, List.getElem?_cons_succ]; rfl) (fun K hK => ?_) (AllReadyH.nil)
  go_simp
  refine (inPart_any _ _ _ HF.out).mono ?_
  rintro e4 y4 ⟨⟨f4, rfl, hf4⟩, hb4⟩
  have HF4 := hid hf4
  obtain ⟨k4, lb4, rfl⟩ := hf4.form
  have H4 := hid (Has.stays (w := W1.drew) HD.out hb4)
  have B4 : Hid (Below w.heap.size w y4) := BD.out.thenG hb4
  have hz2 := Gx.then_below z0 hb4
  refine hK.out _ _ hz2 (fun hS => ?_)
  clear hK K hS
  refine wpAnyH_take (i := 2) (v := ?_) (by simp only [List.getElem?_toArray, List.getElem?_cons_zero, List.getElem?_cons_succ]; rfl) (by kernel_rfl) (by kernel_rfl) (by kernel_rfl) (fun _ _ _ h => h) (Or.inl ⟨by rfl, ?_⟩) (by assumption) ?_
  rotate_left 1
  · intro w hSw
    go_simp
    with_reducible rfl
  simp only [Act.put, List.setIfInBounds_toArray, List.set_cons_zero, List.set_cons_succ]
  refine wpAnyH_ready (rs := [5]) (by kernel_rfl) (by simp) ?_
  refine AllReadyH.cons (by simp only [List.getElem?_toArray, List.getElem?_cons_zero, List.getElem?_cons_succ]; rfl) (fun K hK => ?_) (AllReadyH.nil)
  have FN := hid (elem_fin w y4 H4.out B4.out _ _ HF4.out false)
  have k0 := H4.out.at_ 0
  have k1 := H4.out.at_ 1
  have f0 := H4.out.free 0
  have f1 := H4.out.free 1
  go_simp
  have hz9 := Gx.trans hz2 FN.out.2.2.2
  refine hK.out _ _ hz9 (fun hS => ?_)
  clear hK K hS k0 k1 f0 f1
  refine wpAnyH_take (i := 6) (v := ?_) (by simp only [List.getElem?_toArray, List.getElem?_cons_zero, List.getElem?_cons_succ]; rfl) (by kernel_rfl) (by kernel_rfl) (by kernel_rfl) (fun _ _ _ h => h) (Or.inl ⟨by rfl, ?_⟩) (by assumption) ?_
  rotate_left 1
  · intro w hSw
    go_simp
    with_reducible rfl
  simp only [Act.put, List.setIfInBounds_toArray, List.set_cons_zero, List.set_cons_succ]
  refine wpAnyH_take (i := 7) (v := ?_) (by simp only [List.getElem?_toArray, List.getElem?_cons_zero, List.getElem?_cons_succ]; rfl) (by kernel_rfl) (by kernel_rfl) (by kernel_rfl) (fun _ _ _ h => h) (Or.inl ⟨by rfl, ?_⟩) (by assumption) ?_
  rotate_left 1
  · intro w hSw
    go_simp
    with_reducible rfl
  simp only [Act.put, List.setIfInBounds_toArray, List.set_cons_zero, List.set_cons_succ]
  refine wpAnyH_done (by kernel_rfl) ?_ _
  refine NoPanic.normal ?_
  go_wp2
  refine bodyPost_ret (results_ctt rfl _ _ _ w.heap.size _ _ _ (load_elem FN.out.1) rfl rfl rfl) rfl ⟨?_, FN.out.2.1⟩
  rw [HE.out]
  exact ⟨_, rfl, (show (fun c : UInt8 => !(c == 47) && true) = holdsE fold .one from funext fun c => Bool.and_true _) ▸ FN.out.2.2.1⟩
set_option maxRecDepth 100000 in
set_option maxHeartbeats 2000000 in
theorem el_set (s : By) (fold : Bool) (w : World) (h0 : 1 ≤ s.length) (hs : s.length ≤ 128) (h1 : pre [42, 42] s = false) (h2 : (at8 s 0 == 42) = false) (h3 : (at8 s 0 == 63) = false) (h4 : (at8 s 0 == 91) = true) :
    Calls Tryz.prog 75 #[.string (ba s), .bool fold] w fun e w' => ElemIs fold (elemL s) e w' ∧ Below w.heap.size w w' := by
  have HE : Hid (elemL s = clsL (s.drop 1)) := by
    show _ = _; exact elemL_set s h1 h2 h3 h4
  have hp : ∀ W, Calls Tryz.prog 32 #[.string (ba s), .string ⟨#[42, 42]⟩] W fun e w' => e = .returned (.bool false) ∧ W = w' := by
    intro W; have := pre_any s [42, 42] W; rw [h1] at this; exact this
  have i0 := idx0 s h0
  have z := ba_size s
  have hpi : (1 : Int) ≤ (s.length : Int) := by omega
  generalize elemL s = goal at HE
  obtain ⟨W1, hW1⟩ : ∃ W1, w.alloc (.cells #[.nilFunc, .bool false] 107) = W1 := ⟨_, rfl⟩
  have H1 : Hid (Has W1 w.heap.size 107 #[.nilFunc, .bool false]) := hW1 ▸ Has.fresh _ _ _
  have B1 : Hid (Below w.heap.size w W1) := hW1 ▸ (Below.refl _ _).alloc (Nat.le_refl _) _
  have q2 : (b8 (at8 s 0) == 42) = false := (b8_eq (at8 s 0) 42).trans h2
  have q3 : (b8 (at8 s 0) == 63) = false := (b8_eq (at8 s 0) 63).trans h3
  have q4 : (b8 (at8 s 0) == 91) = true := (b8_eq (at8 s 0) 91).trans h4
  have zd := ba_drop s 1
  have hl1 : (s.drop 1).length ≤ 128 := by simp; omega
  generalize s.drop 1 = u at zd HE hl1
  generalize at8 s 0 = x at *
  have CC := hid (class_any u fold W1 hl1)
  rw [← HE.out] at CC
  clear h1 h0 h2 h3 h4 hl1
  go_enter Tryz.func75, Tryz.ntmps75
  go_wp2_with (go_at_call 32; refine (hp _).mono ?_; rintro e1 w1 ⟨rfl, rfl⟩)
  refine CC.out.mono ?_
  rintro e2 w2 ⟨he, hb2⟩
  have H2 := hid (H1.out.stays hb2)
  have B2 := hid (B1.out.thenG hb2)
  have k0 := H2.out.at_ 0
  have k1 := H2.out.at_ 1
  have f0 := H2.out.free 0
  have f1 := H2.out.free 1
  cases goal with
  | none =>
    obtain ⟨f, m, r, rfl, hf⟩ := he
    rcases hf with rfl | ⟨h, hf⟩
    · go_wp2
      refine bodyPost_ret (results_ctt rfl _ _ _ w.heap.size _ _ _ (load_elem ((H2.out.put 0 _).put 1 _)) rfl rfl rfl) rfl ⟨?_, (B2.out.setCell (Nat.le_refl _) _).setCell (Nat.le_refl _) _⟩
      exact ⟨_, _, r, rfl, .inl rfl⟩
    · have HF := hid hf
      obtain ⟨k2, lb2, rfl⟩ := hf.form
      clear hf
      have FN := hid (elem_fin w w2 H2.out B2.out _ _ HF.out m)
      go_wp2
      refine bodyPost_ret (results_ctt rfl _ _ _ w.heap.size _ _ _ (load_elem FN.out.1) rfl rfl rfl) rfl ⟨?_, FN.out.2.1⟩
      exact ⟨_, _, r, rfl, .inr ⟨_, FN.out.2.2.1⟩⟩
  | some y =>
    obtain ⟨el, r⟩ := y
    obtain ⟨f, rfl, hf⟩ := he
    have HF := hid hf
    obtain ⟨k2, lb2, rfl⟩ := hf.form
    clear hf
    have FN := hid (elem_fin w w2 H2.out B2.out _ _ HF.out el.many)
    go_wp2
    refine bodyPost_ret (results_ctt rfl _ _ _ w.heap.size _ _ _ (load_elem FN.out.1) rfl rfl rfl) rfl ⟨?_, FN.out.2.1⟩
    exact ⟨_, rfl, FN.out.2.2.1⟩
set_option maxRecDepth 100000 in
set_option maxHeartbeats 2000000 in
theorem el_byt (s : By) (fold : Bool) (w : World) (h0 : 1 ≤ s.length) (hs : s.length ≤ 128) (h1 : pre [42, 42] s = false) (h2 : (at8 s 0 == 42) = false) (h3 : (at8 s 0 == 63) = false) (h4 : (at8 s 0 == 91) = false) :
    Calls Tryz.prog 75 #[.string (ba s), .bool fold] w fun e w' => ElemIs fold (elemL s) e w' ∧ Below w.heap.size w w' := by
  have HE : Hid (elemL s = match cbL s with | none => none | some (c, r) => some (.byt c, r)) := by
    show _ = _; exact elemL_byt s h1 h2 h3 h4
  have hp : ∀ W, Calls Tryz.prog 32 #[.string (ba s), .string ⟨#[42, 42]⟩] W fun e w' => e = .returned (.bool false) ∧ W = w' := by
    intro W; have := pre_any s [42, 42] W; rw [h1] at this; exact this
  have i0 := idx0 s h0
  have z := ba_size s
  have hpi : (1 : Int) ≤ (s.length : Int) := by omega
  generalize elemL s = goal at HE
  obtain ⟨W1, hW1⟩ : ∃ W1, w.alloc (.cells #[.nilFunc, .bool false] 107) = W1 := ⟨_, rfl⟩
  have H1 : Hid (Has W1 w.heap.size 107 #[.nilFunc, .bool false]) := hW1 ▸ Has.fresh _ _ _
  have B1 : Hid (Below w.heap.size w W1) := hW1 ▸ (Below.refl _ _).alloc (Nat.le_refl _) _
  have q2 : (b8 (at8 s 0) == 42) = false := (b8_eq (at8 s 0) 42).trans h2
  have q3 : (b8 (at8 s 0) == 63) = false := (b8_eq (at8 s 0) 63).trans h3
  have q4 : (b8 (at8 s 0) == 91) = false := (b8_eq (at8 s 0) 91).trans h4
  generalize at8 s 0 = x at *
  have hc := cb_any s
  generalize cbL s = cb at hc HE
  obtain ⟨c, r, ok, hv⟩ : ∃ (c : UInt8) (r : By) (ok : Bool), cbV cb = .tuple #[.int .u8 (b8 c), .string (ba r), .bool ok] ∧ goal = if ok then some (.byt c, r) else none := by
    cases cb with
    | none => exact ⟨0, [], false, rfl, HE.out⟩
    | some y => exact ⟨y.1, y.2, true, rfl, HE.out⟩
  rw [hv.1] at hc
  have HE2 := hid hv.2
  clear h1 h0 h2 h3 h4 HE hv
  obtain ⟨W2, hW2⟩ : ∃ W2 : Nat → World, ∀ n, (W1.drewN n).alloc (.cells #[.int .u8 (b8 c), .int .u8 (b8 c)] 134) = W2 n := ⟨_, fun _ => rfl⟩
  have HW : Hid (∀ n, Below W1.heap.size W1 (W2 n)) := fun n => hW2 n ▸ ((Below.refl _ _).drewG n).alloc (Nat.le_refl _) _
  have hn1 : ∀ n, (W1.drewN n).heap.size = W1.heap.size := fun _ => rfl
  have CW : Hid (∀ n, Calls Tryz.prog 89 #[.slice (some ⟨W1.heap.size, 0, none⟩) 1 1, .bool fold] (W2 n) fun e w' => (∃ f, e = .returned f ∧ IsFn w' f (inF fold [(c, c)])) ∧ Below (W2 n).heap.size (W2 n) w') := fun n =>
    within_any 0 _ [(c, c)] fold (W2 n) ⟨rfl, .inr ⟨W1.heap.size, 1, #[.int .u8 (b8 c), .int .u8 (b8 c)], rfl, Nat.zero_le _, hW2 n ▸ Has.fresh (W1.drewN n) _ _, Nat.le_refl _, by unfold maxLen; omega, rfl, rfl⟩⟩ (by simp)
  go_enter Tryz.func75, Tryz.ntmps75
  go_wp2_with (first
    | (go_at_call 32; refine (hp _).mono ?_; rintro e1 w1 ⟨rfl, rfl⟩)
    | (go_at_call 88; refine (hc _).mono ?_; rintro e1 w1 ⟨rfl, n1, rfl⟩))
  refine (CW.out n1).mono ?_
  rintro e2 w2 ⟨⟨f, rfl, hf⟩, hb2⟩
  have HF := hid hf
  obtain ⟨k2, lb2, rfl⟩ := hf.form
  have H2 := hid ((H1.out.stays (HW.out n1)).stays hb2)
  have B2 : Hid (Below w.heap.size w w2) := (B1.out.thenG (HW.out n1)).thenG hb2
  have k0 := H2.out.at_ 0
  have k1 := H2.out.at_ 1
  have f0 := H2.out.free 0
  have f1 := H2.out.free 1
  have FN := hid (elem_fin w w2 H2.out B2.out _ _ HF.out false)
  clear hf hb2 CW HW hW2
  go_wp2
  refine bodyPost_ret (results_ctt rfl _ _ _ w.heap.size _ _ _ (load_elem FN.out.1) rfl rfl rfl) rfl ⟨?_, FN.out.2.1⟩
  rw [HE2.out]
  cases ok with
  | false => exact ⟨_, _, r, rfl, .inr ⟨_, FN.out.2.2.1⟩⟩
  | true => exact ⟨_, rfl, FN.out.2.2.1⟩
theorem elem_any (s : By) (fold : Bool) (w : World) (h0 : 1 ≤ s.length) (hs : s.length ≤ 128) :
    Calls Tryz.prog 75 #[.string (ba s), .bool fold] w fun e w' => ElemIs fold (elemL s) e w' ∧ Below w.heap.size w w' := by
  cases h1 : pre [42, 42] s with
  | true => exact el_all s fold w h0 hs h1
  | false => cases h2 : at8 s 0 == 42 with
    | true => exact el_part s fold w h0 hs h1 h2
    | false => cases h3 : at8 s 0 == 63 with
      | true => exact el_one s fold w h0 hs h1 h2 h3
      | false => cases h4 : at8 s 0 == 91 with
        | true => exact el_set s fold w h0 hs h1 h2 h3 h4
        | false => exact el_byt s fold w h0 hs h1 h2 h3 h4
end Go.Proofs.YtpipkgkfhbagmaaGreatDoor.Glob
