/- The law ShaTexts: what its call does. Conditions: the listed table. -/
import Derived.Test.YtmdlahmcdgkhkaaDoorY
namespace Go.Proofs.YtmdlahmcdgkhkaaDoor
open Go.RowKit
theorem rtext_s (h : List UInt8) (hl : h.length = 32) (s : ByteArray) (hs : s.data.toList = textL h) (w : World) :
    Calls Tryd.prog 14 #[.agg (bvec h)] w fun e w' => e = .returned (.string s) ∧ Below w.heap.size w w' :=
  (rtext_any h hl w).mono fun _ _ ⟨h1, h2⟩ => ⟨by
    have e : s = ⟨(textL h).toArray⟩ := by
      cases s with
      | mk d => simp only at hs; rw [← hs]
    rw [h1, e], h2⟩
theorem of_x (s : ByteArray) (l x : List UInt8) (b : Bool) (hs : s.data.toList = l) (hx : hexV (ofL l) = x) (hb : (ofL l).isSome = b) (w : World) :
    Calls Tryd.prog 11 #[.string s] w fun e w' => e = .returned (.tuple #[.agg (bvec x), .bool b]) ∧ Below w.heap.size w w' :=
  (of_any s l hs w).mono fun _ _ ⟨h1, h2⟩ => ⟨by rw [h1, hx, hb], h2⟩
theorem rof_x (s : ByteArray) (l x : List UInt8) (b : Bool) (hs : s.data.toList = l) (hx : hexV (ofL l) = x) (hb : (ofL l).isSome = b) (w : World) :
    Calls Tryd.prog 12 #[.string s] w fun e w' => e = .returned (.tuple #[.agg (bvec x), .bool b]) ∧ Below w.heap.size w w' :=
  (rof_any s l hs w).mono fun _ _ ⟨h1, h2⟩ => ⟨by rw [h1, hx, hb], h2⟩
theorem range_of {w : World} {g : Nat} {h : List UInt8} (hh : Has w g 25 (bvec h)) : w.rangeAt g 0 (h.map V8) := by
  intro j v hv
  rw [Nat.zero_add, hh.at_ j, bvec_V8]
  simpa using hv
theorem range_keep {B : Nat} {w w' : World} {g : Nat} {vs : List Value} (h : w.rangeAt g 0 vs) (hg : g < B) (hb : Below B w w') : w'.rangeAt g 0 vs := fun j v hv =>
  (hb.cell (p := ⟨g, 0 + j, none⟩) hg).trans (h j v hv)
set_option maxRecDepth 100000 in
set_option maxHeartbeats 400000 in
theorem texts_large (h : List UInt8) (s : ByteArray) (hn : 20000 < s.size) (w : World) (hT : Tab w) :
    Calls Tryd.prog 4 #[.agg (bvec h), .string s] w fun e w' => e = .returned (.bool true) ∧ Below w.heap.size w w' := by
  have hs : (20000 : Int) < (s.size : Int) := by omega
  have T1 : Hid (∀ o, Tab (w.alloc o)) := fun o i hi => (World.cell?_alloc_lt w o ⟨0, i, none⟩ hT.pos).trans (hT i hi)
  clear hT
  go_enter Tryd.func4, Tryd.ntmps4
  go_wp2_with (go_at_call 8; refine (awake_any _ (T1.out _)).mono ?_; rintro e1 w1 ⟨rfl, hb1⟩)
  go_ret
  exact ⟨rfl, ((Below.refl _ _).alloc (Nat.le_refl _) _).trans (hb1.mono (by simp))⟩
set_option maxRecDepth 100000 in
set_option maxHeartbeats 400000 in
theorem texts_small (h : List UInt8) (hl : h.length = 32) (s : ByteArray) (l x : List UInt8) (b : Bool) (hs : s.data.toList = l) (hx : hexV (ofL l) = x) (hb : (ofL l).isSome = b) (hn : s.size ≤ 20000) (w : World) (hT : Tab w) :
    Calls Tryd.prog 4 #[.agg (bvec h), .string s] w fun e w' => e = .returned (.bool true) ∧ Below w.heap.size w w' := by
  have hs1 : ¬ (20000 : Int) < (s.size : Int) := by omega
  have HT := hid hT
  have HP := hid hT.pos
  have HS := hid hs
  have HX := hid hx
  have HB := hid hb
  have HL := hid hl
  have HXL : Hid (x.length = 32) := by
    have := ofL_len l
    rw [hx] at this; exact this
  have Y1 := size_dig h hl
  have X1 := size_dig x HXL.out
  have X2 := size_zero x HXL.out
  have hu25 := Tryd.underlying25
  have hih : (Tryd.prog.info? 25).map (·.size) = some (h.map V8).length := by rw [List.length_map, HL.out]; exact i25
  have hix : (Tryd.prog.info? 25).map (·.size) = some (x.map V8).length := by rw [List.length_map, HXL.out]; exact i25
  have heq : ∀ w, (binOp .eql 25 (.agg (x.map V8).toArray) (.agg (x.map V8).toArray)).run Tryd.prog w = .ok (.bool true) w := fun w => by
    rw [← bvec_V8, run_hash_eql x x HXL.out HXL.out w, sameL_refl]
  obtain ⟨th, HTH⟩ : ∃ th : ByteArray, Hid (th.data.toList = textL h) := ⟨⟨(textL h).toArray⟩, rfl⟩
  have TX : Hid (∀ w, Calls Tryd.prog 13 #[.agg (h.map V8).toArray] w fun e w' => e = .returned (.string th) ∧ Below w.heap.size w w') := fun w => by
    rw [← bvec_V8]; exact text_s h HL.out th HTH.out w
  have RX : Hid (∀ w, Calls Tryd.prog 14 #[.agg (h.map V8).toArray] w fun e w' => e = .returned (.string th) ∧ Below w.heap.size w w') := fun w => by
    rw [← bvec_V8]; exact rtext_s h HL.out th HTH.out w
  clear hT hs hx hl hn hb
  go_enter Tryd.func4, Tryd.ntmps4
  go_wp2_with (first
    | (go_at_call 11; ((with_reducible refine (of_x s l x b HS.out HX.out HB.out (w.alloc (.cells (bvec h) 25))).mono ?_); rintro e2 w2 ⟨rfl, hb2⟩)
       obtain ⟨B2, H2⟩ := box_kept w w2 h hb2)
    | (refine wpList_store_row rfl 25 (.tmp 5) (.tmp 16) rfl w2.heap.size (bvec x) rfl rfl 25 zero32 (Has.fresh w2 25 zero32) X1.out X2.out (bvec_one _) ?_
       generalize hG : World.setRow _ _ _ = W3
       obtain ⟨W0, hG0, B3, A3, K3⟩ := lay_hash w w2 x B2.out
       obtain rfl : W0 = W3 := hG0.symm.trans hG
       have H3 : Hid (Has W0 w.heap.size 25 (bvec h)) := Has.kept H2.out K3.out (Has.inside H2.out)
       clear hG0 hG)
    | (go_at_call 12; ((with_reducible refine (rof_x s l x b HS.out HX.out HB.out W0).mono ?_); rintro e4 w4 ⟨rfl, hb4⟩)
       have B4 : Hid (Below w.heap.size w w4) := B3.out.trans (hb4.mono B3.out.size)
       have H4 : Hid (Has w4 w.heap.size 25 (bvec h)) := Has.kept H3.out hb4 (Has.inside H3.out)
       have A4 : Hid (Has w4 w2.heap.size 25 (bvec x)) := Has.kept A3.out hb4 (Has.inside A3.out))
    | (refine wpList_store_row rfl 25 (.tmp 7) (.tmp 21) rfl w4.heap.size (bvec x) rfl rfl 25 zero32 (Has.fresh w4 25 zero32) X1.out X2.out (bvec_one _) ?_
       generalize hG : World.setRow _ _ _ = W5
       obtain ⟨V0, hG0, B5, C5, K5⟩ := lay_hash w w4 x B4.out
       obtain rfl : V0 = W5 := hG0.symm.trans hG
       have H5 : Hid (Has V0 w.heap.size 25 (bvec h)) := Has.kept H4.out K5.out (Has.inside H4.out)
       have A5 : Hid (Has V0 w2.heap.size 25 (bvec x)) := Has.kept A4.out K5.out (Has.inside A4.out)
       clear hG0 hG))
  have s5 : V0.drew.rangeAt w.heap.size 0 (h.map V8) ∧ V0.drew.rangeAt w2.heap.size 0 (x.map V8) ∧ V0.drew.rangeAt w4.heap.size 0 (x.map V8) := ⟨range_of (Has.drawn H5.out 1), range_of (Has.drawn A5.out 1), range_of (Has.drawn C5.out 1)⟩
  have B5d : Hid (Below w.heap.size w V0.drew) := B5.out.drew
  have T5 : Hid (Tab V0.drew) := HT.out.kept B5d.out HP.out
  have I5 : Hid (w.heap.size < V0.drew.heap.size ∧ w2.heap.size < V0.drew.heap.size ∧ w4.heap.size < V0.drew.heap.size) := ⟨H5.out.inside, A5.out.inside, C5.out.inside⟩
  refine wp_region_noPanic ?_
  refine wp_region_held_drew (S := fun w' => w'.rangeAt w.heap.size 0 (h.map V8) ∧ w'.rangeAt w2.heap.size 0 (x.map V8) ∧ w'.rangeAt w4.heap.size 0 (x.map V8)) (by kernel_rfl) s5 (fun hS => ?_)
  refine' wpAnyH_take (i := 0) (v := _) (by simp only [List.getElem?_toArray, List.getElem?_cons_zero, List.getElem?_cons_succ]; rfl) (by kernel_rfl) (by kernel_rfl) (by kernel_rfl) (fun _ _ _ h => h)
    (yieldsIf_load_mid (by rfl) _ _ rfl _ _ rfl (h.map V8) _ (fun w hSw => hSw.1) hu25 rfl hih) (by assumption) ?_
  simp only [Act.put, List.setIfInBounds_toArray, List.set_cons_zero, List.set_cons_succ]
  refine' wpAnyH_take (i := 2) (v := _) (by simp only [List.getElem?_toArray, List.getElem?_cons_zero, List.getElem?_cons_succ]; rfl) (by kernel_rfl) (by kernel_rfl) (by kernel_rfl) (fun _ _ _ h => h)
    (yieldsIf_load_mid (by rfl) _ _ rfl _ _ rfl (h.map V8) _ (fun w hSw => hSw.1) hu25 rfl hih) (by assumption) ?_
  simp only [Act.put, List.setIfInBounds_toArray, List.set_cons_zero, List.set_cons_succ]
  refine wpAnyH_ready (rs := [1]) (by kernel_rfl) (by simp) ?_
  refine AllReadyH.cons (by simp only [List.getElem?_toArray, List.getElem?_cons_zero, List.getElem?_cons_succ]; rfl) (fun K hK => ?_) AllReadyH.nil
  go_simp
  refine (TX.out _).mono ?_
  rintro e6 w6 ⟨rfl, hb6⟩
  have s6 : w6.rangeAt w.heap.size 0 (h.map V8) ∧ w6.rangeAt w2.heap.size 0 (x.map V8) ∧ w6.rangeAt w4.heap.size 0 (x.map V8) := ⟨range_keep s5.1 I5.out.1 hb6, range_keep s5.2.1 I5.out.2.1 hb6, range_keep s5.2.2 I5.out.2.2 hb6⟩
  have B6 : Hid (Below w.heap.size w w6) := B5d.out.trans (hb6.mono B5d.out.size)
  have T6 : Hid (Tab w6) := HT.out.kept B6.out HP.out
  have I6 : Hid (w.heap.size < w6.heap.size ∧ w2.heap.size < w6.heap.size ∧ w4.heap.size < w6.heap.size) := ⟨Nat.lt_of_lt_of_le I5.out.1 hb6.size, Nat.lt_of_lt_of_le I5.out.2.1 hb6.size, Nat.lt_of_lt_of_le I5.out.2.2 hb6.size⟩
  clear hb6
  refine hK.out _ _ s6 (fun hS => ?_)
  clear hK K
  refine wpAnyH_ready (rs := [3]) (by kernel_rfl) (by simp) ?_
  refine AllReadyH.cons (by simp only [List.getElem?_toArray, List.getElem?_cons_zero, List.getElem?_cons_succ]; rfl) (fun K hK => ?_) AllReadyH.nil
  go_simp
  refine (RX.out _).mono ?_
  rintro e7 w7 ⟨rfl, hb7⟩
  have s7 : w7.rangeAt w.heap.size 0 (h.map V8) ∧ w7.rangeAt w2.heap.size 0 (x.map V8) ∧ w7.rangeAt w4.heap.size 0 (x.map V8) := ⟨range_keep s6.1 I6.out.1 hb7, range_keep s6.2.1 I6.out.2.1 hb7, range_keep s6.2.2 I6.out.2.2 hb7⟩
  have B7 : Hid (Below w.heap.size w w7) := B6.out.trans (hb7.mono B6.out.size)
  have T7 : Hid (Tab w7) := HT.out.kept B7.out HP.out
  have I7 : Hid (w.heap.size < w7.heap.size ∧ w2.heap.size < w7.heap.size ∧ w4.heap.size < w7.heap.size) := ⟨Nat.lt_of_lt_of_le I6.out.1 hb7.size, Nat.lt_of_lt_of_le I6.out.2.1 hb7.size, Nat.lt_of_lt_of_le I6.out.2.2 hb7.size⟩
  clear hb7
  refine hK.out _ _ s7 (fun hS => ?_)
  clear hK K
  refine wpAnyH_take (i := 4) (v := ?_) (by simp only [List.getElem?_toArray, List.getElem?_cons_zero, List.getElem?_cons_succ]; rfl) (by kernel_rfl) (by kernel_rfl) (by kernel_rfl) (fun _ _ _ h => h) (Or.inl ⟨by rfl, ?_⟩) (by assumption) ?_
  rotate_left 1
  · intro w hSw
    (try dsimp only at hSw)
    go_simp
    with_reducible rfl
  simp only [Act.put, List.setIfInBounds_toArray, List.set_cons_zero, List.set_cons_succ]
  refine wpAnyH_take (i := 5) (v := ?_) (by simp only [List.getElem?_toArray, List.getElem?_cons_zero, List.getElem?_cons_succ]; rfl) (by kernel_rfl) (by kernel_rfl) (by kernel_rfl) (fun _ _ _ h => h) (Or.inl ⟨by rfl, ?_⟩) (by assumption) ?_
  rotate_left 1
  · intro w hSw
    (try dsimp only at hSw)
    go_simp
    with_reducible rfl
  simp only [Act.put, List.setIfInBounds_toArray, List.set_cons_zero, List.set_cons_succ]
  refine' wpAnyH_take (i := 6) (v := _) (by simp only [List.getElem?_toArray, List.getElem?_cons_zero, List.getElem?_cons_succ]; rfl) (by kernel_rfl) (by kernel_rfl) (by kernel_rfl) (fun _ _ _ h => h)
    (yieldsIf_load_mid (by rfl) _ _ rfl _ _ rfl (x.map V8) _ (fun w hSw => hSw.2.1) hu25 rfl hix) (by assumption) ?_
  simp only [Act.put, List.setIfInBounds_toArray, List.set_cons_zero, List.set_cons_succ]
  refine' wpAnyH_take (i := 7) (v := _) (by simp only [List.getElem?_toArray, List.getElem?_cons_zero, List.getElem?_cons_succ]; rfl) (by kernel_rfl) (by kernel_rfl) (by kernel_rfl) (fun _ _ _ h => h)
    (yieldsIf_load_mid (by rfl) _ _ rfl _ _ rfl (x.map V8) _ (fun w hSw => hSw.2.2) hu25 rfl hix) (by assumption) ?_
  simp only [Act.put, List.setIfInBounds_toArray, List.set_cons_zero, List.set_cons_succ]
  refine wpAnyH_take (i := 8) (v := ?_) (by simp only [List.getElem?_toArray, List.getElem?_cons_zero, List.getElem?_cons_succ]; rfl) (by kernel_rfl) (by kernel_rfl) (by kernel_rfl) (fun _ _ _ h => h) (Or.inl ⟨by rfl, ?_⟩) (by assumption) ?_
  rotate_left 1
  · intro w hSw
    (try dsimp only at hSw)
    go_simp
    with_reducible rfl
  simp only [Act.put, List.setIfInBounds_toArray, List.set_cons_zero, List.set_cons_succ]
  refine wpAnyH_take (i := 9) (v := ?_) (by simp only [List.getElem?_toArray, List.getElem?_cons_zero, List.getElem?_cons_succ]; rfl) (by kernel_rfl) (by kernel_rfl) (by kernel_rfl) (fun _ _ _ h => h) (Or.inl ⟨by rfl, ?_⟩) (by assumption) ?_
  rotate_left 1
  · intro w hSw
    (try dsimp only at hSw)
    go_simp
    with_reducible rfl
  simp only [Act.put, List.setIfInBounds_toArray, List.set_cons_zero, List.set_cons_succ]
  refine wpAnyH_take (i := 10) (v := ?_) (by simp only [List.getElem?_toArray, List.getElem?_cons_zero, List.getElem?_cons_succ]; rfl) (by kernel_rfl) (by kernel_rfl) (by kernel_rfl) (fun _ _ _ h => h) (Or.inl ⟨by rfl, ?_⟩) (by assumption) ?_
  rotate_left 1
  · intro w hSw
    (try dsimp only at hSw)
    go_simp
    with_reducible rfl
  simp only [Act.put, List.setIfInBounds_toArray, List.set_cons_zero, List.set_cons_succ]
  refine wpAnyH_take (i := 11) (v := ?_) (by simp only [List.getElem?_toArray, List.getElem?_cons_zero, List.getElem?_cons_succ]; rfl) (by kernel_rfl) (by kernel_rfl) (by kernel_rfl) (fun _ _ _ h => h) (Or.inl ⟨by rfl, ?_⟩) (by assumption) ?_
  rotate_left 1
  · intro w hSw
    (try dsimp only at hSw)
    go_simp
    with_reducible rfl
  simp only [Act.put, List.setIfInBounds_toArray, List.set_cons_zero, List.set_cons_succ]
  refine wpAnyH_take (i := 12) (v := ?_) (by simp only [List.getElem?_toArray, List.getElem?_cons_zero, List.getElem?_cons_succ]; rfl) (by kernel_rfl) (by kernel_rfl) (by kernel_rfl) (fun _ _ _ h => h) (Or.inl ⟨by rfl, ?_⟩) (by assumption) ?_
  rotate_left 1
  · intro w hSw
    (try dsimp only at hSw)
    go_simp
    with_reducible rfl
  simp only [Act.put, List.setIfInBounds_toArray, List.set_cons_zero, List.set_cons_succ]
  refine wpAnyH_take (i := 13) (v := ?_) (by simp only [List.getElem?_toArray, List.getElem?_cons_zero, List.getElem?_cons_succ]; rfl) (by kernel_rfl) (by kernel_rfl) (by kernel_rfl) (fun _ _ _ h => h) (Or.inl ⟨by rfl, ?_⟩) (by assumption) ?_
  rotate_left 1
  · intro w hSw
    (try dsimp only at hSw)
    go_simp
    with_reducible rfl
  simp only [Act.put, List.setIfInBounds_toArray, List.set_cons_zero, List.set_cons_succ]
  refine wpAnyH_take (i := 14) (v := ?_) (by simp only [List.getElem?_toArray, List.getElem?_cons_zero, List.getElem?_cons_succ]; rfl) (by kernel_rfl) (by kernel_rfl) (by kernel_rfl) (fun _ _ _ h => h) (Or.inl ⟨by rfl, ?_⟩) (by assumption) ?_
  rotate_left 1
  · intro w hSw
    (try dsimp only at hSw)
    go_simp
    with_reducible rfl
  simp only [Act.put, List.setIfInBounds_toArray, List.set_cons_zero, List.set_cons_succ]
  refine wpAnyH_take (i := 15) (v := ?_) (by simp only [List.getElem?_toArray, List.getElem?_cons_zero, List.getElem?_cons_succ]; rfl) (by kernel_rfl) (by kernel_rfl) (by kernel_rfl) (fun _ _ _ h => h) (Or.inl ⟨by rfl, ?_⟩) (by assumption) ?_
  rotate_left 1
  · intro w hSw
    (try dsimp only at hSw)
    go_simp
    with_reducible rfl
  simp only [Act.put, List.setIfInBounds_toArray, List.set_cons_zero, List.set_cons_succ]
  refine wpAnyH_ready (rs := [16]) (by kernel_rfl) (by simp) ?_
  refine AllReadyH.cons (by simp only [List.getElem?_toArray, List.getElem?_cons_zero, List.getElem?_cons_succ]; rfl) (fun K hK => ?_) AllReadyH.nil
  go_simp
  refine (awake_any _ T7.out).mono ?_
  rintro e8 w8 ⟨rfl, hb8⟩
  have s8 : w8.rangeAt w.heap.size 0 (h.map V8) ∧ w8.rangeAt w2.heap.size 0 (x.map V8) ∧ w8.rangeAt w4.heap.size 0 (x.map V8) := ⟨range_keep s7.1 I7.out.1 hb8, range_keep s7.2.1 I7.out.2.1 hb8, range_keep s7.2.2 I7.out.2.2 hb8⟩
  have B8 : Hid (Below w.heap.size w w8) := B7.out.trans (hb8.mono B7.out.size)
  have T8 : Hid (Tab w8) := HT.out.kept B8.out HP.out
  have I8 : Hid (w.heap.size < w8.heap.size ∧ w2.heap.size < w8.heap.size ∧ w4.heap.size < w8.heap.size) := ⟨Nat.lt_of_lt_of_le I7.out.1 hb8.size, Nat.lt_of_lt_of_le I7.out.2.1 hb8.size, Nat.lt_of_lt_of_le I7.out.2.2 hb8.size⟩
  clear hb8
  refine hK.out _ _ s8 (fun hS => ?_)
  clear hK K
  refine wpAnyH_take (i := 17) (v := ?_) (by simp only [List.getElem?_toArray, List.getElem?_cons_zero, List.getElem?_cons_succ]; rfl) (by kernel_rfl) (by kernel_rfl) (by kernel_rfl) (fun _ _ _ h => h) (Or.inl ⟨by rfl, ?_⟩) (by assumption) ?_
  rotate_left 1
  · intro w hSw
    (try dsimp only at hSw)
    go_simp
    with_reducible rfl
  simp only [Act.put, List.setIfInBounds_toArray, List.set_cons_zero, List.set_cons_succ]
  refine wpAnyH_take (i := 18) (v := ?_) (by simp only [List.getElem?_toArray, List.getElem?_cons_zero, List.getElem?_cons_succ]; rfl) (by kernel_rfl) (by kernel_rfl) (by kernel_rfl) (fun _ _ _ h => h) (Or.inl ⟨by rfl, ?_⟩) (by assumption) ?_
  rotate_left 1
  · intro w hSw
    (try dsimp only at hSw)
    go_simp
    with_reducible rfl
  simp only [Act.put, List.setIfInBounds_toArray, List.set_cons_zero, List.set_cons_succ]
  refine wpAnyH_done (by kernel_rfl) ?_ _
  refine NoPanic.normal ?_
  go_wp2
  go_ret
  exact ⟨rfl, B8.out⟩
theorem texts_any (h : List UInt8) (hl : h.length = 32) (s : ByteArray) (w : World) (hT : Tab w) :
    Calls Tryd.prog 4 #[.agg (bvec h), .string s] w fun e w' => e = .returned (.bool true) ∧ Below w.heap.size w w' := by
  rcases Nat.lt_or_ge 20000 s.size with hn | hn
  · exact texts_large h s hn w hT
  · exact texts_small h hl s _ _ _ rfl rfl rfl hn w hT
end Go.Proofs.YtmdlahmcdgkhkaaDoor
