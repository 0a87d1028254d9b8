/- Disk.Write, Append, Mkdir, Link, Rename, Remove: each as the plain model says. Conditions: paths of at most 4000 bytes, data of at most a million. -/
import Derived.Test.YtlbeemlnbpchgaaGreatWK
namespace Go.Proofs.YtlbeemlnbpchgaaGreat
open Go.RowKit Go.Maps
set_option maxRecDepth 100000 in
set_option maxHeartbeats 2000000 in
theorem strClone_any (s : By) (w : World) (hs : s.length ≤ 1000000) : Calls Tryz.prog 59 #[kS s] w fun e w' => e = .returned (kS s) ∧ Below w.heap.size w w' := by
  have C := hid (Tryz.stringslite_Clone (ba s) w (by rw [ba_size]; omega))
  go_enter Tryz.func59, Tryz.ntmps59
  go_wp2_with (go_at_call 105; refine C.out.mono ?_; rintro e1 w1 ⟨rfl, hb1⟩)
  go_ret
  exact ⟨rfl, hb1⟩
theorem Has.again {w : World} {g : Nat} {t : TypeId} {v : Value} (h : Has w g t #[v]) : Has (w.setCell ⟨g, 0, none⟩ v) g t #[v] := h.put 0 v
theorem Has.again2 {w : World} {g k : Nat} {t t2 : TypeId} {v u : Value} (h : Has w g t #[v]) (hk : Has w k t2 #[u]) : Has (w.setCell ⟨k, 0, none⟩ u) g t #[v] := by
  by_cases e : g = k
  · subst e
    unfold Has at h hk
    rw [h] at hk
    injection hk with hk
    injection hk with h1 h2
    injection h1 with h1
    injection h1 with h1 _
    subst h1
    exact Has.again h
  · exact h.other e u
/-- Two boxes, and what is new. -/
structure CL (w : World) (b1 b2 : Nat) (p d : By) (W : World) : Prop where
  bx : BxA b1 b2 p d W
  bl : Below w.heap.size w W
theorem CL.drew {w W : World} {b1 b2 : Nat} {p d : By} (h : CL w b1 b2 p d W) : CL w b1 b2 p d W.drew := ⟨h.bx.drew, h.bl.drew⟩
theorem CL.on {w W W' : World} {b1 b2 : Nat} {p d : By} (h : CL w b1 b2 p d W) (hb : Below W.heap.size W W') : CL w b1 b2 p d W' := ⟨h.bx.gx (Gx.of_below hb), h.bl.trans (hb.mono h.bl.size)⟩
theorem CL.set1 {w W : World} {b1 b2 : Nat} {p d : By} (h : CL w b1 b2 p d W) (h1 : w.heap.size ≤ b1) : CL w b1 b2 p d (W.setCell ⟨b1, 0, none⟩ (kS p)) := ⟨⟨h.bx.x1.again, h.bx.x2.again2 h.bx.x1⟩, h.bl.setCell h1 _⟩
theorem CL.set2 {w W : World} {b1 b2 : Nat} {p d : By} (h : CL w b1 b2 p d W) (h2 : w.heap.size ≤ b2) : CL w b1 b2 p d (W.setCell ⟨b2, 0, none⟩ (kS d)) := ⟨⟨h.bx.x1.again2 h.bx.x2, h.bx.x2.again⟩, h.bl.setCell h2 _⟩
set_option maxRecDepth 100000 in
set_option maxHeartbeats 8000000 in
theorem dWrite_any {own : Nat → Prop} {w : World} {q : Nat} {M : Mo} (h : Dsk own w q M) (hG : Gd w) (p d : By) (tm : Int) (hp : p.length ≤ 4000) (hd : d.length ≤ 1000000) (hlen : M.since.length + 1 ≤ 100000) :
    Calls Tryz.prog 22 #[.pointer (some ⟨q, 0, none⟩), kS p, kS d, .int .i64 tm] w fun e w' => e = .returned (.int .i64 (doM M (.write p d tm)).1) ∧ DPost own w q (doM M (.write p d tm)).2 w' := by
  have H := hid h
  have HG := hid hG
  have HL := hid hlen
  have P0 : Hid (CL w w.heap.size (w.heap.size + 1) p d ((((w.alloc (.cells #[kS p] 9)).alloc (.cells #[kS d] 9)).alloc (.cells #[.int .i64 tm] 2)))) := by
    refine ⟨⟨?_, ?_⟩, ?_⟩
    · exact ((Has.fresh w _ _).more _).more _
    · exact (Has.fresh' (w.alloc _) _ _ (by simp)).more _
    · exact (((Below.refl _ _).alloc (Nat.le_refl _) _).alloc (by simp) _).alloc (by simp; omega) _
  have X3 : Hid (Has ((((w.alloc (.cells #[kS p] 9)).alloc (.cells #[kS d] 9)).alloc (.cells #[.int .i64 tm] 2))).drew (w.heap.size + 2) 2 #[.int .i64 tm]) := Has.fresh' _ _ _ (by simp)
  have C1 := hid (fun W => strClone_any p W (by omega))
  have C2 := hid (fun W => strClone_any d W (by omega))
  clear h hG hlen
  go_enter Tryz.func22, Tryz.ntmps22
  go_wp2
  refine wp_region_noPanic ?_
  refine wp_region_held_drew (S := CL w w.heap.size (w.heap.size + 1) p d) (by kernel_rfl) (P0.out.drew) (fun hS => ?_)
  refine wpAnyH_take (i := 0) (v := ?_) (by simp only [List.getElem?_toArray, List.getElem?_cons_zero]; rfl) (by kernel_rfl) (by kernel_rfl) (by kernel_rfl) (fun _ _ _ h => h) (Or.inl ⟨by rfl, ?_⟩) (by assumption) ?_
  rotate_left 1
  · intro w hSw
    have hc := hSw.bx.x1.at_ 0
    go_simp
    with_reducible rfl
  simp only [Act.put, List.setIfInBounds_toArray, List.set_cons_zero, List.set_cons_succ]
  refine wpAnyH_take (i := 2) (v := ?_) (by simp only [List.getElem?_toArray, List.getElem?_cons_zero, List.getElem?_cons_succ]; rfl) (by kernel_rfl) (by kernel_rfl) (by kernel_rfl) (fun _ _ _ h => h) (Or.inl ⟨by rfl, ?_⟩) (by assumption) ?_
  rotate_left 1
  · intro w hSw
    have hc := hSw.bx.x2.at_ 0
    go_simp
    with_reducible rfl
  simp only [Act.put, List.setIfInBounds_toArray, List.set_cons_zero, List.set_cons_succ]
  refine wpAnyH_ready (rs := [1]) (by kernel_rfl) (by simp) ?_
  refine AllReadyH.cons (by simp only [List.getElem?_toArray, List.getElem?_cons_zero, List.getElem?_cons_succ]; rfl) (fun K hK => ?_) AllReadyH.nil
  go_simp
  refine (C1.out _).mono ?_
  rintro e1 w1 ⟨rfl, hb1⟩
  have hz1 := P0.out.drew.on hb1
  refine hK.out _ _ hz1 (fun hS => ?_)
  clear hK K hS
  refine wpAnyH_ready (rs := [3]) (by kernel_rfl) (by simp) ?_
  refine AllReadyH.cons (by simp only [List.getElem?_toArray, List.getElem?_cons_zero, List.getElem?_cons_succ]; rfl) (fun K hK => ?_) AllReadyH.nil
  go_simp
  refine (C2.out _).mono ?_
  rintro e2 w2 ⟨rfl, hb2⟩
  have hz2 := hz1.on hb2
  refine hK.out _ _ hz2 (fun hS => ?_)
  clear hK K hS
  have X3b : Hid (Has w2 (w.heap.size + 2) 2 #[.int .i64 tm]) := (X3.out.gx (.inr rfl) (Gx.of_below hb1)).gx (.inr rfl) (Gx.of_below hb2)
  have P2 := hid hz2
  clear hz1 hz2 hb1 hb2
  have hc1 := P2.out.bx.x1.at_ 0
  have hf1 := P2.out.bx.x1.free 0
  refine wpAnyH_ready (rs := [4]) (by kernel_rfl) (by simp) ?_
  refine AllReadyH.cons (by simp only [List.getElem?_toArray, List.getElem?_cons_zero, List.getElem?_cons_succ]; rfl) (fun K hK => ?_) AllReadyH.nil
  go_simp
  refine hK.out _ _ (P2.out.set1 (Nat.le_refl _)) (fun hS => ?_)
  clear hK K hS
  have P3 := hid (P2.out.set1 (Nat.le_refl _))
  have hc2 := P3.out.bx.x2.at_ 0
  have hf2 := P3.out.bx.x2.free 0
  refine wpAnyH_ready (rs := [5]) (by kernel_rfl) (by simp) ?_
  refine AllReadyH.cons (by simp only [List.getElem?_toArray, List.getElem?_cons_zero, List.getElem?_cons_succ]; rfl) (fun K hK => ?_) AllReadyH.nil
  go_simp
  refine hK.out _ _ (P3.out.set2 (Nat.le_succ _)) (fun hS => ?_)
  clear hK K hS
  refine wpAnyH_done (by kernel_rfl) ?_ _
  refine NoPanic.normal ?_
  have P4 := hid (P3.out.set2 (Nat.le_succ _))
  have X4 : Hid (Has ((w2.setCell ⟨w.heap.size, 0, none⟩ (kS p)).setCell ⟨w.heap.size + 1, 0, none⟩ (kS d)) (w.heap.size + 2) 2 #[.int .i64 tm]) := (X3b.out.other (p := ⟨w.heap.size, 0, none⟩) (by show _ ≠ w.heap.size; omega) _).other (p := ⟨w.heap.size + 1, 0, none⟩) (by show _ ≠ w.heap.size + 1; omega) _
  clear hc1 hf1 hc2 hf2
  have CD := hid (ddo_any (H.out.on P4.out.bl) (HG.out.kept P4.out.bl) _ (.write p d tm) (eff_write ⟨P4.out.bx.x1, P4.out.bx.x2, X4.out⟩ hp hd) HL.out)
  go_wp2_with fail
  refine CD.out.mono ?_; rintro e3 w3 ⟨rfl, h3⟩
  have H3 := hid h3
  clear h3
  go_wp2
  go_ret
  exact ⟨rfl, DPost.ahead P4.out.bl H3.out⟩
set_option maxRecDepth 100000 in
set_option maxHeartbeats 8000000 in
theorem dAppend_any {own : Nat → Prop} {w : World} {q : Nat} {M : Mo} (h : Dsk own w q M) (hG : Gd w) (p d : By) (hp : p.length ≤ 4000) (hd : d.length ≤ 1000000) (hlen : M.since.length + 1 ≤ 100000) :
    Calls Tryz.prog 23 #[.pointer (some ⟨q, 0, none⟩), kS p, kS d] w fun e w' => e = .returned (.int .i64 (doM M (.append p d)).1) ∧ DPost own w q (doM M (.append p d)).2 w' := by
  have H := hid h
  have HG := hid hG
  have HL := hid hlen
  have P0 : Hid (CL w w.heap.size (w.heap.size + 1) p d ((w.alloc (.cells #[kS p] 9)).alloc (.cells #[kS d] 9))) := by
    refine ⟨⟨?_, ?_⟩, ?_⟩
    · exact (Has.fresh w _ _).more _
    · exact Has.fresh' (w.alloc _) _ _ (by simp)
    · exact ((Below.refl _ _).alloc (Nat.le_refl _) _).alloc (by simp) _
  have C1 := hid (fun W => strClone_any p W (by omega))
  have C2 := hid (fun W => strClone_any d W (by omega))
  clear h hG hlen
  go_enter Tryz.func23, Tryz.ntmps23
  go_wp2
  refine wp_region_noPanic ?_
  refine wp_region_held_drew (S := CL w w.heap.size (w.heap.size + 1) p d) (by kernel_rfl) (P0.out.drew) (fun hS => ?_)
  refine wpAnyH_take (i := 0) (v := ?_) (by simp only [List.getElem?_toArray, List.getElem?_cons_zero]; rfl) (by kernel_rfl) (by kernel_rfl) (by kernel_rfl) (fun _ _ _ h => h) (Or.inl ⟨by rfl, ?_⟩) (by assumption) ?_
  rotate_left 1
  · intro w hSw
    have hc := hSw.bx.x1.at_ 0
    go_simp
    with_reducible rfl
  simp only [Act.put, List.setIfInBounds_toArray, List.set_cons_zero, List.set_cons_succ]
  refine wpAnyH_take (i := 2) (v := ?_) (by simp only [List.getElem?_toArray, List.getElem?_cons_zero, List.getElem?_cons_succ]; rfl) (by kernel_rfl) (by kernel_rfl) (by kernel_rfl) (fun _ _ _ h => h) (Or.inl ⟨by rfl, ?_⟩) (by assumption) ?_
  rotate_left 1
  · intro w hSw
    have hc := hSw.bx.x2.at_ 0
    go_simp
    with_reducible rfl
  simp only [Act.put, List.setIfInBounds_toArray, List.set_cons_zero, List.set_cons_succ]
  refine wpAnyH_ready (rs := [1]) (by kernel_rfl) (by simp) ?_
  refine AllReadyH.cons (by simp only [List.getElem?_toArray, List.getElem?_cons_zero, List.getElem?_cons_succ]; rfl) (fun K hK => ?_) AllReadyH.nil
  go_simp
  refine (C1.out _).mono ?_
  rintro e1 w1 ⟨rfl, hb1⟩
  have hz1 := P0.out.drew.on hb1
  refine hK.out _ _ hz1 (fun hS => ?_)
  clear hK K hS
  refine wpAnyH_ready (rs := [3]) (by kernel_rfl) (by simp) ?_
  refine AllReadyH.cons (by simp only [List.getElem?_toArray, List.getElem?_cons_zero, List.getElem?_cons_succ]; rfl) (fun K hK => ?_) AllReadyH.nil
  go_simp
  refine (C2.out _).mono ?_
  rintro e2 w2 ⟨rfl, hb2⟩
  have hz2 := hz1.on hb2
  refine hK.out _ _ hz2 (fun hS => ?_)
  clear hK K hS
  have P2 := hid hz2
  clear hz1 hz2 hb1 hb2
  have hc1 := P2.out.bx.x1.at_ 0
  have hf1 := P2.out.bx.x1.free 0
  refine wpAnyH_ready (rs := [4]) (by kernel_rfl) (by simp) ?_
  refine AllReadyH.cons (by simp only [List.getElem?_toArray, List.getElem?_cons_zero, List.getElem?_cons_succ]; rfl) (fun K hK => ?_) AllReadyH.nil
  go_simp
  refine hK.out _ _ (P2.out.set1 (Nat.le_refl _)) (fun hS => ?_)
  clear hK K hS
  have P3 := hid (P2.out.set1 (Nat.le_refl _))
  have hc2 := P3.out.bx.x2.at_ 0
  have hf2 := P3.out.bx.x2.free 0
  refine wpAnyH_ready (rs := [5]) (by kernel_rfl) (by simp) ?_
  refine AllReadyH.cons (by simp only [List.getElem?_toArray, List.getElem?_cons_zero, List.getElem?_cons_succ]; rfl) (fun K hK => ?_) AllReadyH.nil
  go_simp
  refine hK.out _ _ (P3.out.set2 (Nat.le_succ _)) (fun hS => ?_)
  clear hK K hS
  refine wpAnyH_done (by kernel_rfl) ?_ _
  refine NoPanic.normal ?_
  have P4 := hid (P3.out.set2 (Nat.le_succ _))
  clear hc1 hf1 hc2 hf2
  have CD := hid (ddo_any (H.out.on P4.out.bl) (HG.out.kept P4.out.bl) _ (.append p d) (eff_append P4.out.bx hp hd) HL.out)
  go_wp2_with fail
  refine CD.out.mono ?_; rintro e3 w3 ⟨rfl, h3⟩
  have H3 := hid h3
  clear h3
  go_wp2
  go_ret
  exact ⟨rfl, DPost.ahead P4.out.bl H3.out⟩
set_option maxRecDepth 100000 in
set_option maxHeartbeats 8000000 in
theorem dLink_any {own : Nat → Prop} {w : World} {q : Nat} {M : Mo} (h : Dsk own w q M) (hG : Gd w) (p d : By) (tm : Int) (hp : p.length ≤ 4000) (hd : d.length ≤ 1000000) (hlen : M.since.length + 1 ≤ 100000) :
    Calls Tryz.prog 32 #[.pointer (some ⟨q, 0, none⟩), kS p, kS d, .int .i64 tm] w fun e w' => e = .returned (.int .i64 (doM M (.link p d tm)).1) ∧ DPost own w q (doM M (.link p d tm)).2 w' := by
  have H := hid h
  have HG := hid hG
  have HL := hid hlen
  have P0 : Hid (CL w w.heap.size (w.heap.size + 1) p d ((((w.alloc (.cells #[kS p] 9)).alloc (.cells #[kS d] 9)).alloc (.cells #[.int .i64 tm] 2)))) := by
    refine ⟨⟨?_, ?_⟩, ?_⟩
    · exact ((Has.fresh w _ _).more _).more _
    · exact (Has.fresh' (w.alloc _) _ _ (by simp)).more _
    · exact (((Below.refl _ _).alloc (Nat.le_refl _) _).alloc (by simp) _).alloc (by simp; omega) _
  have X3 : Hid (Has ((((w.alloc (.cells #[kS p] 9)).alloc (.cells #[kS d] 9)).alloc (.cells #[.int .i64 tm] 2))).drew (w.heap.size + 2) 2 #[.int .i64 tm]) := Has.fresh' _ _ _ (by simp)
  have C1 := hid (fun W => strClone_any p W (by omega))
  have C2 := hid (fun W => strClone_any d W (by omega))
  clear h hG hlen
  go_enter Tryz.func32, Tryz.ntmps32
  go_wp2
  refine wp_region_noPanic ?_
  refine wp_region_held_drew (S := CL w w.heap.size (w.heap.size + 1) p d) (by kernel_rfl) (P0.out.drew) (fun hS => ?_)
  refine wpAnyH_take (i := 0) (v := ?_) (by simp only [List.getElem?_toArray, List.getElem?_cons_zero]; rfl) (by kernel_rfl) (by kernel_rfl) (by kernel_rfl) (fun _ _ _ h => h) (Or.inl ⟨by rfl, ?_⟩) (by assumption) ?_
  rotate_left 1
  · intro w hSw
    have hc := hSw.bx.x1.at_ 0
    go_simp
    with_reducible rfl
  simp only [Act.put, List.setIfInBounds_toArray, List.set_cons_zero, List.set_cons_succ]
  refine wpAnyH_take (i := 2) (v := ?_) (by simp only [List.getElem?_toArray, List.getElem?_cons_zero, List.getElem?_cons_succ]; rfl) (by kernel_rfl) (by kernel_rfl) (by kernel_rfl) (fun _ _ _ h => h) (Or.inl ⟨by rfl, ?_⟩) (by assumption) ?_
  rotate_left 1
  · intro w hSw
    have hc := hSw.bx.x2.at_ 0
    go_simp
    with_reducible rfl
  simp only [Act.put, List.setIfInBounds_toArray, List.set_cons_zero, List.set_cons_succ]
  refine wpAnyH_ready (rs := [1]) (by kernel_rfl) (by simp) ?_
  refine AllReadyH.cons (by simp only [List.getElem?_toArray, List.getElem?_cons_zero, List.getElem?_cons_succ]; rfl) (fun K hK => ?_) AllReadyH.nil
  go_simp
  refine (C1.out _).mono ?_
  rintro e1 w1 ⟨rfl, hb1⟩
  have hz1 := P0.out.drew.on hb1
  refine hK.out _ _ hz1 (fun hS => ?_)
  clear hK K hS
  refine wpAnyH_ready (rs := [3]) (by kernel_rfl) (by simp) ?_
  refine AllReadyH.cons (by simp only [List.getElem?_toArray, List.getElem?_cons_zero, List.getElem?_cons_succ]; rfl) (fun K hK => ?_) AllReadyH.nil
  go_simp
  refine (C2.out _).mono ?_
  rintro e2 w2 ⟨rfl, hb2⟩
  have hz2 := hz1.on hb2
  refine hK.out _ _ hz2 (fun hS => ?_)
  clear hK K hS
  have X3b : Hid (Has w2 (w.heap.size + 2) 2 #[.int .i64 tm]) := (X3.out.gx (.inr rfl) (Gx.of_below hb1)).gx (.inr rfl) (Gx.of_below hb2)
  have P2 := hid hz2
  clear hz1 hz2 hb1 hb2
  have hc1 := P2.out.bx.x1.at_ 0
  have hf1 := P2.out.bx.x1.free 0
  refine wpAnyH_ready (rs := [4]) (by kernel_rfl) (by simp) ?_
  refine AllReadyH.cons (by simp only [List.getElem?_toArray, List.getElem?_cons_zero, List.getElem?_cons_succ]; rfl) (fun K hK => ?_) AllReadyH.nil
  go_simp
  refine hK.out _ _ (P2.out.set1 (Nat.le_refl _)) (fun hS => ?_)
  clear hK K hS
  have P3 := hid (P2.out.set1 (Nat.le_refl _))
  have hc2 := P3.out.bx.x2.at_ 0
  have hf2 := P3.out.bx.x2.free 0
  refine wpAnyH_ready (rs := [5]) (by kernel_rfl) (by simp) ?_
  refine AllReadyH.cons (by simp only [List.getElem?_toArray, List.getElem?_cons_zero, List.getElem?_cons_succ]; rfl) (fun K hK => ?_) AllReadyH.nil
  go_simp
  refine hK.out _ _ (P3.out.set2 (Nat.le_succ _)) (fun hS => ?_)
  clear hK K hS
  refine wpAnyH_done (by kernel_rfl) ?_ _
  refine NoPanic.normal ?_
  have P4 := hid (P3.out.set2 (Nat.le_succ _))
  have X4 : Hid (Has ((w2.setCell ⟨w.heap.size, 0, none⟩ (kS p)).setCell ⟨w.heap.size + 1, 0, none⟩ (kS d)) (w.heap.size + 2) 2 #[.int .i64 tm]) := (X3b.out.other (p := ⟨w.heap.size, 0, none⟩) (by show _ ≠ w.heap.size; omega) _).other (p := ⟨w.heap.size + 1, 0, none⟩) (by show _ ≠ w.heap.size + 1; omega) _
  clear hc1 hf1 hc2 hf2
  have CD := hid (ddo_any (H.out.on P4.out.bl) (HG.out.kept P4.out.bl) _ (.link p d tm) (eff_link ⟨P4.out.bx.x1, P4.out.bx.x2, X4.out⟩ hp hd) HL.out)
  go_wp2_with fail
  refine CD.out.mono ?_; rintro e3 w3 ⟨rfl, h3⟩
  have H3 := hid h3
  clear h3
  go_wp2
  go_ret
  exact ⟨rfl, DPost.ahead P4.out.bl H3.out⟩
set_option maxRecDepth 100000 in
set_option maxHeartbeats 8000000 in
theorem dRename_any {own : Nat → Prop} {w : World} {q : Nat} {M : Mo} (h : Dsk own w q M) (hG : Gd w) (p d : By) (hp : p.length ≤ 4000) (hd : d.length ≤ 4000) (hlen : M.since.length + 1 ≤ 100000) :
    Calls Tryz.prog 24 #[.pointer (some ⟨q, 0, none⟩), kS p, kS d] w fun e w' => e = .returned (.int .i64 (doM M (.rename p d)).1) ∧ DPost own w q (doM M (.rename p d)).2 w' := by
  have H := hid h
  have HG := hid hG
  have HL := hid hlen
  have P0 : Hid (CL w w.heap.size (w.heap.size + 1) p d ((w.alloc (.cells #[kS p] 9)).alloc (.cells #[kS d] 9))) := by
    refine ⟨⟨?_, ?_⟩, ?_⟩
    · exact (Has.fresh w _ _).more _
    · exact Has.fresh' (w.alloc _) _ _ (by simp)
    · exact ((Below.refl _ _).alloc (Nat.le_refl _) _).alloc (by simp) _
  have C1 := hid (fun W => strClone_any p W (by omega))
  have C2 := hid (fun W => strClone_any d W (by omega))
  clear h hG hlen
  go_enter Tryz.func24, Tryz.ntmps24
  go_wp2
  refine wp_region_noPanic ?_
  refine wp_region_held_drew (S := CL w w.heap.size (w.heap.size + 1) p d) (by kernel_rfl) (P0.out.drew) (fun hS => ?_)
  refine wpAnyH_take (i := 0) (v := ?_) (by simp only [List.getElem?_toArray, List.getElem?_cons_zero]; rfl) (by kernel_rfl) (by kernel_rfl) (by kernel_rfl) (fun _ _ _ h => h) (Or.inl ⟨by rfl, ?_⟩) (by assumption) ?_
  rotate_left 1
  · intro w hSw
    have hc := hSw.bx.x1.at_ 0
    go_simp
    with_reducible rfl
  simp only [Act.put, List.setIfInBounds_toArray, List.set_cons_zero, List.set_cons_succ]
  refine wpAnyH_take (i := 2) (v := ?_) (by simp only [List.getElem?_toArray, List.getElem?_cons_zero, List.getElem?_cons_succ]; rfl) (by kernel_rfl) (by kernel_rfl) (by kernel_rfl) (fun _ _ _ h => h) (Or.inl ⟨by rfl, ?_⟩) (by assumption) ?_
  rotate_left 1
  · intro w hSw
    have hc := hSw.bx.x2.at_ 0
    go_simp
    with_reducible rfl
  simp only [Act.put, List.setIfInBounds_toArray, List.set_cons_zero, List.set_cons_succ]
  refine wpAnyH_ready (rs := [1]) (by kernel_rfl) (by simp) ?_
  refine AllReadyH.cons (by simp only [List.getElem?_toArray, List.getElem?_cons_zero, List.getElem?_cons_succ]; rfl) (fun K hK => ?_) AllReadyH.nil
  go_simp
  refine (C1.out _).mono ?_
  rintro e1 w1 ⟨rfl, hb1⟩
  have hz1 := P0.out.drew.on hb1
  refine hK.out _ _ hz1 (fun hS => ?_)
  clear hK K hS
  refine wpAnyH_ready (rs := [3]) (by kernel_rfl) (by simp) ?_
  refine AllReadyH.cons (by simp only [List.getElem?_toArray, List.getElem?_cons_zero, List.getElem?_cons_succ]; rfl) (fun K hK => ?_) AllReadyH.nil
  go_simp
  refine (C2.out _).mono ?_
  rintro e2 w2 ⟨rfl, hb2⟩
  have hz2 := hz1.on hb2
  refine hK.out _ _ hz2 (fun hS => ?_)
  clear hK K hS
  have P2 := hid hz2
  clear hz1 hz2 hb1 hb2
  have hc1 := P2.out.bx.x1.at_ 0
  have hf1 := P2.out.bx.x1.free 0
  refine wpAnyH_ready (rs := [4]) (by kernel_rfl) (by simp) ?_
  refine AllReadyH.cons (by simp only [List.getElem?_toArray, List.getElem?_cons_zero, List.getElem?_cons_succ]; rfl) (fun K hK => ?_) AllReadyH.nil
  go_simp
  refine hK.out _ _ (P2.out.set1 (Nat.le_refl _)) (fun hS => ?_)
  clear hK K hS
  have P3 := hid (P2.out.set1 (Nat.le_refl _))
  have hc2 := P3.out.bx.x2.at_ 0
  have hf2 := P3.out.bx.x2.free 0
  refine wpAnyH_ready (rs := [5]) (by kernel_rfl) (by simp) ?_
  refine AllReadyH.cons (by simp only [List.getElem?_toArray, List.getElem?_cons_zero, List.getElem?_cons_succ]; rfl) (fun K hK => ?_) AllReadyH.nil
  go_simp
  refine hK.out _ _ (P3.out.set2 (Nat.le_succ _)) (fun hS => ?_)
  clear hK K hS
  refine wpAnyH_done (by kernel_rfl) ?_ _
  refine NoPanic.normal ?_
  have P4 := hid (P3.out.set2 (Nat.le_succ _))
  clear hc1 hf1 hc2 hf2
  have CD := hid (ddo_any (H.out.on P4.out.bl) (HG.out.kept P4.out.bl) _ (.rename p d) (eff_rename P4.out.bx hp hd) HL.out)
  go_wp2_with fail
  refine CD.out.mono ?_; rintro e3 w3 ⟨rfl, h3⟩
  have H3 := hid h3
  clear h3
  go_wp2
  go_ret
  exact ⟨rfl, DPost.ahead P4.out.bl H3.out⟩
set_option maxRecDepth 100000 in
set_option maxHeartbeats 8000000 in
theorem dMkdir_any {own : Nat → Prop} {w : World} {q : Nat} {M : Mo} (h : Dsk own w q M) (hG : Gd w) (p : By) (hp : p.length ≤ 4000) (hlen : M.since.length + 1 ≤ 100000) :
    Calls Tryz.prog 21 #[.pointer (some ⟨q, 0, none⟩), kS p] w fun e w' => e = .returned (.int .i64 (doM M (.mkdir p)).1) ∧ DPost own w q (doM M (.mkdir p)).2 w' := by
  have H := hid h
  have HG := hid hG
  have HL := hid hlen
  have X0 : Hid (Has (w.alloc (.cells #[kS p] 9)) w.heap.size 9 #[kS p]) := Has.fresh _ _ _
  have B0 : Hid (Below w.heap.size w (w.alloc (.cells #[kS p] 9))) := (Below.refl _ _).alloc (Nat.le_refl _) _
  have C1 := hid (strClone_any p (w.alloc (.cells #[kS p] 9)) (by omega))
  clear h hG hlen
  go_enter Tryz.func21, Tryz.ntmps21
  go_wp2_with fail
  refine C1.out.mono ?_; rintro e1 w1 ⟨rfl, hb1⟩
  have X1 : Hid (Has w1 w.heap.size 9 #[kS p]) := X0.out.gx (.inl rfl) (Gx.of_below hb1)
  have B1 := hid (B0.out.trans (hb1.mono B0.out.size))
  have hc1 := X1.out.at_ 0
  have hf1 := X1.out.free 0
  clear hb1
  go_wp2_with fail
  have B2 : Hid (Below w.heap.size w (w1.setCell ⟨w.heap.size, 0, none⟩ (kS p))) := B1.out.setCell (Nat.le_refl _) _
  have CD := hid (ddo_any (H.out.on B2.out) (HG.out.kept B2.out) _ (.mkdir p) (eff_mkdir X1.out.again hp) HL.out)
  refine CD.out.mono ?_; rintro e3 w3 ⟨rfl, h3⟩
  have H3 := hid h3
  clear h3
  go_wp2
  go_ret
  exact ⟨rfl, DPost.ahead B2.out H3.out⟩
set_option maxRecDepth 100000 in
set_option maxHeartbeats 8000000 in
theorem dRemove_any {own : Nat → Prop} {w : World} {q : Nat} {M : Mo} (h : Dsk own w q M) (hG : Gd w) (p : By) (hp : p.length ≤ 4000) (hlen : M.since.length + 1 ≤ 100000) :
    Calls Tryz.prog 33 #[.pointer (some ⟨q, 0, none⟩), kS p] w fun e w' => e = .returned (.int .i64 (doM M (.remove p)).1) ∧ DPost own w q (doM M (.remove p)).2 w' := by
  have H := hid h
  have HG := hid hG
  have HL := hid hlen
  have X0 : Hid (Has (w.alloc (.cells #[kS p] 9)) w.heap.size 9 #[kS p]) := Has.fresh _ _ _
  have B0 : Hid (Below w.heap.size w (w.alloc (.cells #[kS p] 9))) := (Below.refl _ _).alloc (Nat.le_refl _) _
  have C1 := hid (strClone_any p (w.alloc (.cells #[kS p] 9)) (by omega))
  clear h hG hlen
  go_enter Tryz.func33, Tryz.ntmps33
  go_wp2_with fail
  refine C1.out.mono ?_; rintro e1 w1 ⟨rfl, hb1⟩
  have X1 : Hid (Has w1 w.heap.size 9 #[kS p]) := X0.out.gx (.inl rfl) (Gx.of_below hb1)
  have B1 := hid (B0.out.trans (hb1.mono B0.out.size))
  have hc1 := X1.out.at_ 0
  have hf1 := X1.out.free 0
  clear hb1
  go_wp2_with fail
  have B2 : Hid (Below w.heap.size w (w1.setCell ⟨w.heap.size, 0, none⟩ (kS p))) := B1.out.setCell (Nat.le_refl _) _
  have CD := hid (ddo_any (H.out.on B2.out) (HG.out.kept B2.out) _ (.remove p) (eff_remove X1.out.again hp) HL.out)
  refine CD.out.mono ?_; rintro e3 w3 ⟨rfl, h3⟩
  have H3 := hid h3
  clear h3
  go_wp2
  go_ret
  exact ⟨rfl, DPost.ahead B2.out H3.out⟩
end Go.Proofs.YtlbeemlnbpchgaaGreat
