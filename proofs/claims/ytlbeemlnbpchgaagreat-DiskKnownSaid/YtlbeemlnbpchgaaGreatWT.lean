/- Disk.Copy: a disk of its own that is the same. Conditions: as at the disk. -/
import Derived.Test.YtlbeemlnbpchgaaGreatWS
namespace Go.Proofs.YtlbeemlnbpchgaaGreat
open Go.RowKit Go.Maps
/-- What Copy's loads lean on. -/
structure CW (w0 : World) (p m1 m2 : Nat) (sv : Value) (vs : List Value) (M : Mo) (own : Nat → Prop) (W : World) : Prop where
  d : DskI own W p m1 m2 sv vs M
  bl : Below w0.heap.size w0 W
theorem DskI.drew {own : Nat → Prop} {w : World} {p m1 m2 : Nat} {sv : Value} {vs : List Value} {M : Mo} (h : DskI own w p m1 m2 sv vs M) : DskI own w.drew p m1 m2 sv vs M := h.on (Below.refl _ _).drew
theorem CW.drew {w0 W : World} {p m1 m2 : Nat} {sv : Value} {vs : List Value} {M : Mo} {own : Nat → Prop} (h : CW w0 p m1 m2 sv vs M own W) : CW w0 p m1 m2 sv vs M own W.drew := ⟨h.d.drew, h.bl.drew⟩
theorem CW.on {w0 W W' : World} {p m1 m2 : Nat} {sv : Value} {vs : List Value} {M : Mo} {own : Nat → Prop} (h : CW w0 p m1 m2 sv vs M own W) (hb : Below W.heap.size W W') : CW w0 p m1 m2 sv vs M own W' := ⟨h.d.on hb, h.bl.trans (hb.mono h.bl.size)⟩
/-- A copy of a disk. -/
def CopyP (M : Mo) (w : World) (e : Ending) (w' : World) : Prop := ∃ own q, e = .returned (.pointer (some ⟨q, 0, none⟩)) ∧ Dsk own w' q M ∧ (∀ g, own g → w.heap.size ≤ g) ∧ Below w.heap.size w w'
set_option maxRecDepth 100000 in
set_option maxHeartbeats 8000000 in
theorem dCopy_any {own : Nat → Prop} {w : World} {p : Nat} {M : Mo} (h : Dsk own w p M) : Calls Tryz.prog 17 #[.pointer (some ⟨p, 0, none⟩)] w fun e w' => CopyP M w e w' := by
  obtain ⟨m1, m2, sv, vs, h⟩ := h
  have C1 := hid (dmade_any (m1 := m1) (h.has.at_ 0))
  have P0 : Hid (CW w p m1 m2 sv vs M own w.drew) := ⟨h.drew, (Below.refl _ _).drew⟩
  have HVL : Hid (vs.length ≤ 100000) := by show _ ≤ _; rw [h.effs.1]; exact h.len
  have HV1 : Hid (∀ u ∈ vs, u.oneCell' = true) := fun u hu => by
    obtain ⟨i, hi, rfl⟩ := List.getElem_of_mem hu
    exact (h.effs.2 i hi (by rw [← h.effs.1]; exact hi)).one
  clear h
  go_enter Tryz.func17, Tryz.ntmps17
  go_wp2_with (go_at_call 55; refine C1.out.mono ?_; rintro e1 w1 ⟨rfl, rfl⟩)
  refine wp_region_noPanic ?_
  refine wp_region_held_drew (S := CW w p m1 m2 sv vs M own) (by kernel_rfl) (P0.out) (fun hS => ?_)
  refine wpAnyH_take (i := 0) (v := ?_) (by simp only [List.getElem?_toArray, List.getElem?_cons_zero]; rfl) (by kernel_rfl) (by kernel_rfl) (by kernel_rfl) (fun _ _ _ h => h) (Or.inl ⟨by rfl, ?_⟩) (by assumption) ?_
  rotate_left 1
  · intro w hSw
    go_simp
    with_reducible rfl
  simp only [Act.put, List.setIfInBounds_toArray, List.set_cons_zero, List.set_cons_succ]
  refine wpAnyH_take (i := 1) (v := ?_) (by simp only [List.getElem?_toArray, List.getElem?_cons_zero, List.getElem?_cons_succ]; rfl) (by kernel_rfl) (by kernel_rfl) (by kernel_rfl) (fun _ _ _ h => h) (Or.inl ⟨by rfl, ?_⟩) (by assumption) ?_
  rotate_left 1
  · intro w hSw
    go_simp
    with_reducible rfl
  simp only [Act.put, List.setIfInBounds_toArray, List.set_cons_zero, List.set_cons_succ]
  refine wpAnyH_take (i := 2) (v := ?_) (by simp only [List.getElem?_toArray, List.getElem?_cons_zero, List.getElem?_cons_succ]; rfl) (by kernel_rfl) (by kernel_rfl) (by kernel_rfl) (fun _ _ _ h => h) (Or.inl ⟨by rfl, ?_⟩) (by assumption) ?_
  rotate_left 1
  · intro w hSw
    go_simp
    with_reducible rfl
  simp only [Act.put, List.setIfInBounds_toArray, List.set_cons_zero, List.set_cons_succ]
  refine wpAnyH_take (i := 4) (v := ?_) (by simp only [List.getElem?_toArray, List.getElem?_cons_zero, List.getElem?_cons_succ]; rfl) (by kernel_rfl) (by kernel_rfl) (by kernel_rfl) (fun _ _ _ h => h) (Or.inl ⟨by rfl, ?_⟩) (by assumption) ?_
  rotate_left 1
  · intro w hSw
    go_simp
    with_reducible rfl
  simp only [Act.put, List.setIfInBounds_toArray, List.set_cons_zero, List.set_cons_succ]
  refine wpAnyH_take (i := 5) (v := ?_) (by simp only [List.getElem?_toArray, List.getElem?_cons_zero, List.getElem?_cons_succ]; rfl) (by kernel_rfl) (by kernel_rfl) (by kernel_rfl) (fun _ _ _ h => h) (Or.inl ⟨by rfl, ?_⟩) (by assumption) ?_
  rotate_left 1
  · intro w hSw
    go_simp
    with_reducible rfl
  simp only [Act.put, List.setIfInBounds_toArray, List.set_cons_zero, List.set_cons_succ]
  refine wpAnyH_take (i := 6) (v := ?_) (by simp only [List.getElem?_toArray, List.getElem?_cons_zero, List.getElem?_cons_succ]; rfl) (by kernel_rfl) (by kernel_rfl) (by kernel_rfl) (fun _ _ _ h => h) (Or.inl ⟨by rfl, ?_⟩) (by assumption) ?_
  rotate_left 1
  · intro w hSw
    go_simp
    with_reducible rfl
  simp only [Act.put, List.setIfInBounds_toArray, List.set_cons_zero, List.set_cons_succ]
  refine wpAnyH_take (i := 8) (v := ?_) (by simp only [List.getElem?_toArray, List.getElem?_cons_zero, List.getElem?_cons_succ]; rfl) (by kernel_rfl) (by kernel_rfl) (by kernel_rfl) (fun _ _ _ h => h) (Or.inl ⟨by rfl, ?_⟩) (by assumption) ?_
  rotate_left 1
  · intro w hSw
    go_simp
    with_reducible rfl
  simp only [Act.put, List.setIfInBounds_toArray, List.set_cons_zero, List.set_cons_succ]
  refine wpAnyH_take (i := 9) (v := ?_) (by simp only [List.getElem?_toArray, List.getElem?_cons_zero, List.getElem?_cons_succ]; rfl) (by kernel_rfl) (by kernel_rfl) (by kernel_rfl) (fun _ _ _ h => h) (Or.inl ⟨by rfl, ?_⟩) (by assumption) ?_
  rotate_left 1
  · intro w hSw
    go_simp
    with_reducible rfl
  simp only [Act.put, List.setIfInBounds_toArray, List.set_cons_zero, List.set_cons_succ]
  refine wpAnyH_take (i := 10) (v := ?_) (by simp only [List.getElem?_toArray, List.getElem?_cons_zero, List.getElem?_cons_succ]; rfl) (by kernel_rfl) (by kernel_rfl) (by kernel_rfl) (fun _ _ _ h => h) (Or.inl ⟨by rfl, ?_⟩) (by assumption) ?_
  rotate_left 1
  · intro w hSw
    go_simp
    with_reducible rfl
  simp only [Act.put, List.setIfInBounds_toArray, List.set_cons_zero, List.set_cons_succ]
  refine wpAnyH_take (i := 11) (v := ?_) (by simp only [List.getElem?_toArray, List.getElem?_cons_zero, List.getElem?_cons_succ]; rfl) (by kernel_rfl) (by kernel_rfl) (by kernel_rfl) (fun _ _ _ h => h) (Or.inl ⟨by rfl, ?_⟩) (by assumption) ?_
  rotate_left 1
  · intro w hSw
    have hc : World.cell? _ ⟨p, 6, none⟩ = some sv := hSw.d.has.at_ 6
    go_simp
    with_reducible rfl
  simp only [Act.put, List.setIfInBounds_toArray, List.set_cons_zero, List.set_cons_succ]
  refine wpAnyH_take (i := 13) (v := ?_) (by simp only [List.getElem?_toArray, List.getElem?_cons_zero, List.getElem?_cons_succ]; rfl) (by kernel_rfl) (by kernel_rfl) (by kernel_rfl) (fun _ _ _ h => h) (Or.inl ⟨by rfl, ?_⟩) (by assumption) ?_
  rotate_left 1
  · intro w hSw
    go_simp
    with_reducible rfl
  simp only [Act.put, List.setIfInBounds_toArray, List.set_cons_zero, List.set_cons_succ]
  refine wpAnyH_take (i := 14) (v := ?_) (by simp only [List.getElem?_toArray, List.getElem?_cons_zero, List.getElem?_cons_succ]; rfl) (by kernel_rfl) (by kernel_rfl) (by kernel_rfl) (fun _ _ _ h => h) (Or.inl ⟨by rfl, ?_⟩) (by assumption) ?_
  rotate_left 1
  · intro w hSw
    go_simp
    with_reducible rfl
  simp only [Act.put, List.setIfInBounds_toArray, List.set_cons_zero, List.set_cons_succ]
  refine wpAnyH_take (i := 15) (v := ?_) (by simp only [List.getElem?_toArray, List.getElem?_cons_zero, List.getElem?_cons_succ]; rfl) (by kernel_rfl) (by kernel_rfl) (by kernel_rfl) (fun _ _ _ h => h) (Or.inl ⟨by rfl, ?_⟩) (by assumption) ?_
  rotate_left 1
  · intro w hSw
    go_simp
    with_reducible rfl
  simp only [Act.put, List.setIfInBounds_toArray, List.set_cons_zero, List.set_cons_succ]
  refine wpAnyH_take (i := 16) (v := ?_) (by simp only [List.getElem?_toArray, List.getElem?_cons_zero, List.getElem?_cons_succ]; rfl) (by kernel_rfl) (by kernel_rfl) (by kernel_rfl) (fun _ _ _ h => h) (Or.inl ⟨by rfl, ?_⟩) (by assumption) ?_
  rotate_left 1
  · intro w hSw
    have hc : World.cell? _ ⟨p, 7, none⟩ = some (.int .i64 M.fuse) := hSw.d.has.at_ 7
    go_simp
    with_reducible rfl
  simp only [Act.put, List.setIfInBounds_toArray, List.set_cons_zero, List.set_cons_succ]
  refine wpAnyH_ready (rs := [3]) (by kernel_rfl) (by simp) ?_
  refine AllReadyH.cons (by simp only [List.getElem?_toArray, List.getElem?_cons_zero, List.getElem?_cons_succ]; rfl) (fun K hK => ?_) AllReadyH.nil
  go_simp
  refine (tcopy_any P0.out.d.tr1).mono ?_
  rintro e1 w1 ⟨a1, rfl, hm1, hl1, hb1⟩
  have hz1 := P0.out.on hb1
  refine hK.out _ _ hz1 (fun hS => ?_)
  clear hK K hS
  refine wpAnyH_ready (rs := [7]) (by kernel_rfl) (by simp) ?_
  refine AllReadyH.cons (by simp only [List.getElem?_toArray, List.getElem?_cons_zero, List.getElem?_cons_succ]; rfl) (fun K hK => ?_) AllReadyH.nil
  go_simp
  refine (tcopy_any hz1.d.tr2).mono ?_
  rintro e2 w2 ⟨a2, rfl, hm2, hl2, hb2⟩
  have hz2 := hz1.on hb2
  refine hK.out _ _ hz2 (fun hS => ?_)
  clear hK K hS
  refine wpAnyH_ready (rs := [12]) (by kernel_rfl) (by simp) ?_
  refine AllReadyH.cons (by simp only [List.getElem?_toArray, List.getElem?_cons_zero, List.getElem?_cons_succ]; rfl) (fun K hK => ?_) AllReadyH.nil
  go_simp
  refine (slCloneE_any sv vs _ hz2.d.row HVL.out HV1.out).mono ?_
  rintro e3 w3 ⟨v3, rfl, hr3, ho3, hb3⟩
  obtain ⟨A3, c3, rfl⟩ := row_form hr3
  have hz3 := hz2.on hb3
  refine hK.out _ _ hz3 (fun hS => ?_)
  clear hK K hS
  have M1 : Hid (MapT w3 a1 M.now) := (hm1.kept (hb2.block a1 hm1.inside)).kept (hb3.block a1 (Nat.lt_of_lt_of_le hm1.inside hb2.size))
  have M2 : Hid (MapT w3 a2 M.last) := hm2.kept (hb3.block a2 hm2.inside)
  have I1 := hid hm1.inside
  have L1 : Hid (w.heap.size ≤ a1) := hl1
  have L2 := hid hl2
  have L3 := hid ho3
  have R3 := hid hr3
  have P3 := hid hz3
  have SZ : Hid (w.heap.size ≤ w1.heap.size ∧ w1.heap.size ≤ w2.heap.size ∧ w2.heap.size ≤ w3.heap.size) := ⟨hz1.bl.size, hb2.size, hb3.size⟩
  obtain ⟨n3, HN3⟩ : ∃ n, Hid (vs.length = n) := ⟨_, rfl⟩
  rw [HN3.out]
  clear hm1 hm2 hl1 hl2 hb1 hb2 hb3 ho3 hr3 hz1 hz2 hz3
  refine wpAnyH_take (i := 17) (v := ?_) (by simp only [List.getElem?_toArray, List.getElem?_cons_zero, List.getElem?_cons_succ]; rfl) (by kernel_rfl) (by kernel_rfl) (by kernel_rfl) (fun _ _ _ h => h) (Or.inl ⟨by rfl, ?_⟩) (by assumption) ?_
  rotate_left 1
  · intro w hSw
    go_simp
    with_reducible rfl
  simp only [Act.put, List.setIfInBounds_toArray, List.set_cons_zero, List.set_cons_succ]
  refine wpAnyH_ready (rs := [18]) (by kernel_rfl) (by simp) ?_
  refine AllReadyH.cons (by simp only [List.getElem?_toArray, List.getElem?_cons_zero, List.getElem?_cons_succ]; rfl) (fun K hK => ?_) AllReadyH.nil
  go_simp
  refine hK.out _ _ (P3.out.on ((Below.refl _ _).alloc (Nat.le_refl _) _)) (fun hS18 => ?_)
  clear hK K
  refine wpAnyH_take (i := 19) (v := ?_) (by simp only [List.getElem?_toArray, List.getElem?_cons_zero, List.getElem?_cons_succ]; rfl) (by kernel_rfl) (by kernel_rfl) (by kernel_rfl) (fun _ _ _ h => h) (Or.inl ⟨by rfl, ?_⟩) (by assumption) ?_
  rotate_left 1
  · intro w hSw
    go_simp
    with_reducible rfl
  simp only [Act.put, List.setIfInBounds_toArray, List.set_cons_zero, List.set_cons_succ]
  refine wpAnyH_done (by kernel_rfl) ?_ _
  refine NoPanic.normal ?_
  have hn : a1 ≠ a2 := by have h1 := I1.out; have h2 := L2.out; omega
  have hk : Has (w3.alloc (.cells (cellsD a1 a2 (.slice A3 n3 c3) M) 62)) w3.heap.size 62 (cellsD a1 a2 (.slice A3 n3 c3) M) := Has.fresh _ _ _
  have hb4 : Below w3.heap.size w3 (w3.alloc (.cells (cellsD a1 a2 (.slice A3 n3 c3) M) 62)) := (Below.refl _ _).alloc (Nat.le_refl _) _
  have k1 := M1.out.kept (hb4.block a1 M1.out.inside)
  have k2 := M2.out.kept (hb4.block a2 M2.out.inside)
  have hr := R3.out
  rw [HN3.out] at hr
  have hr4 : (w3.alloc (.cells (cellsD a1 a2 (.slice A3 n3 c3) M) 62)).ownsRow 0 97 1 (.slice A3 n3 c3) n3 vs := row_of hr (fun b hb => by
    obtain ⟨cur, hc⟩ := row_kind hr hb
    exact hb4.block b (Array.getElem?_eq_some_iff.1 hc).1)
  have hsz := SZ.out
  have F : Hid (CopyP M w (.returned (.pointer (some ⟨w3.heap.size, 0, none⟩))) (w3.alloc (.cells (cellsD a1 a2 (.slice A3 n3 c3) M) 62))) := by
    refine ⟨fun g => g = w3.heap.size ∨ g = a1 ∨ g = a2 ∨ (Value.slice A3 n3 c3).ownBlock = some g, w3.heap.size, rfl, ⟨a1, a2, .slice A3 n3 c3, vs, ?_⟩, ?_, P3.out.bl.alloc P3.out.bl.size _⟩
    · refine ⟨?_, ?_, hk, .inl rfl, .inr (.inl rfl), .inr (.inr (.inl rfl)), k1, k2, hn, by rw [HN3.out]; exact hr4, fun b hb => .inr (.inr (.inr hb)), (P3.out.d.on hb4).effs, P3.out.d.good, P3.out.d.r0, P3.out.d.r1, P3.out.d.len⟩
      · rintro g (e | e | e | e)
        · rw [e]; exact hk.inside
        · rw [e]; exact k1.inside
        · rw [e]; exact k2.inside
        · obtain ⟨cur, hc⟩ := row_kind hr4 e
          exact (Array.getElem?_eq_some_iff.1 hc).1
      · rintro g (e | e | e | e)
        · rw [e]; exact hk.loose (by decide)
        · rw [e]; exact k1.loose
        · rw [e]; exact k2.loose
        · obtain ⟨cur, hc⟩ := row_kind hr4 e
          exact Has.loose (show Has _ g 97 cur from hc) (by decide)
    · rintro g (e | e | e | e)
      · rw [e]; omega
      · rw [e]; exact L1.out
      · rw [e]; have := L2.out; omega
      · have := L3.out g (by rw [HN3.out]; exact e); omega
  clear hn hk hb4 k1 k2 hr hr4 hsz
  go_wp2
  go_ret
  exact F.out
end Go.Proofs.YtlbeemlnbpchgaaGreat
