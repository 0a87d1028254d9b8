/- caravanlaw04.step: one ask of both tapes. Conditions: two tapes of the same state, in blocks of their own. -/
import Derived.Test.YtdmdddmfiankhaaBZ
import Derived.Test.YtdmdddmfiankhaaBP
namespace Go.Proofs.Ytdmdddmfiankhaa
open Go.RowKit
abbrev ask (x0 x1 : Int) (x2 : Nat) : Array Value := #[.int .i64 x0, .int .i64 x1, .int .u64 (x2 : Int)]
/-- Both tapes, of one state, and how far the world has gone. -/
structure Both (w0 w : World) (gt gq : Nat) (s : St) : Prop where
  t : Tp w gt s
  q : Tq w gq s
  far : ∀ B, B ≤ gt → B ≤ gq → B ≤ w0.heap.size → Below B w0 w
theorem Tp.drew2 {w : World} {g : Nat} {s : St} (h : Tp w g s) : Tp w.drew g s := by
  obtain ⟨A, cap, bb, off, h1, h2, h3⟩ := h
  exact ⟨A, cap, bb, off, h1.drawn 1, h2.drew, h3⟩
theorem Tq.drew {w : World} {g : Nat} {s : St} (h : Tq w g s) : Tq w.drew g s := by
  obtain ⟨A, cap, bb, off, h1, h2, h3⟩ := h
  exact ⟨A, cap, bb, off, h1.drawn 1, h2.drew, h3⟩
theorem load_ask_at {w : World} {bb o : Nat} {x : Int × Int × Nat} (h : AskAt w bb o x) : (loadVar 57 ⟨bb, o, none⟩).run Try.prog w = .ok (.agg (ask x.1 x.2.1 x.2.2)) w := by
  refine run_loadVar_mid (P := Try.prog) w bb o 57 [.int .i64 x.1, .int .i64 x.2.1, .int .u64 (x.2.2 : Int)] _ ?_ Try.underlying57 rfl (by kernel_rfl)
  intro v j hj
  match v, hj with
  | 0, hj => simp at hj; subst hj; exact h.1
  | 1, hj => simp at hj; subst hj; exact h.2.1
  | 2, hj => simp at hj; subst hj; exact h.2.2.1
/-- The tape has turned; the document's one is still to come. -/
theorem Both.first {w0 w w' : World} {gt gq : Nat} {s s' : St} (h : Both w0 w gt gq s) (hne : gt ≠ gq) (ht : Tp w' gt s') (hg : Grw gt w w') : Tp w' gt s' ∧ Tq w' gq s ∧ ∀ B, B ≤ gt → B ≤ gq → B ≤ w0.heap.size → Below B w0 w' :=
  ⟨ht, h.q.aside h.t (Ne.symm hne) hg, fun B h1 h2 h3 => Grw.below (h.far B h1 h2 h3) hg h1 (Nat.le_trans h3 (h.far B h1 h2 h3).size)⟩
theorem Both.second {w0 w w' : World} {gt gq : Nat} {s s' : St} (h : Tp w gt s' ∧ Tq w gq s ∧ ∀ B, B ≤ gt → B ≤ gq → B ≤ w0.heap.size → Below B w0 w) (hne : gt ≠ gq) (hq : Tq w' gq s') (hg : Grw gq w w') : Both w0 w' gt gq s' :=
  ⟨h.1.aside h.2.1 hne hg, hq, fun B h1 h2 h3 => Grw.below (h.2.2 B h1 h2 h3) hg h2 (Nat.le_trans h3 (h.2.2 B h1 h2 h3).size)⟩
theorem Both.start {w w1 : World} {gt gq : Nat} {s : St} (ht : Tp w gt s) (hq : Tq w gq s) (hb : Below w.heap.size w w1) : Both w w1 gt gq s :=
  ⟨ht.kept hb, hq.kept hb, fun _ _ _ h3 => hb.mono h3⟩
theorem Both.drew {w0 w : World} {gt gq : Nat} {s : St} (h : Both w0 w gt gq s) : Both w0 w.drew gt gq s := ⟨h.t.drew2, h.q.drew, fun B h1 h2 h3 => (h.far B h1 h2 h3).drew⟩
set_option maxRecDepth 100000 in
set_option maxHeartbeats 1000000 in
theorem step_num (gt gq : Nat) (hne : gt ≠ gq) (s : St) (x0 x1 : Int) (x2 : Nat) (hr : x0.tmod 6 = 0) (w : World) (ht : Tp w gt s) (hq : Tq w gq s) :
    Calls Try.prog 29 #[.pointer (some ⟨gt, 0, none⟩), .pointer (some ⟨gq, 0, none⟩), .agg (ask x0 x1 x2)] w fun e w' => e = .returned (.bool true) ∧ ∃ s', Both w w' gt gq s' := by
  obtain ⟨u, s', HU⟩ : ∃ u s', Hid (numS s x1 = (u, s')) := ⟨_, _, rfl⟩
  have CT : Hid (∀ w1, Tp w1 gt s → Calls Try.prog 23 #[.pointer (some ⟨gt, 0, none⟩), .int .i64 x1] w1 fun e w' => e = .returned (.int .u64 (u : Nat)) ∧ Tp w' gt s' ∧ Grw gt w1 w') := fun w1 h => by
    have := num_any gt s x1 w1 h; rw [HU.out] at this; exact this
  have CQ : Hid (∀ w1, Tq w1 gq s → Calls Try.prog 50 #[.pointer (some ⟨gq, 0, none⟩), .int .i64 x1] w1 fun e w' => e = .returned (.int .u64 (u : Nat)) ∧ Tq w' gq s' ∧ Grw gq w1 w') := fun w1 h => by
    have := qNum_any gq s x1 w1 h; rw [HU.out] at this; exact this
  have HH : Hid (Has (w.alloc (.cells (ask x0 x1 x2) 57)) w.heap.size 57 (ask x0 x1 x2)) := Has.fresh w 57 _
  have HB : Hid (Both w (w.alloc (.cells (ask x0 x1 x2) 57)) gt gq s) := Both.start ht hq ((Below.refl _ _).alloc (Nat.le_refl _) _)
  have NT : Hid (w.heap.size ≠ gt) := Nat.ne_of_gt ht.inside
  have NQ : Hid (w.heap.size ≠ gq) := Nat.ne_of_gt hq.inside
  have HNE := hid hne
  generalize hW : w.alloc (.cells (ask x0 x1 x2) 57) = w1 at HH HB
  have c0 : w1.cell? ⟨w.heap.size, 0, none⟩ = some (.int .i64 x0) := HH.out.at_ 0
  clear ht hq hne
  go_enter Try.func29, Try.ntmps29
  go_wp2
  refine wp_region_noPanic ?_
  refine wp_region_held_drew (S := fun W => Has W w.heap.size 57 (ask x0 x1 x2)) (by kernel_rfl) (HH.out.drawn 1) (fun hS => ?_)
  have BD := hid HB.out.drew
  refine wpAnyH_take (i := 0) (v := ?_) (by simp only [List.getElem?_toArray, List.getElem?_cons_zero]; rfl) (by kernel_rfl) (by kernel_rfl) (by kernel_rfl) (fun _ _ _ h => h) (Or.inl ⟨by rfl, ?_⟩) (by assumption) ?_
  rotate_left 1
  · intro w hSw
    go_simp
    with_reducible rfl
  simp only [Act.put, List.setIfInBounds_toArray, List.set_cons_zero, List.set_cons_succ]
  refine wpAnyH_take (i := 1) (v := ?_) (by simp only [List.getElem?_toArray, List.getElem?_cons_zero, List.getElem?_cons_succ]; rfl) (by kernel_rfl) (by kernel_rfl) (by kernel_rfl) (fun _ _ _ h => h) (Or.inl ⟨by rfl, ?_⟩) (by assumption) ?_
  rotate_left 1
  · intro w hSw
    go_simp
    with_reducible rfl
  simp only [Act.put, List.setIfInBounds_toArray, List.set_cons_zero, List.set_cons_succ]
  refine wpAnyH_take (i := 2) (v := ?_) (by simp only [List.getElem?_toArray, List.getElem?_cons_zero, List.getElem?_cons_succ]; rfl) (by kernel_rfl) (by kernel_rfl) (by kernel_rfl) (fun _ _ _ h => h) (Or.inl ⟨by rfl, ?_⟩) (by assumption) ?_
  rotate_left 1
  · intro W9 hSw
    have cc : W9.cell? ⟨w.heap.size, 1, none⟩ = some (.int .i64 x1) := hSw.at_ 1
    go_simp
    with_reducible rfl
  simp only [Act.put, List.setIfInBounds_toArray, List.set_cons_zero, List.set_cons_succ]
  refine wpAnyH_take (i := 4) (v := ?_) (by simp only [List.getElem?_toArray, List.getElem?_cons_zero, List.getElem?_cons_succ]; rfl) (by kernel_rfl) (by kernel_rfl) (by kernel_rfl) (fun _ _ _ h => h) (Or.inl ⟨by rfl, ?_⟩) (by assumption) ?_
  rotate_left 1
  · intro w hSw
    go_simp
    with_reducible rfl
  simp only [Act.put, List.setIfInBounds_toArray, List.set_cons_zero, List.set_cons_succ]
  refine wpAnyH_take (i := 5) (v := ?_) (by simp only [List.getElem?_toArray, List.getElem?_cons_zero, List.getElem?_cons_succ]; rfl) (by kernel_rfl) (by kernel_rfl) (by kernel_rfl) (fun _ _ _ h => h) (Or.inl ⟨by rfl, ?_⟩) (by assumption) ?_
  rotate_left 1
  · intro w hSw
    go_simp
    with_reducible rfl
  simp only [Act.put, List.setIfInBounds_toArray, List.set_cons_zero, List.set_cons_succ]
  refine wpAnyH_take (i := 6) (v := ?_) (by simp only [List.getElem?_toArray, List.getElem?_cons_zero, List.getElem?_cons_succ]; rfl) (by kernel_rfl) (by kernel_rfl) (by kernel_rfl) (fun _ _ _ h => h) (Or.inl ⟨by rfl, ?_⟩) (by assumption) ?_
  rotate_left 1
  · intro W9 hSw
    have cc : W9.cell? ⟨w.heap.size, 1, none⟩ = some (.int .i64 x1) := hSw.at_ 1
    go_simp
    with_reducible rfl
  simp only [Act.put, List.setIfInBounds_toArray, List.set_cons_zero, List.set_cons_succ]
  refine wpAnyH_ready (rs := [3]) (by kernel_rfl) (by simp) ?_
  refine AllReadyH.cons (by simp only [List.getElem?_toArray, List.getElem?_cons_zero, List.getElem?_cons_succ]; rfl) (fun K hK => ?_) (AllReadyH.nil)
  go_simp
  refine (CT.out _ BD.out.t).mono ?_
  rintro e1 y1 ⟨rfl, ht, hg⟩
  have B1 := hid (BD.out.first HNE.out ht hg)
  have hz1 := (HH.out.drawn 1).grw hg NT.out
  refine hK.out _ _ hz1 (fun hS => ?_)
  clear hK K hS
  refine wpAnyH_ready (rs := [7]) (by kernel_rfl) (by simp) ?_
  refine AllReadyH.cons (by simp only [List.getElem?_toArray, List.getElem?_cons_zero, List.getElem?_cons_succ]; rfl) (fun K hK => ?_) (AllReadyH.nil)
  go_simp
  refine (CQ.out _ B1.out.2.1).mono ?_
  rintro e2 y2 ⟨rfl, hq, hg2⟩
  have B2 := hid (Both.second B1.out HNE.out hq hg2)
  have hz2 := Has.grw hz1 hg2 NQ.out
  refine hK.out _ _ hz2 (fun hS => ?_)
  clear hK K hS
  refine wpAnyH_take (i := 8) (v := ?_) (by simp only [List.getElem?_toArray, List.getElem?_cons_zero, List.getElem?_cons_succ]; rfl) (by kernel_rfl) (by kernel_rfl) (by kernel_rfl) (fun _ _ _ h => h) (Or.inl ⟨by rfl, ?_⟩) (by assumption) ?_
  rotate_left 1
  · intro w hSw
    go_simp
    with_reducible rfl
  simp only [Act.put, List.setIfInBounds_toArray, List.set_cons_zero, List.set_cons_succ]
  refine wpAnyH_take (i := 9) (v := ?_) (by simp only [List.getElem?_toArray, List.getElem?_cons_zero, List.getElem?_cons_succ]; rfl) (by kernel_rfl) (by kernel_rfl) (by kernel_rfl) (fun _ _ _ h => h) (Or.inl ⟨by rfl, ?_⟩) (by assumption) ?_
  rotate_left 1
  · intro w hSw
    go_simp
    with_reducible rfl
  simp only [Act.put, List.setIfInBounds_toArray, List.set_cons_zero, List.set_cons_succ]
  refine wpAnyH_done (by kernel_rfl) ?_ _
  refine NoPanic.normal ?_
  go_wp2
  go_ret
  exact ⟨rfl, _, B2.out⟩
set_option maxRecDepth 100000 in
set_option maxHeartbeats 1000000 in
theorem step_below (gt gq : Nat) (hne : gt ≠ gq) (s : St) (x0 x1 : Int) (x2 : Nat) (hr : x0.tmod 6 = 1) (w : World) (ht : Tp w gt s) (hq : Tq w gq s) :
    Calls Try.prog 29 #[.pointer (some ⟨gt, 0, none⟩), .pointer (some ⟨gq, 0, none⟩), .agg (ask x0 x1 x2)] w fun e w' => e = .returned (.bool true) ∧ ∃ s', Both w w' gt gq s' := by
  obtain ⟨u, s', HU⟩ : ∃ u s', Hid (belowS s x1 x2 = (u, s')) := ⟨_, _, rfl⟩
  have CT : Hid (∀ w1, Tp w1 gt s → Calls Try.prog 36 #[.pointer (some ⟨gt, 0, none⟩), .int .i64 x1, .int .u64 (x2 : Int)] w1 fun e w' => e = .returned (.int .i64 (u : Nat)) ∧ Tp w' gt s' ∧ Grw gt w1 w') := fun w1 h => by
    have := below_any gt s x1 x2 w1 h; rw [HU.out] at this; exact this
  have CQ : Hid (∀ w1, Tq w1 gq s → Calls Try.prog 49 #[.pointer (some ⟨gq, 0, none⟩), .int .i64 x1, .int .u64 (x2 : Int)] w1 fun e w' => e = .returned (.int .i64 (u : Nat)) ∧ Tq w' gq s' ∧ Grw gq w1 w') := fun w1 h => by
    have := qBelow_any gq s x1 x2 w1 h; rw [HU.out] at this; exact this
  have HH : Hid (Has (w.alloc (.cells (ask x0 x1 x2) 57)) w.heap.size 57 (ask x0 x1 x2)) := Has.fresh w 57 _
  have HB : Hid (Both w (w.alloc (.cells (ask x0 x1 x2) 57)) gt gq s) := Both.start ht hq ((Below.refl _ _).alloc (Nat.le_refl _) _)
  have NT : Hid (w.heap.size ≠ gt) := Nat.ne_of_gt ht.inside
  have NQ : Hid (w.heap.size ≠ gq) := Nat.ne_of_gt hq.inside
  have HNE := hid hne
  generalize hW : w.alloc (.cells (ask x0 x1 x2) 57) = w1 at HH HB
  have c0 : w1.cell? ⟨w.heap.size, 0, none⟩ = some (.int .i64 x0) := HH.out.at_ 0
  clear ht hq hne
  go_enter Try.func29, Try.ntmps29
  go_wp2
  refine wp_region_noPanic ?_
  refine wp_region_held_drew (S := fun W => Has W w.heap.size 57 (ask x0 x1 x2)) (by kernel_rfl) (HH.out.drawn 1) (fun hS => ?_)
  have BD := hid HB.out.drew
  refine wpAnyH_take (i := 0) (v := ?_) (by simp only [List.getElem?_toArray, List.getElem?_cons_zero]; rfl) (by kernel_rfl) (by kernel_rfl) (by kernel_rfl) (fun _ _ _ h => h) (Or.inl ⟨by rfl, ?_⟩) (by assumption) ?_
  rotate_left 1
  · intro w hSw
    go_simp
    with_reducible rfl
  simp only [Act.put, List.setIfInBounds_toArray, List.set_cons_zero, List.set_cons_succ]
  refine wpAnyH_take (i := 1) (v := ?_) (by simp only [List.getElem?_toArray, List.getElem?_cons_zero, List.getElem?_cons_succ]; rfl) (by kernel_rfl) (by kernel_rfl) (by kernel_rfl) (fun _ _ _ h => h) (Or.inl ⟨by rfl, ?_⟩) (by assumption) ?_
  rotate_left 1
  · intro w hSw
    go_simp
    with_reducible rfl
  simp only [Act.put, List.setIfInBounds_toArray, List.set_cons_zero, List.set_cons_succ]
  refine wpAnyH_take (i := 2) (v := ?_) (by simp only [List.getElem?_toArray, List.getElem?_cons_zero, List.getElem?_cons_succ]; rfl) (by kernel_rfl) (by kernel_rfl) (by kernel_rfl) (fun _ _ _ h => h) (Or.inl ⟨by rfl, ?_⟩) (by assumption) ?_
  rotate_left 1
  · intro W9 hSw
    have cc : W9.cell? ⟨w.heap.size, 1, none⟩ = some (.int .i64 x1) := hSw.at_ 1
    go_simp
    with_reducible rfl
  simp only [Act.put, List.setIfInBounds_toArray, List.set_cons_zero, List.set_cons_succ]
  refine wpAnyH_take (i := 3) (v := ?_) (by simp only [List.getElem?_toArray, List.getElem?_cons_zero, List.getElem?_cons_succ]; rfl) (by kernel_rfl) (by kernel_rfl) (by kernel_rfl) (fun _ _ _ h => h) (Or.inl ⟨by rfl, ?_⟩) (by assumption) ?_
  rotate_left 1
  · intro w hSw
    go_simp
    with_reducible rfl
  simp only [Act.put, List.setIfInBounds_toArray, List.set_cons_zero, List.set_cons_succ]
  refine wpAnyH_take (i := 4) (v := ?_) (by simp only [List.getElem?_toArray, List.getElem?_cons_zero, List.getElem?_cons_succ]; rfl) (by kernel_rfl) (by kernel_rfl) (by kernel_rfl) (fun _ _ _ h => h) (Or.inl ⟨by rfl, ?_⟩) (by assumption) ?_
  rotate_left 1
  · intro W9 hSw
    have cc : W9.cell? ⟨w.heap.size, 2, none⟩ = some (.int .u64 (x2 : Int)) := hSw.at_ 2
    go_simp
    with_reducible rfl
  simp only [Act.put, List.setIfInBounds_toArray, List.set_cons_zero, List.set_cons_succ]
  refine wpAnyH_take (i := 6) (v := ?_) (by simp only [List.getElem?_toArray, List.getElem?_cons_zero, List.getElem?_cons_succ]; rfl) (by kernel_rfl) (by kernel_rfl) (by kernel_rfl) (fun _ _ _ h => h) (Or.inl ⟨by rfl, ?_⟩) (by assumption) ?_
  rotate_left 1
  · intro w hSw
    go_simp
    with_reducible rfl
  simp only [Act.put, List.setIfInBounds_toArray, List.set_cons_zero, List.set_cons_succ]
  refine wpAnyH_take (i := 7) (v := ?_) (by simp only [List.getElem?_toArray, List.getElem?_cons_zero, List.getElem?_cons_succ]; rfl) (by kernel_rfl) (by kernel_rfl) (by kernel_rfl) (fun _ _ _ h => h) (Or.inl ⟨by rfl, ?_⟩) (by assumption) ?_
  rotate_left 1
  · intro w hSw
    go_simp
    with_reducible rfl
  simp only [Act.put, List.setIfInBounds_toArray, List.set_cons_zero, List.set_cons_succ]
  refine wpAnyH_take (i := 8) (v := ?_) (by simp only [List.getElem?_toArray, List.getElem?_cons_zero, List.getElem?_cons_succ]; rfl) (by kernel_rfl) (by kernel_rfl) (by kernel_rfl) (fun _ _ _ h => h) (Or.inl ⟨by rfl, ?_⟩) (by assumption) ?_
  rotate_left 1
  · intro W9 hSw
    have cc : W9.cell? ⟨w.heap.size, 1, none⟩ = some (.int .i64 x1) := hSw.at_ 1
    go_simp
    with_reducible rfl
  simp only [Act.put, List.setIfInBounds_toArray, List.set_cons_zero, List.set_cons_succ]
  refine wpAnyH_take (i := 9) (v := ?_) (by simp only [List.getElem?_toArray, List.getElem?_cons_zero, List.getElem?_cons_succ]; rfl) (by kernel_rfl) (by kernel_rfl) (by kernel_rfl) (fun _ _ _ h => h) (Or.inl ⟨by rfl, ?_⟩) (by assumption) ?_
  rotate_left 1
  · intro w hSw
    go_simp
    with_reducible rfl
  simp only [Act.put, List.setIfInBounds_toArray, List.set_cons_zero, List.set_cons_succ]
  refine wpAnyH_take (i := 10) (v := ?_) (by simp only [List.getElem?_toArray, List.getElem?_cons_zero, List.getElem?_cons_succ]; rfl) (by kernel_rfl) (by kernel_rfl) (by kernel_rfl) (fun _ _ _ h => h) (Or.inl ⟨by rfl, ?_⟩) (by assumption) ?_
  rotate_left 1
  · intro W9 hSw
    have cc : W9.cell? ⟨w.heap.size, 2, none⟩ = some (.int .u64 (x2 : Int)) := hSw.at_ 2
    go_simp
    with_reducible rfl
  simp only [Act.put, List.setIfInBounds_toArray, List.set_cons_zero, List.set_cons_succ]
  refine wpAnyH_ready (rs := [5]) (by kernel_rfl) (by simp) ?_
  refine AllReadyH.cons (by simp only [List.getElem?_toArray, List.getElem?_cons_zero, List.getElem?_cons_succ]; rfl) (fun K hK => ?_) (AllReadyH.nil)
  go_simp
  refine (CT.out _ BD.out.t).mono ?_
  rintro e1 y1 ⟨rfl, ht, hg⟩
  have B1 := hid (BD.out.first HNE.out ht hg)
  have hz1 := (HH.out.drawn 1).grw hg NT.out
  refine hK.out _ _ hz1 (fun hS => ?_)
  clear hK K hS
  refine wpAnyH_ready (rs := [11]) (by kernel_rfl) (by simp) ?_
  refine AllReadyH.cons (by simp only [List.getElem?_toArray, List.getElem?_cons_zero, List.getElem?_cons_succ]; rfl) (fun K hK => ?_) (AllReadyH.nil)
  go_simp
  refine (CQ.out _ B1.out.2.1).mono ?_
  rintro e2 y2 ⟨rfl, hq, hg2⟩
  have B2 := hid (Both.second B1.out HNE.out hq hg2)
  have hz2 := Has.grw hz1 hg2 NQ.out
  refine hK.out _ _ hz2 (fun hS => ?_)
  clear hK K hS
  refine wpAnyH_take (i := 12) (v := ?_) (by simp only [List.getElem?_toArray, List.getElem?_cons_zero, List.getElem?_cons_succ]; rfl) (by kernel_rfl) (by kernel_rfl) (by kernel_rfl) (fun _ _ _ h => h) (Or.inl ⟨by rfl, ?_⟩) (by assumption) ?_
  rotate_left 1
  · intro w hSw
    go_simp
    with_reducible rfl
  simp only [Act.put, List.setIfInBounds_toArray, List.set_cons_zero, List.set_cons_succ]
  refine wpAnyH_take (i := 13) (v := ?_) (by simp only [List.getElem?_toArray, List.getElem?_cons_zero, List.getElem?_cons_succ]; rfl) (by kernel_rfl) (by kernel_rfl) (by kernel_rfl) (fun _ _ _ h => h) (Or.inl ⟨by rfl, ?_⟩) (by assumption) ?_
  rotate_left 1
  · intro w hSw
    go_simp
    with_reducible rfl
  simp only [Act.put, List.setIfInBounds_toArray, List.set_cons_zero, List.set_cons_succ]
  refine wpAnyH_done (by kernel_rfl) ?_ _
  refine NoPanic.normal ?_
  go_wp2
  go_ret
  exact ⟨rfl, _, B2.out⟩
set_option maxRecDepth 100000 in
set_option maxHeartbeats 1000000 in
theorem step_text (gt gq : Nat) (hne : gt ≠ gq) (s : St) (x0 x1 : Int) (x2 : Nat) (him : I64 x1) (hr : x0.tmod 6 = 2) (w : World) (ht : Tp w gt s) (hq : Tq w gq s) :
    Calls Try.prog 29 #[.pointer (some ⟨gt, 0, none⟩), .pointer (some ⟨gq, 0, none⟩), .agg (ask x0 x1 x2)] w fun e w' => e = .returned (.bool true) ∧ ∃ s', Both w w' gt gq s' := by
  obtain ⟨u, s', HU⟩ : ∃ u s', Hid (textS s x1 = (u, s')) := ⟨_, _, rfl⟩
  have CT : Hid (∀ w1, Tp w1 gt s → Calls Try.prog 34 #[.pointer (some ⟨gt, 0, none⟩), .int .i64 x1] w1 fun e w' => e = .returned (.string (ba u)) ∧ Tp w' gt s' ∧ Grw gt w1 w') := fun w1 h => by
    have := text_any gt s x1 w1 h; rw [HU.out] at this; exact this
  have CQ : Hid (∀ w1, Tq w1 gq s → Calls Try.prog 51 #[.pointer (some ⟨gq, 0, none⟩), .int .i64 x1] w1 fun e w' => e = .returned (.string (ba u)) ∧ Tq w' gq s' ∧ Grw gq w1 w') := fun w1 h => by
    have := qText_any gq s x1 him w1 h; rw [HU.out] at this; exact this
  clear him
  have HH : Hid (Has (w.alloc (.cells (ask x0 x1 x2) 57)) w.heap.size 57 (ask x0 x1 x2)) := Has.fresh w 57 _
  have HB : Hid (Both w (w.alloc (.cells (ask x0 x1 x2) 57)) gt gq s) := Both.start ht hq ((Below.refl _ _).alloc (Nat.le_refl _) _)
  have NT : Hid (w.heap.size ≠ gt) := Nat.ne_of_gt ht.inside
  have NQ : Hid (w.heap.size ≠ gq) := Nat.ne_of_gt hq.inside
  have HNE := hid hne
  generalize hW : w.alloc (.cells (ask x0 x1 x2) 57) = w1 at HH HB
  have c0 : w1.cell? ⟨w.heap.size, 0, none⟩ = some (.int .i64 x0) := HH.out.at_ 0
  clear ht hq hne
  go_enter Try.func29, Try.ntmps29
  go_wp2
  refine wp_region_noPanic ?_
  refine wp_region_held_drew (S := fun W => Has W w.heap.size 57 (ask x0 x1 x2)) (by kernel_rfl) (HH.out.drawn 1) (fun hS => ?_)
  have BD := hid HB.out.drew
  refine wpAnyH_take (i := 0) (v := ?_) (by simp only [List.getElem?_toArray, List.getElem?_cons_zero]; rfl) (by kernel_rfl) (by kernel_rfl) (by kernel_rfl) (fun _ _ _ h => h) (Or.inl ⟨by rfl, ?_⟩) (by assumption) ?_
  rotate_left 1
  · intro w hSw
    go_simp
    with_reducible rfl
  simp only [Act.put, List.setIfInBounds_toArray, List.set_cons_zero, List.set_cons_succ]
  refine wpAnyH_take (i := 1) (v := ?_) (by simp only [List.getElem?_toArray, List.getElem?_cons_zero, List.getElem?_cons_succ]; rfl) (by kernel_rfl) (by kernel_rfl) (by kernel_rfl) (fun _ _ _ h => h) (Or.inl ⟨by rfl, ?_⟩) (by assumption) ?_
  rotate_left 1
  · intro w hSw
    go_simp
    with_reducible rfl
  simp only [Act.put, List.setIfInBounds_toArray, List.set_cons_zero, List.set_cons_succ]
  refine wpAnyH_take (i := 2) (v := ?_) (by simp only [List.getElem?_toArray, List.getElem?_cons_zero, List.getElem?_cons_succ]; rfl) (by kernel_rfl) (by kernel_rfl) (by kernel_rfl) (fun _ _ _ h => h) (Or.inl ⟨by rfl, ?_⟩) (by assumption) ?_
  rotate_left 1
  · intro W9 hSw
    have cc : W9.cell? ⟨w.heap.size, 1, none⟩ = some (.int .i64 x1) := hSw.at_ 1
    go_simp
    with_reducible rfl
  simp only [Act.put, List.setIfInBounds_toArray, List.set_cons_zero, List.set_cons_succ]
  refine wpAnyH_take (i := 4) (v := ?_) (by simp only [List.getElem?_toArray, List.getElem?_cons_zero, List.getElem?_cons_succ]; rfl) (by kernel_rfl) (by kernel_rfl) (by kernel_rfl) (fun _ _ _ h => h) (Or.inl ⟨by rfl, ?_⟩) (by assumption) ?_
  rotate_left 1
  · intro w hSw
    go_simp
    with_reducible rfl
  simp only [Act.put, List.setIfInBounds_toArray, List.set_cons_zero, List.set_cons_succ]
  refine wpAnyH_take (i := 5) (v := ?_) (by simp only [List.getElem?_toArray, List.getElem?_cons_zero, List.getElem?_cons_succ]; rfl) (by kernel_rfl) (by kernel_rfl) (by kernel_rfl) (fun _ _ _ h => h) (Or.inl ⟨by rfl, ?_⟩) (by assumption) ?_
  rotate_left 1
  · intro w hSw
    go_simp
    with_reducible rfl
  simp only [Act.put, List.setIfInBounds_toArray, List.set_cons_zero, List.set_cons_succ]
  refine wpAnyH_take (i := 6) (v := ?_) (by simp only [List.getElem?_toArray, List.getElem?_cons_zero, List.getElem?_cons_succ]; rfl) (by kernel_rfl) (by kernel_rfl) (by kernel_rfl) (fun _ _ _ h => h) (Or.inl ⟨by rfl, ?_⟩) (by assumption) ?_
  rotate_left 1
  · intro W9 hSw
    have cc : W9.cell? ⟨w.heap.size, 1, none⟩ = some (.int .i64 x1) := hSw.at_ 1
    go_simp
    with_reducible rfl
  simp only [Act.put, List.setIfInBounds_toArray, List.set_cons_zero, List.set_cons_succ]
  refine wpAnyH_ready (rs := [3]) (by kernel_rfl) (by simp) ?_
  refine AllReadyH.cons (by simp only [List.getElem?_toArray, List.getElem?_cons_zero, List.getElem?_cons_succ]; rfl) (fun K hK => ?_) (AllReadyH.nil)
  go_simp
  refine (CT.out _ BD.out.t).mono ?_
  rintro e1 y1 ⟨rfl, ht, hg⟩
  have B1 := hid (BD.out.first HNE.out ht hg)
  have hz1 := (HH.out.drawn 1).grw hg NT.out
  refine hK.out _ _ hz1 (fun hS => ?_)
  clear hK K hS
  refine wpAnyH_ready (rs := [7]) (by kernel_rfl) (by simp) ?_
  refine AllReadyH.cons (by simp only [List.getElem?_toArray, List.getElem?_cons_zero, List.getElem?_cons_succ]; rfl) (fun K hK => ?_) (AllReadyH.nil)
  go_simp
  refine (CQ.out _ B1.out.2.1).mono ?_
  rintro e2 y2 ⟨rfl, hq, hg2⟩
  have B2 := hid (Both.second B1.out HNE.out hq hg2)
  have hz2 := Has.grw hz1 hg2 NQ.out
  refine hK.out _ _ hz2 (fun hS => ?_)
  clear hK K hS
  refine wpAnyH_take (i := 8) (v := ?_) (by simp only [List.getElem?_toArray, List.getElem?_cons_zero, List.getElem?_cons_succ]; rfl) (by kernel_rfl) (by kernel_rfl) (by kernel_rfl) (fun _ _ _ h => h) (Or.inl ⟨by rfl, ?_⟩) (by assumption) ?_
  rotate_left 1
  · intro w hSw
    go_simp
    with_reducible rfl
  simp only [Act.put, List.setIfInBounds_toArray, List.set_cons_zero, List.set_cons_succ]
  refine wpAnyH_take (i := 9) (v := ?_) (by simp only [List.getElem?_toArray, List.getElem?_cons_zero, List.getElem?_cons_succ]; rfl) (by kernel_rfl) (by kernel_rfl) (by kernel_rfl) (fun _ _ _ h => h) (Or.inl ⟨by rfl, ?_⟩) (by assumption) ?_
  rotate_left 1
  · intro w hSw
    go_simp
    with_reducible rfl
  simp only [Act.put, List.setIfInBounds_toArray, List.set_cons_zero, List.set_cons_succ]
  refine wpAnyH_done (by kernel_rfl) ?_ _
  refine NoPanic.normal ?_
  go_wp2
  go_ret
  exact ⟨rfl, _, B2.out⟩
set_option maxRecDepth 100000 in
set_option maxHeartbeats 1000000 in
theorem step_bytes (gt gq : Nat) (hne : gt ≠ gq) (s : St) (x0 x1 : Int) (x2 : Nat) (hr : x0.tmod 6 = 3) (w : World) (ht : Tp w gt s) (hq : Tq w gq s) :
    Calls Try.prog 29 #[.pointer (some ⟨gt, 0, none⟩), .pointer (some ⟨gq, 0, none⟩), .agg (ask x0 x1 x2)] w fun e w' => e = .returned (.bool true) ∧ ∃ s', Both w w' gt gq s' := by
  obtain ⟨u, s', HU⟩ : ∃ u s', Hid (bytesS s x1 = (u, s')) := ⟨_, _, rfl⟩
  have CT : Hid (∀ w1, Tp w1 gt s → Calls Try.prog 32 #[.pointer (some ⟨gt, 0, none⟩), .int .i64 x1] w1 fun e w' => ∃ v, e = .returned v ∧ Tp w' gt s' ∧ Grw gt w1 w' ∧ ∃ A cap bb, Bytes w' v u A cap bb 0 ∧ Apart w1.heap.size bb) := fun w1 h => by
    refine (bytes_any gt s x1 w1 h).mono ?_
    rintro e w' ⟨v, A, c, bb, rfl, hy, ha, h1, h2⟩
    rw [HU.out] at hy h1
    exact ⟨v, rfl, h1, h2, A, c, bb, hy, ha⟩
  have CQ : Hid (∀ w1, Tq w1 gq s → Calls Try.prog 52 #[.pointer (some ⟨gq, 0, none⟩), .int .i64 x1] w1 fun e w' => ∃ v, e = .returned v ∧ Tq w' gq s' ∧ Grw gq w1 w' ∧ ∃ A cap bb, Bytes w' v u A cap bb 0) := fun w1 h => by
    refine (qBytes_any gq s x1 w1 h).mono ?_
    rintro e w' ⟨v, A, c, bb, rfl, hy, ha, h1, h2⟩
    rw [HU.out] at hy h1
    exact ⟨v, rfl, h1, h2, A, c, bb, hy⟩
  have HQ0 : Hid (0 < gq ∧ gq < w.heap.size) := ⟨by obtain ⟨_, _, _, _, _, _, _, _, h5⟩ := hq; exact h5, hq.inside⟩
  have HH : Hid (Has (w.alloc (.cells (ask x0 x1 x2) 57)) w.heap.size 57 (ask x0 x1 x2)) := Has.fresh w 57 _
  have HB : Hid (Both w (w.alloc (.cells (ask x0 x1 x2) 57)) gt gq s) := Both.start ht hq ((Below.refl _ _).alloc (Nat.le_refl _) _)
  have NT : Hid (w.heap.size ≠ gt) := Nat.ne_of_gt ht.inside
  have NQ : Hid (w.heap.size ≠ gq) := Nat.ne_of_gt hq.inside
  have HNE := hid hne
  generalize hW : w.alloc (.cells (ask x0 x1 x2) 57) = w1 at HH HB
  have c0 : w1.cell? ⟨w.heap.size, 0, none⟩ = some (.int .i64 x0) := HH.out.at_ 0
  clear ht hq hne
  go_enter Try.func29, Try.ntmps29
  go_wp2
  refine wp_region_noPanic ?_
  refine wp_region_held_drew (S := fun W => Has W w.heap.size 57 (ask x0 x1 x2)) (by kernel_rfl) (HH.out.drawn 1) (fun hS => ?_)
  have BD := hid HB.out.drew
  refine wpAnyH_take (i := 0) (v := ?_) (by simp only [List.getElem?_toArray, List.getElem?_cons_zero]; rfl) (by kernel_rfl) (by kernel_rfl) (by kernel_rfl) (fun _ _ _ h => h) (Or.inl ⟨by rfl, ?_⟩) (by assumption) ?_
  rotate_left 1
  · intro w hSw
    go_simp
    with_reducible rfl
  simp only [Act.put, List.setIfInBounds_toArray, List.set_cons_zero, List.set_cons_succ]
  refine wpAnyH_take (i := 1) (v := ?_) (by simp only [List.getElem?_toArray, List.getElem?_cons_zero, List.getElem?_cons_succ]; rfl) (by kernel_rfl) (by kernel_rfl) (by kernel_rfl) (fun _ _ _ h => h) (Or.inl ⟨by rfl, ?_⟩) (by assumption) ?_
  rotate_left 1
  · intro w hSw
    go_simp
    with_reducible rfl
  simp only [Act.put, List.setIfInBounds_toArray, List.set_cons_zero, List.set_cons_succ]
  refine wpAnyH_take (i := 2) (v := ?_) (by simp only [List.getElem?_toArray, List.getElem?_cons_zero, List.getElem?_cons_succ]; rfl) (by kernel_rfl) (by kernel_rfl) (by kernel_rfl) (fun _ _ _ h => h) (Or.inl ⟨by rfl, ?_⟩) (by assumption) ?_
  rotate_left 1
  · intro W9 hSw
    have cc : W9.cell? ⟨w.heap.size, 1, none⟩ = some (.int .i64 x1) := hSw.at_ 1
    go_simp
    with_reducible rfl
  simp only [Act.put, List.setIfInBounds_toArray, List.set_cons_zero, List.set_cons_succ]
  refine wpAnyH_take (i := 4) (v := ?_) (by simp only [List.getElem?_toArray, List.getElem?_cons_zero, List.getElem?_cons_succ]; rfl) (by kernel_rfl) (by kernel_rfl) (by kernel_rfl) (fun _ _ _ h => h) (Or.inl ⟨by rfl, ?_⟩) (by assumption) ?_
  rotate_left 1
  · intro w hSw
    go_simp
    with_reducible rfl
  simp only [Act.put, List.setIfInBounds_toArray, List.set_cons_zero, List.set_cons_succ]
  refine wpAnyH_take (i := 5) (v := ?_) (by simp only [List.getElem?_toArray, List.getElem?_cons_zero, List.getElem?_cons_succ]; rfl) (by kernel_rfl) (by kernel_rfl) (by kernel_rfl) (fun _ _ _ h => h) (Or.inl ⟨by rfl, ?_⟩) (by assumption) ?_
  rotate_left 1
  · intro w hSw
    go_simp
    with_reducible rfl
  simp only [Act.put, List.setIfInBounds_toArray, List.set_cons_zero, List.set_cons_succ]
  refine wpAnyH_take (i := 6) (v := ?_) (by simp only [List.getElem?_toArray, List.getElem?_cons_zero, List.getElem?_cons_succ]; rfl) (by kernel_rfl) (by kernel_rfl) (by kernel_rfl) (fun _ _ _ h => h) (Or.inl ⟨by rfl, ?_⟩) (by assumption) ?_
  rotate_left 1
  · intro W9 hSw
    have cc : W9.cell? ⟨w.heap.size, 1, none⟩ = some (.int .i64 x1) := hSw.at_ 1
    go_simp
    with_reducible rfl
  simp only [Act.put, List.setIfInBounds_toArray, List.set_cons_zero, List.set_cons_succ]
  refine wpAnyH_ready (rs := [3]) (by kernel_rfl) (by simp) ?_
  refine AllReadyH.cons (by simp only [List.getElem?_toArray, List.getElem?_cons_zero, List.getElem?_cons_succ]; rfl) (fun K hK => ?_) (AllReadyH.nil)
  go_simp
  refine (CT.out _ BD.out.t).mono ?_
  rintro e1 y1 ⟨v1, rfl, ht, hg, A1, c1, b1, hy1, hap⟩
  have B1 := hid (BD.out.first HNE.out ht hg)
  have Y1 := hid hy1
  have AP := hid (apart_ne hap HQ0.out.1 BD.out.q.inside)
  clear hy1 hap
  have hz1 := (HH.out.drawn 1).grw hg NT.out
  refine hK.out _ _ hz1 (fun hS => ?_)
  clear hK K hS
  refine wpAnyH_ready (rs := [7]) (by kernel_rfl) (by simp) ?_
  refine AllReadyH.cons (by simp only [List.getElem?_toArray, List.getElem?_cons_zero, List.getElem?_cons_succ]; rfl) (fun K hK => ?_) (AllReadyH.nil)
  go_simp
  refine (CQ.out _ B1.out.2.1).mono ?_
  rintro e2 y2 ⟨v2, rfl, hq, hg2, A2, c2, b2, hy2⟩
  have B2 := hid (Both.second B1.out HNE.out hq hg2)
  have k1 := conv_back (Y1.out.grw hg2 AP.out)
  have k2 := conv_back hy2
  clear hy2
  have hz2 := Has.grw hz1 hg2 NQ.out
  refine hK.out _ _ hz2 (fun hS => ?_)
  clear hK K hS
  refine wpAnyH_take (i := 8) (v := ?_) (by simp only [List.getElem?_toArray, List.getElem?_cons_zero, List.getElem?_cons_succ]; rfl) (by kernel_rfl) (by kernel_rfl) (by kernel_rfl) (fun _ _ _ h => h) (Or.inl ⟨by rfl, ?_⟩) (by assumption) ?_
  rotate_left 1
  · intro w hSw
    go_simp
    with_reducible rfl
  simp only [Act.put, List.setIfInBounds_toArray, List.set_cons_zero, List.set_cons_succ]
  refine wpAnyH_take (i := 9) (v := ?_) (by simp only [List.getElem?_toArray, List.getElem?_cons_zero, List.getElem?_cons_succ]; rfl) (by kernel_rfl) (by kernel_rfl) (by kernel_rfl) (fun _ _ _ h => h) (Or.inl ⟨by rfl, ?_⟩) (by assumption) ?_
  rotate_left 1
  · intro w hSw
    go_simp
    with_reducible rfl
  simp only [Act.put, List.setIfInBounds_toArray, List.set_cons_zero, List.set_cons_succ]
  refine wpAnyH_done (by kernel_rfl) ?_ _
  refine NoPanic.normal ?_
  go_wp2
  go_ret
  exact ⟨rfl, _, B2.out⟩
set_option maxRecDepth 100000 in
set_option maxHeartbeats 1000000 in
theorem step_end (gt gq : Nat) (hne : gt ≠ gq) (s : St) (x0 x1 : Int) (x2 : Nat) (hr : x0.tmod 6 = 4) (w : World) (ht : Tp w gt s) (hq : Tq w gq s) :
    Calls Try.prog 29 #[.pointer (some ⟨gt, 0, none⟩), .pointer (some ⟨gq, 0, none⟩), .agg (ask x0 x1 x2)] w fun e w' => e = .returned (.bool true) ∧ ∃ s', Both w w' gt gq s' := by
  have CT : Hid (∀ w1, Tp w1 gt s → Calls Try.prog 33 #[.pointer (some ⟨gt, 0, none⟩)] w1 fun e w' => e = .returned (.int .i64 (errS (endS s))) ∧ Tp w' gt (endS s) ∧ Grw gt w1 w') := fun w1 h => end_any gt s w1 h
  have CQ : Hid (∀ w1, Tq w1 gq s → Calls Try.prog 53 #[.pointer (some ⟨gq, 0, none⟩)] w1 fun e w' => e = .returned (.int .i64 (errS (endS s))) ∧ Tq w' gq (endS s) ∧ Grw gq w1 w') := fun w1 h => qEnd_any gq s w1 h
  generalize errS (endS s) = u at CT CQ
  generalize endS s = s' at CT CQ
  have HH : Hid (Has (w.alloc (.cells (ask x0 x1 x2) 57)) w.heap.size 57 (ask x0 x1 x2)) := Has.fresh w 57 _
  have HB : Hid (Both w (w.alloc (.cells (ask x0 x1 x2) 57)) gt gq s) := Both.start ht hq ((Below.refl _ _).alloc (Nat.le_refl _) _)
  have NT : Hid (w.heap.size ≠ gt) := Nat.ne_of_gt ht.inside
  have NQ : Hid (w.heap.size ≠ gq) := Nat.ne_of_gt hq.inside
  have HNE := hid hne
  generalize hW : w.alloc (.cells (ask x0 x1 x2) 57) = w1 at HH HB
  have c0 : w1.cell? ⟨w.heap.size, 0, none⟩ = some (.int .i64 x0) := HH.out.at_ 0
  clear ht hq hne
  go_enter Try.func29, Try.ntmps29
  go_wp2_with (first
    | (go_at_call 33; refine (CT.out _ HB.out.t).mono ?_; rintro e1 y1 ⟨rfl, ht, hg⟩
       have B1 := hid (HB.out.first HNE.out ht hg)
       clear ht hg)
    | (go_at_call 53; refine (CQ.out _ B1.out.2.1).mono ?_; rintro e2 y2 ⟨rfl, hq, hg2⟩
       have B2 := hid (Both.second B1.out HNE.out hq hg2)
       clear hq hg2))
  go_ret
  exact ⟨rfl, _, B2.out⟩
set_option maxRecDepth 100000 in
set_option maxHeartbeats 1000000 in
theorem step_tear (gt gq : Nat) (hne : gt ≠ gq) (s : St) (x0 x1 : Int) (x2 : Nat) (r : Int) (hr : x0.tmod 6 = r) (h0 : r ≠ 0) (h1 : r ≠ 1) (h2 : r ≠ 2) (h3 : r ≠ 3) (h4 : r ≠ 4) (w : World) (ht : Tp w gt s) (hq : Tq w gq s) :
    Calls Try.prog 29 #[.pointer (some ⟨gt, 0, none⟩), .pointer (some ⟨gq, 0, none⟩), .agg (ask x0 x1 x2)] w fun e w' => e = .returned (.bool true) ∧ ∃ s', Both w w' gt gq s' := by
  have CT : Hid (∀ w1, Tp w1 gt s → Calls Try.prog 35 #[.pointer (some ⟨gt, 0, none⟩)] w1 fun e w' => e = .returned (.tuple #[]) ∧ Tp w' gt (tear s) ∧ Grw gt w1 w') := fun w1 h => tear_any gt s w1 h
  have HH : Hid (Has (w.alloc (.cells (ask x0 x1 x2) 57)) w.heap.size 57 (ask x0 x1 x2)) := Has.fresh w 57 _
  have HB : Hid (Both w (w.alloc (.cells (ask x0 x1 x2) 57)) gt gq s) := Both.start ht hq ((Below.refl _ _).alloc (Nat.le_refl _) _)
  have NT : Hid (w.heap.size ≠ gt) := Nat.ne_of_gt ht.inside
  have NQ : Hid (w.heap.size ≠ gq) := Nat.ne_of_gt hq.inside
  have HNE := hid hne
  generalize hW : w.alloc (.cells (ask x0 x1 x2) 57) = w1 at HH HB
  have c0 : w1.cell? ⟨w.heap.size, 0, none⟩ = some (.int .i64 x0) := HH.out.at_ 0
  clear ht hq hne
  go_enter Try.func29, Try.ntmps29
  go_wp2_with (first
    | (go_at_call 35; refine (CT.out _ HB.out.t).mono ?_; rintro e1 y1 ⟨rfl, ht, hg⟩
       have B1 := hid (HB.out.first HNE.out ht hg)
       have TA := hid (tearq_at B1.out.2.1)
       have ⟨A9, cap9, bb9, off9, k1, _⟩ := B1.out.2.1
       have d1 := k1.at_ 1
       have f1 := k1.free 1
       have B2 := hid (Both.second B1.out HNE.out TA.out.1 TA.out.2)
       clear ht hg k1))
  go_ret
  exact ⟨rfl, _, B2.out⟩
theorem step_any (gt gq : Nat) (hne : gt ≠ gq) (s : St) (x0 x1 : Int) (x2 : Nat) (him : I64 x1) (w : World) (ht : Tp w gt s) (hq : Tq w gq s) :
    Calls Try.prog 29 #[.pointer (some ⟨gt, 0, none⟩), .pointer (some ⟨gq, 0, none⟩), .agg (ask x0 x1 x2)] w fun e w' => e = .returned (.bool true) ∧ ∃ s', Both w w' gt gq s' := by
  by_cases h0 : x0.tmod 6 = 0
  · exact step_num gt gq hne s x0 x1 x2 h0 w ht hq
  · by_cases h1 : x0.tmod 6 = 1
    · exact step_below gt gq hne s x0 x1 x2 h1 w ht hq
    · by_cases h2 : x0.tmod 6 = 2
      · exact step_text gt gq hne s x0 x1 x2 him h2 w ht hq
      · by_cases h3 : x0.tmod 6 = 3
        · exact step_bytes gt gq hne s x0 x1 x2 h3 w ht hq
        · by_cases h4 : x0.tmod 6 = 4
          · exact step_end gt gq hne s x0 x1 x2 h4 w ht hq
          · exact step_tear gt gq hne s x0 x1 x2 _ rfl h0 h1 h2 h3 h4 w ht hq
end Go.Proofs.Ytdmdddmfiankhaa
