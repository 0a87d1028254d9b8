/- caravanlaw04.back: what its call does. Conditions: a tape that NewTape made. -/
import Derived.Test.YtdmdddmfiankhaaBQ
namespace Go.Proofs.Ytdmdddmfiankhaa
open Go.RowKit
def backS (x : Int) (n : Nat) (s : ByteArray) (st : St) : Bool × St :=
  if kd x = 4 then ((ba (textS st 300).1).toList == (ba ((tl s).take 300)).toList, (textS st 300).2)
  else (((numS st ((2 ^ kd x : Nat) : Int)).1 : Int) == (numT x n : Int), (numS st ((2 ^ kd x : Nat) : Int)).2)
theorem Tp.drew {w : World} {g : Nat} {s : St} (h : Tp w g s) : Tp w.drew g s := by
  obtain ⟨A, cap, bb, off, h1, h2, h3⟩ := h
  exact ⟨A, cap, bb, off, h1.drawn 1, h2.drew, h3⟩
theorem Grw.drew {g : Nat} {a b : World} (h : Grw g a b) : Grw g a b.drew := ⟨h.os, h.tape, h.output, h.size, h.block⟩
set_option maxRecDepth 100000 in
set_option maxHeartbeats 1000000 in
theorem back_text (g : Nat) (st : St) (x : Int) (n : Nat) (s : ByteArray) (hk : kd x = 4) (w : World) (h : Tp w g st) :
    Calls Try.prog 31 #[.pointer (some ⟨g, 0, none⟩), .agg (thing x n s)] w fun e w' => e = .returned (.bool (backS x n s st).1) ∧ Tp w' g (backS x n s st).2 ∧ Grw g w w' := by
  obtain ⟨b, s2, HE⟩ : ∃ b s2, Hid (backS x n s st = (b, s2)) := ⟨_, _, rfl⟩
  rw [HE.out]
  have he := HE.out
  rw [backS, if_pos hk] at he
  have CK : Hid (∀ w, Calls Try.prog 54 #[.agg (thing x n s)] w fun e w' => e = .returned (.int .i64 4) ∧ Below w.heap.size w w') := fun w => kind_any x n s 4 hk w
  have CC : Hid (∀ w, Calls Try.prog 12 #[.string s, .int .i64 300] w fun e w' => e = .returned (.string (ba ((tl s).take 300))) ∧ w = w') := fun w => cut_any s 300 (by omega) w
  have CT : Hid (∀ w1, Tp w1 g st → Calls Try.prog 34 #[.pointer (some ⟨g, 0, none⟩), .int .i64 300] w1 fun e w' => e = .returned (.string (ba (textS st 300).1)) ∧ Tp w' g (textS st 300).2 ∧ Grw g w1 w') := fun w1 h => text_any g st 300 w1 h
  generalize ba ((tl s).take 300) = u at CC he
  generalize textS st 300 = q at CT he
  obtain ⟨a, q2⟩ := q
  simp only [Prod.mk.injEq] at he CT
  obtain ⟨hcmp, rfl⟩ := he
  generalize ba a = d at CT hcmp
  clear HE
  obtain ⟨HH, HB⟩ := conv_box w x n s
  have HLD := hid (load_thing HH.out)
  have NE : Hid (w.heap.size ≠ g) := Nat.ne_of_gt h.inside
  have HT := hid h
  clear hk h
  go_enter Try.func31, Try.ntmps31
  go_wp2_with (first
    | (refine wpList_load_g (by rfl) 62 (.tmp 3) rfl w.heap.size 0 rfl (thing x n s) HLD.out ?_)
    | (go_at_call 54; refine (CK.out _).mono ?_; rintro e1 w1 ⟨rfl, hb1⟩
       have B1 : Hid (Below w.heap.size w w1) := HB.out.trans (hb1.mono HB.out.size)
       have H1 : Hid (Has w1 w.heap.size 62 (thing x n s)) := HH.out.kept hb1 HH.out.inside
       have T1 : Hid (Tp w1 g st) := HT.out.kept B1.out
       have G1 : Hid (Grw g w w1) := Grw.of_below B1.out
       clear hb1))
  refine wp_region_noPanic ?_
  refine wp_region_held_drew (S := fun W => Has W w.heap.size 62 (thing x n s)) (by kernel_rfl) (H1.out.drawn 1) (fun hS => ?_)
  have TD := hid T1.out.drew
  have GD := hid G1.out.drew
  refine wpAnyH_take (i := 0) (v := ?_) (by simp only [List.getElem?_toArray, List.getElem?_cons_zero]; rfl) (by kernel_rfl) (by kernel_rfl) (by kernel_rfl) (fun _ _ _ h => h) (Or.inl ⟨by rfl, ?_⟩) (by assumption) ?_
  rotate_left 1
  · intro w hSw
    go_simp
    with_reducible rfl
  simp only [Act.put, List.setIfInBounds_toArray, List.set_cons_zero, List.set_cons_succ]
  refine wpAnyH_take (i := 2) (v := ?_) (by simp only [List.getElem?_toArray, List.getElem?_cons_zero, List.getElem?_cons_succ]; rfl) (by kernel_rfl) (by kernel_rfl) (by kernel_rfl) (fun _ _ _ h => h) (Or.inl ⟨by rfl, ?_⟩) (by assumption) ?_
  rotate_left 1
  · intro w hSw
    go_simp
    with_reducible rfl
  simp only [Act.put, List.setIfInBounds_toArray, List.set_cons_zero, List.set_cons_succ]
  refine wpAnyH_take (i := 3) (v := ?_) (by simp only [List.getElem?_toArray, List.getElem?_cons_zero, List.getElem?_cons_succ]; rfl) (by kernel_rfl) (by kernel_rfl) (by kernel_rfl) (fun _ _ _ h => h) (Or.inl ⟨by rfl, ?_⟩) (by assumption) ?_
  rotate_left 1
  · intro W9 hSw
    have c2 : W9.cell? ⟨w.heap.size, 2, none⟩ = some (.string s) := hSw.at_ 2
    go_simp
    with_reducible rfl
  simp only [Act.put, List.setIfInBounds_toArray, List.set_cons_zero, List.set_cons_succ]
  refine wpAnyH_ready (rs := [1]) (by kernel_rfl) (by simp) ?_
  refine AllReadyH.cons (by simp only [List.getElem?_toArray, List.getElem?_cons_zero, List.getElem?_cons_succ]; rfl) (fun K hK => ?_) (AllReadyH.nil)
  go_simp
  refine (CT.out _ TD.out).mono ?_
  rintro e1 y1 ⟨rfl, ht1, hg1⟩
  have T1 := hid ht1
  have G1 := hid (GD.out.trans hg1)
  have hz1 := Has.grw (H1.out.drawn 1) hg1 NE.out
  refine hK.out _ _ hz1 (fun hS => ?_)
  clear hK K hS
  refine wpAnyH_ready (rs := [4]) (by kernel_rfl) (by simp) ?_
  refine AllReadyH.cons (by simp only [List.getElem?_toArray, List.getElem?_cons_zero, List.getElem?_cons_succ]; rfl) (fun K hK => ?_) (AllReadyH.nil)
  go_simp
  refine (CC.out _).mono ?_
  rintro e2 y2 ⟨rfl, rfl⟩
  have hz2 := hz1
  refine hK.out _ _ hz2 (fun hS => ?_)
  clear hK K hS
  refine wpAnyH_take (i := 5) (v := ?_) (by simp only [List.getElem?_toArray, List.getElem?_cons_zero, List.getElem?_cons_succ]; rfl) (by kernel_rfl) (by kernel_rfl) (by kernel_rfl) (fun _ _ _ h => h) (Or.inl ⟨by rfl, ?_⟩) (by assumption) ?_
  rotate_left 1
  · intro w hSw
    go_simp
    with_reducible rfl
  simp only [Act.put, List.setIfInBounds_toArray, List.set_cons_zero, List.set_cons_succ]
  refine wpAnyH_take (i := 6) (v := ?_) (by simp only [List.getElem?_toArray, List.getElem?_cons_zero, List.getElem?_cons_succ]; rfl) (by kernel_rfl) (by kernel_rfl) (by kernel_rfl) (fun _ _ _ h => h) (Or.inl ⟨by rfl, ?_⟩) (by assumption) ?_
  rotate_left 1
  · intro w hSw
    go_simp
    with_reducible rfl
  simp only [Act.put, List.setIfInBounds_toArray, List.set_cons_zero, List.set_cons_succ]
  refine wpAnyH_done (by kernel_rfl) ?_ _
  refine NoPanic.normal ?_
  go_wp2
  go_ret
  exact ⟨rfl, T1.out, G1.out⟩
set_option maxRecDepth 100000 in
set_option maxHeartbeats 1000000 in
theorem back_num0 (g : Nat) (st : St) (x : Int) (n : Nat) (s : ByteArray) (hk : kd x = 0) (w : World) (h : Tp w g st) :
    Calls Try.prog 31 #[.pointer (some ⟨g, 0, none⟩), .agg (thing x n s)] w fun e w' => e = .returned (.bool (backS x n s st).1) ∧ Tp w' g (backS x n s st).2 ∧ Grw g w w' := by
  have he : backS x n s st = (((numS st 1).1 : Int) == (numT x n : Int), (numS st 1).2) := by rw [backS, if_neg (by omega), hk]; rfl
  rw [he]
  have CK : Hid (∀ w, Calls Try.prog 54 #[.agg (thing x n s)] w fun e w' => e = .returned (.int .i64 0) ∧ Below w.heap.size w w') := fun w => kind_any x n s 0 hk w
  have CV : Hid (∀ w, Calls Try.prog 55 #[.agg (thing x n s)] w fun e w' => e = .returned (.int .u64 (numT x n : Int)) ∧ Below w.heap.size w w') := fun w => number4_any x n s 0 hk (by omega) w
  have CN : Hid (∀ w1, Tp w1 g st → Calls Try.prog 23 #[.pointer (some ⟨g, 0, none⟩), .int .i64 1] w1 fun e w' => e = .returned (.int .u64 ((numS st 1).1 : Nat)) ∧ Tp w' g (numS st 1).2 ∧ Grw g w1 w') := fun w1 h => num_any g st 1 w1 h
  generalize numT x n = y at CV ⊢
  generalize numS st 1 = q at CN ⊢
  obtain ⟨m, q2⟩ := q
  obtain ⟨b, hcmp⟩ : ∃ b, ((m : Int) == (y : Int)) = b := ⟨_, rfl⟩
  simp only [hcmp] at CN ⊢
  clear he
  obtain ⟨HH, HB⟩ := conv_box w x n s
  have HLD := hid (load_thing HH.out)
  have NE : Hid (w.heap.size ≠ g) := Nat.ne_of_gt h.inside
  have HT := hid h
  clear hk h
  go_enter Try.func31, Try.ntmps31
  go_wp2_with (first
    | (refine wpList_load_g (by rfl) 62 (.tmp 3) rfl w.heap.size 0 rfl (thing x n s) HLD.out ?_)
    | (go_at_call 54; refine (CK.out _).mono ?_; rintro e1 w1 ⟨rfl, hb1⟩
       have B1 : Hid (Below w.heap.size w w1) := HB.out.trans (hb1.mono HB.out.size)
       have H1 : Hid (Has w1 w.heap.size 62 (thing x n s)) := HH.out.kept hb1 HH.out.inside
       have T1 : Hid (Tp w1 g st) := HT.out.kept B1.out
       have G1 : Hid (Grw g w w1) := Grw.of_below B1.out
       clear hb1))
  refine wp_region_noPanic ?_
  refine wp_region_held_drew (S := fun W => Has W w.heap.size 62 (thing x n s)) (by kernel_rfl) (H1.out.drawn 1) (fun hS => ?_)
  have TD := hid T1.out.drew
  have GD := hid G1.out.drew
  refine wpAnyH_take (i := 0) (v := ?_) (by simp only [List.getElem?_toArray, List.getElem?_cons_zero]; rfl) (by kernel_rfl) (by kernel_rfl) (by kernel_rfl) (fun _ _ _ h => h) (Or.inl ⟨by rfl, ?_⟩) (by assumption) ?_
  rotate_left 1
  · intro w hSw
    go_simp
    with_reducible rfl
  simp only [Act.put, List.setIfInBounds_toArray, List.set_cons_zero, List.set_cons_succ]
  refine' wpAnyH_take (i := 1) (v := _) (by simp only [List.getElem?_toArray, List.getElem?_cons_zero, List.getElem?_cons_succ]; rfl) (by kernel_rfl) (by kernel_rfl) (by kernel_rfl) (fun _ _ _ h => h) (yields_load (by rfl) 62 (.tmp 3) rfl w.heap.size 0 rfl (thing x n s) (fun W hW => load_thing hW)) (by assumption) ?_
  simp only [Act.put, List.setIfInBounds_toArray, List.set_cons_zero, List.set_cons_succ]
  refine' wpAnyH_take (i := 5) (v := _) (by simp only [List.getElem?_toArray, List.getElem?_cons_zero, List.getElem?_cons_succ]; rfl) (by kernel_rfl) (by kernel_rfl) (by kernel_rfl) (fun _ _ _ h => h) (yields_load (by rfl) 62 (.tmp 3) rfl w.heap.size 0 rfl (thing x n s) (fun W hW => load_thing hW)) (by assumption) ?_
  simp only [Act.put, List.setIfInBounds_toArray, List.set_cons_zero, List.set_cons_succ]
  refine wpAnyH_ready (rs := [2]) (by kernel_rfl) (by simp) ?_
  refine AllReadyH.cons (by simp only [List.getElem?_toArray, List.getElem?_cons_zero, List.getElem?_cons_succ]; rfl) (fun K hK => ?_) (AllReadyH.nil)
  go_simp
  refine (CK.out _).mono ?_
  rintro e3 y3 ⟨rfl, hb3⟩
  have T3 := hid (TD.out.kept hb3)
  have G3 := hid (GD.out.trans (Grw.of_below hb3))
  have hz1 := (H1.out.drawn 1).kept hb3 (Has.inside (H1.out.drawn 1))
  refine hK.out _ _ hz1 (fun hS => ?_)
  clear hK K hS
  refine wpAnyH_take (i := 3) (v := ?_) (by simp only [List.getElem?_toArray, List.getElem?_cons_zero, List.getElem?_cons_succ]; rfl) (by kernel_rfl) (by kernel_rfl) (by kernel_rfl) (fun _ _ _ h => h) (Or.inl ⟨by rfl, ?_⟩) (by assumption) ?_
  rotate_left 1
  · intro w hSw
    go_simp
    with_reducible rfl
  simp only [Act.put, List.setIfInBounds_toArray, List.set_cons_zero, List.set_cons_succ]
  refine wpAnyH_ready (rs := [4]) (by kernel_rfl) (by simp) ?_
  refine AllReadyH.cons (by simp only [List.getElem?_toArray, List.getElem?_cons_zero, List.getElem?_cons_succ]; rfl) (fun K hK => ?_) (AllReadyH.nil)
  go_simp
  refine (CN.out _ T3.out).mono ?_
  rintro e4 y4 ⟨rfl, ht4, hg4⟩
  have T4 := hid ht4
  have G4 := hid (G3.out.trans hg4)
  have hz2 := Has.grw hz1 hg4 NE.out
  refine hK.out _ _ hz2 (fun hS => ?_)
  clear hK K hS
  refine wpAnyH_ready (rs := [6]) (by kernel_rfl) (by simp) ?_
  refine AllReadyH.cons (by simp only [List.getElem?_toArray, List.getElem?_cons_zero, List.getElem?_cons_succ]; rfl) (fun K hK => ?_) (AllReadyH.nil)
  go_simp
  refine (CV.out _).mono ?_
  rintro e5 y5 ⟨rfl, hb5⟩
  have T5 := hid (T4.out.kept hb5)
  have G5 := hid (G4.out.trans (Grw.of_below hb5))
  have hz3 := hz2.kept hb5 (Has.inside hz2)
  refine hK.out _ _ hz3 (fun hS => ?_)
  clear hK K hS
  refine wpAnyH_take (i := 7) (v := ?_) (by simp only [List.getElem?_toArray, List.getElem?_cons_zero, List.getElem?_cons_succ]; rfl) (by kernel_rfl) (by kernel_rfl) (by kernel_rfl) (fun _ _ _ h => h) (Or.inl ⟨by rfl, ?_⟩) (by assumption) ?_
  rotate_left 1
  · intro w hSw
    go_simp
    with_reducible rfl
  simp only [Act.put, List.setIfInBounds_toArray, List.set_cons_zero, List.set_cons_succ]
  refine wpAnyH_take (i := 8) (v := ?_) (by simp only [List.getElem?_toArray, List.getElem?_cons_zero, List.getElem?_cons_succ]; rfl) (by kernel_rfl) (by kernel_rfl) (by kernel_rfl) (fun _ _ _ h => h) (Or.inl ⟨by rfl, ?_⟩) (by assumption) ?_
  rotate_left 1
  · intro w hSw
    go_simp
    with_reducible rfl
  simp only [Act.put, List.setIfInBounds_toArray, List.set_cons_zero, List.set_cons_succ]
  refine wpAnyH_done (by kernel_rfl) ?_ _
  refine NoPanic.normal ?_
  go_wp2
  go_ret
  exact ⟨rfl, T5.out, G5.out⟩
set_option maxRecDepth 100000 in
set_option maxHeartbeats 1000000 in
theorem back_num1 (g : Nat) (st : St) (x : Int) (n : Nat) (s : ByteArray) (hk : kd x = 1) (w : World) (h : Tp w g st) :
    Calls Try.prog 31 #[.pointer (some ⟨g, 0, none⟩), .agg (thing x n s)] w fun e w' => e = .returned (.bool (backS x n s st).1) ∧ Tp w' g (backS x n s st).2 ∧ Grw g w w' := by
  have he : backS x n s st = (((numS st 2).1 : Int) == (numT x n : Int), (numS st 2).2) := by rw [backS, if_neg (by omega), hk]; rfl
  rw [he]
  have CK : Hid (∀ w, Calls Try.prog 54 #[.agg (thing x n s)] w fun e w' => e = .returned (.int .i64 1) ∧ Below w.heap.size w w') := fun w => kind_any x n s 1 hk w
  have CV : Hid (∀ w, Calls Try.prog 55 #[.agg (thing x n s)] w fun e w' => e = .returned (.int .u64 (numT x n : Int)) ∧ Below w.heap.size w w') := fun w => number4_any x n s 1 hk (by omega) w
  have CN : Hid (∀ w1, Tp w1 g st → Calls Try.prog 23 #[.pointer (some ⟨g, 0, none⟩), .int .i64 2] w1 fun e w' => e = .returned (.int .u64 ((numS st 2).1 : Nat)) ∧ Tp w' g (numS st 2).2 ∧ Grw g w1 w') := fun w1 h => num_any g st 2 w1 h
  generalize numT x n = y at CV ⊢
  generalize numS st 2 = q at CN ⊢
  obtain ⟨m, q2⟩ := q
  obtain ⟨b, hcmp⟩ : ∃ b, ((m : Int) == (y : Int)) = b := ⟨_, rfl⟩
  simp only [hcmp] at CN ⊢
  clear he
  obtain ⟨HH, HB⟩ := conv_box w x n s
  have HLD := hid (load_thing HH.out)
  have NE : Hid (w.heap.size ≠ g) := Nat.ne_of_gt h.inside
  have HT := hid h
  clear hk h
  go_enter Try.func31, Try.ntmps31
  go_wp2_with (first
    | (refine wpList_load_g (by rfl) 62 (.tmp 3) rfl w.heap.size 0 rfl (thing x n s) HLD.out ?_)
    | (go_at_call 54; refine (CK.out _).mono ?_; rintro e1 w1 ⟨rfl, hb1⟩
       have B1 : Hid (Below w.heap.size w w1) := HB.out.trans (hb1.mono HB.out.size)
       have H1 : Hid (Has w1 w.heap.size 62 (thing x n s)) := HH.out.kept hb1 HH.out.inside
       have T1 : Hid (Tp w1 g st) := HT.out.kept B1.out
       have G1 : Hid (Grw g w w1) := Grw.of_below B1.out
       clear hb1))
  refine wp_region_noPanic ?_
  refine wp_region_held_drew (S := fun W => Has W w.heap.size 62 (thing x n s)) (by kernel_rfl) (H1.out.drawn 1) (fun hS => ?_)
  have TD := hid T1.out.drew
  have GD := hid G1.out.drew
  refine wpAnyH_take (i := 0) (v := ?_) (by simp only [List.getElem?_toArray, List.getElem?_cons_zero]; rfl) (by kernel_rfl) (by kernel_rfl) (by kernel_rfl) (fun _ _ _ h => h) (Or.inl ⟨by rfl, ?_⟩) (by assumption) ?_
  rotate_left 1
  · intro w hSw
    go_simp
    with_reducible rfl
  simp only [Act.put, List.setIfInBounds_toArray, List.set_cons_zero, List.set_cons_succ]
  refine' wpAnyH_take (i := 1) (v := _) (by simp only [List.getElem?_toArray, List.getElem?_cons_zero, List.getElem?_cons_succ]; rfl) (by kernel_rfl) (by kernel_rfl) (by kernel_rfl) (fun _ _ _ h => h) (yields_load (by rfl) 62 (.tmp 3) rfl w.heap.size 0 rfl (thing x n s) (fun W hW => load_thing hW)) (by assumption) ?_
  simp only [Act.put, List.setIfInBounds_toArray, List.set_cons_zero, List.set_cons_succ]
  refine' wpAnyH_take (i := 5) (v := _) (by simp only [List.getElem?_toArray, List.getElem?_cons_zero, List.getElem?_cons_succ]; rfl) (by kernel_rfl) (by kernel_rfl) (by kernel_rfl) (fun _ _ _ h => h) (yields_load (by rfl) 62 (.tmp 3) rfl w.heap.size 0 rfl (thing x n s) (fun W hW => load_thing hW)) (by assumption) ?_
  simp only [Act.put, List.setIfInBounds_toArray, List.set_cons_zero, List.set_cons_succ]
  refine wpAnyH_ready (rs := [2]) (by kernel_rfl) (by simp) ?_
  refine AllReadyH.cons (by simp only [List.getElem?_toArray, List.getElem?_cons_zero, List.getElem?_cons_succ]; rfl) (fun K hK => ?_) (AllReadyH.nil)
  go_simp
  refine (CK.out _).mono ?_
  rintro e6 y6 ⟨rfl, hb6⟩
  have T6 := hid (TD.out.kept hb6)
  have G6 := hid (GD.out.trans (Grw.of_below hb6))
  have hz1 := (H1.out.drawn 1).kept hb6 (Has.inside (H1.out.drawn 1))
  refine hK.out _ _ hz1 (fun hS => ?_)
  clear hK K hS
  refine wpAnyH_take (i := 3) (v := ?_) (by simp only [List.getElem?_toArray, List.getElem?_cons_zero, List.getElem?_cons_succ]; rfl) (by kernel_rfl) (by kernel_rfl) (by kernel_rfl) (fun _ _ _ h => h) (Or.inl ⟨by rfl, ?_⟩) (by assumption) ?_
  rotate_left 1
  · intro w hSw
    go_simp
    with_reducible rfl
  simp only [Act.put, List.setIfInBounds_toArray, List.set_cons_zero, List.set_cons_succ]
  refine wpAnyH_ready (rs := [4]) (by kernel_rfl) (by simp) ?_
  refine AllReadyH.cons (by simp only [List.getElem?_toArray, List.getElem?_cons_zero, List.getElem?_cons_succ]; rfl) (fun K hK => ?_) (AllReadyH.nil)
  go_simp
  refine (CN.out _ T6.out).mono ?_
  rintro e7 y7 ⟨rfl, ht7, hg7⟩
  have T7 := hid ht7
  have G7 := hid (G6.out.trans hg7)
  have hz2 := Has.grw hz1 hg7 NE.out
  refine hK.out _ _ hz2 (fun hS => ?_)
  clear hK K hS
  refine wpAnyH_ready (rs := [6]) (by kernel_rfl) (by simp) ?_
  refine AllReadyH.cons (by simp only [List.getElem?_toArray, List.getElem?_cons_zero, List.getElem?_cons_succ]; rfl) (fun K hK => ?_) (AllReadyH.nil)
  go_simp
  refine (CV.out _).mono ?_
  rintro e8 y8 ⟨rfl, hb8⟩
  have T8 := hid (T7.out.kept hb8)
  have G8 := hid (G7.out.trans (Grw.of_below hb8))
  have hz3 := hz2.kept hb8 (Has.inside hz2)
  refine hK.out _ _ hz3 (fun hS => ?_)
  clear hK K hS
  refine wpAnyH_take (i := 7) (v := ?_) (by simp only [List.getElem?_toArray, List.getElem?_cons_zero, List.getElem?_cons_succ]; rfl) (by kernel_rfl) (by kernel_rfl) (by kernel_rfl) (fun _ _ _ h => h) (Or.inl ⟨by rfl, ?_⟩) (by assumption) ?_
  rotate_left 1
  · intro w hSw
    go_simp
    with_reducible rfl
  simp only [Act.put, List.setIfInBounds_toArray, List.set_cons_zero, List.set_cons_succ]
  refine wpAnyH_take (i := 8) (v := ?_) (by simp only [List.getElem?_toArray, List.getElem?_cons_zero, List.getElem?_cons_succ]; rfl) (by kernel_rfl) (by kernel_rfl) (by kernel_rfl) (fun _ _ _ h => h) (Or.inl ⟨by rfl, ?_⟩) (by assumption) ?_
  rotate_left 1
  · intro w hSw
    go_simp
    with_reducible rfl
  simp only [Act.put, List.setIfInBounds_toArray, List.set_cons_zero, List.set_cons_succ]
  refine wpAnyH_done (by kernel_rfl) ?_ _
  refine NoPanic.normal ?_
  go_wp2
  go_ret
  exact ⟨rfl, T8.out, G8.out⟩
set_option maxRecDepth 100000 in
set_option maxHeartbeats 1000000 in
theorem back_num2 (g : Nat) (st : St) (x : Int) (n : Nat) (s : ByteArray) (hk : kd x = 2) (w : World) (h : Tp w g st) :
    Calls Try.prog 31 #[.pointer (some ⟨g, 0, none⟩), .agg (thing x n s)] w fun e w' => e = .returned (.bool (backS x n s st).1) ∧ Tp w' g (backS x n s st).2 ∧ Grw g w w' := by
  have he : backS x n s st = (((numS st 4).1 : Int) == (numT x n : Int), (numS st 4).2) := by rw [backS, if_neg (by omega), hk]; rfl
  rw [he]
  have CK : Hid (∀ w, Calls Try.prog 54 #[.agg (thing x n s)] w fun e w' => e = .returned (.int .i64 2) ∧ Below w.heap.size w w') := fun w => kind_any x n s 2 hk w
  have CV : Hid (∀ w, Calls Try.prog 55 #[.agg (thing x n s)] w fun e w' => e = .returned (.int .u64 (numT x n : Int)) ∧ Below w.heap.size w w') := fun w => number4_any x n s 2 hk (by omega) w
  have CN : Hid (∀ w1, Tp w1 g st → Calls Try.prog 23 #[.pointer (some ⟨g, 0, none⟩), .int .i64 4] w1 fun e w' => e = .returned (.int .u64 ((numS st 4).1 : Nat)) ∧ Tp w' g (numS st 4).2 ∧ Grw g w1 w') := fun w1 h => num_any g st 4 w1 h
  generalize numT x n = y at CV ⊢
  generalize numS st 4 = q at CN ⊢
  obtain ⟨m, q2⟩ := q
  obtain ⟨b, hcmp⟩ : ∃ b, ((m : Int) == (y : Int)) = b := ⟨_, rfl⟩
  simp only [hcmp] at CN ⊢
  clear he
  obtain ⟨HH, HB⟩ := conv_box w x n s
  have HLD := hid (load_thing HH.out)
  have NE : Hid (w.heap.size ≠ g) := Nat.ne_of_gt h.inside
  have HT := hid h
  clear hk h
  go_enter Try.func31, Try.ntmps31
  go_wp2_with (first
    | (refine wpList_load_g (by rfl) 62 (.tmp 3) rfl w.heap.size 0 rfl (thing x n s) HLD.out ?_)
    | (go_at_call 54; refine (CK.out _).mono ?_; rintro e1 w1 ⟨rfl, hb1⟩
       have B1 : Hid (Below w.heap.size w w1) := HB.out.trans (hb1.mono HB.out.size)
       have H1 : Hid (Has w1 w.heap.size 62 (thing x n s)) := HH.out.kept hb1 HH.out.inside
       have T1 : Hid (Tp w1 g st) := HT.out.kept B1.out
       have G1 : Hid (Grw g w w1) := Grw.of_below B1.out
       clear hb1))
  refine wp_region_noPanic ?_
  refine wp_region_held_drew (S := fun W => Has W w.heap.size 62 (thing x n s)) (by kernel_rfl) (H1.out.drawn 1) (fun hS => ?_)
  have TD := hid T1.out.drew
  have GD := hid G1.out.drew
  refine wpAnyH_take (i := 0) (v := ?_) (by simp only [List.getElem?_toArray, List.getElem?_cons_zero]; rfl) (by kernel_rfl) (by kernel_rfl) (by kernel_rfl) (fun _ _ _ h => h) (Or.inl ⟨by rfl, ?_⟩) (by assumption) ?_
  rotate_left 1
  · intro w hSw
    go_simp
    with_reducible rfl
  simp only [Act.put, List.setIfInBounds_toArray, List.set_cons_zero, List.set_cons_succ]
  refine' wpAnyH_take (i := 1) (v := _) (by simp only [List.getElem?_toArray, List.getElem?_cons_zero, List.getElem?_cons_succ]; rfl) (by kernel_rfl) (by kernel_rfl) (by kernel_rfl) (fun _ _ _ h => h) (yields_load (by rfl) 62 (.tmp 3) rfl w.heap.size 0 rfl (thing x n s) (fun W hW => load_thing hW)) (by assumption) ?_
  simp only [Act.put, List.setIfInBounds_toArray, List.set_cons_zero, List.set_cons_succ]
  refine' wpAnyH_take (i := 5) (v := _) (by simp only [List.getElem?_toArray, List.getElem?_cons_zero, List.getElem?_cons_succ]; rfl) (by kernel_rfl) (by kernel_rfl) (by kernel_rfl) (fun _ _ _ h => h) (yields_load (by rfl) 62 (.tmp 3) rfl w.heap.size 0 rfl (thing x n s) (fun W hW => load_thing hW)) (by assumption) ?_
  simp only [Act.put, List.setIfInBounds_toArray, List.set_cons_zero, List.set_cons_succ]
  refine wpAnyH_ready (rs := [2]) (by kernel_rfl) (by simp) ?_
  refine AllReadyH.cons (by simp only [List.getElem?_toArray, List.getElem?_cons_zero, List.getElem?_cons_succ]; rfl) (fun K hK => ?_) (AllReadyH.nil)
  go_simp
  refine (CK.out _).mono ?_
  rintro e9 y9 ⟨rfl, hb9⟩
  have T9 := hid (TD.out.kept hb9)
  have G9 := hid (GD.out.trans (Grw.of_below hb9))
  have hz1 := (H1.out.drawn 1).kept hb9 (Has.inside (H1.out.drawn 1))
  refine hK.out _ _ hz1 (fun hS => ?_)
  clear hK K hS
  refine wpAnyH_take (i := 3) (v := ?_) (by simp only [List.getElem?_toArray, List.getElem?_cons_zero, List.getElem?_cons_succ]; rfl) (by kernel_rfl) (by kernel_rfl) (by kernel_rfl) (fun _ _ _ h => h) (Or.inl ⟨by rfl, ?_⟩) (by assumption) ?_
  rotate_left 1
  · intro w hSw
    go_simp
    with_reducible rfl
  simp only [Act.put, List.setIfInBounds_toArray, List.set_cons_zero, List.set_cons_succ]
  refine wpAnyH_ready (rs := [4]) (by kernel_rfl) (by simp) ?_
  refine AllReadyH.cons (by simp only [List.getElem?_toArray, List.getElem?_cons_zero, List.getElem?_cons_succ]; rfl) (fun K hK => ?_) (AllReadyH.nil)
  go_simp
  refine (CN.out _ T9.out).mono ?_
  rintro e10 y10 ⟨rfl, ht10, hg10⟩
  have T10 := hid ht10
  have G10 := hid (G9.out.trans hg10)
  have hz2 := Has.grw hz1 hg10 NE.out
  refine hK.out _ _ hz2 (fun hS => ?_)
  clear hK K hS
  refine wpAnyH_ready (rs := [6]) (by kernel_rfl) (by simp) ?_
  refine AllReadyH.cons (by simp only [List.getElem?_toArray, List.getElem?_cons_zero, List.getElem?_cons_succ]; rfl) (fun K hK => ?_) (AllReadyH.nil)
  go_simp
  refine (CV.out _).mono ?_
  rintro e11 y11 ⟨rfl, hb11⟩
  have T11 := hid (T10.out.kept hb11)
  have G11 := hid (G10.out.trans (Grw.of_below hb11))
  have hz3 := hz2.kept hb11 (Has.inside hz2)
  refine hK.out _ _ hz3 (fun hS => ?_)
  clear hK K hS
  refine wpAnyH_take (i := 7) (v := ?_) (by simp only [List.getElem?_toArray, List.getElem?_cons_zero, List.getElem?_cons_succ]; rfl) (by kernel_rfl) (by kernel_rfl) (by kernel_rfl) (fun _ _ _ h => h) (Or.inl ⟨by rfl, ?_⟩) (by assumption) ?_
  rotate_left 1
  · intro w hSw
    go_simp
    with_reducible rfl
  simp only [Act.put, List.setIfInBounds_toArray, List.set_cons_zero, List.set_cons_succ]
  refine wpAnyH_take (i := 8) (v := ?_) (by simp only [List.getElem?_toArray, List.getElem?_cons_zero, List.getElem?_cons_succ]; rfl) (by kernel_rfl) (by kernel_rfl) (by kernel_rfl) (fun _ _ _ h => h) (Or.inl ⟨by rfl, ?_⟩) (by assumption) ?_
  rotate_left 1
  · intro w hSw
    go_simp
    with_reducible rfl
  simp only [Act.put, List.setIfInBounds_toArray, List.set_cons_zero, List.set_cons_succ]
  refine wpAnyH_done (by kernel_rfl) ?_ _
  refine NoPanic.normal ?_
  go_wp2
  go_ret
  exact ⟨rfl, T11.out, G11.out⟩
set_option maxRecDepth 100000 in
set_option maxHeartbeats 1000000 in
theorem back_num3 (g : Nat) (st : St) (x : Int) (n : Nat) (s : ByteArray) (hk : kd x = 3) (w : World) (h : Tp w g st) :
    Calls Try.prog 31 #[.pointer (some ⟨g, 0, none⟩), .agg (thing x n s)] w fun e w' => e = .returned (.bool (backS x n s st).1) ∧ Tp w' g (backS x n s st).2 ∧ Grw g w w' := by
  have he : backS x n s st = (((numS st 8).1 : Int) == (numT x n : Int), (numS st 8).2) := by rw [backS, if_neg (by omega), hk]; rfl
  rw [he]
  have CK : Hid (∀ w, Calls Try.prog 54 #[.agg (thing x n s)] w fun e w' => e = .returned (.int .i64 3) ∧ Below w.heap.size w w') := fun w => kind_any x n s 3 hk w
  have CV : Hid (∀ w, Calls Try.prog 55 #[.agg (thing x n s)] w fun e w' => e = .returned (.int .u64 (numT x n : Int)) ∧ Below w.heap.size w w') := fun w => number4_any x n s 3 hk (by omega) w
  have CN : Hid (∀ w1, Tp w1 g st → Calls Try.prog 23 #[.pointer (some ⟨g, 0, none⟩), .int .i64 8] w1 fun e w' => e = .returned (.int .u64 ((numS st 8).1 : Nat)) ∧ Tp w' g (numS st 8).2 ∧ Grw g w1 w') := fun w1 h => num_any g st 8 w1 h
  generalize numT x n = y at CV ⊢
  generalize numS st 8 = q at CN ⊢
  obtain ⟨m, q2⟩ := q
  obtain ⟨b, hcmp⟩ : ∃ b, ((m : Int) == (y : Int)) = b := ⟨_, rfl⟩
  simp only [hcmp] at CN ⊢
  clear he
  obtain ⟨HH, HB⟩ := conv_box w x n s
  have HLD := hid (load_thing HH.out)
  have NE : Hid (w.heap.size ≠ g) := Nat.ne_of_gt h.inside
  have HT := hid h
  clear hk h
  go_enter Try.func31, Try.ntmps31
  go_wp2_with (first
    | (refine wpList_load_g (by rfl) 62 (.tmp 3) rfl w.heap.size 0 rfl (thing x n s) HLD.out ?_)
    | (go_at_call 54; refine (CK.out _).mono ?_; rintro e1 w1 ⟨rfl, hb1⟩
       have B1 : Hid (Below w.heap.size w w1) := HB.out.trans (hb1.mono HB.out.size)
       have H1 : Hid (Has w1 w.heap.size 62 (thing x n s)) := HH.out.kept hb1 HH.out.inside
       have T1 : Hid (Tp w1 g st) := HT.out.kept B1.out
       have G1 : Hid (Grw g w w1) := Grw.of_below B1.out
       clear hb1))
  refine wp_region_noPanic ?_
  refine wp_region_held_drew (S := fun W => Has W w.heap.size 62 (thing x n s)) (by kernel_rfl) (H1.out.drawn 1) (fun hS => ?_)
  have TD := hid T1.out.drew
  have GD := hid G1.out.drew
  refine wpAnyH_take (i := 0) (v := ?_) (by simp only [List.getElem?_toArray, List.getElem?_cons_zero]; rfl) (by kernel_rfl) (by kernel_rfl) (by kernel_rfl) (fun _ _ _ h => h) (Or.inl ⟨by rfl, ?_⟩) (by assumption) ?_
  rotate_left 1
  · intro w hSw
    go_simp
    with_reducible rfl
  simp only [Act.put, List.setIfInBounds_toArray, List.set_cons_zero, List.set_cons_succ]
  refine' wpAnyH_take (i := 1) (v := _) (by simp only [List.getElem?_toArray, List.getElem?_cons_zero, List.getElem?_cons_succ]; rfl) (by kernel_rfl) (by kernel_rfl) (by kernel_rfl) (fun _ _ _ h => h) (yields_load (by rfl) 62 (.tmp 3) rfl w.heap.size 0 rfl (thing x n s) (fun W hW => load_thing hW)) (by assumption) ?_
  simp only [Act.put, List.setIfInBounds_toArray, List.set_cons_zero, List.set_cons_succ]
  refine' wpAnyH_take (i := 5) (v := _) (by simp only [List.getElem?_toArray, List.getElem?_cons_zero, List.getElem?_cons_succ]; rfl) (by kernel_rfl) (by kernel_rfl) (by kernel_rfl) (fun _ _ _ h => h) (yields_load (by rfl) 62 (.tmp 3) rfl w.heap.size 0 rfl (thing x n s) (fun W hW => load_thing hW)) (by assumption) ?_
  simp only [Act.put, List.setIfInBounds_toArray, List.set_cons_zero, List.set_cons_succ]
  refine wpAnyH_ready (rs := [2]) (by kernel_rfl) (by simp) ?_
  refine AllReadyH.cons (by simp only [List.getElem?_toArray, List.getElem?_cons_zero, List.getElem?_cons_succ]; rfl) (fun K hK => ?_) (AllReadyH.nil)
  go_simp
  refine (CK.out _).mono ?_
  rintro e12 y12 ⟨rfl, hb12⟩
  have T12 := hid (TD.out.kept hb12)
  have G12 := hid (GD.out.trans (Grw.of_below hb12))
  have hz1 := (H1.out.drawn 1).kept hb12 (Has.inside (H1.out.drawn 1))
  refine hK.out _ _ hz1 (fun hS => ?_)
  clear hK K hS
  refine wpAnyH_take (i := 3) (v := ?_) (by simp only [List.getElem?_toArray, List.getElem?_cons_zero, List.getElem?_cons_succ]; rfl) (by kernel_rfl) (by kernel_rfl) (by kernel_rfl) (fun _ _ _ h => h) (Or.inl ⟨by rfl, ?_⟩) (by assumption) ?_
  rotate_left 1
  · intro w hSw
    go_simp
    with_reducible rfl
  simp only [Act.put, List.setIfInBounds_toArray, List.set_cons_zero, List.set_cons_succ]
  refine wpAnyH_ready (rs := [4]) (by kernel_rfl) (by simp) ?_
  refine AllReadyH.cons (by simp only [List.getElem?_toArray, List.getElem?_cons_zero, List.getElem?_cons_succ]; rfl) (fun K hK => ?_) (AllReadyH.nil)
  go_simp
  refine (CN.out _ T12.out).mono ?_
  rintro e13 y13 ⟨rfl, ht13, hg13⟩
  have T13 := hid ht13
  have G13 := hid (G12.out.trans hg13)
  have hz2 := Has.grw hz1 hg13 NE.out
  refine hK.out _ _ hz2 (fun hS => ?_)
  clear hK K hS
  refine wpAnyH_ready (rs := [6]) (by kernel_rfl) (by simp) ?_
  refine AllReadyH.cons (by simp only [List.getElem?_toArray, List.getElem?_cons_zero, List.getElem?_cons_succ]; rfl) (fun K hK => ?_) (AllReadyH.nil)
  go_simp
  refine (CV.out _).mono ?_
  rintro e14 y14 ⟨rfl, hb14⟩
  have T14 := hid (T13.out.kept hb14)
  have G14 := hid (G13.out.trans (Grw.of_below hb14))
  have hz3 := hz2.kept hb14 (Has.inside hz2)
  refine hK.out _ _ hz3 (fun hS => ?_)
  clear hK K hS
  refine wpAnyH_take (i := 7) (v := ?_) (by simp only [List.getElem?_toArray, List.getElem?_cons_zero, List.getElem?_cons_succ]; rfl) (by kernel_rfl) (by kernel_rfl) (by kernel_rfl) (fun _ _ _ h => h) (Or.inl ⟨by rfl, ?_⟩) (by assumption) ?_
  rotate_left 1
  · intro w hSw
    go_simp
    with_reducible rfl
  simp only [Act.put, List.setIfInBounds_toArray, List.set_cons_zero, List.set_cons_succ]
  refine wpAnyH_take (i := 8) (v := ?_) (by simp only [List.getElem?_toArray, List.getElem?_cons_zero, List.getElem?_cons_succ]; rfl) (by kernel_rfl) (by kernel_rfl) (by kernel_rfl) (fun _ _ _ h => h) (Or.inl ⟨by rfl, ?_⟩) (by assumption) ?_
  rotate_left 1
  · intro w hSw
    go_simp
    with_reducible rfl
  simp only [Act.put, List.setIfInBounds_toArray, List.set_cons_zero, List.set_cons_succ]
  refine wpAnyH_done (by kernel_rfl) ?_ _
  refine NoPanic.normal ?_
  go_wp2
  go_ret
  exact ⟨rfl, T14.out, G14.out⟩
theorem back_any (g : Nat) (st : St) (x : Int) (n : Nat) (s : ByteArray) (w : World) (h : Tp w g st) :
    Calls Try.prog 31 #[.pointer (some ⟨g, 0, none⟩), .agg (thing x n s)] w fun e w' => e = .returned (.bool (backS x n s st).1) ∧ Tp w' g (backS x n s st).2 ∧ Grw g w w' := by
  have := kd_le x
  obtain hk | hk | hk | hk | hk : kd x = 0 ∨ kd x = 1 ∨ kd x = 2 ∨ kd x = 3 ∨ kd x = 4 := by omega
  · exact back_num0 g st x n s hk w h
  · exact back_num1 g st x n s hk w h
  · exact back_num2 g st x n s hk w h
  · exact back_num3 g st x n s hk w h
  · exact back_text g st x n s hk w h
end Go.Proofs.Ytdmdddmfiankhaa
