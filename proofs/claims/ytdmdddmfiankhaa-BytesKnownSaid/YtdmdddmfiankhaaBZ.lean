/- The document's tape: Below, Text: what each call does. Conditions: a tape that lies there. -/
import Derived.Test.YtdmdddmfiankhaaBY
import Derived.Deep.RegionHeld3
namespace Go.Proofs.Ytdmdddmfiankhaa
open Go.RowKit
theorem Tq.beside {w w' : World} {g gq : Nat} {s sq : St} (h : Tq w g s) (hq : Tq w gq sq) (hne : g ≠ gq) (hg : Grw gq w w') : Tq w' g s := by
  obtain ⟨A, cap, bb, off, h1, h2, h3, h4, h5⟩ := h
  obtain ⟨A', cap', bb', off', k1, _⟩ := hq
  have hz := h2.zero
  obtain ⟨t, xs⟩ := s
  rcases Nat.eq_zero_or_pos xs.length with h0 | h0
  · obtain rfl : xs = [] := List.eq_nil_of_length_eq_zero h0
    exact ⟨A, cap, 0, 0, h1.grw hg hne, Bytes.empty hz (Nat.lt_of_le_of_lt (Nat.zero_le _) (Nat.lt_of_lt_of_le h1.inside hg.size)), Nat.ne_of_lt h5, h4, h5⟩
  · refine ⟨A, cap, bb, off, h1.grw hg hne, h2.grw hg (h2.apart h0 k1 fun i x e => ?_), h3, h4, h5⟩
    match i, e with
    | 0, e => simp [V8] at e
    | 1, e => simp [V8] at e
    | i + 2, e => simp at e
/-- What another tape has left, laid into this one. -/
theorem tq_take {w : World} {g gl : Nat} {s s2 : St} (h : Tq w g s) (hl : Tq w gl s2) : ∃ A L cap, w.cell? ⟨gl, 0, none⟩ = some (.slice A L cap) ∧ Hid (s2.2.length = L) ∧ Tq (w.setCell ⟨g, 0, none⟩ (.slice A L cap)) g (s.1, s2.2) ∧ Grw g w (w.setCell ⟨g, 0, none⟩ (.slice A L cap)) := by
  obtain ⟨A, cap, bb, off, h1, h2, h3, h4, h5⟩ := h
  obtain ⟨A', cap', bb', off', k1, k2, k3, k4, k5⟩ := hl
  have hg := Grw.of_set g 0 w (.slice A' s2.2.length cap')
  refine ⟨A', s2.2.length, cap', k1.at_ 0, rfl, ?_, hg⟩
  have hz := k2.zero
  obtain ⟨t2, xs⟩ := s2
  rcases Nat.eq_zero_or_pos xs.length with h0 | h0
  · obtain rfl : xs = [] := List.eq_nil_of_length_eq_zero h0
    exact ⟨A', cap', 0, 0, h1.put 0 _, Bytes.empty hz (Nat.lt_of_le_of_lt (Nat.zero_le _) (Nat.lt_of_lt_of_le h1.inside hg.size)), Nat.ne_of_lt h5, k4, h5⟩
  · have hne : bb' ≠ g := k2.apart h0 h1 fun i x e => by
      match i, e with
      | 0, e => simp [V8] at e
      | 1, e => simp [V8] at e
      | i + 2, e => simp at e
    exact ⟨A', cap', bb', off', h1.put 0 _, k2.grw hg hne, hne, k4, h5⟩
theorem apart_ne {B bb g : Nat} (h : Apart B bb) (h0 : 0 < g) (hg : g < B) : bb ≠ g := by
  rcases h with h | h
  · omega
  · omega
/-- A second tape that is laid beside: of the same bytes. -/
theorem tq_look {w : World} {g : Nat} {s : St} {A : Option Addr} {L cap bb off : Nat} (h : Tq w g s) (hL : s.2.length = L) (hb : Bytes w (.slice A L cap) s.2 A cap bb off) :
    Tq (w.drew.alloc (.cells #[.slice A L cap, .bool s.1] 45)) w.heap.size s ∧ Tq (w.drew.alloc (.cells #[.slice A L cap, .bool s.1] 45)) g s ∧ Below w.heap.size w (w.drew.alloc (.cells #[.slice A L cap, .bool s.1] 45)) := by
  have hB : Below w.heap.size w (w.drew.alloc (.cells #[.slice A L cap, .bool s.1] 45)) := (Below.refl _ _).drew.alloc (Nat.le_refl _) _
  refine ⟨?_, h.kept hB, hB⟩
  subst hL
  have h4 : s.2.length ≤ 100000 := by obtain ⟨_, _, _, _, _, _, _, h4, _⟩ := h; exact h4
  exact ⟨A, cap, bb, off, Has.fresh w.drew 45 _, hb.kept hB (Nat.le_refl _), Nat.ne_of_lt hb.blk, h4, Nat.lt_of_le_of_lt (Nat.zero_le _) h.inside⟩
set_option maxRecDepth 100000 in
set_option maxHeartbeats 1000000 in
theorem qBelow_none (g : Nat) (s : St) (k : Int) (most : Nat) (hn : nxt s k = none) (w : World) (h : Tq w g s) :
    Calls Try.prog 49 #[.pointer (some ⟨g, 0, none⟩), .int .i64 k, .int .u64 (most : Int)] w fun e w' => e = .returned (.int .i64 ((belowS s k most).1 : Nat)) ∧ Tq w' g (belowS s k most).2 ∧ Grw g w w' := by
  have HT0 := hid h
  obtain ⟨A, cap0, bb, off, h1, h2, h3, h4, h5⟩ := id h
  obtain ⟨L, hL⟩ : ∃ L, s.2.length = L := ⟨_, rfl⟩
  obtain ⟨cap, hcap⟩ : ∃ cap, cap0 = cap := ⟨_, rfl⟩
  rw [hL, hcap] at h1 h2
  have c0 : w.cell? ⟨g, 0, none⟩ = some (.slice A L cap) := h1.at_ 0
  have c1 : w.cell? ⟨g, 1, none⟩ = some (.bool s.1) := h1.at_ 1
  obtain ⟨TL, TG, BL⟩ := tq_look h hL h2
  have HZ : Hid ((w.drew.alloc (.cells #[.slice A L cap, .bool s.1] 45)).cell? ⟨g, 0, none⟩ = some (.slice A L cap) ∧ (w.drew.alloc (.cells #[.slice A L cap, .bool s.1] 45)).cell? ⟨g, 1, none⟩ = some (.bool s.1)) :=
    ⟨(h1.kept BL h1.inside).at_ 0, (h1.kept BL h1.inside).at_ 1⟩
  have NE : Hid (g ≠ w.heap.size) := Nat.ne_of_lt h.inside
  have HPG : Hid (0 < g) := h5
  have HTL := hid TL
  have HTG := hid TG
  have HBL := hid BL
  clear h1 h2 h3 h4 h5 hcap TL TG BL
  have CN : Hid (Calls Try.prog 50 #[.pointer (some ⟨w.heap.size, 0, none⟩), .int .i64 k] (w.drew.alloc (.cells #[.slice A L cap, .bool s.1] 45)) fun e w' => e = .returned (.int .u64 0) ∧ Tq w' w.heap.size (tear s) ∧ Grw w.heap.size (w.drew.alloc (.cells #[.slice A L cap, .bool s.1] 45)) w') := by
    have := qNum_any w.heap.size s k _ HTL.out
    rw [numS, hn] at this; exact this
  rw [belowS, hn]
  clear hn
  clear h hL
  go_enter Try.func49, Try.ntmps49
  go_wp2
  refine wp_region_noPanic ?_
  refine wp_region_held_drew (S := fun W => W.cell? ⟨g, 0, none⟩ = some (.slice A L cap) ∧ W.cell? ⟨g, 1, none⟩ = some (.bool s.1)) (by kernel_rfl) (⟨c0, c1⟩) (fun hS => ?_)
  refine wpAnyH_take (i := 0) (v := ?_) (by simp only [List.getElem?_toArray, List.getElem?_cons_zero]; rfl) (by kernel_rfl) (by kernel_rfl) (by kernel_rfl) (fun _ _ _ h => h) (Or.inl ⟨by rfl, ?_⟩) (by assumption) ?_
  rotate_left 1
  · intro w hSw
    go_simp
    with_reducible rfl
  simp only [Act.put, List.setIfInBounds_toArray, List.set_cons_zero, List.set_cons_succ]
  refine wpAnyH_take (i := 1) (v := ?_) (by simp only [List.getElem?_toArray, List.getElem?_cons_zero, List.getElem?_cons_succ]; rfl) (by kernel_rfl) (by kernel_rfl) (by kernel_rfl) (fun _ _ _ h => h) (Or.inl ⟨by rfl, ?_⟩) (by assumption) ?_
  rotate_left 1
  · intro w hSw
    go_simp
    with_reducible rfl
  simp only [Act.put, List.setIfInBounds_toArray, List.set_cons_zero, List.set_cons_succ]
  refine wpAnyH_take (i := 2) (v := ?_) (by simp only [List.getElem?_toArray, List.getElem?_cons_zero, List.getElem?_cons_succ]; rfl) (by kernel_rfl) (by kernel_rfl) (by kernel_rfl) (fun _ _ _ h => h) (Or.inl ⟨by rfl, ?_⟩) (by assumption) ?_
  rotate_left 1
  · intro w hSw
    go_simp
    with_reducible rfl
  simp only [Act.put, List.setIfInBounds_toArray, List.set_cons_zero, List.set_cons_succ]
  refine wpAnyH_take (i := 3) (v := ?_) (by simp only [List.getElem?_toArray, List.getElem?_cons_zero, List.getElem?_cons_succ]; rfl) (by kernel_rfl) (by kernel_rfl) (by kernel_rfl) (fun _ _ _ h => h) (Or.inl ⟨by rfl, ?_⟩) (by assumption) ?_
  rotate_left 1
  · intro w hSw
    have d0 := hSw.1
    go_simp
    with_reducible rfl
  simp only [Act.put, List.setIfInBounds_toArray, List.set_cons_zero, List.set_cons_succ]
  refine wpAnyH_take (i := 4) (v := ?_) (by simp only [List.getElem?_toArray, List.getElem?_cons_zero, List.getElem?_cons_succ]; rfl) (by kernel_rfl) (by kernel_rfl) (by kernel_rfl) (fun _ _ _ h => h) (Or.inl ⟨by rfl, ?_⟩) (by assumption) ?_
  rotate_left 1
  · intro w hSw
    go_simp
    with_reducible rfl
  simp only [Act.put, List.setIfInBounds_toArray, List.set_cons_zero, List.set_cons_succ]
  refine wpAnyH_take (i := 5) (v := ?_) (by simp only [List.getElem?_toArray, List.getElem?_cons_zero, List.getElem?_cons_succ]; rfl) (by kernel_rfl) (by kernel_rfl) (by kernel_rfl) (fun _ _ _ h => h) (Or.inl ⟨by rfl, ?_⟩) (by assumption) ?_
  rotate_left 1
  · intro w hSw
    go_simp
    with_reducible rfl
  simp only [Act.put, List.setIfInBounds_toArray, List.set_cons_zero, List.set_cons_succ]
  refine wpAnyH_take (i := 6) (v := ?_) (by simp only [List.getElem?_toArray, List.getElem?_cons_zero, List.getElem?_cons_succ]; rfl) (by kernel_rfl) (by kernel_rfl) (by kernel_rfl) (fun _ _ _ h => h) (Or.inl ⟨by rfl, ?_⟩) (by assumption) ?_
  rotate_left 1
  · intro w hSw
    go_simp
    with_reducible rfl
  simp only [Act.put, List.setIfInBounds_toArray, List.set_cons_zero, List.set_cons_succ]
  refine wpAnyH_take (i := 7) (v := ?_) (by simp only [List.getElem?_toArray, List.getElem?_cons_zero, List.getElem?_cons_succ]; rfl) (by kernel_rfl) (by kernel_rfl) (by kernel_rfl) (fun _ _ _ h => h) (Or.inl ⟨by rfl, ?_⟩) (by assumption) ?_
  rotate_left 1
  · intro w hSw
    have d1 := hSw.2
    go_simp
    with_reducible rfl
  simp only [Act.put, List.setIfInBounds_toArray, List.set_cons_zero, List.set_cons_succ]
  refine wpAnyH_take (i := 8) (v := ?_) (by simp only [List.getElem?_toArray, List.getElem?_cons_zero, List.getElem?_cons_succ]; rfl) (by kernel_rfl) (by kernel_rfl) (by kernel_rfl) (fun _ _ _ h => h) (Or.inl ⟨by rfl, ?_⟩) (by assumption) ?_
  rotate_left 1
  · intro w hSw
    go_simp
    with_reducible rfl
  simp only [Act.put, List.setIfInBounds_toArray, List.set_cons_zero, List.set_cons_succ]
  refine wpAnyH_ready (rs := [9]) (by kernel_rfl) (by simp) ?_
  refine AllReadyH.cons (by simp only [List.getElem?_toArray, List.getElem?_cons_zero, List.getElem?_cons_succ]; rfl) (fun K hK => ?_) AllReadyH.nil
  have hz1 : (w.drew.alloc (.cells #[.slice A L cap, .bool s.1] 45)).cell? ⟨g, 0, none⟩ = some (.slice A L cap) ∧ (w.drew.alloc (.cells #[.slice A L cap, .bool s.1] 45)).cell? ⟨g, 1, none⟩ = some (.bool s.1) := HZ.out
  go_simp
  refine hK.out _ _ hz1 (fun hS => ?_)
  clear hK K hS
  refine wpAnyH_take (i := 10) (v := ?_) (by simp only [List.getElem?_toArray, List.getElem?_cons_zero, List.getElem?_cons_succ]; rfl) (by kernel_rfl) (by kernel_rfl) (by kernel_rfl) (fun _ _ _ h => h) (Or.inl ⟨by rfl, ?_⟩) (by assumption) ?_
  rotate_left 1
  · intro w hSw
    go_simp
    with_reducible rfl
  simp only [Act.put, List.setIfInBounds_toArray, List.set_cons_zero, List.set_cons_succ]
  refine wpAnyH_done (by kernel_rfl) ?_ _
  refine NoPanic.normal ?_
  clear c0 c1 hz1 HZ
  go_wp2_with (first
    | (go_at_call 50; refine CN.out.mono ?_; rintro e2 w2 ⟨rfl, ht, hg⟩
       have T2 := hid ht
       have G2 := hid (HTG.out.beside HTL.out NE.out hg)
       have B2 : Hid (Below w.heap.size w w2) := Grw.below HBL.out hg (Nat.le_refl _) HBL.out.size
       clear ht hg
       obtain ⟨A2, cap2, bb2, off2, k1, _⟩ := T2.out
       have d1 : w2.cell? ⟨w.heap.size, 1, none⟩ = some (.bool true) := k1.at_ 1
       obtain ⟨A3, cap3, bb3, off3, k2, _⟩ := G2.out
       have d2 := k2.at_ 1
       have f2 := k2.free 1
       have HTQ := hid (tearq_at G2.out)
       clear k1 k2))
  go_ret
  exact ⟨rfl, HTQ.out.1, (Grw.of_below B2.out).trans HTQ.out.2⟩
set_option maxRecDepth 100000 in
set_option maxHeartbeats 1000000 in
theorem qBelow_above (g : Nat) (s : St) (k : Int) (most : Nat) (n : Nat) (hn : nxt s k = some n) (hc : most < n) (w : World) (h : Tq w g s) :
    Calls Try.prog 49 #[.pointer (some ⟨g, 0, none⟩), .int .i64 k, .int .u64 (most : Int)] w fun e w' => e = .returned (.int .i64 ((belowS s k most).1 : Nat)) ∧ Tq w' g (belowS s k most).2 ∧ Grw g w w' := by
  have HT0 := hid h
  obtain ⟨A, cap0, bb, off, h1, h2, h3, h4, h5⟩ := id h
  obtain ⟨L, hL⟩ : ∃ L, s.2.length = L := ⟨_, rfl⟩
  obtain ⟨cap, hcap⟩ : ∃ cap, cap0 = cap := ⟨_, rfl⟩
  rw [hL, hcap] at h1 h2
  have c0 : w.cell? ⟨g, 0, none⟩ = some (.slice A L cap) := h1.at_ 0
  have c1 : w.cell? ⟨g, 1, none⟩ = some (.bool s.1) := h1.at_ 1
  obtain ⟨TL, TG, BL⟩ := tq_look h hL h2
  have HZ : Hid ((w.drew.alloc (.cells #[.slice A L cap, .bool s.1] 45)).cell? ⟨g, 0, none⟩ = some (.slice A L cap) ∧ (w.drew.alloc (.cells #[.slice A L cap, .bool s.1] 45)).cell? ⟨g, 1, none⟩ = some (.bool s.1)) :=
    ⟨(h1.kept BL h1.inside).at_ 0, (h1.kept BL h1.inside).at_ 1⟩
  have NE : Hid (g ≠ w.heap.size) := Nat.ne_of_lt h.inside
  have HPG : Hid (0 < g) := h5
  have HTL := hid TL
  have HTG := hid TG
  have HBL := hid BL
  clear h1 h2 h3 h4 h5 hcap TL TG BL
  have CN : Hid (Calls Try.prog 50 #[.pointer (some ⟨w.heap.size, 0, none⟩), .int .i64 k] (w.drew.alloc (.cells #[.slice A L cap, .bool s.1] 45)) fun e w' => e = .returned (.int .u64 (n : Int)) ∧ Tq w' w.heap.size (s.1, s.2.drop k.toNat) ∧ Grw w.heap.size (w.drew.alloc (.cells #[.slice A L cap, .bool s.1] 45)) w') := by
    have := qNum_any w.heap.size s k _ HTL.out
    rw [numS, hn] at this; exact this
  have hs1 : Hid (s.1 = false) := (nxt_lt s k n hn).2.2.2.2
  rw [belowS, hn]
  simp only [if_neg (show ¬ (n ≤ most ∧ n ≤ 4611686018427387904) by omega)]
  have b1 : (most : Int) < (n : Int) := by omega
  clear hc
  clear hn
  clear h hL
  go_enter Try.func49, Try.ntmps49
  go_wp2
  refine wp_region_noPanic ?_
  refine wp_region_held_drew (S := fun W => W.cell? ⟨g, 0, none⟩ = some (.slice A L cap) ∧ W.cell? ⟨g, 1, none⟩ = some (.bool s.1)) (by kernel_rfl) (⟨c0, c1⟩) (fun hS => ?_)
  refine wpAnyH_take (i := 0) (v := ?_) (by simp only [List.getElem?_toArray, List.getElem?_cons_zero]; rfl) (by kernel_rfl) (by kernel_rfl) (by kernel_rfl) (fun _ _ _ h => h) (Or.inl ⟨by rfl, ?_⟩) (by assumption) ?_
  rotate_left 1
  · intro w hSw
    go_simp
    with_reducible rfl
  simp only [Act.put, List.setIfInBounds_toArray, List.set_cons_zero, List.set_cons_succ]
  refine wpAnyH_take (i := 1) (v := ?_) (by simp only [List.getElem?_toArray, List.getElem?_cons_zero, List.getElem?_cons_succ]; rfl) (by kernel_rfl) (by kernel_rfl) (by kernel_rfl) (fun _ _ _ h => h) (Or.inl ⟨by rfl, ?_⟩) (by assumption) ?_
  rotate_left 1
  · intro w hSw
    go_simp
    with_reducible rfl
  simp only [Act.put, List.setIfInBounds_toArray, List.set_cons_zero, List.set_cons_succ]
  refine wpAnyH_take (i := 2) (v := ?_) (by simp only [List.getElem?_toArray, List.getElem?_cons_zero, List.getElem?_cons_succ]; rfl) (by kernel_rfl) (by kernel_rfl) (by kernel_rfl) (fun _ _ _ h => h) (Or.inl ⟨by rfl, ?_⟩) (by assumption) ?_
  rotate_left 1
  · intro w hSw
    go_simp
    with_reducible rfl
  simp only [Act.put, List.setIfInBounds_toArray, List.set_cons_zero, List.set_cons_succ]
  refine wpAnyH_take (i := 3) (v := ?_) (by simp only [List.getElem?_toArray, List.getElem?_cons_zero, List.getElem?_cons_succ]; rfl) (by kernel_rfl) (by kernel_rfl) (by kernel_rfl) (fun _ _ _ h => h) (Or.inl ⟨by rfl, ?_⟩) (by assumption) ?_
  rotate_left 1
  · intro w hSw
    have d0 := hSw.1
    go_simp
    with_reducible rfl
  simp only [Act.put, List.setIfInBounds_toArray, List.set_cons_zero, List.set_cons_succ]
  refine wpAnyH_take (i := 4) (v := ?_) (by simp only [List.getElem?_toArray, List.getElem?_cons_zero, List.getElem?_cons_succ]; rfl) (by kernel_rfl) (by kernel_rfl) (by kernel_rfl) (fun _ _ _ h => h) (Or.inl ⟨by rfl, ?_⟩) (by assumption) ?_
  rotate_left 1
  · intro w hSw
    go_simp
    with_reducible rfl
  simp only [Act.put, List.setIfInBounds_toArray, List.set_cons_zero, List.set_cons_succ]
  refine wpAnyH_take (i := 5) (v := ?_) (by simp only [List.getElem?_toArray, List.getElem?_cons_zero, List.getElem?_cons_succ]; rfl) (by kernel_rfl) (by kernel_rfl) (by kernel_rfl) (fun _ _ _ h => h) (Or.inl ⟨by rfl, ?_⟩) (by assumption) ?_
  rotate_left 1
  · intro w hSw
    go_simp
    with_reducible rfl
  simp only [Act.put, List.setIfInBounds_toArray, List.set_cons_zero, List.set_cons_succ]
  refine wpAnyH_take (i := 6) (v := ?_) (by simp only [List.getElem?_toArray, List.getElem?_cons_zero, List.getElem?_cons_succ]; rfl) (by kernel_rfl) (by kernel_rfl) (by kernel_rfl) (fun _ _ _ h => h) (Or.inl ⟨by rfl, ?_⟩) (by assumption) ?_
  rotate_left 1
  · intro w hSw
    go_simp
    with_reducible rfl
  simp only [Act.put, List.setIfInBounds_toArray, List.set_cons_zero, List.set_cons_succ]
  refine wpAnyH_take (i := 7) (v := ?_) (by simp only [List.getElem?_toArray, List.getElem?_cons_zero, List.getElem?_cons_succ]; rfl) (by kernel_rfl) (by kernel_rfl) (by kernel_rfl) (fun _ _ _ h => h) (Or.inl ⟨by rfl, ?_⟩) (by assumption) ?_
  rotate_left 1
  · intro w hSw
    have d1 := hSw.2
    go_simp
    with_reducible rfl
  simp only [Act.put, List.setIfInBounds_toArray, List.set_cons_zero, List.set_cons_succ]
  refine wpAnyH_take (i := 8) (v := ?_) (by simp only [List.getElem?_toArray, List.getElem?_cons_zero, List.getElem?_cons_succ]; rfl) (by kernel_rfl) (by kernel_rfl) (by kernel_rfl) (fun _ _ _ h => h) (Or.inl ⟨by rfl, ?_⟩) (by assumption) ?_
  rotate_left 1
  · intro w hSw
    go_simp
    with_reducible rfl
  simp only [Act.put, List.setIfInBounds_toArray, List.set_cons_zero, List.set_cons_succ]
  refine wpAnyH_ready (rs := [9]) (by kernel_rfl) (by simp) ?_
  refine AllReadyH.cons (by simp only [List.getElem?_toArray, List.getElem?_cons_zero, List.getElem?_cons_succ]; rfl) (fun K hK => ?_) AllReadyH.nil
  have hz1 : (w.drew.alloc (.cells #[.slice A L cap, .bool s.1] 45)).cell? ⟨g, 0, none⟩ = some (.slice A L cap) ∧ (w.drew.alloc (.cells #[.slice A L cap, .bool s.1] 45)).cell? ⟨g, 1, none⟩ = some (.bool s.1) := HZ.out
  go_simp
  refine hK.out _ _ hz1 (fun hS => ?_)
  clear hK K hS
  refine wpAnyH_take (i := 10) (v := ?_) (by simp only [List.getElem?_toArray, List.getElem?_cons_zero, List.getElem?_cons_succ]; rfl) (by kernel_rfl) (by kernel_rfl) (by kernel_rfl) (fun _ _ _ h => h) (Or.inl ⟨by rfl, ?_⟩) (by assumption) ?_
  rotate_left 1
  · intro w hSw
    go_simp
    with_reducible rfl
  simp only [Act.put, List.setIfInBounds_toArray, List.set_cons_zero, List.set_cons_succ]
  refine wpAnyH_done (by kernel_rfl) ?_ _
  refine NoPanic.normal ?_
  clear c0 c1 hz1 HZ
  go_wp2_with (first
    | (go_at_call 50; refine CN.out.mono ?_; rintro e2 w2 ⟨rfl, ht, hg⟩
       have T2 := hid ht
       have G2 := hid (HTG.out.beside HTL.out NE.out hg)
       have B2 : Hid (Below w.heap.size w w2) := Grw.below HBL.out hg (Nat.le_refl _) HBL.out.size
       clear ht hg
       obtain ⟨A2, cap2, bb2, off2, k1, _⟩ := T2.out
       have d1 : w2.cell? ⟨w.heap.size, 1, none⟩ = some (.bool s.1) := k1.at_ 1
       rw [hs1.out] at d1
       obtain ⟨A3, cap3, bb3, off3, k2, _⟩ := G2.out
       have d2 := k2.at_ 1
       have f2 := k2.free 1
       have HTQ := hid (tearq_at G2.out)
       clear k1 k2))
  go_ret
  exact ⟨rfl, HTQ.out.1, (Grw.of_below B2.out).trans HTQ.out.2⟩
set_option maxRecDepth 100000 in
set_option maxHeartbeats 1000000 in
theorem qBelow_top (g : Nat) (s : St) (k : Int) (most : Nat) (n : Nat) (hn : nxt s k = some n) (hm : ¬ most < n) (hc : 4611686018427387904 < n) (w : World) (h : Tq w g s) :
    Calls Try.prog 49 #[.pointer (some ⟨g, 0, none⟩), .int .i64 k, .int .u64 (most : Int)] w fun e w' => e = .returned (.int .i64 ((belowS s k most).1 : Nat)) ∧ Tq w' g (belowS s k most).2 ∧ Grw g w w' := by
  have HT0 := hid h
  obtain ⟨A, cap0, bb, off, h1, h2, h3, h4, h5⟩ := id h
  obtain ⟨L, hL⟩ : ∃ L, s.2.length = L := ⟨_, rfl⟩
  obtain ⟨cap, hcap⟩ : ∃ cap, cap0 = cap := ⟨_, rfl⟩
  rw [hL, hcap] at h1 h2
  have c0 : w.cell? ⟨g, 0, none⟩ = some (.slice A L cap) := h1.at_ 0
  have c1 : w.cell? ⟨g, 1, none⟩ = some (.bool s.1) := h1.at_ 1
  obtain ⟨TL, TG, BL⟩ := tq_look h hL h2
  have HZ : Hid ((w.drew.alloc (.cells #[.slice A L cap, .bool s.1] 45)).cell? ⟨g, 0, none⟩ = some (.slice A L cap) ∧ (w.drew.alloc (.cells #[.slice A L cap, .bool s.1] 45)).cell? ⟨g, 1, none⟩ = some (.bool s.1)) :=
    ⟨(h1.kept BL h1.inside).at_ 0, (h1.kept BL h1.inside).at_ 1⟩
  have NE : Hid (g ≠ w.heap.size) := Nat.ne_of_lt h.inside
  have HPG : Hid (0 < g) := h5
  have HTL := hid TL
  have HTG := hid TG
  have HBL := hid BL
  clear h1 h2 h3 h4 h5 hcap TL TG BL
  have CN : Hid (Calls Try.prog 50 #[.pointer (some ⟨w.heap.size, 0, none⟩), .int .i64 k] (w.drew.alloc (.cells #[.slice A L cap, .bool s.1] 45)) fun e w' => e = .returned (.int .u64 (n : Int)) ∧ Tq w' w.heap.size (s.1, s.2.drop k.toNat) ∧ Grw w.heap.size (w.drew.alloc (.cells #[.slice A L cap, .bool s.1] 45)) w') := by
    have := qNum_any w.heap.size s k _ HTL.out
    rw [numS, hn] at this; exact this
  have hs1 : Hid (s.1 = false) := (nxt_lt s k n hn).2.2.2.2
  rw [belowS, hn]
  simp only [if_neg (show ¬ (n ≤ most ∧ n ≤ 4611686018427387904) by omega)]
  have b1 : ¬ (most : Int) < (n : Int) := by omega
  have b2 : (4611686018427387904 : Int) < (n : Int) := by omega
  clear hc hm
  clear hn
  clear h hL
  go_enter Try.func49, Try.ntmps49
  go_wp2
  refine wp_region_noPanic ?_
  refine wp_region_held_drew (S := fun W => W.cell? ⟨g, 0, none⟩ = some (.slice A L cap) ∧ W.cell? ⟨g, 1, none⟩ = some (.bool s.1)) (by kernel_rfl) (⟨c0, c1⟩) (fun hS => ?_)
  refine wpAnyH_take (i := 0) (v := ?_) (by simp only [List.getElem?_toArray, List.getElem?_cons_zero]; rfl) (by kernel_rfl) (by kernel_rfl) (by kernel_rfl) (fun _ _ _ h => h) (Or.inl ⟨by rfl, ?_⟩) (by assumption) ?_
  rotate_left 1
  · intro w hSw
    go_simp
    with_reducible rfl
  simp only [Act.put, List.setIfInBounds_toArray, List.set_cons_zero, List.set_cons_succ]
  refine wpAnyH_take (i := 1) (v := ?_) (by simp only [List.getElem?_toArray, List.getElem?_cons_zero, List.getElem?_cons_succ]; rfl) (by kernel_rfl) (by kernel_rfl) (by kernel_rfl) (fun _ _ _ h => h) (Or.inl ⟨by rfl, ?_⟩) (by assumption) ?_
  rotate_left 1
  · intro w hSw
    go_simp
    with_reducible rfl
  simp only [Act.put, List.setIfInBounds_toArray, List.set_cons_zero, List.set_cons_succ]
  refine wpAnyH_take (i := 2) (v := ?_) (by simp only [List.getElem?_toArray, List.getElem?_cons_zero, List.getElem?_cons_succ]; rfl) (by kernel_rfl) (by kernel_rfl) (by kernel_rfl) (fun _ _ _ h => h) (Or.inl ⟨by rfl, ?_⟩) (by assumption) ?_
  rotate_left 1
  · intro w hSw
    go_simp
    with_reducible rfl
  simp only [Act.put, List.setIfInBounds_toArray, List.set_cons_zero, List.set_cons_succ]
  refine wpAnyH_take (i := 3) (v := ?_) (by simp only [List.getElem?_toArray, List.getElem?_cons_zero, List.getElem?_cons_succ]; rfl) (by kernel_rfl) (by kernel_rfl) (by kernel_rfl) (fun _ _ _ h => h) (Or.inl ⟨by rfl, ?_⟩) (by assumption) ?_
  rotate_left 1
  · intro w hSw
    have d0 := hSw.1
    go_simp
    with_reducible rfl
  simp only [Act.put, List.setIfInBounds_toArray, List.set_cons_zero, List.set_cons_succ]
  refine wpAnyH_take (i := 4) (v := ?_) (by simp only [List.getElem?_toArray, List.getElem?_cons_zero, List.getElem?_cons_succ]; rfl) (by kernel_rfl) (by kernel_rfl) (by kernel_rfl) (fun _ _ _ h => h) (Or.inl ⟨by rfl, ?_⟩) (by assumption) ?_
  rotate_left 1
  · intro w hSw
    go_simp
    with_reducible rfl
  simp only [Act.put, List.setIfInBounds_toArray, List.set_cons_zero, List.set_cons_succ]
  refine wpAnyH_take (i := 5) (v := ?_) (by simp only [List.getElem?_toArray, List.getElem?_cons_zero, List.getElem?_cons_succ]; rfl) (by kernel_rfl) (by kernel_rfl) (by kernel_rfl) (fun _ _ _ h => h) (Or.inl ⟨by rfl, ?_⟩) (by assumption) ?_
  rotate_left 1
  · intro w hSw
    go_simp
    with_reducible rfl
  simp only [Act.put, List.setIfInBounds_toArray, List.set_cons_zero, List.set_cons_succ]
  refine wpAnyH_take (i := 6) (v := ?_) (by simp only [List.getElem?_toArray, List.getElem?_cons_zero, List.getElem?_cons_succ]; rfl) (by kernel_rfl) (by kernel_rfl) (by kernel_rfl) (fun _ _ _ h => h) (Or.inl ⟨by rfl, ?_⟩) (by assumption) ?_
  rotate_left 1
  · intro w hSw
    go_simp
    with_reducible rfl
  simp only [Act.put, List.setIfInBounds_toArray, List.set_cons_zero, List.set_cons_succ]
  refine wpAnyH_take (i := 7) (v := ?_) (by simp only [List.getElem?_toArray, List.getElem?_cons_zero, List.getElem?_cons_succ]; rfl) (by kernel_rfl) (by kernel_rfl) (by kernel_rfl) (fun _ _ _ h => h) (Or.inl ⟨by rfl, ?_⟩) (by assumption) ?_
  rotate_left 1
  · intro w hSw
    have d1 := hSw.2
    go_simp
    with_reducible rfl
  simp only [Act.put, List.setIfInBounds_toArray, List.set_cons_zero, List.set_cons_succ]
  refine wpAnyH_take (i := 8) (v := ?_) (by simp only [List.getElem?_toArray, List.getElem?_cons_zero, List.getElem?_cons_succ]; rfl) (by kernel_rfl) (by kernel_rfl) (by kernel_rfl) (fun _ _ _ h => h) (Or.inl ⟨by rfl, ?_⟩) (by assumption) ?_
  rotate_left 1
  · intro w hSw
    go_simp
    with_reducible rfl
  simp only [Act.put, List.setIfInBounds_toArray, List.set_cons_zero, List.set_cons_succ]
  refine wpAnyH_ready (rs := [9]) (by kernel_rfl) (by simp) ?_
  refine AllReadyH.cons (by simp only [List.getElem?_toArray, List.getElem?_cons_zero, List.getElem?_cons_succ]; rfl) (fun K hK => ?_) AllReadyH.nil
  have hz1 : (w.drew.alloc (.cells #[.slice A L cap, .bool s.1] 45)).cell? ⟨g, 0, none⟩ = some (.slice A L cap) ∧ (w.drew.alloc (.cells #[.slice A L cap, .bool s.1] 45)).cell? ⟨g, 1, none⟩ = some (.bool s.1) := HZ.out
  go_simp
  refine hK.out _ _ hz1 (fun hS => ?_)
  clear hK K hS
  refine wpAnyH_take (i := 10) (v := ?_) (by simp only [List.getElem?_toArray, List.getElem?_cons_zero, List.getElem?_cons_succ]; rfl) (by kernel_rfl) (by kernel_rfl) (by kernel_rfl) (fun _ _ _ h => h) (Or.inl ⟨by rfl, ?_⟩) (by assumption) ?_
  rotate_left 1
  · intro w hSw
    go_simp
    with_reducible rfl
  simp only [Act.put, List.setIfInBounds_toArray, List.set_cons_zero, List.set_cons_succ]
  refine wpAnyH_done (by kernel_rfl) ?_ _
  refine NoPanic.normal ?_
  clear c0 c1 hz1 HZ
  go_wp2_with (first
    | (go_at_call 50; refine CN.out.mono ?_; rintro e2 w2 ⟨rfl, ht, hg⟩
       have T2 := hid ht
       have G2 := hid (HTG.out.beside HTL.out NE.out hg)
       have B2 : Hid (Below w.heap.size w w2) := Grw.below HBL.out hg (Nat.le_refl _) HBL.out.size
       clear ht hg
       obtain ⟨A2, cap2, bb2, off2, k1, _⟩ := T2.out
       have d1 : w2.cell? ⟨w.heap.size, 1, none⟩ = some (.bool s.1) := k1.at_ 1
       rw [hs1.out] at d1
       obtain ⟨A3, cap3, bb3, off3, k2, _⟩ := G2.out
       have d2 := k2.at_ 1
       have f2 := k2.free 1
       have HTQ := hid (tearq_at G2.out)
       clear k1 k2))
  go_ret
  exact ⟨rfl, HTQ.out.1, (Grw.of_below B2.out).trans HTQ.out.2⟩
set_option maxRecDepth 100000 in
set_option maxHeartbeats 1000000 in
theorem qBelow_good (g : Nat) (s : St) (k : Int) (most : Nat) (n : Nat) (hn : nxt s k = some n) (hm : ¬ most < n) (hc : ¬ 4611686018427387904 < n) (w : World) (h : Tq w g s) :
    Calls Try.prog 49 #[.pointer (some ⟨g, 0, none⟩), .int .i64 k, .int .u64 (most : Int)] w fun e w' => e = .returned (.int .i64 ((belowS s k most).1 : Nat)) ∧ Tq w' g (belowS s k most).2 ∧ Grw g w w' := by
  have HT0 := hid h
  obtain ⟨A, cap0, bb, off, h1, h2, h3, h4, h5⟩ := id h
  obtain ⟨L, hL⟩ : ∃ L, s.2.length = L := ⟨_, rfl⟩
  obtain ⟨cap, hcap⟩ : ∃ cap, cap0 = cap := ⟨_, rfl⟩
  rw [hL, hcap] at h1 h2
  have c0 : w.cell? ⟨g, 0, none⟩ = some (.slice A L cap) := h1.at_ 0
  have c1 : w.cell? ⟨g, 1, none⟩ = some (.bool s.1) := h1.at_ 1
  obtain ⟨TL, TG, BL⟩ := tq_look h hL h2
  have HZ : Hid ((w.drew.alloc (.cells #[.slice A L cap, .bool s.1] 45)).cell? ⟨g, 0, none⟩ = some (.slice A L cap) ∧ (w.drew.alloc (.cells #[.slice A L cap, .bool s.1] 45)).cell? ⟨g, 1, none⟩ = some (.bool s.1)) :=
    ⟨(h1.kept BL h1.inside).at_ 0, (h1.kept BL h1.inside).at_ 1⟩
  have NE : Hid (g ≠ w.heap.size) := Nat.ne_of_lt h.inside
  have HPG : Hid (0 < g) := h5
  have HTL := hid TL
  have HTG := hid TG
  have HBL := hid BL
  clear h1 h2 h3 h4 h5 hcap TL TG BL
  have CN : Hid (Calls Try.prog 50 #[.pointer (some ⟨w.heap.size, 0, none⟩), .int .i64 k] (w.drew.alloc (.cells #[.slice A L cap, .bool s.1] 45)) fun e w' => e = .returned (.int .u64 (n : Int)) ∧ Tq w' w.heap.size (s.1, s.2.drop k.toNat) ∧ Grw w.heap.size (w.drew.alloc (.cells #[.slice A L cap, .bool s.1] 45)) w') := by
    have := qNum_any w.heap.size s k _ HTL.out
    rw [numS, hn] at this; exact this
  have hs1 : Hid (s.1 = false) := (nxt_lt s k n hn).2.2.2.2
  rw [belowS, hn]
  simp only [if_pos (show n ≤ most ∧ n ≤ 4611686018427387904 by omega)]
  have b1 : ¬ (most : Int) < (n : Int) := by omega
  have b2 : ¬ (4611686018427387904 : Int) < (n : Int) := by omega
  have b3 : IntKind.i64.wrap (n : Int) = n := i64in _ (by omega) (by omega)
  clear hc hm
  clear hn
  clear h hL
  go_enter Try.func49, Try.ntmps49
  go_wp2
  refine wp_region_noPanic ?_
  refine wp_region_held_drew (S := fun W => W.cell? ⟨g, 0, none⟩ = some (.slice A L cap) ∧ W.cell? ⟨g, 1, none⟩ = some (.bool s.1)) (by kernel_rfl) (⟨c0, c1⟩) (fun hS => ?_)
  refine wpAnyH_take (i := 0) (v := ?_) (by simp only [List.getElem?_toArray, List.getElem?_cons_zero]; rfl) (by kernel_rfl) (by kernel_rfl) (by kernel_rfl) (fun _ _ _ h => h) (Or.inl ⟨by rfl, ?_⟩) (by assumption) ?_
  rotate_left 1
  · intro w hSw
    go_simp
    with_reducible rfl
  simp only [Act.put, List.setIfInBounds_toArray, List.set_cons_zero, List.set_cons_succ]
  refine wpAnyH_take (i := 1) (v := ?_) (by simp only [List.getElem?_toArray, List.getElem?_cons_zero, List.getElem?_cons_succ]; rfl) (by kernel_rfl) (by kernel_rfl) (by kernel_rfl) (fun _ _ _ h => h) (Or.inl ⟨by rfl, ?_⟩) (by assumption) ?_
  rotate_left 1
  · intro w hSw
    go_simp
    with_reducible rfl
  simp only [Act.put, List.setIfInBounds_toArray, List.set_cons_zero, List.set_cons_succ]
  refine wpAnyH_take (i := 2) (v := ?_) (by simp only [List.getElem?_toArray, List.getElem?_cons_zero, List.getElem?_cons_succ]; rfl) (by kernel_rfl) (by kernel_rfl) (by kernel_rfl) (fun _ _ _ h => h) (Or.inl ⟨by rfl, ?_⟩) (by assumption) ?_
  rotate_left 1
  · intro w hSw
    go_simp
    with_reducible rfl
  simp only [Act.put, List.setIfInBounds_toArray, List.set_cons_zero, List.set_cons_succ]
  refine wpAnyH_take (i := 3) (v := ?_) (by simp only [List.getElem?_toArray, List.getElem?_cons_zero, List.getElem?_cons_succ]; rfl) (by kernel_rfl) (by kernel_rfl) (by kernel_rfl) (fun _ _ _ h => h) (Or.inl ⟨by rfl, ?_⟩) (by assumption) ?_
  rotate_left 1
  · intro w hSw
    have d0 := hSw.1
    go_simp
    with_reducible rfl
  simp only [Act.put, List.setIfInBounds_toArray, List.set_cons_zero, List.set_cons_succ]
  refine wpAnyH_take (i := 4) (v := ?_) (by simp only [List.getElem?_toArray, List.getElem?_cons_zero, List.getElem?_cons_succ]; rfl) (by kernel_rfl) (by kernel_rfl) (by kernel_rfl) (fun _ _ _ h => h) (Or.inl ⟨by rfl, ?_⟩) (by assumption) ?_
  rotate_left 1
  · intro w hSw
    go_simp
    with_reducible rfl
  simp only [Act.put, List.setIfInBounds_toArray, List.set_cons_zero, List.set_cons_succ]
  refine wpAnyH_take (i := 5) (v := ?_) (by simp only [List.getElem?_toArray, List.getElem?_cons_zero, List.getElem?_cons_succ]; rfl) (by kernel_rfl) (by kernel_rfl) (by kernel_rfl) (fun _ _ _ h => h) (Or.inl ⟨by rfl, ?_⟩) (by assumption) ?_
  rotate_left 1
  · intro w hSw
    go_simp
    with_reducible rfl
  simp only [Act.put, List.setIfInBounds_toArray, List.set_cons_zero, List.set_cons_succ]
  refine wpAnyH_take (i := 6) (v := ?_) (by simp only [List.getElem?_toArray, List.getElem?_cons_zero, List.getElem?_cons_succ]; rfl) (by kernel_rfl) (by kernel_rfl) (by kernel_rfl) (fun _ _ _ h => h) (Or.inl ⟨by rfl, ?_⟩) (by assumption) ?_
  rotate_left 1
  · intro w hSw
    go_simp
    with_reducible rfl
  simp only [Act.put, List.setIfInBounds_toArray, List.set_cons_zero, List.set_cons_succ]
  refine wpAnyH_take (i := 7) (v := ?_) (by simp only [List.getElem?_toArray, List.getElem?_cons_zero, List.getElem?_cons_succ]; rfl) (by kernel_rfl) (by kernel_rfl) (by kernel_rfl) (fun _ _ _ h => h) (Or.inl ⟨by rfl, ?_⟩) (by assumption) ?_
  rotate_left 1
  · intro w hSw
    have d1 := hSw.2
    go_simp
    with_reducible rfl
  simp only [Act.put, List.setIfInBounds_toArray, List.set_cons_zero, List.set_cons_succ]
  refine wpAnyH_take (i := 8) (v := ?_) (by simp only [List.getElem?_toArray, List.getElem?_cons_zero, List.getElem?_cons_succ]; rfl) (by kernel_rfl) (by kernel_rfl) (by kernel_rfl) (fun _ _ _ h => h) (Or.inl ⟨by rfl, ?_⟩) (by assumption) ?_
  rotate_left 1
  · intro w hSw
    go_simp
    with_reducible rfl
  simp only [Act.put, List.setIfInBounds_toArray, List.set_cons_zero, List.set_cons_succ]
  refine wpAnyH_ready (rs := [9]) (by kernel_rfl) (by simp) ?_
  refine AllReadyH.cons (by simp only [List.getElem?_toArray, List.getElem?_cons_zero, List.getElem?_cons_succ]; rfl) (fun K hK => ?_) AllReadyH.nil
  have hz1 : (w.drew.alloc (.cells #[.slice A L cap, .bool s.1] 45)).cell? ⟨g, 0, none⟩ = some (.slice A L cap) ∧ (w.drew.alloc (.cells #[.slice A L cap, .bool s.1] 45)).cell? ⟨g, 1, none⟩ = some (.bool s.1) := HZ.out
  go_simp
  refine hK.out _ _ hz1 (fun hS => ?_)
  clear hK K hS
  refine wpAnyH_take (i := 10) (v := ?_) (by simp only [List.getElem?_toArray, List.getElem?_cons_zero, List.getElem?_cons_succ]; rfl) (by kernel_rfl) (by kernel_rfl) (by kernel_rfl) (fun _ _ _ h => h) (Or.inl ⟨by rfl, ?_⟩) (by assumption) ?_
  rotate_left 1
  · intro w hSw
    go_simp
    with_reducible rfl
  simp only [Act.put, List.setIfInBounds_toArray, List.set_cons_zero, List.set_cons_succ]
  refine wpAnyH_done (by kernel_rfl) ?_ _
  refine NoPanic.normal ?_
  clear c0 c1 hz1 HZ
  go_wp2_with (first
    | (go_at_call 50; refine CN.out.mono ?_; rintro e2 w2 ⟨rfl, ht, hg⟩
       have T2 := hid ht
       have G2 := hid (HTG.out.beside HTL.out NE.out hg)
       have B2 : Hid (Below w.heap.size w w2) := Grw.below HBL.out hg (Nat.le_refl _) HBL.out.size
       clear ht hg
       obtain ⟨A2, cap2, bb2, off2, k1, _⟩ := T2.out
       have d1 : w2.cell? ⟨w.heap.size, 1, none⟩ = some (.bool s.1) := k1.at_ 1
       rw [hs1.out] at d1
       obtain ⟨A4, L4, cap4, d4, _, T4, G4⟩ := tq_take G2.out T2.out
       have HT4 := hid T4
       have HG4 := hid G4
       obtain ⟨A3, cap3, bb3, off3, k2, _⟩ := G2.out
       have d2 := k2.at_ 0
       have f2 := k2.free 0
       clear k1 k2 T4 G4))
  go_ret
  exact ⟨rfl, HT4.out, (Grw.of_below B2.out).trans HG4.out⟩
theorem qBelow_any (g : Nat) (s : St) (k : Int) (most : Nat) (w : World) (h : Tq w g s) :
    Calls Try.prog 49 #[.pointer (some ⟨g, 0, none⟩), .int .i64 k, .int .u64 (most : Int)] w fun e w' => e = .returned (.int .i64 ((belowS s k most).1 : Nat)) ∧ Tq w' g (belowS s k most).2 ∧ Grw g w w' := by
  rcases hn : nxt s k with _ | n
  · exact qBelow_none g s k most hn w h
  · by_cases h1 : most < n
    · exact qBelow_above g s k most n hn h1 w h
    · by_cases h2 : 4611686018427387904 < n
      · exact qBelow_top g s k most n hn h1 h2 w h
      · exact qBelow_good g s k most n hn h1 h2 w h
set_option maxRecDepth 100000 in
set_option maxHeartbeats 1000000 in
theorem qText_none (g : Nat) (s : St) (most : Int) (_him : I64 most) (hn : nxt s 2 = none) (w : World) (h : Tq w g s) :
    Calls Try.prog 51 #[.pointer (some ⟨g, 0, none⟩), .int .i64 most] w fun e w' => e = .returned (.string (ba (textS s most).1)) ∧ Tq w' g (textS s most).2 ∧ Grw g w w' := by
  have HT0 := hid h
  obtain ⟨A, cap0, bb, off, h1, h2, h3, h4, h5⟩ := id h
  obtain ⟨L, hL⟩ : ∃ L, s.2.length = L := ⟨_, rfl⟩
  obtain ⟨cap, hcap⟩ : ∃ cap, cap0 = cap := ⟨_, rfl⟩
  rw [hL, hcap] at h1 h2
  have c0 : w.cell? ⟨g, 0, none⟩ = some (.slice A L cap) := h1.at_ 0
  have c1 : w.cell? ⟨g, 1, none⟩ = some (.bool s.1) := h1.at_ 1
  obtain ⟨TL, TG, BL⟩ := tq_look h hL h2
  have HZ : Hid ((w.drew.alloc (.cells #[.slice A L cap, .bool s.1] 45)).cell? ⟨g, 0, none⟩ = some (.slice A L cap) ∧ (w.drew.alloc (.cells #[.slice A L cap, .bool s.1] 45)).cell? ⟨g, 1, none⟩ = some (.bool s.1)) :=
    ⟨(h1.kept BL h1.inside).at_ 0, (h1.kept BL h1.inside).at_ 1⟩
  have NE : Hid (g ≠ w.heap.size) := Nat.ne_of_lt h.inside
  have HPG : Hid (0 < g) := h5
  have HTL := hid TL
  have HTG := hid TG
  have HBL := hid BL
  clear h1 h2 h3 h4 h5 hcap TL TG BL
  have CN : Hid (Calls Try.prog 50 #[.pointer (some ⟨w.heap.size, 0, none⟩), .int .i64 2] (w.drew.alloc (.cells #[.slice A L cap, .bool s.1] 45)) fun e w' => e = .returned (.int .u64 0) ∧ Tq w' w.heap.size (tear s) ∧ Grw w.heap.size (w.drew.alloc (.cells #[.slice A L cap, .bool s.1] 45)) w') := by
    have := qNum_any w.heap.size s 2 _ HTL.out
    rw [numS, hn] at this; exact this
  rw [textS, hn]
  clear hn
  clear h hL
  go_enter Try.func51, Try.ntmps51
  go_wp2
  refine wp_region_noPanic ?_
  refine wp_region_held_drew (S := fun W => W.cell? ⟨g, 0, none⟩ = some (.slice A L cap) ∧ W.cell? ⟨g, 1, none⟩ = some (.bool s.1)) (by kernel_rfl) (⟨c0, c1⟩) (fun hS => ?_)
  refine wpAnyH_take (i := 0) (v := ?_) (by simp only [List.getElem?_toArray, List.getElem?_cons_zero]; rfl) (by kernel_rfl) (by kernel_rfl) (by kernel_rfl) (fun _ _ _ h => h) (Or.inl ⟨by rfl, ?_⟩) (by assumption) ?_
  rotate_left 1
  · intro w hSw
    go_simp
    with_reducible rfl
  simp only [Act.put, List.setIfInBounds_toArray, List.set_cons_zero, List.set_cons_succ]
  refine wpAnyH_take (i := 1) (v := ?_) (by simp only [List.getElem?_toArray, List.getElem?_cons_zero, List.getElem?_cons_succ]; rfl) (by kernel_rfl) (by kernel_rfl) (by kernel_rfl) (fun _ _ _ h => h) (Or.inl ⟨by rfl, ?_⟩) (by assumption) ?_
  rotate_left 1
  · intro w hSw
    go_simp
    with_reducible rfl
  simp only [Act.put, List.setIfInBounds_toArray, List.set_cons_zero, List.set_cons_succ]
  refine wpAnyH_take (i := 2) (v := ?_) (by simp only [List.getElem?_toArray, List.getElem?_cons_zero, List.getElem?_cons_succ]; rfl) (by kernel_rfl) (by kernel_rfl) (by kernel_rfl) (fun _ _ _ h => h) (Or.inl ⟨by rfl, ?_⟩) (by assumption) ?_
  rotate_left 1
  · intro w hSw
    go_simp
    with_reducible rfl
  simp only [Act.put, List.setIfInBounds_toArray, List.set_cons_zero, List.set_cons_succ]
  refine wpAnyH_take (i := 3) (v := ?_) (by simp only [List.getElem?_toArray, List.getElem?_cons_zero, List.getElem?_cons_succ]; rfl) (by kernel_rfl) (by kernel_rfl) (by kernel_rfl) (fun _ _ _ h => h) (Or.inl ⟨by rfl, ?_⟩) (by assumption) ?_
  rotate_left 1
  · intro w hSw
    have d0 := hSw.1
    go_simp
    with_reducible rfl
  simp only [Act.put, List.setIfInBounds_toArray, List.set_cons_zero, List.set_cons_succ]
  refine wpAnyH_take (i := 4) (v := ?_) (by simp only [List.getElem?_toArray, List.getElem?_cons_zero, List.getElem?_cons_succ]; rfl) (by kernel_rfl) (by kernel_rfl) (by kernel_rfl) (fun _ _ _ h => h) (Or.inl ⟨by rfl, ?_⟩) (by assumption) ?_
  rotate_left 1
  · intro w hSw
    go_simp
    with_reducible rfl
  simp only [Act.put, List.setIfInBounds_toArray, List.set_cons_zero, List.set_cons_succ]
  refine wpAnyH_take (i := 5) (v := ?_) (by simp only [List.getElem?_toArray, List.getElem?_cons_zero, List.getElem?_cons_succ]; rfl) (by kernel_rfl) (by kernel_rfl) (by kernel_rfl) (fun _ _ _ h => h) (Or.inl ⟨by rfl, ?_⟩) (by assumption) ?_
  rotate_left 1
  · intro w hSw
    go_simp
    with_reducible rfl
  simp only [Act.put, List.setIfInBounds_toArray, List.set_cons_zero, List.set_cons_succ]
  refine wpAnyH_take (i := 6) (v := ?_) (by simp only [List.getElem?_toArray, List.getElem?_cons_zero, List.getElem?_cons_succ]; rfl) (by kernel_rfl) (by kernel_rfl) (by kernel_rfl) (fun _ _ _ h => h) (Or.inl ⟨by rfl, ?_⟩) (by assumption) ?_
  rotate_left 1
  · intro w hSw
    go_simp
    with_reducible rfl
  simp only [Act.put, List.setIfInBounds_toArray, List.set_cons_zero, List.set_cons_succ]
  refine wpAnyH_take (i := 7) (v := ?_) (by simp only [List.getElem?_toArray, List.getElem?_cons_zero, List.getElem?_cons_succ]; rfl) (by kernel_rfl) (by kernel_rfl) (by kernel_rfl) (fun _ _ _ h => h) (Or.inl ⟨by rfl, ?_⟩) (by assumption) ?_
  rotate_left 1
  · intro w hSw
    have d1 := hSw.2
    go_simp
    with_reducible rfl
  simp only [Act.put, List.setIfInBounds_toArray, List.set_cons_zero, List.set_cons_succ]
  refine wpAnyH_take (i := 8) (v := ?_) (by simp only [List.getElem?_toArray, List.getElem?_cons_zero, List.getElem?_cons_succ]; rfl) (by kernel_rfl) (by kernel_rfl) (by kernel_rfl) (fun _ _ _ h => h) (Or.inl ⟨by rfl, ?_⟩) (by assumption) ?_
  rotate_left 1
  · intro w hSw
    go_simp
    with_reducible rfl
  simp only [Act.put, List.setIfInBounds_toArray, List.set_cons_zero, List.set_cons_succ]
  refine wpAnyH_ready (rs := [9]) (by kernel_rfl) (by simp) ?_
  refine AllReadyH.cons (by simp only [List.getElem?_toArray, List.getElem?_cons_zero, List.getElem?_cons_succ]; rfl) (fun K hK => ?_) AllReadyH.nil
  have hz1 : (w.drew.alloc (.cells #[.slice A L cap, .bool s.1] 45)).cell? ⟨g, 0, none⟩ = some (.slice A L cap) ∧ (w.drew.alloc (.cells #[.slice A L cap, .bool s.1] 45)).cell? ⟨g, 1, none⟩ = some (.bool s.1) := HZ.out
  go_simp
  refine hK.out _ _ hz1 (fun hS => ?_)
  clear hK K hS
  refine wpAnyH_take (i := 10) (v := ?_) (by simp only [List.getElem?_toArray, List.getElem?_cons_zero, List.getElem?_cons_succ]; rfl) (by kernel_rfl) (by kernel_rfl) (by kernel_rfl) (fun _ _ _ h => h) (Or.inl ⟨by rfl, ?_⟩) (by assumption) ?_
  rotate_left 1
  · intro w hSw
    go_simp
    with_reducible rfl
  simp only [Act.put, List.setIfInBounds_toArray, List.set_cons_zero, List.set_cons_succ]
  refine wpAnyH_done (by kernel_rfl) ?_ _
  refine NoPanic.normal ?_
  clear c0 c1 hz1 HZ
  go_wp2_with (first
    | (go_at_call 50; refine CN.out.mono ?_; rintro e2 w2 ⟨rfl, ht, hg⟩
       have T2 := hid ht
       have G2 := hid (HTG.out.beside HTL.out NE.out hg)
       have B2 : Hid (Below w.heap.size w w2) := Grw.below HBL.out hg (Nat.le_refl _) HBL.out.size
       clear ht hg
       obtain ⟨A2, cap2, bb2, off2, k1, _⟩ := T2.out
       have d1 : w2.cell? ⟨w.heap.size, 1, none⟩ = some (.bool true) := k1.at_ 1
       obtain ⟨A3, cap3, bb3, off3, k2, _⟩ := G2.out
       have d2 := k2.at_ 1
       have f2 := k2.free 1
       have HTQ := hid (tearq_at G2.out)
       clear k1 k2))
  go_ret
  exact ⟨rfl, HTQ.out.1, (Grw.of_below B2.out).trans HTQ.out.2⟩
set_option maxRecDepth 100000 in
set_option maxHeartbeats 1000000 in
theorem qText_neg (g : Nat) (s : St) (most : Int) (_him : I64 most) (n : Nat) (hn : nxt s 2 = some n) (hc : most < 0) (w : World) (h : Tq w g s) :
    Calls Try.prog 51 #[.pointer (some ⟨g, 0, none⟩), .int .i64 most] w fun e w' => e = .returned (.string (ba (textS s most).1)) ∧ Tq w' g (textS s most).2 ∧ Grw g w w' := by
  have HT0 := hid h
  obtain ⟨A, cap0, bb, off, h1, h2, h3, h4, h5⟩ := id h
  obtain ⟨L, hL⟩ : ∃ L, s.2.length = L := ⟨_, rfl⟩
  obtain ⟨cap, hcap⟩ : ∃ cap, cap0 = cap := ⟨_, rfl⟩
  rw [hL, hcap] at h1 h2
  have c0 : w.cell? ⟨g, 0, none⟩ = some (.slice A L cap) := h1.at_ 0
  have c1 : w.cell? ⟨g, 1, none⟩ = some (.bool s.1) := h1.at_ 1
  obtain ⟨TL, TG, BL⟩ := tq_look h hL h2
  have HZ : Hid ((w.drew.alloc (.cells #[.slice A L cap, .bool s.1] 45)).cell? ⟨g, 0, none⟩ = some (.slice A L cap) ∧ (w.drew.alloc (.cells #[.slice A L cap, .bool s.1] 45)).cell? ⟨g, 1, none⟩ = some (.bool s.1)) :=
    ⟨(h1.kept BL h1.inside).at_ 0, (h1.kept BL h1.inside).at_ 1⟩
  have NE : Hid (g ≠ w.heap.size) := Nat.ne_of_lt h.inside
  have HPG : Hid (0 < g) := h5
  have HTL := hid TL
  have HTG := hid TG
  have HBL := hid BL
  clear h1 h2 h3 h4 h5 hcap TL TG BL
  have CN : Hid (Calls Try.prog 50 #[.pointer (some ⟨w.heap.size, 0, none⟩), .int .i64 2] (w.drew.alloc (.cells #[.slice A L cap, .bool s.1] 45)) fun e w' => e = .returned (.int .u64 (n : Int)) ∧ Tq w' w.heap.size (s.1, s.2.drop 2) ∧ Grw w.heap.size (w.drew.alloc (.cells #[.slice A L cap, .bool s.1] 45)) w') := by
    have := qNum_any w.heap.size s 2 _ HTL.out
    rw [numS, hn] at this; exact this
  have hs1 : Hid (s.1 = false) := (nxt_lt s 2 n hn).2.2.2.2
  have h2l : 2 ≤ L := by have := (nxt_lt s 2 n hn).2.2.2.1; omega
  have hL4 : L ≤ 100000 := by obtain ⟨_, _, _, _, _, _, _, h4, _⟩ := h; omega
  have hn6 := nxt_two s n hn
  have HD : Hid ((s.2.drop 2).length = L - 2) := by show _ = _; rw [List.length_drop, hL]
  rw [textS, hn]
  simp only [if_neg (show ¬ ((n : Int) ≤ most ∧ n + 2 ≤ s.2.length) by omega)]
  clear hn6
  clear hn
  clear h hL
  go_enter Try.func51, Try.ntmps51
  go_wp2
  refine wp_region_noPanic ?_
  refine wp_region_held_drew (S := fun W => W.cell? ⟨g, 0, none⟩ = some (.slice A L cap) ∧ W.cell? ⟨g, 1, none⟩ = some (.bool s.1)) (by kernel_rfl) (⟨c0, c1⟩) (fun hS => ?_)
  refine wpAnyH_take (i := 0) (v := ?_) (by simp only [List.getElem?_toArray, List.getElem?_cons_zero]; rfl) (by kernel_rfl) (by kernel_rfl) (by kernel_rfl) (fun _ _ _ h => h) (Or.inl ⟨by rfl, ?_⟩) (by assumption) ?_
  rotate_left 1
  · intro w hSw
    go_simp
    with_reducible rfl
  simp only [Act.put, List.setIfInBounds_toArray, List.set_cons_zero, List.set_cons_succ]
  refine wpAnyH_take (i := 1) (v := ?_) (by simp only [List.getElem?_toArray, List.getElem?_cons_zero, List.getElem?_cons_succ]; rfl) (by kernel_rfl) (by kernel_rfl) (by kernel_rfl) (fun _ _ _ h => h) (Or.inl ⟨by rfl, ?_⟩) (by assumption) ?_
  rotate_left 1
  · intro w hSw
    go_simp
    with_reducible rfl
  simp only [Act.put, List.setIfInBounds_toArray, List.set_cons_zero, List.set_cons_succ]
  refine wpAnyH_take (i := 2) (v := ?_) (by simp only [List.getElem?_toArray, List.getElem?_cons_zero, List.getElem?_cons_succ]; rfl) (by kernel_rfl) (by kernel_rfl) (by kernel_rfl) (fun _ _ _ h => h) (Or.inl ⟨by rfl, ?_⟩) (by assumption) ?_
  rotate_left 1
  · intro w hSw
    go_simp
    with_reducible rfl
  simp only [Act.put, List.setIfInBounds_toArray, List.set_cons_zero, List.set_cons_succ]
  refine wpAnyH_take (i := 3) (v := ?_) (by simp only [List.getElem?_toArray, List.getElem?_cons_zero, List.getElem?_cons_succ]; rfl) (by kernel_rfl) (by kernel_rfl) (by kernel_rfl) (fun _ _ _ h => h) (Or.inl ⟨by rfl, ?_⟩) (by assumption) ?_
  rotate_left 1
  · intro w hSw
    have d0 := hSw.1
    go_simp
    with_reducible rfl
  simp only [Act.put, List.setIfInBounds_toArray, List.set_cons_zero, List.set_cons_succ]
  refine wpAnyH_take (i := 4) (v := ?_) (by simp only [List.getElem?_toArray, List.getElem?_cons_zero, List.getElem?_cons_succ]; rfl) (by kernel_rfl) (by kernel_rfl) (by kernel_rfl) (fun _ _ _ h => h) (Or.inl ⟨by rfl, ?_⟩) (by assumption) ?_
  rotate_left 1
  · intro w hSw
    go_simp
    with_reducible rfl
  simp only [Act.put, List.setIfInBounds_toArray, List.set_cons_zero, List.set_cons_succ]
  refine wpAnyH_take (i := 5) (v := ?_) (by simp only [List.getElem?_toArray, List.getElem?_cons_zero, List.getElem?_cons_succ]; rfl) (by kernel_rfl) (by kernel_rfl) (by kernel_rfl) (fun _ _ _ h => h) (Or.inl ⟨by rfl, ?_⟩) (by assumption) ?_
  rotate_left 1
  · intro w hSw
    go_simp
    with_reducible rfl
  simp only [Act.put, List.setIfInBounds_toArray, List.set_cons_zero, List.set_cons_succ]
  refine wpAnyH_take (i := 6) (v := ?_) (by simp only [List.getElem?_toArray, List.getElem?_cons_zero, List.getElem?_cons_succ]; rfl) (by kernel_rfl) (by kernel_rfl) (by kernel_rfl) (fun _ _ _ h => h) (Or.inl ⟨by rfl, ?_⟩) (by assumption) ?_
  rotate_left 1
  · intro w hSw
    go_simp
    with_reducible rfl
  simp only [Act.put, List.setIfInBounds_toArray, List.set_cons_zero, List.set_cons_succ]
  refine wpAnyH_take (i := 7) (v := ?_) (by simp only [List.getElem?_toArray, List.getElem?_cons_zero, List.getElem?_cons_succ]; rfl) (by kernel_rfl) (by kernel_rfl) (by kernel_rfl) (fun _ _ _ h => h) (Or.inl ⟨by rfl, ?_⟩) (by assumption) ?_
  rotate_left 1
  · intro w hSw
    have d1 := hSw.2
    go_simp
    with_reducible rfl
  simp only [Act.put, List.setIfInBounds_toArray, List.set_cons_zero, List.set_cons_succ]
  refine wpAnyH_take (i := 8) (v := ?_) (by simp only [List.getElem?_toArray, List.getElem?_cons_zero, List.getElem?_cons_succ]; rfl) (by kernel_rfl) (by kernel_rfl) (by kernel_rfl) (fun _ _ _ h => h) (Or.inl ⟨by rfl, ?_⟩) (by assumption) ?_
  rotate_left 1
  · intro w hSw
    go_simp
    with_reducible rfl
  simp only [Act.put, List.setIfInBounds_toArray, List.set_cons_zero, List.set_cons_succ]
  refine wpAnyH_ready (rs := [9]) (by kernel_rfl) (by simp) ?_
  refine AllReadyH.cons (by simp only [List.getElem?_toArray, List.getElem?_cons_zero, List.getElem?_cons_succ]; rfl) (fun K hK => ?_) AllReadyH.nil
  have hz1 : (w.drew.alloc (.cells #[.slice A L cap, .bool s.1] 45)).cell? ⟨g, 0, none⟩ = some (.slice A L cap) ∧ (w.drew.alloc (.cells #[.slice A L cap, .bool s.1] 45)).cell? ⟨g, 1, none⟩ = some (.bool s.1) := HZ.out
  go_simp
  refine hK.out _ _ hz1 (fun hS => ?_)
  clear hK K hS
  refine wpAnyH_take (i := 10) (v := ?_) (by simp only [List.getElem?_toArray, List.getElem?_cons_zero, List.getElem?_cons_succ]; rfl) (by kernel_rfl) (by kernel_rfl) (by kernel_rfl) (fun _ _ _ h => h) (Or.inl ⟨by rfl, ?_⟩) (by assumption) ?_
  rotate_left 1
  · intro w hSw
    go_simp
    with_reducible rfl
  simp only [Act.put, List.setIfInBounds_toArray, List.set_cons_zero, List.set_cons_succ]
  refine wpAnyH_done (by kernel_rfl) ?_ _
  refine NoPanic.normal ?_
  clear c0 c1 hz1 HZ
  go_wp2_with (first
    | (go_at_call 50; refine CN.out.mono ?_; rintro e2 w2 ⟨rfl, ht, hg⟩
       have T2 := hid ht
       have G2 := hid (HTG.out.beside HTL.out NE.out hg)
       have B2 : Hid (Below w.heap.size w w2) := Grw.below HBL.out hg (Nat.le_refl _) HBL.out.size
       clear ht hg
       obtain ⟨A2, cap2, bb2, off2, k1, _⟩ := T2.out
       have d1 : w2.cell? ⟨w.heap.size, 1, none⟩ = some (.bool s.1) := k1.at_ 1
       have d3 : w2.cell? ⟨w.heap.size, 0, none⟩ = some (.slice A2 (s.2.drop 2).length cap2) := k1.at_ 0
       rw [hs1.out] at d1
       rw [HD.out] at d3
       obtain ⟨A3, cap3, bb3, off3, k2, _⟩ := G2.out
       have d2 := k2.at_ 1
       have f2 := k2.free 1
       have HTQ := hid (tearq_at G2.out)
       clear k1 k2))
  go_ret
  exact ⟨rfl, HTQ.out.1, (Grw.of_below B2.out).trans HTQ.out.2⟩
set_option maxRecDepth 100000 in
set_option maxHeartbeats 1000000 in
theorem qText_above (g : Nat) (s : St) (most : Int) (him : I64 most) (n : Nat) (hn : nxt s 2 = some n) (m : Nat) (hm : most = (m : Int)) (hc : m < n) (w : World) (h : Tq w g s) :
    Calls Try.prog 51 #[.pointer (some ⟨g, 0, none⟩), .int .i64 most] w fun e w' => e = .returned (.string (ba (textS s most).1)) ∧ Tq w' g (textS s most).2 ∧ Grw g w w' := by
  have HT0 := hid h
  obtain ⟨A, cap0, bb, off, h1, h2, h3, h4, h5⟩ := id h
  obtain ⟨L, hL⟩ : ∃ L, s.2.length = L := ⟨_, rfl⟩
  obtain ⟨cap, hcap⟩ : ∃ cap, cap0 = cap := ⟨_, rfl⟩
  rw [hL, hcap] at h1 h2
  have c0 : w.cell? ⟨g, 0, none⟩ = some (.slice A L cap) := h1.at_ 0
  have c1 : w.cell? ⟨g, 1, none⟩ = some (.bool s.1) := h1.at_ 1
  obtain ⟨TL, TG, BL⟩ := tq_look h hL h2
  have HZ : Hid ((w.drew.alloc (.cells #[.slice A L cap, .bool s.1] 45)).cell? ⟨g, 0, none⟩ = some (.slice A L cap) ∧ (w.drew.alloc (.cells #[.slice A L cap, .bool s.1] 45)).cell? ⟨g, 1, none⟩ = some (.bool s.1)) :=
    ⟨(h1.kept BL h1.inside).at_ 0, (h1.kept BL h1.inside).at_ 1⟩
  have NE : Hid (g ≠ w.heap.size) := Nat.ne_of_lt h.inside
  have HPG : Hid (0 < g) := h5
  have HTL := hid TL
  have HTG := hid TG
  have HBL := hid BL
  clear h1 h2 h3 h4 h5 hcap TL TG BL
  have CN : Hid (Calls Try.prog 50 #[.pointer (some ⟨w.heap.size, 0, none⟩), .int .i64 2] (w.drew.alloc (.cells #[.slice A L cap, .bool s.1] 45)) fun e w' => e = .returned (.int .u64 (n : Int)) ∧ Tq w' w.heap.size (s.1, s.2.drop 2) ∧ Grw w.heap.size (w.drew.alloc (.cells #[.slice A L cap, .bool s.1] 45)) w') := by
    have := qNum_any w.heap.size s 2 _ HTL.out
    rw [numS, hn] at this; exact this
  have hs1 : Hid (s.1 = false) := (nxt_lt s 2 n hn).2.2.2.2
  have h2l : 2 ≤ L := by have := (nxt_lt s 2 n hn).2.2.2.1; omega
  have hL4 : L ≤ 100000 := by obtain ⟨_, _, _, _, _, _, _, h4, _⟩ := h; omega
  have hn6 := nxt_two s n hn
  have HD : Hid ((s.2.drop 2).length = L - 2) := by show _ = _; rw [List.length_drop, hL]
  rw [textS, hn]
  simp only [if_neg (show ¬ ((n : Int) ≤ most ∧ n + 2 ≤ s.2.length) by omega)]
  subst hm
  have hm0 : ¬ (m : Int) < 0 := by omega
  have wm : IntKind.u64.wrap (m : Int) = m := u64in _ (by unfold I64 at him; omega)
  have b1 : (m : Int) < (n : Int) := by omega
  clear hc hn6
  clear hn
  clear h hL him
  go_enter Try.func51, Try.ntmps51
  go_wp2
  refine wp_region_noPanic ?_
  refine wp_region_held_drew (S := fun W => W.cell? ⟨g, 0, none⟩ = some (.slice A L cap) ∧ W.cell? ⟨g, 1, none⟩ = some (.bool s.1)) (by kernel_rfl) (⟨c0, c1⟩) (fun hS => ?_)
  refine wpAnyH_take (i := 0) (v := ?_) (by simp only [List.getElem?_toArray, List.getElem?_cons_zero]; rfl) (by kernel_rfl) (by kernel_rfl) (by kernel_rfl) (fun _ _ _ h => h) (Or.inl ⟨by rfl, ?_⟩) (by assumption) ?_
  rotate_left 1
  · intro w hSw
    go_simp
    with_reducible rfl
  simp only [Act.put, List.setIfInBounds_toArray, List.set_cons_zero, List.set_cons_succ]
  refine wpAnyH_take (i := 1) (v := ?_) (by simp only [List.getElem?_toArray, List.getElem?_cons_zero, List.getElem?_cons_succ]; rfl) (by kernel_rfl) (by kernel_rfl) (by kernel_rfl) (fun _ _ _ h => h) (Or.inl ⟨by rfl, ?_⟩) (by assumption) ?_
  rotate_left 1
  · intro w hSw
    go_simp
    with_reducible rfl
  simp only [Act.put, List.setIfInBounds_toArray, List.set_cons_zero, List.set_cons_succ]
  refine wpAnyH_take (i := 2) (v := ?_) (by simp only [List.getElem?_toArray, List.getElem?_cons_zero, List.getElem?_cons_succ]; rfl) (by kernel_rfl) (by kernel_rfl) (by kernel_rfl) (fun _ _ _ h => h) (Or.inl ⟨by rfl, ?_⟩) (by assumption) ?_
  rotate_left 1
  · intro w hSw
    go_simp
    with_reducible rfl
  simp only [Act.put, List.setIfInBounds_toArray, List.set_cons_zero, List.set_cons_succ]
  refine wpAnyH_take (i := 3) (v := ?_) (by simp only [List.getElem?_toArray, List.getElem?_cons_zero, List.getElem?_cons_succ]; rfl) (by kernel_rfl) (by kernel_rfl) (by kernel_rfl) (fun _ _ _ h => h) (Or.inl ⟨by rfl, ?_⟩) (by assumption) ?_
  rotate_left 1
  · intro w hSw
    have d0 := hSw.1
    go_simp
    with_reducible rfl
  simp only [Act.put, List.setIfInBounds_toArray, List.set_cons_zero, List.set_cons_succ]
  refine wpAnyH_take (i := 4) (v := ?_) (by simp only [List.getElem?_toArray, List.getElem?_cons_zero, List.getElem?_cons_succ]; rfl) (by kernel_rfl) (by kernel_rfl) (by kernel_rfl) (fun _ _ _ h => h) (Or.inl ⟨by rfl, ?_⟩) (by assumption) ?_
  rotate_left 1
  · intro w hSw
    go_simp
    with_reducible rfl
  simp only [Act.put, List.setIfInBounds_toArray, List.set_cons_zero, List.set_cons_succ]
  refine wpAnyH_take (i := 5) (v := ?_) (by simp only [List.getElem?_toArray, List.getElem?_cons_zero, List.getElem?_cons_succ]; rfl) (by kernel_rfl) (by kernel_rfl) (by kernel_rfl) (fun _ _ _ h => h) (Or.inl ⟨by rfl, ?_⟩) (by assumption) ?_
  rotate_left 1
  · intro w hSw
    go_simp
    with_reducible rfl
  simp only [Act.put, List.setIfInBounds_toArray, List.set_cons_zero, List.set_cons_succ]
  refine wpAnyH_take (i := 6) (v := ?_) (by simp only [List.getElem?_toArray, List.getElem?_cons_zero, List.getElem?_cons_succ]; rfl) (by kernel_rfl) (by kernel_rfl) (by kernel_rfl) (fun _ _ _ h => h) (Or.inl ⟨by rfl, ?_⟩) (by assumption) ?_
  rotate_left 1
  · intro w hSw
    go_simp
    with_reducible rfl
  simp only [Act.put, List.setIfInBounds_toArray, List.set_cons_zero, List.set_cons_succ]
  refine wpAnyH_take (i := 7) (v := ?_) (by simp only [List.getElem?_toArray, List.getElem?_cons_zero, List.getElem?_cons_succ]; rfl) (by kernel_rfl) (by kernel_rfl) (by kernel_rfl) (fun _ _ _ h => h) (Or.inl ⟨by rfl, ?_⟩) (by assumption) ?_
  rotate_left 1
  · intro w hSw
    have d1 := hSw.2
    go_simp
    with_reducible rfl
  simp only [Act.put, List.setIfInBounds_toArray, List.set_cons_zero, List.set_cons_succ]
  refine wpAnyH_take (i := 8) (v := ?_) (by simp only [List.getElem?_toArray, List.getElem?_cons_zero, List.getElem?_cons_succ]; rfl) (by kernel_rfl) (by kernel_rfl) (by kernel_rfl) (fun _ _ _ h => h) (Or.inl ⟨by rfl, ?_⟩) (by assumption) ?_
  rotate_left 1
  · intro w hSw
    go_simp
    with_reducible rfl
  simp only [Act.put, List.setIfInBounds_toArray, List.set_cons_zero, List.set_cons_succ]
  refine wpAnyH_ready (rs := [9]) (by kernel_rfl) (by simp) ?_
  refine AllReadyH.cons (by simp only [List.getElem?_toArray, List.getElem?_cons_zero, List.getElem?_cons_succ]; rfl) (fun K hK => ?_) AllReadyH.nil
  have hz1 : (w.drew.alloc (.cells #[.slice A L cap, .bool s.1] 45)).cell? ⟨g, 0, none⟩ = some (.slice A L cap) ∧ (w.drew.alloc (.cells #[.slice A L cap, .bool s.1] 45)).cell? ⟨g, 1, none⟩ = some (.bool s.1) := HZ.out
  go_simp
  refine hK.out _ _ hz1 (fun hS => ?_)
  clear hK K hS
  refine wpAnyH_take (i := 10) (v := ?_) (by simp only [List.getElem?_toArray, List.getElem?_cons_zero, List.getElem?_cons_succ]; rfl) (by kernel_rfl) (by kernel_rfl) (by kernel_rfl) (fun _ _ _ h => h) (Or.inl ⟨by rfl, ?_⟩) (by assumption) ?_
  rotate_left 1
  · intro w hSw
    go_simp
    with_reducible rfl
  simp only [Act.put, List.setIfInBounds_toArray, List.set_cons_zero, List.set_cons_succ]
  refine wpAnyH_done (by kernel_rfl) ?_ _
  refine NoPanic.normal ?_
  clear c0 c1 hz1 HZ
  go_wp2_with (first
    | (go_at_call 50; refine CN.out.mono ?_; rintro e2 w2 ⟨rfl, ht, hg⟩
       have T2 := hid ht
       have G2 := hid (HTG.out.beside HTL.out NE.out hg)
       have B2 : Hid (Below w.heap.size w w2) := Grw.below HBL.out hg (Nat.le_refl _) HBL.out.size
       clear ht hg
       obtain ⟨A2, cap2, bb2, off2, k1, _⟩ := T2.out
       have d1 : w2.cell? ⟨w.heap.size, 1, none⟩ = some (.bool s.1) := k1.at_ 1
       have d3 : w2.cell? ⟨w.heap.size, 0, none⟩ = some (.slice A2 (s.2.drop 2).length cap2) := k1.at_ 0
       rw [hs1.out] at d1
       rw [HD.out] at d3
       obtain ⟨A3, cap3, bb3, off3, k2, _⟩ := G2.out
       have d2 := k2.at_ 1
       have f2 := k2.free 1
       have HTQ := hid (tearq_at G2.out)
       clear k1 k2))
  go_ret
  exact ⟨rfl, HTQ.out.1, (Grw.of_below B2.out).trans HTQ.out.2⟩
set_option maxRecDepth 100000 in
set_option maxHeartbeats 1000000 in
theorem qText_long (g : Nat) (s : St) (most : Int) (him : I64 most) (n : Nat) (hn : nxt s 2 = some n) (m : Nat) (hm : most = (m : Int)) (hm2 : ¬ m < n) (hc : s.2.length < n + 2) (w : World) (h : Tq w g s) :
    Calls Try.prog 51 #[.pointer (some ⟨g, 0, none⟩), .int .i64 most] w fun e w' => e = .returned (.string (ba (textS s most).1)) ∧ Tq w' g (textS s most).2 ∧ Grw g w w' := by
  have HT0 := hid h
  obtain ⟨A, cap0, bb, off, h1, h2, h3, h4, h5⟩ := id h
  obtain ⟨L, hL⟩ : ∃ L, s.2.length = L := ⟨_, rfl⟩
  obtain ⟨cap, hcap⟩ : ∃ cap, cap0 = cap := ⟨_, rfl⟩
  rw [hL, hcap] at h1 h2
  have c0 : w.cell? ⟨g, 0, none⟩ = some (.slice A L cap) := h1.at_ 0
  have c1 : w.cell? ⟨g, 1, none⟩ = some (.bool s.1) := h1.at_ 1
  obtain ⟨TL, TG, BL⟩ := tq_look h hL h2
  have HZ : Hid ((w.drew.alloc (.cells #[.slice A L cap, .bool s.1] 45)).cell? ⟨g, 0, none⟩ = some (.slice A L cap) ∧ (w.drew.alloc (.cells #[.slice A L cap, .bool s.1] 45)).cell? ⟨g, 1, none⟩ = some (.bool s.1)) :=
    ⟨(h1.kept BL h1.inside).at_ 0, (h1.kept BL h1.inside).at_ 1⟩
  have NE : Hid (g ≠ w.heap.size) := Nat.ne_of_lt h.inside
  have HPG : Hid (0 < g) := h5
  have HTL := hid TL
  have HTG := hid TG
  have HBL := hid BL
  clear h1 h2 h3 h4 h5 hcap TL TG BL
  have CN : Hid (Calls Try.prog 50 #[.pointer (some ⟨w.heap.size, 0, none⟩), .int .i64 2] (w.drew.alloc (.cells #[.slice A L cap, .bool s.1] 45)) fun e w' => e = .returned (.int .u64 (n : Int)) ∧ Tq w' w.heap.size (s.1, s.2.drop 2) ∧ Grw w.heap.size (w.drew.alloc (.cells #[.slice A L cap, .bool s.1] 45)) w') := by
    have := qNum_any w.heap.size s 2 _ HTL.out
    rw [numS, hn] at this; exact this
  have hs1 : Hid (s.1 = false) := (nxt_lt s 2 n hn).2.2.2.2
  have h2l : 2 ≤ L := by have := (nxt_lt s 2 n hn).2.2.2.1; omega
  have hL4 : L ≤ 100000 := by obtain ⟨_, _, _, _, _, _, _, h4, _⟩ := h; omega
  have hn6 := nxt_two s n hn
  have HD : Hid ((s.2.drop 2).length = L - 2) := by show _ = _; rw [List.length_drop, hL]
  rw [textS, hn]
  simp only [if_neg (show ¬ ((n : Int) ≤ most ∧ n + 2 ≤ s.2.length) by omega)]
  subst hm
  have hm0 : ¬ (m : Int) < 0 := by omega
  have wm : IntKind.u64.wrap (m : Int) = m := u64in _ (by unfold I64 at him; omega)
  have b1 : ¬ (m : Int) < (n : Int) := by omega
  have wl : IntKind.u64.wrap ((L - 2 : Nat) : Int) = ((L - 2 : Nat) : Int) := u64in _ (by omega)
  have b2 : ((L - 2 : Nat) : Int) < (n : Int) := by omega
  clear hc hm2 hn6
  clear hn
  clear h hL him
  go_enter Try.func51, Try.ntmps51
  go_wp2
  refine wp_region_noPanic ?_
  refine wp_region_held_drew (S := fun W => W.cell? ⟨g, 0, none⟩ = some (.slice A L cap) ∧ W.cell? ⟨g, 1, none⟩ = some (.bool s.1)) (by kernel_rfl) (⟨c0, c1⟩) (fun hS => ?_)
  refine wpAnyH_take (i := 0) (v := ?_) (by simp only [List.getElem?_toArray, List.getElem?_cons_zero]; rfl) (by kernel_rfl) (by kernel_rfl) (by kernel_rfl) (fun _ _ _ h => h) (Or.inl ⟨by rfl, ?_⟩) (by assumption) ?_
  rotate_left 1
  · intro w hSw
    go_simp
    with_reducible rfl
  simp only [Act.put, List.setIfInBounds_toArray, List.set_cons_zero, List.set_cons_succ]
  refine wpAnyH_take (i := 1) (v := ?_) (by simp only [List.getElem?_toArray, List.getElem?_cons_zero, List.getElem?_cons_succ]; rfl) (by kernel_rfl) (by kernel_rfl) (by kernel_rfl) (fun _ _ _ h => h) (Or.inl ⟨by rfl, ?_⟩) (by assumption) ?_
  rotate_left 1
  · intro w hSw
    go_simp
    with_reducible rfl
  simp only [Act.put, List.setIfInBounds_toArray, List.set_cons_zero, List.set_cons_succ]
  refine wpAnyH_take (i := 2) (v := ?_) (by simp only [List.getElem?_toArray, List.getElem?_cons_zero, List.getElem?_cons_succ]; rfl) (by kernel_rfl) (by kernel_rfl) (by kernel_rfl) (fun _ _ _ h => h) (Or.inl ⟨by rfl, ?_⟩) (by assumption) ?_
  rotate_left 1
  · intro w hSw
    go_simp
    with_reducible rfl
  simp only [Act.put, List.setIfInBounds_toArray, List.set_cons_zero, List.set_cons_succ]
  refine wpAnyH_take (i := 3) (v := ?_) (by simp only [List.getElem?_toArray, List.getElem?_cons_zero, List.getElem?_cons_succ]; rfl) (by kernel_rfl) (by kernel_rfl) (by kernel_rfl) (fun _ _ _ h => h) (Or.inl ⟨by rfl, ?_⟩) (by assumption) ?_
  rotate_left 1
  · intro w hSw
    have d0 := hSw.1
    go_simp
    with_reducible rfl
  simp only [Act.put, List.setIfInBounds_toArray, List.set_cons_zero, List.set_cons_succ]
  refine wpAnyH_take (i := 4) (v := ?_) (by simp only [List.getElem?_toArray, List.getElem?_cons_zero, List.getElem?_cons_succ]; rfl) (by kernel_rfl) (by kernel_rfl) (by kernel_rfl) (fun _ _ _ h => h) (Or.inl ⟨by rfl, ?_⟩) (by assumption) ?_
  rotate_left 1
  · intro w hSw
    go_simp
    with_reducible rfl
  simp only [Act.put, List.setIfInBounds_toArray, List.set_cons_zero, List.set_cons_succ]
  refine wpAnyH_take (i := 5) (v := ?_) (by simp only [List.getElem?_toArray, List.getElem?_cons_zero, List.getElem?_cons_succ]; rfl) (by kernel_rfl) (by kernel_rfl) (by kernel_rfl) (fun _ _ _ h => h) (Or.inl ⟨by rfl, ?_⟩) (by assumption) ?_
  rotate_left 1
  · intro w hSw
    go_simp
    with_reducible rfl
  simp only [Act.put, List.setIfInBounds_toArray, List.set_cons_zero, List.set_cons_succ]
  refine wpAnyH_take (i := 6) (v := ?_) (by simp only [List.getElem?_toArray, List.getElem?_cons_zero, List.getElem?_cons_succ]; rfl) (by kernel_rfl) (by kernel_rfl) (by kernel_rfl) (fun _ _ _ h => h) (Or.inl ⟨by rfl, ?_⟩) (by assumption) ?_
  rotate_left 1
  · intro w hSw
    go_simp
    with_reducible rfl
  simp only [Act.put, List.setIfInBounds_toArray, List.set_cons_zero, List.set_cons_succ]
  refine wpAnyH_take (i := 7) (v := ?_) (by simp only [List.getElem?_toArray, List.getElem?_cons_zero, List.getElem?_cons_succ]; rfl) (by kernel_rfl) (by kernel_rfl) (by kernel_rfl) (fun _ _ _ h => h) (Or.inl ⟨by rfl, ?_⟩) (by assumption) ?_
  rotate_left 1
  · intro w hSw
    have d1 := hSw.2
    go_simp
    with_reducible rfl
  simp only [Act.put, List.setIfInBounds_toArray, List.set_cons_zero, List.set_cons_succ]
  refine wpAnyH_take (i := 8) (v := ?_) (by simp only [List.getElem?_toArray, List.getElem?_cons_zero, List.getElem?_cons_succ]; rfl) (by kernel_rfl) (by kernel_rfl) (by kernel_rfl) (fun _ _ _ h => h) (Or.inl ⟨by rfl, ?_⟩) (by assumption) ?_
  rotate_left 1
  · intro w hSw
    go_simp
    with_reducible rfl
  simp only [Act.put, List.setIfInBounds_toArray, List.set_cons_zero, List.set_cons_succ]
  refine wpAnyH_ready (rs := [9]) (by kernel_rfl) (by simp) ?_
  refine AllReadyH.cons (by simp only [List.getElem?_toArray, List.getElem?_cons_zero, List.getElem?_cons_succ]; rfl) (fun K hK => ?_) AllReadyH.nil
  have hz1 : (w.drew.alloc (.cells #[.slice A L cap, .bool s.1] 45)).cell? ⟨g, 0, none⟩ = some (.slice A L cap) ∧ (w.drew.alloc (.cells #[.slice A L cap, .bool s.1] 45)).cell? ⟨g, 1, none⟩ = some (.bool s.1) := HZ.out
  go_simp
  refine hK.out _ _ hz1 (fun hS => ?_)
  clear hK K hS
  refine wpAnyH_take (i := 10) (v := ?_) (by simp only [List.getElem?_toArray, List.getElem?_cons_zero, List.getElem?_cons_succ]; rfl) (by kernel_rfl) (by kernel_rfl) (by kernel_rfl) (fun _ _ _ h => h) (Or.inl ⟨by rfl, ?_⟩) (by assumption) ?_
  rotate_left 1
  · intro w hSw
    go_simp
    with_reducible rfl
  simp only [Act.put, List.setIfInBounds_toArray, List.set_cons_zero, List.set_cons_succ]
  refine wpAnyH_done (by kernel_rfl) ?_ _
  refine NoPanic.normal ?_
  clear c0 c1 hz1 HZ
  go_wp2_with (first
    | (go_at_call 50; refine CN.out.mono ?_; rintro e2 w2 ⟨rfl, ht, hg⟩
       have T2 := hid ht
       have G2 := hid (HTG.out.beside HTL.out NE.out hg)
       have B2 : Hid (Below w.heap.size w w2) := Grw.below HBL.out hg (Nat.le_refl _) HBL.out.size
       clear ht hg
       obtain ⟨A2, cap2, bb2, off2, k1, _⟩ := T2.out
       have d1 : w2.cell? ⟨w.heap.size, 1, none⟩ = some (.bool s.1) := k1.at_ 1
       have d3 : w2.cell? ⟨w.heap.size, 0, none⟩ = some (.slice A2 (s.2.drop 2).length cap2) := k1.at_ 0
       rw [hs1.out] at d1
       rw [HD.out] at d3
       obtain ⟨A3, cap3, bb3, off3, k2, _⟩ := G2.out
       have d2 := k2.at_ 1
       have f2 := k2.free 1
       have HTQ := hid (tearq_at G2.out)
       clear k1 k2))
  go_ret
  exact ⟨rfl, HTQ.out.1, (Grw.of_below B2.out).trans HTQ.out.2⟩
set_option maxRecDepth 100000 in
set_option maxHeartbeats 1000000 in
theorem qText_good (g : Nat) (s : St) (most : Int) (him : I64 most) (n : Nat) (hn : nxt s 2 = some n) (m : Nat) (hm : most = (m : Int)) (hm2 : ¬ m < n) (hc : n + 2 ≤ s.2.length) (w : World) (h : Tq w g s) :
    Calls Try.prog 51 #[.pointer (some ⟨g, 0, none⟩), .int .i64 most] w fun e w' => e = .returned (.string (ba (textS s most).1)) ∧ Tq w' g (textS s most).2 ∧ Grw g w w' := by
  have HT0 := hid h
  obtain ⟨A, cap0, bb, off, h1, h2, h3, h4, h5⟩ := id h
  obtain ⟨L, hL⟩ : ∃ L, s.2.length = L := ⟨_, rfl⟩
  obtain ⟨cap, hcap⟩ : ∃ cap, cap0 = cap := ⟨_, rfl⟩
  rw [hL, hcap] at h1 h2
  have c0 : w.cell? ⟨g, 0, none⟩ = some (.slice A L cap) := h1.at_ 0
  have c1 : w.cell? ⟨g, 1, none⟩ = some (.bool s.1) := h1.at_ 1
  obtain ⟨TL, TG, BL⟩ := tq_look h hL h2
  have HZ : Hid ((w.drew.alloc (.cells #[.slice A L cap, .bool s.1] 45)).cell? ⟨g, 0, none⟩ = some (.slice A L cap) ∧ (w.drew.alloc (.cells #[.slice A L cap, .bool s.1] 45)).cell? ⟨g, 1, none⟩ = some (.bool s.1)) :=
    ⟨(h1.kept BL h1.inside).at_ 0, (h1.kept BL h1.inside).at_ 1⟩
  have NE : Hid (g ≠ w.heap.size) := Nat.ne_of_lt h.inside
  have HPG : Hid (0 < g) := h5
  have HTL := hid TL
  have HTG := hid TG
  have HBL := hid BL
  clear h1 h2 h3 h4 h5 hcap TL TG BL
  have CN : Hid (Calls Try.prog 50 #[.pointer (some ⟨w.heap.size, 0, none⟩), .int .i64 2] (w.drew.alloc (.cells #[.slice A L cap, .bool s.1] 45)) fun e w' => e = .returned (.int .u64 (n : Int)) ∧ Tq w' w.heap.size (s.1, s.2.drop 2) ∧ Grw w.heap.size (w.drew.alloc (.cells #[.slice A L cap, .bool s.1] 45)) w') := by
    have := qNum_any w.heap.size s 2 _ HTL.out
    rw [numS, hn] at this; exact this
  have hs1 : Hid (s.1 = false) := (nxt_lt s 2 n hn).2.2.2.2
  have h2l : 2 ≤ L := by have := (nxt_lt s 2 n hn).2.2.2.1; omega
  have hL4 : L ≤ 100000 := by obtain ⟨_, _, _, _, _, _, _, h4, _⟩ := h; omega
  have hn6 := nxt_two s n hn
  have HD : Hid ((s.2.drop 2).length = L - 2) := by show _ = _; rw [List.length_drop, hL]
  rw [textS, hn]
  simp only [if_pos (show (n : Int) ≤ most ∧ n + 2 ≤ s.2.length by omega)]
  subst hm
  have hm0 : ¬ (m : Int) < 0 := by omega
  have wm : IntKind.u64.wrap (m : Int) = m := u64in _ (by unfold I64 at him; omega)
  have b1 : ¬ (m : Int) < (n : Int) := by omega
  have wl : IntKind.u64.wrap ((L - 2 : Nat) : Int) = ((L - 2 : Nat) : Int) := u64in _ (by omega)
  have b2 : ¬ ((L - 2 : Nat) : Int) < (n : Int) := by omega
  have b3 : IntKind.i64.wrap (n : Int) = n := i64in _ (by omega) (by omega)
  have CS : Hid (∀ w2, Tq w2 w.heap.size (s.1, s.2.drop 2) → Calls Try.prog 63 #[.pointer (some ⟨w.heap.size, 0, none⟩), .int .i64 (n : Int)] w2 fun e w' => ∃ v A cap bb, e = .returned v ∧ Bytes w' v ((s.2.drop 2).take n) A cap bb 0 ∧ Apart w2.heap.size bb ∧ Tq w' w.heap.size (s.1, (s.2.drop 2).drop n) ∧ Grw w.heap.size w2 w') := fun w2 h2 => by
    have := qstep_any w.heap.size _ (n : Int) w2 h2
    have e : bytesS (s.1, s.2.drop 2) (n : Int) = ((s.2.drop 2).take n, (s.1, (s.2.drop 2).drop n)) := by
      rw [bytesS, if_pos ⟨hs1.out, by omega, by show (n : Int) ≤ ((s.2.drop 2).length : Int); rw [HD.out]; omega⟩, Int.toNat_natCast]
    rw [e] at this; exact this
  clear hc hm2 hn6
  clear hn
  clear h hL him
  go_enter Try.func51, Try.ntmps51
  go_wp2
  refine wp_region_noPanic ?_
  refine wp_region_held_drew (S := fun W => W.cell? ⟨g, 0, none⟩ = some (.slice A L cap) ∧ W.cell? ⟨g, 1, none⟩ = some (.bool s.1)) (by kernel_rfl) (⟨c0, c1⟩) (fun hS => ?_)
  refine wpAnyH_take (i := 0) (v := ?_) (by simp only [List.getElem?_toArray, List.getElem?_cons_zero]; rfl) (by kernel_rfl) (by kernel_rfl) (by kernel_rfl) (fun _ _ _ h => h) (Or.inl ⟨by rfl, ?_⟩) (by assumption) ?_
  rotate_left 1
  · intro w hSw
    go_simp
    with_reducible rfl
  simp only [Act.put, List.setIfInBounds_toArray, List.set_cons_zero, List.set_cons_succ]
  refine wpAnyH_take (i := 1) (v := ?_) (by simp only [List.getElem?_toArray, List.getElem?_cons_zero, List.getElem?_cons_succ]; rfl) (by kernel_rfl) (by kernel_rfl) (by kernel_rfl) (fun _ _ _ h => h) (Or.inl ⟨by rfl, ?_⟩) (by assumption) ?_
  rotate_left 1
  · intro w hSw
    go_simp
    with_reducible rfl
  simp only [Act.put, List.setIfInBounds_toArray, List.set_cons_zero, List.set_cons_succ]
  refine wpAnyH_take (i := 2) (v := ?_) (by simp only [List.getElem?_toArray, List.getElem?_cons_zero, List.getElem?_cons_succ]; rfl) (by kernel_rfl) (by kernel_rfl) (by kernel_rfl) (fun _ _ _ h => h) (Or.inl ⟨by rfl, ?_⟩) (by assumption) ?_
  rotate_left 1
  · intro w hSw
    go_simp
    with_reducible rfl
  simp only [Act.put, List.setIfInBounds_toArray, List.set_cons_zero, List.set_cons_succ]
  refine wpAnyH_take (i := 3) (v := ?_) (by simp only [List.getElem?_toArray, List.getElem?_cons_zero, List.getElem?_cons_succ]; rfl) (by kernel_rfl) (by kernel_rfl) (by kernel_rfl) (fun _ _ _ h => h) (Or.inl ⟨by rfl, ?_⟩) (by assumption) ?_
  rotate_left 1
  · intro w hSw
    have d0 := hSw.1
    go_simp
    with_reducible rfl
  simp only [Act.put, List.setIfInBounds_toArray, List.set_cons_zero, List.set_cons_succ]
  refine wpAnyH_take (i := 4) (v := ?_) (by simp only [List.getElem?_toArray, List.getElem?_cons_zero, List.getElem?_cons_succ]; rfl) (by kernel_rfl) (by kernel_rfl) (by kernel_rfl) (fun _ _ _ h => h) (Or.inl ⟨by rfl, ?_⟩) (by assumption) ?_
  rotate_left 1
  · intro w hSw
    go_simp
    with_reducible rfl
  simp only [Act.put, List.setIfInBounds_toArray, List.set_cons_zero, List.set_cons_succ]
  refine wpAnyH_take (i := 5) (v := ?_) (by simp only [List.getElem?_toArray, List.getElem?_cons_zero, List.getElem?_cons_succ]; rfl) (by kernel_rfl) (by kernel_rfl) (by kernel_rfl) (fun _ _ _ h => h) (Or.inl ⟨by rfl, ?_⟩) (by assumption) ?_
  rotate_left 1
  · intro w hSw
    go_simp
    with_reducible rfl
  simp only [Act.put, List.setIfInBounds_toArray, List.set_cons_zero, List.set_cons_succ]
  refine wpAnyH_take (i := 6) (v := ?_) (by simp only [List.getElem?_toArray, List.getElem?_cons_zero, List.getElem?_cons_succ]; rfl) (by kernel_rfl) (by kernel_rfl) (by kernel_rfl) (fun _ _ _ h => h) (Or.inl ⟨by rfl, ?_⟩) (by assumption) ?_
  rotate_left 1
  · intro w hSw
    go_simp
    with_reducible rfl
  simp only [Act.put, List.setIfInBounds_toArray, List.set_cons_zero, List.set_cons_succ]
  refine wpAnyH_take (i := 7) (v := ?_) (by simp only [List.getElem?_toArray, List.getElem?_cons_zero, List.getElem?_cons_succ]; rfl) (by kernel_rfl) (by kernel_rfl) (by kernel_rfl) (fun _ _ _ h => h) (Or.inl ⟨by rfl, ?_⟩) (by assumption) ?_
  rotate_left 1
  · intro w hSw
    have d1 := hSw.2
    go_simp
    with_reducible rfl
  simp only [Act.put, List.setIfInBounds_toArray, List.set_cons_zero, List.set_cons_succ]
  refine wpAnyH_take (i := 8) (v := ?_) (by simp only [List.getElem?_toArray, List.getElem?_cons_zero, List.getElem?_cons_succ]; rfl) (by kernel_rfl) (by kernel_rfl) (by kernel_rfl) (fun _ _ _ h => h) (Or.inl ⟨by rfl, ?_⟩) (by assumption) ?_
  rotate_left 1
  · intro w hSw
    go_simp
    with_reducible rfl
  simp only [Act.put, List.setIfInBounds_toArray, List.set_cons_zero, List.set_cons_succ]
  refine wpAnyH_ready (rs := [9]) (by kernel_rfl) (by simp) ?_
  refine AllReadyH.cons (by simp only [List.getElem?_toArray, List.getElem?_cons_zero, List.getElem?_cons_succ]; rfl) (fun K hK => ?_) AllReadyH.nil
  have hz1 : (w.drew.alloc (.cells #[.slice A L cap, .bool s.1] 45)).cell? ⟨g, 0, none⟩ = some (.slice A L cap) ∧ (w.drew.alloc (.cells #[.slice A L cap, .bool s.1] 45)).cell? ⟨g, 1, none⟩ = some (.bool s.1) := HZ.out
  go_simp
  refine hK.out _ _ hz1 (fun hS => ?_)
  clear hK K hS
  refine wpAnyH_take (i := 10) (v := ?_) (by simp only [List.getElem?_toArray, List.getElem?_cons_zero, List.getElem?_cons_succ]; rfl) (by kernel_rfl) (by kernel_rfl) (by kernel_rfl) (fun _ _ _ h => h) (Or.inl ⟨by rfl, ?_⟩) (by assumption) ?_
  rotate_left 1
  · intro w hSw
    go_simp
    with_reducible rfl
  simp only [Act.put, List.setIfInBounds_toArray, List.set_cons_zero, List.set_cons_succ]
  refine wpAnyH_done (by kernel_rfl) ?_ _
  refine NoPanic.normal ?_
  clear c0 c1 hz1 HZ
  go_wp2_with (first
    | (go_at_call 50; refine CN.out.mono ?_; rintro e2 w2 ⟨rfl, ht, hg⟩
       have T2 := hid ht
       have G2 := hid (HTG.out.beside HTL.out NE.out hg)
       have B2 : Hid (Below w.heap.size w w2) := Grw.below HBL.out hg (Nat.le_refl _) HBL.out.size
       clear ht hg
       obtain ⟨A2, cap2, bb2, off2, k1, _⟩ := T2.out
       have d1 : w2.cell? ⟨w.heap.size, 1, none⟩ = some (.bool s.1) := k1.at_ 1
       have d3 : w2.cell? ⟨w.heap.size, 0, none⟩ = some (.slice A2 (s.2.drop 2).length cap2) := k1.at_ 0
       rw [hs1.out] at d1
       rw [HD.out] at d3
       clear k1)
    | (go_at_call 63; refine (CS.out _ T2.out).mono ?_; rintro e3 w3 ⟨v3, A3, c3, b3, rfl, hy, hap, ht, hg⟩
       have T3 := hid ht
       have G3 := hid (G2.out.beside T2.out NE.out hg)
       have B3 : Hid (Below w.heap.size w w3) := Grw.below B2.out hg (Nat.le_refl _) B2.out.size
       have YA := hid (apart_ne hap HPG.out G2.out.inside)
       obtain ⟨A4, L4, cap4, d4, _, T4, G4⟩ := tq_take G3.out T3.out
       have HT4 := hid T4
       have HG4 := hid G4
       have k3 := conv_back (hy.grw G4 YA.out)
       obtain ⟨A5, cap5, bb5, off5, k2, _⟩ := G3.out
       have d2 := k2.at_ 0
       have f2 := k2.free 0
       clear k2 T4 G4 hy hap ht hg d1 d3))
  go_ret
  exact ⟨rfl, HT4.out, (Grw.of_below B3.out).trans HG4.out⟩
theorem qText_any (g : Nat) (s : St) (most : Int) (him : I64 most) (w : World) (h : Tq w g s) :
    Calls Try.prog 51 #[.pointer (some ⟨g, 0, none⟩), .int .i64 most] w fun e w' => e = .returned (.string (ba (textS s most).1)) ∧ Tq w' g (textS s most).2 ∧ Grw g w w' := by
  rcases hn : nxt s 2 with _ | n
  · exact qText_none g s most him hn w h
  · by_cases h0 : most < 0
    · exact qText_neg g s most him n hn h0 w h
    · obtain ⟨m, hm⟩ : ∃ m : Nat, most = (m : Int) := ⟨most.toNat, by omega⟩
      by_cases h1 : m < n
      · exact qText_above g s most him n hn m hm h1 w h
      · by_cases h2 : s.2.length < n + 2
        · exact qText_long g s most him n hn m hm h1 h2 w h
        · exact qText_good g s most him n hn m hm h1 (by omega) w h
end Go.Proofs.Ytdmdddmfiankhaa
