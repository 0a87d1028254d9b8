/- The law BytesLay: what its call does. Conditions: a heap that has a block. -/
import Derived.Test.YtdmdddmfiankhaaBM
namespace Go.Proofs.Ytdmdddmfiankhaa
open Go.RowKit
theorem ba_append (s : ByteArray) (l : List UInt8) : ba (tl s ++ l) = s ++ ba l := by
  apply ByteArray.ext; apply Array.ext'; simp [ba, tl]
theorem fresh_own {B L : Nat} {w : World} {v : Value} {xs : List UInt8} (h : Fresh B w v xs) (hL : xs.length = L) : w.ownsRow B 5 1 v L (xs.map V8) := by subst hL; exact h
theorem own_kept {B n : Nat} {w w' : World} {v : Value} {xs : List Value} (h : w.ownsRow B 5 1 v n xs) (hb : Below w.heap.size w w') : w'.ownsRow B 5 1 v n xs :=
  h.kept (row := none) ⟨hb.os, hb.tape, hb.output, hb.size, fun i hi _ => hb.block i hi⟩ (by cases h : v.ownBlock <;> simp)
set_option maxRecDepth 100000 in
set_option maxHeartbeats 4000000 in
theorem layLaw_any (s0 : ByteArray) (k : Int) (n : Nat) (hn : n < 18446744073709551616) (w : World) (hp : 0 < w.heap.size) :
    Calls Try.prog 3 #[.string s0, .int .i64 k, .int .u64 (n : Int)] w fun e w' => e = .returned (.bool true) ∧ Below w.heap.size w w' := by
  have HP := hid hp
  have HN := hid hn
  obtain ⟨s, HS⟩ : ∃ s, Hid (ba ((tl s0).take 300) = s) := ⟨_, rfl⟩
  have CA := hid (cut_any s0 300 (by omega) w)
  rw [HS.out] at CA
  have hsz : s.size ≤ 300 := by rw [← HS.out, ba_size, List.length_take]; omega
  obtain ⟨wa, HWA⟩ : ∃ wa, Lib.bytesWorld w 5 s = wa := ⟨_, rfl⟩
  obtain ⟨co, HCO⟩ : ∃ co, grownCap w s.size 0 5 = co := ⟨_, rfl⟩
  have yo : Bytes wa (.slice (some ⟨w.heap.size, 0, none⟩) s.size co) (tl s) (some ⟨w.heap.size, 0, none⟩) co w.heap.size 0 := by rw [← HWA, ← HCO]; exact conv_bytes s w
  have BA : Hid (Below w.heap.size w wa) := by rw [← HWA]; exact conv_below s w
  have KC : (convert 9 24 (.string s)).run Try.prog w = .ok (.slice (some ⟨w.heap.size, 0, none⟩) s.size co) wa := by rw [← HWA, ← HCO]; exact conv_string s w
  have YO := hid yo
  have PA : Hid (0 < wa.heap.size) := Nat.lt_of_lt_of_le hp BA.out.size
  have GA : Hid (w.heap.size < wa.heap.size) := yo.blk
  have hl : (tl s).length ≤ 300 := by rw [tl_length]; exact hsz
  have C1 := hid (put_any _ (tl s) _ _ _ _ k n hn (by omega) wa yo)
  have C2 : Hid (∀ w1, Below wa.heap.size wa w1 → Calls Try.prog 14 #[.slice (some ⟨w.heap.size, 0, none⟩) s.size co, .string s] w1 fun e w' => ∃ v', e = .returned (.tuple #[v', .int .i64 0]) ∧ Fresh w1.heap.size w' v' (tl s ++ textL (tl s)) ∧ Below w1.heap.size w1 w') := fun w1 hb =>
    putText_any _ (tl s) _ _ _ _ s (by omega) (by omega) w1 (YO.out.kept hb (Nat.le_refl _))
  have C3 : Hid (∀ w1, Calls Try.prog 15 #[.string s] w1 fun e w' => ∃ v, e = .returned (.tuple #[v, .int .i64 0]) ∧ Fresh w1.heap.size w' v (textL (tl s)) ∧ Below w1.heap.size w1 w') := fun w1 => rText_any s (by omega) w1
  obtain ⟨x8, H8⟩ : ∃ x8, Hid (tl s ++ numL k n = x8) := ⟨_, rfl⟩
  obtain ⟨x11, H11⟩ : ∃ x11, Hid (textL (tl s) = x11) := ⟨_, rfl⟩
  obtain ⟨x9, H9⟩ : ∃ x9, Hid (tl s ++ x11 = x9) := ⟨_, rfl⟩
  obtain ⟨z, HZ⟩ : ∃ z, Hid (ba (numL k n) = z) := ⟨_, rfl⟩
  obtain ⟨y, HY⟩ : ∃ y, Hid (ba x11 = y) := ⟨_, rfl⟩
  have E8 : Hid (ba x8 = s ++ z) := by show _ = _; rw [← H8.out, ← HZ.out, ba_append]
  have E9 : Hid (ba x9 = s ++ y) := by show _ = _; rw [← H9.out, ← HY.out, ba_append]
  have Z1 : Hid (¬ 9223372036854775807 < s.size + z.size) := by
    show ¬ _
    have := numL_len k n
    rw [← HZ.out, ba_size]; omega
  have Z2 : Hid (¬ 9223372036854775807 < s.size + y.size) := by
    show ¬ _
    have := numL_len 2 (tl s).length
    rw [← HY.out, ← H11.out, textL, ba_size, List.length_append]; omega
  obtain ⟨L8, HL8⟩ : ∃ L8, Hid (x8.length = L8) := ⟨_, rfl⟩
  have HL9 : Hid (L8 ≤ 400) := by
    show _ ≤ _
    have := numL_len k n
    rw [← HL8.out, ← H8.out, List.length_append]; omega
  have ESB : Hid (ba (tl s) = s) := ba_tl s
  rw [H8.out] at C1
  rw [H11.out, H9.out] at C2
  rw [H11.out] at C3
  clear hp hn yo hl hsz HWA HCO
  go_enter Try.func3, Try.ntmps3
  go_wp2_with (first
    | (go_at_call 12; refine CA.out.mono ?_; rintro e1 w1 ⟨rfl, rfl⟩)
    | (go_at_call 13; refine C1.out.mono ?_; rintro e1 w1 ⟨v8, rfl, ho8, hb1⟩
       obtain ⟨A8, c8, bb8, y8, hbb8, hob8⟩ := ho8.bytes (Nat.lt_of_lt_of_le PA.out hb1.size)
       obtain rfl := y8.formL HL8.out
       have O8 := hid (fresh_own ho8 HL8.out)
       have Y81 := hid y8
       have B1 := hid hb1
       clear ho8 y8 hbb8 hob8 hb1)
    | (go_at_call 14; refine (C2.out _ B1.out).mono ?_; rintro e2 wb ⟨v9, rfl, ho9, hb2⟩
       obtain ⟨A9, c9, bb9, y9, _, _⟩ := ho9.bytes (Nat.lt_of_lt_of_le PA.out (Nat.le_trans B1.out.size hb2.size))
       have O82 := hid (own_kept O8.out hb2)
       have Y82 := hid (Y81.out.kept hb2 (Nat.le_refl _))
       have Y92 := hid y9
       have B2 : Hid (Below wa.heap.size wa wb) := B1.out.trans (hb2.mono B1.out.size)
       clear ho9 y9 hb2 Y81 O8 B1)
    | (go_at_call 15; refine (C3.out _).mono ?_; rintro e3 wc ⟨v11, rfl, ho11, hb3⟩
       obtain ⟨A11, c11, bb11, y11, _, _⟩ := ho11.bytes (Nat.lt_of_lt_of_le PA.out (Nat.le_trans B2.out.size hb3.size))
       have O83 := hid (own_kept O82.out hb3)
       have Y8 := hid (Y82.out.kept hb3 (Nat.le_refl _))
       have Y9 := hid (Y92.out.kept hb3 (Nat.le_refl _))
       have Y11 := hid y11
       have B3 : Hid (Below wa.heap.size wa wc) := B2.out.trans (hb3.mono B2.out.size)
       have PC : Hid (0 < wc.heap.size) := Nat.lt_of_lt_of_le PA.out B3.out.size
       clear ho11 y11 hb3 Y82 Y92 O82 B2))
  refine wp_region_noPanic ?_
  refine wp_region_held_drew (S := fun W => Bytes W (.slice A8 L8 c8) x8 A8 c8 bb8 0 ∧ Bytes W v9 x9 A9 c9 bb9 0 ∧ Bytes W v11 x11 A11 c11 bb11 0) (by kernel_rfl) (⟨Y8.out.drew, Y9.out.drew, Y11.out.drew⟩) (fun hS => ?_)
  refine wpAnyH_take (i := 0) (v := ?_) (by simp only [List.getElem?_toArray, List.getElem?_cons_zero]; rfl) (by kernel_rfl) (by kernel_rfl) (by kernel_rfl) (fun _ _ _ h => h) (Or.inl ⟨by rfl, ?_⟩) (by assumption) ?_
  rotate_left 1
  · intro w hSw
    go_simp
    with_reducible rfl
  simp only [Act.put, List.setIfInBounds_toArray, List.set_cons_zero, List.set_cons_succ]
  refine wpAnyH_take (i := 1) (v := ?_) (by simp only [List.getElem?_toArray, List.getElem?_cons_zero, List.getElem?_cons_succ]; rfl) (by kernel_rfl) (by kernel_rfl) (by kernel_rfl) (fun _ _ _ h => h) (Or.inl ⟨by rfl, ?_⟩) (by assumption) ?_
  rotate_left 1
  · intro w hSw
    have k8 := conv_is hSw.1 E8.out
    go_simp
    with_reducible rfl
  simp only [Act.put, List.setIfInBounds_toArray, List.set_cons_zero, List.set_cons_succ]
  refine wpAnyH_take (i := 2) (v := ?_) (by simp only [List.getElem?_toArray, List.getElem?_cons_zero, List.getElem?_cons_succ]; rfl) (by kernel_rfl) (by kernel_rfl) (by kernel_rfl) (fun _ _ _ h => h) (Or.inl ⟨by rfl, ?_⟩) (by assumption) ?_
  rotate_left 1
  · intro w hSw
    go_simp
    with_reducible rfl
  simp only [Act.put, List.setIfInBounds_toArray, List.set_cons_zero, List.set_cons_succ]
  refine wpAnyH_take (i := 3) (v := ?_) (by simp only [List.getElem?_toArray, List.getElem?_cons_zero, List.getElem?_cons_succ]; rfl) (by kernel_rfl) (by kernel_rfl) (by kernel_rfl) (fun _ _ _ h => h) (Or.inl ⟨by rfl, ?_⟩) (by assumption) ?_
  rotate_left 1
  · intro w hSw
    go_simp
    with_reducible rfl
  simp only [Act.put, List.setIfInBounds_toArray, List.set_cons_zero, List.set_cons_succ]
  refine wpAnyH_take (i := 4) (v := ?_) (by simp only [List.getElem?_toArray, List.getElem?_cons_zero, List.getElem?_cons_succ]; rfl) (by kernel_rfl) (by kernel_rfl) (by kernel_rfl) (fun _ _ _ h => h) (Or.inl ⟨by rfl, ?_⟩) (by assumption) ?_
  rotate_left 1
  · intro w hSw
    go_simp
    with_reducible rfl
  simp only [Act.put, List.setIfInBounds_toArray, List.set_cons_zero, List.set_cons_succ]
  refine wpAnyH_ready (rs := [5]) (by kernel_rfl) (by simp) ?_
  refine AllReadyH.cons (by simp only [List.getElem?_toArray, List.getElem?_cons_zero, List.getElem?_cons_succ]; rfl) (fun K hK => ?_) AllReadyH.nil
  go_simp
  refine (rNum_any k n HN.out wc.drew).mono ?_
  rintro ee x1 ⟨v38, rfl, ho38, hb⟩
  have BX : Hid (Below wc.heap.size wc x1) := (Below.refl _ _).drew.trans hb
  obtain ⟨A38, c38, bb38, y38, _, _⟩ := own_bytes rfl (Nat.lt_of_lt_of_le PC.out BX.out.size) ho38
  have k38 := conv_is y38 HZ.out
  clear ho38 y38
  have hz1 := (⟨Y8.out.drew.kept hb (Nat.le_refl _), Y9.out.drew.kept hb (Nat.le_refl _), Y11.out.drew.kept hb (Nat.le_refl _)⟩ : Bytes x1 (.slice A8 L8 c8) x8 A8 c8 bb8 0 ∧ Bytes x1 v9 x9 A9 c9 bb9 0 ∧ Bytes x1 v11 x11 A11 c11 bb11 0)
  refine hK.out _ _ hz1 (fun hS => ?_)
  clear hK K hS
  refine wpAnyH_ready (rs := [6]) (by kernel_rfl) (by simp) ?_
  refine AllReadyH.cons (by simp only [List.getElem?_toArray, List.getElem?_cons_zero, List.getElem?_cons_succ]; rfl) (fun K hK => ?_) AllReadyH.nil
  go_simp
  refine hK.out _ _ hz1 (fun hS => ?_)
  clear hK K hS
  clear k38
  refine wpAnyH_take (i := 7) (v := ?_) (by simp only [List.getElem?_toArray, List.getElem?_cons_zero, List.getElem?_cons_succ]; rfl) (by kernel_rfl) (by kernel_rfl) (by kernel_rfl) (fun _ _ _ h => h) (Or.inl ⟨by rfl, ?_⟩) (by assumption) ?_
  rotate_left 1
  · intro w hSw
    have z1 := Z1.out
    go_simp
    with_reducible rfl
  simp only [Act.put, List.setIfInBounds_toArray, List.set_cons_zero, List.set_cons_succ]
  refine wpAnyH_take (i := 8) (v := ?_) (by simp only [List.getElem?_toArray, List.getElem?_cons_zero, List.getElem?_cons_succ]; rfl) (by kernel_rfl) (by kernel_rfl) (by kernel_rfl) (fun _ _ _ h => h) (Or.inl ⟨by rfl, ?_⟩) (by assumption) ?_
  rotate_left 1
  · intro w hSw
    go_simp
    with_reducible rfl
  simp only [Act.put, List.setIfInBounds_toArray, List.set_cons_zero, List.set_cons_succ]
  refine wpAnyH_take (i := 9) (v := ?_) (by simp only [List.getElem?_toArray, List.getElem?_cons_zero, List.getElem?_cons_succ]; rfl) (by kernel_rfl) (by kernel_rfl) (by kernel_rfl) (fun _ _ _ h => h) (Or.inl ⟨by rfl, ?_⟩) (by assumption) ?_
  rotate_left 1
  · intro w hSw
    go_simp
    with_reducible rfl
  simp only [Act.put, List.setIfInBounds_toArray, List.set_cons_zero, List.set_cons_succ]
  refine wpAnyH_take (i := 10) (v := ?_) (by simp only [List.getElem?_toArray, List.getElem?_cons_zero, List.getElem?_cons_succ]; rfl) (by kernel_rfl) (by kernel_rfl) (by kernel_rfl) (fun _ _ _ h => h) (Or.inl ⟨by rfl, ?_⟩) (by assumption) ?_
  rotate_left 1
  · intro w hSw
    go_simp
    with_reducible rfl
  simp only [Act.put, List.setIfInBounds_toArray, List.set_cons_zero, List.set_cons_succ]
  refine wpAnyH_take (i := 11) (v := ?_) (by simp only [List.getElem?_toArray, List.getElem?_cons_zero, List.getElem?_cons_succ]; rfl) (by kernel_rfl) (by kernel_rfl) (by kernel_rfl) (fun _ _ _ h => h) (Or.inl ⟨by rfl, ?_⟩) (by assumption) ?_
  rotate_left 1
  · intro w hSw
    go_simp
    with_reducible rfl
  simp only [Act.put, List.setIfInBounds_toArray, List.set_cons_zero, List.set_cons_succ]
  refine wpAnyH_take (i := 12) (v := ?_) (by simp only [List.getElem?_toArray, List.getElem?_cons_zero, List.getElem?_cons_succ]; rfl) (by kernel_rfl) (by kernel_rfl) (by kernel_rfl) (fun _ _ _ h => h) (Or.inl ⟨by rfl, ?_⟩) (by assumption) ?_
  rotate_left 1
  · intro w hSw
    go_simp
    with_reducible rfl
  simp only [Act.put, List.setIfInBounds_toArray, List.set_cons_zero, List.set_cons_succ]
  refine wpAnyH_take (i := 13) (v := ?_) (by simp only [List.getElem?_toArray, List.getElem?_cons_zero, List.getElem?_cons_succ]; rfl) (by kernel_rfl) (by kernel_rfl) (by kernel_rfl) (fun _ _ _ h => h) (Or.inl ⟨by rfl, ?_⟩) (by assumption) ?_
  rotate_left 1
  · intro w hSw
    go_simp
    with_reducible rfl
  simp only [Act.put, List.setIfInBounds_toArray, List.set_cons_zero, List.set_cons_succ]
  refine wpAnyH_take (i := 14) (v := ?_) (by simp only [List.getElem?_toArray, List.getElem?_cons_zero, List.getElem?_cons_succ]; rfl) (by kernel_rfl) (by kernel_rfl) (by kernel_rfl) (fun _ _ _ h => h) (Or.inl ⟨by rfl, ?_⟩) (by assumption) ?_
  rotate_left 1
  · intro w hSw
    go_simp
    with_reducible rfl
  simp only [Act.put, List.setIfInBounds_toArray, List.set_cons_zero, List.set_cons_succ]
  refine wpAnyH_take (i := 15) (v := ?_) (by simp only [List.getElem?_toArray, List.getElem?_cons_zero, List.getElem?_cons_succ]; rfl) (by kernel_rfl) (by kernel_rfl) (by kernel_rfl) (fun _ _ _ h => h) (Or.inl ⟨by rfl, ?_⟩) (by assumption) ?_
  rotate_left 1
  · intro w hSw
    go_simp
    with_reducible rfl
  simp only [Act.put, List.setIfInBounds_toArray, List.set_cons_zero, List.set_cons_succ]
  refine wpAnyH_take (i := 16) (v := ?_) (by simp only [List.getElem?_toArray, List.getElem?_cons_zero, List.getElem?_cons_succ]; rfl) (by kernel_rfl) (by kernel_rfl) (by kernel_rfl) (fun _ _ _ h => h) (Or.inl ⟨by rfl, ?_⟩) (by assumption) ?_
  rotate_left 1
  · intro w hSw
    go_simp
    with_reducible rfl
  simp only [Act.put, List.setIfInBounds_toArray, List.set_cons_zero, List.set_cons_succ]
  refine wpAnyH_take (i := 17) (v := ?_) (by simp only [List.getElem?_toArray, List.getElem?_cons_zero, List.getElem?_cons_succ]; rfl) (by kernel_rfl) (by kernel_rfl) (by kernel_rfl) (fun _ _ _ h => h) (Or.inl ⟨by rfl, ?_⟩) (by assumption) ?_
  rotate_left 1
  · intro w hSw
    go_simp
    with_reducible rfl
  simp only [Act.put, List.setIfInBounds_toArray, List.set_cons_zero, List.set_cons_succ]
  refine wpAnyH_take (i := 18) (v := ?_) (by simp only [List.getElem?_toArray, List.getElem?_cons_zero, List.getElem?_cons_succ]; rfl) (by kernel_rfl) (by kernel_rfl) (by kernel_rfl) (fun _ _ _ h => h) (Or.inl ⟨by rfl, ?_⟩) (by assumption) ?_
  rotate_left 1
  · intro w hSw
    go_simp
    with_reducible rfl
  simp only [Act.put, List.setIfInBounds_toArray, List.set_cons_zero, List.set_cons_succ]
  refine wpAnyH_take (i := 19) (v := ?_) (by simp only [List.getElem?_toArray, List.getElem?_cons_zero, List.getElem?_cons_succ]; rfl) (by kernel_rfl) (by kernel_rfl) (by kernel_rfl) (fun _ _ _ h => h) (Or.inl ⟨by rfl, ?_⟩) (by assumption) ?_
  rotate_left 1
  · intro w hSw
    have k9 := conv_is hSw.2.1 E9.out
    go_simp
    with_reducible rfl
  simp only [Act.put, List.setIfInBounds_toArray, List.set_cons_zero, List.set_cons_succ]
  refine wpAnyH_take (i := 20) (v := ?_) (by simp only [List.getElem?_toArray, List.getElem?_cons_zero, List.getElem?_cons_succ]; rfl) (by kernel_rfl) (by kernel_rfl) (by kernel_rfl) (fun _ _ _ h => h) (Or.inl ⟨by rfl, ?_⟩) (by assumption) ?_
  rotate_left 1
  · intro w hSw
    go_simp
    with_reducible rfl
  simp only [Act.put, List.setIfInBounds_toArray, List.set_cons_zero, List.set_cons_succ]
  refine wpAnyH_take (i := 21) (v := ?_) (by simp only [List.getElem?_toArray, List.getElem?_cons_zero, List.getElem?_cons_succ]; rfl) (by kernel_rfl) (by kernel_rfl) (by kernel_rfl) (fun _ _ _ h => h) (Or.inl ⟨by rfl, ?_⟩) (by assumption) ?_
  rotate_left 1
  · intro w hSw
    go_simp
    with_reducible rfl
  simp only [Act.put, List.setIfInBounds_toArray, List.set_cons_zero, List.set_cons_succ]
  refine wpAnyH_take (i := 22) (v := ?_) (by simp only [List.getElem?_toArray, List.getElem?_cons_zero, List.getElem?_cons_succ]; rfl) (by kernel_rfl) (by kernel_rfl) (by kernel_rfl) (fun _ _ _ h => h) (Or.inl ⟨by rfl, ?_⟩) (by assumption) ?_
  rotate_left 1
  · intro w hSw
    have k11 := conv_is hSw.2.2 HY.out
    go_simp
    with_reducible rfl
  simp only [Act.put, List.setIfInBounds_toArray, List.set_cons_zero, List.set_cons_succ]
  refine wpAnyH_take (i := 23) (v := ?_) (by simp only [List.getElem?_toArray, List.getElem?_cons_zero, List.getElem?_cons_succ]; rfl) (by kernel_rfl) (by kernel_rfl) (by kernel_rfl) (fun _ _ _ h => h) (Or.inl ⟨by rfl, ?_⟩) (by assumption) ?_
  rotate_left 1
  · intro w hSw
    have z2 := Z2.out
    go_simp
    with_reducible rfl
  simp only [Act.put, List.setIfInBounds_toArray, List.set_cons_zero, List.set_cons_succ]
  refine wpAnyH_take (i := 24) (v := ?_) (by simp only [List.getElem?_toArray, List.getElem?_cons_zero, List.getElem?_cons_succ]; rfl) (by kernel_rfl) (by kernel_rfl) (by kernel_rfl) (fun _ _ _ h => h) (Or.inl ⟨by rfl, ?_⟩) (by assumption) ?_
  rotate_left 1
  · intro w hSw
    go_simp
    with_reducible rfl
  simp only [Act.put, List.setIfInBounds_toArray, List.set_cons_zero, List.set_cons_succ]
  refine wpAnyH_take (i := 25) (v := ?_) (by simp only [List.getElem?_toArray, List.getElem?_cons_zero, List.getElem?_cons_succ]; rfl) (by kernel_rfl) (by kernel_rfl) (by kernel_rfl) (fun _ _ _ h => h) (Or.inl ⟨by rfl, ?_⟩) (by assumption) ?_
  rotate_left 1
  · intro w hSw
    go_simp
    with_reducible rfl
  simp only [Act.put, List.setIfInBounds_toArray, List.set_cons_zero, List.set_cons_succ]
  refine wpAnyH_done (by kernel_rfl) ?_ _
  refine NoPanic.normal ?_
  clear hz1 KC
  have O8 := hid (own_kept O83.out BX.out)
  have BW : Hid (Below w.heap.size w x1) := BA.out.trans ((B3.out.trans (BX.out.mono B3.out.size)).mono BA.out.size)
  have YO2 : Hid (Bytes x1 (.slice (some ⟨w.heap.size, 0, none⟩) s.size co) (tl s) (some ⟨w.heap.size, 0, none⟩) co w.heap.size 0) := YO.out.kept (B3.out.trans (BX.out.mono B3.out.size)) (Nat.le_refl _)
  go_wp2
  go_loopw [13] (fun i wr => ∃ (j : Nat) (zs : List Value), j ≤ L8 ∧ i = .int .i64 (j : Int) ∧ Hid (wr.ownsRow wa.heap.size 5 1 (.slice A8 L8 c8) L8 zs) ∧ Hid (Bytes wr (.slice (some ⟨w.heap.size, 0, none⟩) s.size co) (tl s) (some ⟨w.heap.size, 0, none⟩) co w.heap.size 0) ∧ Hid (Below w.heap.size w wr)) (fun i _ => L8 - (intOf i).toNat)
  case atStart => exact ⟨0, _, by omega, rfl, O8, YO2, BW⟩
  case round =>
    obtain ⟨j, zs, hj, rfl, HO, HY1, HB⟩ := hrel
    by_cases hlt : j < L8
    · obtain ⟨g8, hA8, hg8⟩ : ∃ g8, A8 = some ⟨g8, 0, none⟩ ∧ Hid (wa.heap.size ≤ g8) := by
        rcases HO.out.2 with ⟨h1, _⟩ | ⟨g, cap, cur, h1, h2, _⟩
        · cases h1; omega
        · cases h1; exact ⟨g, rfl, h2⟩
      subst hA8
      have hzl : zs.length = L8 * 1 := HO.out.1
      have c1 : wr.cell? ⟨g8, j, none⟩ = some (zs[j]'(by omega)) := (HO.out.cellAt j (by omega)).trans (List.getElem?_eq_getElem _)
      have f1 := HO.out.frozenAt j
      have hst := HO.out.stored j (.int .u8 77)
      have HST := hid hst
      have hm9 : L8 ≤ 400 := HL9.out
      clear hst
      go_wp2
      go_roundw
      case rel =>
        refine ⟨j + 1, _, by omega, by go_num, HST.out.1, HY1.out.grw (g := g8) HST.out.2 ?_, Grw.below HB.out HST.out.2 ?_ HB.out.size⟩
        · have := hg8.out; have := GA.out; omega
        · have := hg8.out; have := GA.out; omega
      case measure => simp [intOf]; omega
    · obtain rfl : j = L8 := by omega
      have k7 := conv_is HY1.out ESB.out
      have CW := hid (works_any wr (Nat.lt_of_lt_of_le HP.out HB.out.size))
      clear hlt
      go_wp2_with (first
        | (go_at_call 17; refine CW.out.mono ?_; rintro e9 w9 ⟨rfl, hb9⟩))
      go_ret
      exact ⟨rfl, HB.out.trans (hb9.mono HB.out.size)⟩
end Go.Proofs.Ytdmdddmfiankhaa
