/- caravanlaw04.lay, back: what each call does. Conditions: at most 20000 bytes ahead; a tape that NewTape made. -/
import Derived.Test.YtdmdddmfiankhaaBP
namespace Go.Proofs.Ytdmdddmfiankhaa
open Go.RowKit
/-- A thing's bytes. -/
def thL (x : Int) (n : Nat) (s : ByteArray) : List UInt8 := if kd x = 4 then textL ((tl s).take 300) else numL ((2 ^ kd x : Nat) : Int) n
theorem conv_box (w : World) (x : Int) (n : Nat) (s : ByteArray) : Hid (Has (w.alloc (.cells (thing x n s) 62)) w.heap.size 62 (thing x n s)) ∧ Hid (Below w.heap.size w (w.alloc (.cells (thing x n s) 62))) := ⟨Has.fresh w 62 _, (Below.refl _ _).alloc (Nat.le_refl _) _⟩
set_option maxRecDepth 100000 in
set_option maxHeartbeats 1000000 in
theorem lay_text (v : Value) (ys : List UInt8) (A : Option Addr) (cap bb off : Nat) (x : Int) (n : Nat) (s : ByteArray) (hk : kd x = 4) (hl : ys.length ≤ 20000) (w : World) (h : Bytes w v ys A cap bb off) :
    Calls Try.prog 30 #[v, .agg (thing x n s)] w fun e w' => ∃ v', e = .returned v' ∧ Fresh w.heap.size w' v' (ys ++ thL x n s) ∧ Below w.heap.size w w' := by
  have HL : Hid (thL x n s = textL (tl (ba ((tl s).take 300)))) := by show _ = _; rw [thL, if_pos hk, tl_ba]
  rw [HL.out]
  have CK : Hid (∀ w, Calls Try.prog 54 #[.agg (thing x n s)] w fun e w' => e = .returned (.int .i64 4) ∧ Below w.heap.size w w') := fun w => kind_any x n s 4 hk w
  have CC : Hid (∀ w, Calls Try.prog 12 #[.string s, .int .i64 300] w fun e w' => e = .returned (.string (ba ((tl s).take 300))) ∧ w = w') := fun w => cut_any s 300 (by omega) w
  have hsz : (ba ((tl s).take 300)).size ≤ 65535 := by rw [ba_size, List.length_take]; omega
  generalize ba ((tl s).take 300) = u at CC hsz ⊢
  have CP : Hid (∀ w1, Below w.heap.size w w1 → Calls Try.prog 14 #[v, .string u] w1 fun e w' => ∃ v', e = .returned (.tuple #[v', .int .i64 0]) ∧ Fresh w1.heap.size w' v' (ys ++ textL (tl u)) ∧ Below w1.heap.size w1 w') := fun w1 hb => putText_any v ys A cap bb off u hsz hl w1 (h.kept hb (Nat.le_refl _))
  obtain ⟨HH, HB⟩ := conv_box w x n s
  have HLD := hid (load_thing HH.out)
  clear hk h hl hsz
  go_enter Try.func30, Try.ntmps30
  go_wp2_with (first
    | (refine wpList_load_g (by rfl) 62 (.tmp 3) rfl w.heap.size 0 rfl (thing x n s) HLD.out ?_)
    | (go_at_call 54; refine (CK.out _).mono ?_; rintro e1 w1 ⟨rfl, hb1⟩
       have B1 : Hid (Below w.heap.size w w1) := HB.out.trans (hb1.mono HB.out.size)
       have H1 : Hid (Has w1 w.heap.size 62 (thing x n s)) := HH.out.kept hb1 HH.out.inside
       have c2 : w1.cell? ⟨w.heap.size, 2, none⟩ = some (.string s) := H1.out.at_ 2
       clear hb1)
    | (go_at_call 12; refine (CC.out _).mono ?_; rintro e2 w2 ⟨rfl, rfl⟩)
    | (go_at_call 14; refine (CP.out _ B1.out).mono ?_; rintro e3 w3 ⟨v3, rfl, ho, hb3⟩
       have O3 := hid (ho.mono B1.out.size)
       have B3 : Hid (Below w.heap.size w w3) := B1.out.trans (hb3.mono B1.out.size)
       clear ho hb3))
  go_ret
  exact ⟨_, rfl, O3.out, B3.out⟩
set_option maxRecDepth 100000 in
set_option maxHeartbeats 1000000 in
theorem lay_num0 (v : Value) (ys : List UInt8) (A : Option Addr) (cap bb off : Nat) (x : Int) (n : Nat) (hn : n < 18446744073709551616) (s : ByteArray) (hk : kd x = 0) (hl : ys.length ≤ 20000) (w : World) (h : Bytes w v ys A cap bb off) :
    Calls Try.prog 30 #[v, .agg (thing x n s)] w fun e w' => ∃ v', e = .returned v' ∧ Fresh w.heap.size w' v' (ys ++ thL x n s) ∧ Below w.heap.size w w' := by
  have HL : Hid (thL x n s = numL 1 n) := by show _ = _; rw [thL, if_neg (by omega), hk]; rfl
  rw [HL.out]
  have CK : Hid (∀ w, Calls Try.prog 54 #[.agg (thing x n s)] w fun e w' => e = .returned (.int .i64 0) ∧ Below w.heap.size w w') := fun w => kind_any x n s 0 hk w
  have CP : Hid (∀ w1, Below w.heap.size w w1 → Calls Try.prog 13 #[v, .int .i64 1, .int .u64 (n : Int)] w1 fun e w' => ∃ v', e = .returned v' ∧ Fresh w1.heap.size w' v' (ys ++ numL 1 n) ∧ Below w1.heap.size w1 w') := fun w1 hb => put_any v ys A cap bb off 1 n hn (by omega) w1 (h.kept hb (Nat.le_refl _))
  obtain ⟨HH, HB⟩ := conv_box w x n s
  have HLD := hid (load_thing HH.out)
  clear hk h hl hn
  go_enter Try.func30, Try.ntmps30
  go_wp2_with (first
    | (refine wpList_load_g (by rfl) 62 (.tmp 3) rfl w.heap.size 0 rfl (thing x n s) HLD.out ?_)
    | (go_at_call 54; refine (CK.out _).mono ?_; rintro e1 w1 ⟨rfl, hb1⟩
       have B1 : Hid (Below w.heap.size w w1) := HB.out.trans (hb1.mono HB.out.size)
       have H1 : Hid (Has w1 w.heap.size 62 (thing x n s)) := HH.out.kept hb1 HH.out.inside
       clear hb1))
  refine wp_region_noPanic ?_
  refine wp_region_held_drew (S := fun W => Has W w.heap.size 62 (thing x n s)) (by kernel_rfl) (H1.out.drawn 1) (fun hS => ?_)
  refine wpAnyH_take (i := 0) (v := ?_) (by simp only [List.getElem?_toArray, List.getElem?_cons_zero]; rfl) (by kernel_rfl) (by kernel_rfl) (by kernel_rfl) (fun _ _ _ h => h) (Or.inl ⟨by rfl, ?_⟩) (by assumption) ?_
  rotate_left 1
  · intro w hSw
    go_simp
    with_reducible rfl
  simp only [Act.put, List.setIfInBounds_toArray, List.set_cons_zero, List.set_cons_succ]
  refine' wpAnyH_take (i := 1) (v := _) (by simp only [List.getElem?_toArray, List.getElem?_cons_zero, List.getElem?_cons_succ]; rfl) (by kernel_rfl) (by kernel_rfl) (by kernel_rfl) (fun _ _ _ h => h) (yields_load (by rfl) 62 (.tmp 3) rfl w.heap.size 0 rfl (thing x n s) (fun W hW => load_thing hW)) (by assumption) ?_
  simp only [Act.put, List.setIfInBounds_toArray, List.set_cons_zero, List.set_cons_succ]
  refine wpAnyH_take (i := 4) (v := ?_) (by simp only [List.getElem?_toArray, List.getElem?_cons_zero, List.getElem?_cons_succ]; rfl) (by kernel_rfl) (by kernel_rfl) (by kernel_rfl) (fun _ _ _ h => h) (Or.inl ⟨by rfl, ?_⟩) (by assumption) ?_
  rotate_left 1
  · intro w hSw
    go_simp
    with_reducible rfl
  simp only [Act.put, List.setIfInBounds_toArray, List.set_cons_zero, List.set_cons_succ]
  refine wpAnyH_take (i := 5) (v := ?_) (by simp only [List.getElem?_toArray, List.getElem?_cons_zero, List.getElem?_cons_succ]; rfl) (by kernel_rfl) (by kernel_rfl) (by kernel_rfl) (fun _ _ _ h => h) (Or.inl ⟨by rfl, ?_⟩) (by assumption) ?_
  rotate_left 1
  · intro W9 hSw
    have c1 : W9.cell? ⟨w.heap.size, 1, none⟩ = some (.int .u64 (n : Int)) := hSw.at_ 1
    go_simp
    with_reducible rfl
  simp only [Act.put, List.setIfInBounds_toArray, List.set_cons_zero, List.set_cons_succ]
  refine wpAnyH_ready (rs := [2]) (by kernel_rfl) (by simp) ?_
  refine AllReadyH.cons (by simp only [List.getElem?_toArray, List.getElem?_cons_zero, List.getElem?_cons_succ]; rfl) (fun K hK => ?_) AllReadyH.nil
  go_simp
  refine (CK.out w1.drew).mono ?_
  rintro ee x1 ⟨rfl, hb⟩
  have X1 : Hid (Below w.heap.size w x1) := B1.out.drew.trans (hb.mono B1.out.size)
  have hz1 := (H1.out.drawn 1).kept hb H1.out.inside
  refine hK.out _ _ hz1 (fun hS => ?_)
  clear hK K hS
  refine wpAnyH_take (i := 3) (v := ?_) (by simp only [List.getElem?_toArray, List.getElem?_cons_zero, List.getElem?_cons_succ]; rfl) (by kernel_rfl) (by kernel_rfl) (by kernel_rfl) (fun _ _ _ h => h) (Or.inl ⟨by rfl, ?_⟩) (by assumption) ?_
  rotate_left 1
  · intro w hSw
    go_simp
    with_reducible rfl
  simp only [Act.put, List.setIfInBounds_toArray, List.set_cons_zero, List.set_cons_succ]
  refine wpAnyH_ready (rs := [6]) (by kernel_rfl) (by simp) ?_
  refine AllReadyH.cons (by simp only [List.getElem?_toArray, List.getElem?_cons_zero, List.getElem?_cons_succ]; rfl) (fun K hK => ?_) AllReadyH.nil
  go_simp
  refine (CP.out _ X1.out).mono ?_
  rintro ee x2 ⟨v3, rfl, ho, hb2⟩
  have O3 := hid (ho.mono X1.out.size)
  have B3 : Hid (Below w.heap.size w x2) := X1.out.trans (hb2.mono X1.out.size)
  have hz2 := Has.kept hz1 hb2 (Has.inside hz1)
  refine hK.out _ _ hz2 (fun hS => ?_)
  clear hK K hS
  refine wpAnyH_take (i := 7) (v := ?_) (by simp only [List.getElem?_toArray, List.getElem?_cons_zero, List.getElem?_cons_succ]; rfl) (by kernel_rfl) (by kernel_rfl) (by kernel_rfl) (fun _ _ _ h => h) (Or.inl ⟨by rfl, ?_⟩) (by assumption) ?_
  rotate_left 1
  · intro w hSw
    go_simp
    with_reducible rfl
  simp only [Act.put, List.setIfInBounds_toArray, List.set_cons_zero, List.set_cons_succ]
  refine wpAnyH_done (by kernel_rfl) ?_ _
  refine NoPanic.normal ?_
  go_wp2
  go_ret
  exact ⟨_, rfl, O3.out, B3.out⟩
set_option maxRecDepth 100000 in
set_option maxHeartbeats 1000000 in
theorem lay_num1 (v : Value) (ys : List UInt8) (A : Option Addr) (cap bb off : Nat) (x : Int) (n : Nat) (hn : n < 18446744073709551616) (s : ByteArray) (hk : kd x = 1) (hl : ys.length ≤ 20000) (w : World) (h : Bytes w v ys A cap bb off) :
    Calls Try.prog 30 #[v, .agg (thing x n s)] w fun e w' => ∃ v', e = .returned v' ∧ Fresh w.heap.size w' v' (ys ++ thL x n s) ∧ Below w.heap.size w w' := by
  have HL : Hid (thL x n s = numL 2 n) := by show _ = _; rw [thL, if_neg (by omega), hk]; rfl
  rw [HL.out]
  have CK : Hid (∀ w, Calls Try.prog 54 #[.agg (thing x n s)] w fun e w' => e = .returned (.int .i64 1) ∧ Below w.heap.size w w') := fun w => kind_any x n s 1 hk w
  have CP : Hid (∀ w1, Below w.heap.size w w1 → Calls Try.prog 13 #[v, .int .i64 2, .int .u64 (n : Int)] w1 fun e w' => ∃ v', e = .returned v' ∧ Fresh w1.heap.size w' v' (ys ++ numL 2 n) ∧ Below w1.heap.size w1 w') := fun w1 hb => put_any v ys A cap bb off 2 n hn (by omega) w1 (h.kept hb (Nat.le_refl _))
  obtain ⟨HH, HB⟩ := conv_box w x n s
  have HLD := hid (load_thing HH.out)
  clear hk h hl hn
  go_enter Try.func30, Try.ntmps30
  go_wp2_with (first
    | (refine wpList_load_g (by rfl) 62 (.tmp 3) rfl w.heap.size 0 rfl (thing x n s) HLD.out ?_)
    | (go_at_call 54; refine (CK.out _).mono ?_; rintro e1 w1 ⟨rfl, hb1⟩
       have B1 : Hid (Below w.heap.size w w1) := HB.out.trans (hb1.mono HB.out.size)
       have H1 : Hid (Has w1 w.heap.size 62 (thing x n s)) := HH.out.kept hb1 HH.out.inside
       clear hb1))
  refine wp_region_noPanic ?_
  refine wp_region_held_drew (S := fun W => Has W w.heap.size 62 (thing x n s)) (by kernel_rfl) (H1.out.drawn 1) (fun hS => ?_)
  refine wpAnyH_take (i := 0) (v := ?_) (by simp only [List.getElem?_toArray, List.getElem?_cons_zero]; rfl) (by kernel_rfl) (by kernel_rfl) (by kernel_rfl) (fun _ _ _ h => h) (Or.inl ⟨by rfl, ?_⟩) (by assumption) ?_
  rotate_left 1
  · intro w hSw
    go_simp
    with_reducible rfl
  simp only [Act.put, List.setIfInBounds_toArray, List.set_cons_zero, List.set_cons_succ]
  refine' wpAnyH_take (i := 1) (v := _) (by simp only [List.getElem?_toArray, List.getElem?_cons_zero, List.getElem?_cons_succ]; rfl) (by kernel_rfl) (by kernel_rfl) (by kernel_rfl) (fun _ _ _ h => h) (yields_load (by rfl) 62 (.tmp 3) rfl w.heap.size 0 rfl (thing x n s) (fun W hW => load_thing hW)) (by assumption) ?_
  simp only [Act.put, List.setIfInBounds_toArray, List.set_cons_zero, List.set_cons_succ]
  refine wpAnyH_take (i := 4) (v := ?_) (by simp only [List.getElem?_toArray, List.getElem?_cons_zero, List.getElem?_cons_succ]; rfl) (by kernel_rfl) (by kernel_rfl) (by kernel_rfl) (fun _ _ _ h => h) (Or.inl ⟨by rfl, ?_⟩) (by assumption) ?_
  rotate_left 1
  · intro w hSw
    go_simp
    with_reducible rfl
  simp only [Act.put, List.setIfInBounds_toArray, List.set_cons_zero, List.set_cons_succ]
  refine wpAnyH_take (i := 5) (v := ?_) (by simp only [List.getElem?_toArray, List.getElem?_cons_zero, List.getElem?_cons_succ]; rfl) (by kernel_rfl) (by kernel_rfl) (by kernel_rfl) (fun _ _ _ h => h) (Or.inl ⟨by rfl, ?_⟩) (by assumption) ?_
  rotate_left 1
  · intro W9 hSw
    have c1 : W9.cell? ⟨w.heap.size, 1, none⟩ = some (.int .u64 (n : Int)) := hSw.at_ 1
    go_simp
    with_reducible rfl
  simp only [Act.put, List.setIfInBounds_toArray, List.set_cons_zero, List.set_cons_succ]
  refine wpAnyH_ready (rs := [2]) (by kernel_rfl) (by simp) ?_
  refine AllReadyH.cons (by simp only [List.getElem?_toArray, List.getElem?_cons_zero, List.getElem?_cons_succ]; rfl) (fun K hK => ?_) AllReadyH.nil
  go_simp
  refine (CK.out w1.drew).mono ?_
  rintro ee x1 ⟨rfl, hb⟩
  have X1 : Hid (Below w.heap.size w x1) := B1.out.drew.trans (hb.mono B1.out.size)
  have hz1 := (H1.out.drawn 1).kept hb H1.out.inside
  refine hK.out _ _ hz1 (fun hS => ?_)
  clear hK K hS
  refine wpAnyH_take (i := 3) (v := ?_) (by simp only [List.getElem?_toArray, List.getElem?_cons_zero, List.getElem?_cons_succ]; rfl) (by kernel_rfl) (by kernel_rfl) (by kernel_rfl) (fun _ _ _ h => h) (Or.inl ⟨by rfl, ?_⟩) (by assumption) ?_
  rotate_left 1
  · intro w hSw
    go_simp
    with_reducible rfl
  simp only [Act.put, List.setIfInBounds_toArray, List.set_cons_zero, List.set_cons_succ]
  refine wpAnyH_ready (rs := [6]) (by kernel_rfl) (by simp) ?_
  refine AllReadyH.cons (by simp only [List.getElem?_toArray, List.getElem?_cons_zero, List.getElem?_cons_succ]; rfl) (fun K hK => ?_) AllReadyH.nil
  go_simp
  refine (CP.out _ X1.out).mono ?_
  rintro ee x2 ⟨v3, rfl, ho, hb2⟩
  have O3 := hid (ho.mono X1.out.size)
  have B3 : Hid (Below w.heap.size w x2) := X1.out.trans (hb2.mono X1.out.size)
  have hz2 := Has.kept hz1 hb2 (Has.inside hz1)
  refine hK.out _ _ hz2 (fun hS => ?_)
  clear hK K hS
  refine wpAnyH_take (i := 7) (v := ?_) (by simp only [List.getElem?_toArray, List.getElem?_cons_zero, List.getElem?_cons_succ]; rfl) (by kernel_rfl) (by kernel_rfl) (by kernel_rfl) (fun _ _ _ h => h) (Or.inl ⟨by rfl, ?_⟩) (by assumption) ?_
  rotate_left 1
  · intro w hSw
    go_simp
    with_reducible rfl
  simp only [Act.put, List.setIfInBounds_toArray, List.set_cons_zero, List.set_cons_succ]
  refine wpAnyH_done (by kernel_rfl) ?_ _
  refine NoPanic.normal ?_
  go_wp2
  go_ret
  exact ⟨_, rfl, O3.out, B3.out⟩
set_option maxRecDepth 100000 in
set_option maxHeartbeats 1000000 in
theorem lay_num2 (v : Value) (ys : List UInt8) (A : Option Addr) (cap bb off : Nat) (x : Int) (n : Nat) (hn : n < 18446744073709551616) (s : ByteArray) (hk : kd x = 2) (hl : ys.length ≤ 20000) (w : World) (h : Bytes w v ys A cap bb off) :
    Calls Try.prog 30 #[v, .agg (thing x n s)] w fun e w' => ∃ v', e = .returned v' ∧ Fresh w.heap.size w' v' (ys ++ thL x n s) ∧ Below w.heap.size w w' := by
  have HL : Hid (thL x n s = numL 4 n) := by show _ = _; rw [thL, if_neg (by omega), hk]; rfl
  rw [HL.out]
  have CK : Hid (∀ w, Calls Try.prog 54 #[.agg (thing x n s)] w fun e w' => e = .returned (.int .i64 2) ∧ Below w.heap.size w w') := fun w => kind_any x n s 2 hk w
  have CP : Hid (∀ w1, Below w.heap.size w w1 → Calls Try.prog 13 #[v, .int .i64 4, .int .u64 (n : Int)] w1 fun e w' => ∃ v', e = .returned v' ∧ Fresh w1.heap.size w' v' (ys ++ numL 4 n) ∧ Below w1.heap.size w1 w') := fun w1 hb => put_any v ys A cap bb off 4 n hn (by omega) w1 (h.kept hb (Nat.le_refl _))
  obtain ⟨HH, HB⟩ := conv_box w x n s
  have HLD := hid (load_thing HH.out)
  clear hk h hl hn
  go_enter Try.func30, Try.ntmps30
  go_wp2_with (first
    | (refine wpList_load_g (by rfl) 62 (.tmp 3) rfl w.heap.size 0 rfl (thing x n s) HLD.out ?_)
    | (go_at_call 54; refine (CK.out _).mono ?_; rintro e1 w1 ⟨rfl, hb1⟩
       have B1 : Hid (Below w.heap.size w w1) := HB.out.trans (hb1.mono HB.out.size)
       have H1 : Hid (Has w1 w.heap.size 62 (thing x n s)) := HH.out.kept hb1 HH.out.inside
       clear hb1))
  refine wp_region_noPanic ?_
  refine wp_region_held_drew (S := fun W => Has W w.heap.size 62 (thing x n s)) (by kernel_rfl) (H1.out.drawn 1) (fun hS => ?_)
  refine wpAnyH_take (i := 0) (v := ?_) (by simp only [List.getElem?_toArray, List.getElem?_cons_zero]; rfl) (by kernel_rfl) (by kernel_rfl) (by kernel_rfl) (fun _ _ _ h => h) (Or.inl ⟨by rfl, ?_⟩) (by assumption) ?_
  rotate_left 1
  · intro w hSw
    go_simp
    with_reducible rfl
  simp only [Act.put, List.setIfInBounds_toArray, List.set_cons_zero, List.set_cons_succ]
  refine' wpAnyH_take (i := 1) (v := _) (by simp only [List.getElem?_toArray, List.getElem?_cons_zero, List.getElem?_cons_succ]; rfl) (by kernel_rfl) (by kernel_rfl) (by kernel_rfl) (fun _ _ _ h => h) (yields_load (by rfl) 62 (.tmp 3) rfl w.heap.size 0 rfl (thing x n s) (fun W hW => load_thing hW)) (by assumption) ?_
  simp only [Act.put, List.setIfInBounds_toArray, List.set_cons_zero, List.set_cons_succ]
  refine wpAnyH_take (i := 4) (v := ?_) (by simp only [List.getElem?_toArray, List.getElem?_cons_zero, List.getElem?_cons_succ]; rfl) (by kernel_rfl) (by kernel_rfl) (by kernel_rfl) (fun _ _ _ h => h) (Or.inl ⟨by rfl, ?_⟩) (by assumption) ?_
  rotate_left 1
  · intro w hSw
    go_simp
    with_reducible rfl
  simp only [Act.put, List.setIfInBounds_toArray, List.set_cons_zero, List.set_cons_succ]
  refine wpAnyH_take (i := 5) (v := ?_) (by simp only [List.getElem?_toArray, List.getElem?_cons_zero, List.getElem?_cons_succ]; rfl) (by kernel_rfl) (by kernel_rfl) (by kernel_rfl) (fun _ _ _ h => h) (Or.inl ⟨by rfl, ?_⟩) (by assumption) ?_
  rotate_left 1
  · intro W9 hSw
    have c1 : W9.cell? ⟨w.heap.size, 1, none⟩ = some (.int .u64 (n : Int)) := hSw.at_ 1
    go_simp
    with_reducible rfl
  simp only [Act.put, List.setIfInBounds_toArray, List.set_cons_zero, List.set_cons_succ]
  refine wpAnyH_ready (rs := [2]) (by kernel_rfl) (by simp) ?_
  refine AllReadyH.cons (by simp only [List.getElem?_toArray, List.getElem?_cons_zero, List.getElem?_cons_succ]; rfl) (fun K hK => ?_) AllReadyH.nil
  go_simp
  refine (CK.out w1.drew).mono ?_
  rintro ee x1 ⟨rfl, hb⟩
  have X1 : Hid (Below w.heap.size w x1) := B1.out.drew.trans (hb.mono B1.out.size)
  have hz1 := (H1.out.drawn 1).kept hb H1.out.inside
  refine hK.out _ _ hz1 (fun hS => ?_)
  clear hK K hS
  refine wpAnyH_take (i := 3) (v := ?_) (by simp only [List.getElem?_toArray, List.getElem?_cons_zero, List.getElem?_cons_succ]; rfl) (by kernel_rfl) (by kernel_rfl) (by kernel_rfl) (fun _ _ _ h => h) (Or.inl ⟨by rfl, ?_⟩) (by assumption) ?_
  rotate_left 1
  · intro w hSw
    go_simp
    with_reducible rfl
  simp only [Act.put, List.setIfInBounds_toArray, List.set_cons_zero, List.set_cons_succ]
  refine wpAnyH_ready (rs := [6]) (by kernel_rfl) (by simp) ?_
  refine AllReadyH.cons (by simp only [List.getElem?_toArray, List.getElem?_cons_zero, List.getElem?_cons_succ]; rfl) (fun K hK => ?_) AllReadyH.nil
  go_simp
  refine (CP.out _ X1.out).mono ?_
  rintro ee x2 ⟨v3, rfl, ho, hb2⟩
  have O3 := hid (ho.mono X1.out.size)
  have B3 : Hid (Below w.heap.size w x2) := X1.out.trans (hb2.mono X1.out.size)
  have hz2 := Has.kept hz1 hb2 (Has.inside hz1)
  refine hK.out _ _ hz2 (fun hS => ?_)
  clear hK K hS
  refine wpAnyH_take (i := 7) (v := ?_) (by simp only [List.getElem?_toArray, List.getElem?_cons_zero, List.getElem?_cons_succ]; rfl) (by kernel_rfl) (by kernel_rfl) (by kernel_rfl) (fun _ _ _ h => h) (Or.inl ⟨by rfl, ?_⟩) (by assumption) ?_
  rotate_left 1
  · intro w hSw
    go_simp
    with_reducible rfl
  simp only [Act.put, List.setIfInBounds_toArray, List.set_cons_zero, List.set_cons_succ]
  refine wpAnyH_done (by kernel_rfl) ?_ _
  refine NoPanic.normal ?_
  go_wp2
  go_ret
  exact ⟨_, rfl, O3.out, B3.out⟩
set_option maxRecDepth 100000 in
set_option maxHeartbeats 1000000 in
theorem lay_num3 (v : Value) (ys : List UInt8) (A : Option Addr) (cap bb off : Nat) (x : Int) (n : Nat) (hn : n < 18446744073709551616) (s : ByteArray) (hk : kd x = 3) (hl : ys.length ≤ 20000) (w : World) (h : Bytes w v ys A cap bb off) :
    Calls Try.prog 30 #[v, .agg (thing x n s)] w fun e w' => ∃ v', e = .returned v' ∧ Fresh w.heap.size w' v' (ys ++ thL x n s) ∧ Below w.heap.size w w' := by
  have HL : Hid (thL x n s = numL 8 n) := by show _ = _; rw [thL, if_neg (by omega), hk]; rfl
  rw [HL.out]
  have CK : Hid (∀ w, Calls Try.prog 54 #[.agg (thing x n s)] w fun e w' => e = .returned (.int .i64 3) ∧ Below w.heap.size w w') := fun w => kind_any x n s 3 hk w
  have CP : Hid (∀ w1, Below w.heap.size w w1 → Calls Try.prog 13 #[v, .int .i64 8, .int .u64 (n : Int)] w1 fun e w' => ∃ v', e = .returned v' ∧ Fresh w1.heap.size w' v' (ys ++ numL 8 n) ∧ Below w1.heap.size w1 w') := fun w1 hb => put_any v ys A cap bb off 8 n hn (by omega) w1 (h.kept hb (Nat.le_refl _))
  obtain ⟨HH, HB⟩ := conv_box w x n s
  have HLD := hid (load_thing HH.out)
  clear hk h hl hn
  go_enter Try.func30, Try.ntmps30
  go_wp2_with (first
    | (refine wpList_load_g (by rfl) 62 (.tmp 3) rfl w.heap.size 0 rfl (thing x n s) HLD.out ?_)
    | (go_at_call 54; refine (CK.out _).mono ?_; rintro e1 w1 ⟨rfl, hb1⟩
       have B1 : Hid (Below w.heap.size w w1) := HB.out.trans (hb1.mono HB.out.size)
       have H1 : Hid (Has w1 w.heap.size 62 (thing x n s)) := HH.out.kept hb1 HH.out.inside
       clear hb1))
  refine wp_region_noPanic ?_
  refine wp_region_held_drew (S := fun W => Has W w.heap.size 62 (thing x n s)) (by kernel_rfl) (H1.out.drawn 1) (fun hS => ?_)
  refine wpAnyH_take (i := 0) (v := ?_) (by simp only [List.getElem?_toArray, List.getElem?_cons_zero]; rfl) (by kernel_rfl) (by kernel_rfl) (by kernel_rfl) (fun _ _ _ h => h) (Or.inl ⟨by rfl, ?_⟩) (by assumption) ?_
  rotate_left 1
  · intro w hSw
    go_simp
    with_reducible rfl
  simp only [Act.put, List.setIfInBounds_toArray, List.set_cons_zero, List.set_cons_succ]
  refine' wpAnyH_take (i := 1) (v := _) (by simp only [List.getElem?_toArray, List.getElem?_cons_zero, List.getElem?_cons_succ]; rfl) (by kernel_rfl) (by kernel_rfl) (by kernel_rfl) (fun _ _ _ h => h) (yields_load (by rfl) 62 (.tmp 3) rfl w.heap.size 0 rfl (thing x n s) (fun W hW => load_thing hW)) (by assumption) ?_
  simp only [Act.put, List.setIfInBounds_toArray, List.set_cons_zero, List.set_cons_succ]
  refine wpAnyH_take (i := 4) (v := ?_) (by simp only [List.getElem?_toArray, List.getElem?_cons_zero, List.getElem?_cons_succ]; rfl) (by kernel_rfl) (by kernel_rfl) (by kernel_rfl) (fun _ _ _ h => h) (Or.inl ⟨by rfl, ?_⟩) (by assumption) ?_
  rotate_left 1
  · intro w hSw
    go_simp
    with_reducible rfl
  simp only [Act.put, List.setIfInBounds_toArray, List.set_cons_zero, List.set_cons_succ]
  refine wpAnyH_take (i := 5) (v := ?_) (by simp only [List.getElem?_toArray, List.getElem?_cons_zero, List.getElem?_cons_succ]; rfl) (by kernel_rfl) (by kernel_rfl) (by kernel_rfl) (fun _ _ _ h => h) (Or.inl ⟨by rfl, ?_⟩) (by assumption) ?_
  rotate_left 1
  · intro W9 hSw
    have c1 : W9.cell? ⟨w.heap.size, 1, none⟩ = some (.int .u64 (n : Int)) := hSw.at_ 1
    go_simp
    with_reducible rfl
  simp only [Act.put, List.setIfInBounds_toArray, List.set_cons_zero, List.set_cons_succ]
  refine wpAnyH_ready (rs := [2]) (by kernel_rfl) (by simp) ?_
  refine AllReadyH.cons (by simp only [List.getElem?_toArray, List.getElem?_cons_zero, List.getElem?_cons_succ]; rfl) (fun K hK => ?_) AllReadyH.nil
  go_simp
  refine (CK.out w1.drew).mono ?_
  rintro ee x1 ⟨rfl, hb⟩
  have X1 : Hid (Below w.heap.size w x1) := B1.out.drew.trans (hb.mono B1.out.size)
  have hz1 := (H1.out.drawn 1).kept hb H1.out.inside
  refine hK.out _ _ hz1 (fun hS => ?_)
  clear hK K hS
  refine wpAnyH_take (i := 3) (v := ?_) (by simp only [List.getElem?_toArray, List.getElem?_cons_zero, List.getElem?_cons_succ]; rfl) (by kernel_rfl) (by kernel_rfl) (by kernel_rfl) (fun _ _ _ h => h) (Or.inl ⟨by rfl, ?_⟩) (by assumption) ?_
  rotate_left 1
  · intro w hSw
    go_simp
    with_reducible rfl
  simp only [Act.put, List.setIfInBounds_toArray, List.set_cons_zero, List.set_cons_succ]
  refine wpAnyH_ready (rs := [6]) (by kernel_rfl) (by simp) ?_
  refine AllReadyH.cons (by simp only [List.getElem?_toArray, List.getElem?_cons_zero, List.getElem?_cons_succ]; rfl) (fun K hK => ?_) AllReadyH.nil
  go_simp
  refine (CP.out _ X1.out).mono ?_
  rintro ee x2 ⟨v3, rfl, ho, hb2⟩
  have O3 := hid (ho.mono X1.out.size)
  have B3 : Hid (Below w.heap.size w x2) := X1.out.trans (hb2.mono X1.out.size)
  have hz2 := Has.kept hz1 hb2 (Has.inside hz1)
  refine hK.out _ _ hz2 (fun hS => ?_)
  clear hK K hS
  refine wpAnyH_take (i := 7) (v := ?_) (by simp only [List.getElem?_toArray, List.getElem?_cons_zero, List.getElem?_cons_succ]; rfl) (by kernel_rfl) (by kernel_rfl) (by kernel_rfl) (fun _ _ _ h => h) (Or.inl ⟨by rfl, ?_⟩) (by assumption) ?_
  rotate_left 1
  · intro w hSw
    go_simp
    with_reducible rfl
  simp only [Act.put, List.setIfInBounds_toArray, List.set_cons_zero, List.set_cons_succ]
  refine wpAnyH_done (by kernel_rfl) ?_ _
  refine NoPanic.normal ?_
  go_wp2
  go_ret
  exact ⟨_, rfl, O3.out, B3.out⟩
theorem lay_any (v : Value) (ys : List UInt8) (A : Option Addr) (cap bb off : Nat) (x : Int) (n : Nat) (hn : n < 18446744073709551616) (s : ByteArray) (hl : ys.length ≤ 20000) (w : World) (h : Bytes w v ys A cap bb off) :
    Calls Try.prog 30 #[v, .agg (thing x n s)] w fun e w' => ∃ v', e = .returned v' ∧ Fresh w.heap.size w' v' (ys ++ thL x n s) ∧ Below w.heap.size w w' := by
  have := kd_le x
  obtain hk | hk | hk | hk | hk : kd x = 0 ∨ kd x = 1 ∨ kd x = 2 ∨ kd x = 3 ∨ kd x = 4 := by omega
  · exact lay_num0 v ys A cap bb off x n hn s hk hl w h
  · exact lay_num1 v ys A cap bb off x n hn s hk hl w h
  · exact lay_num2 v ys A cap bb off x n hn s hk hl w h
  · exact lay_num3 v ys A cap bb off x n hn s hk hl w h
  · exact lay_text v ys A cap bb off x n s hk hl w h
end Go.Proofs.Ytdmdddmfiankhaa
