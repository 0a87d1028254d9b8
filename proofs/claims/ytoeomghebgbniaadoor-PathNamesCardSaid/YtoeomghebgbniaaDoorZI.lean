/- The document's digest: Words (caravanref01): the sixty-four words of a block. Conditions: sixty-four bytes. -/
import Derived.Test.YtoeomghebgbniaaDoorZG
import Derived.Deep.RegionHeld3
namespace Go.Proofs.YtoeomghebgbniaaDoor.Sha
open Go.RowKit
theorem cell_drew {w : World} {a : Addr} {v : Value} (h : w.cell? a = some v) : w.drew.cell? a = some v := h
theorem word_num (a b x y : BitVec 32) : IntKind.u32.wrap (IntKind.u32.wrap (IntKind.u32.wrap (u a + bits BinOp.xor IntKind.u32 (bits BinOp.xor IntKind.u32 (u (rotR x 7)) (u (rotR x 18))) (u x / 8)) + u b) + bits BinOp.xor IntKind.u32 (bits BinOp.xor IntKind.u32 (u (rotR y 17)) (u (rotR y 19))) (u y / 1024)) =
    u (a + sig0 x + b + sig1 y) := by
  have e1 : u x / 8 = u (shR x 3) := shr32 x 3
  have e2 : u y / 1024 = u (shR y 10) := shr32 y 10
  rw [e1, e2]
  simp only [wrap32, xor32, add32]
  rfl
theorem own_drew {w : World} {B n : Nat} {e : TypeId} {v : Value} {xs : List Value} (h : w.ownsRow B e 1 v n xs) : w.drew.ownsRow B e 1 v n xs := h
set_option maxRecDepth 100000 in
set_option maxHeartbeats 2000000 in
theorem refWords_any (p : List UInt8) (A : Option Addr) (cap bb off : Nat) (w : World) (hn : p.length = 64) (hs : Bytes w (.slice A 64 cap) p A cap bb off) :
    Calls Tryd.prog 47 #[.slice A 64 cap] w fun e w' => ∃ v, e = .returned v ∧ w'.ownsRow w.heap.size 54 1 v 64 (wRow (words p 16) 64) ∧ Below w.heap.size w w' := by
  obtain ⟨i0, hi, hz0, hz1, hz2⟩ := info_parts infoU32
  go_enter Tryd.func47, Tryd.ntmps47
  go_wp2
  have HP := hid hs
  have HN := hid hn
  clear hs hn
  go_loopw [3, 4] (fun v i wr => ∃ (t : Nat) (B : Option Addr) (c : Nat), t ≤ 64 ∧ v = .slice B t c ∧ i = .int .i64 (t : Int) ∧ Hid (wr.ownsRow w.heap.size 54 1 (.slice B t c) t (wRow (words p 16) t)) ∧ Hid (Below w.heap.size w wr))
    (fun _ i _ => 64 - (intOf i).toNat)
  case atStart => exact ⟨0, none, 0, by omega, rfl, rfl, World.ownsRow_nil _ _ _ _, Below.refl _ _⟩
  case round =>
    obtain ⟨t, B, c, ht, rfl, rfl, HO, HB⟩ := hrel
    by_cases hlt : t < 64
    · by_cases h16 : t < 16
      · go_wp2
        go_loopw [5, 6] (fun x i w2 => ∃ k : Nat, k ≤ 4 ∧ i = .int .i64 (k : Int) ∧ x = .int .u32 (u (hx p t k)) ∧ w2 = wr)
          (fun _ i _ => 4 - (intOf i).toNat)
        case atStart => exact ⟨0, by omega, rfl, rfl, rfl⟩
        case round =>
          obtain ⟨k, hk, rfl, rfl, rfl⟩ := hrel
          by_cases hk4 : k < 4
          · obtain ⟨q0, e0, E0⟩ : ∃ q : Nat, 4 * (t : Int) = (q : Int) ∧ Hid (4 * t = q) := ⟨4 * t, by omega, rfl⟩
            obtain ⟨q1, e1, E1⟩ : ∃ q : Nat, (q0 : Int) + (k : Int) = (q : Int) ∧ Hid (q0 + k = q) := ⟨q0 + k, by omega, rfl⟩
            have hq : (q1 : Int) < 64 := by have := E0.out; have := E1.out; omega
            have hA := HP.out.src (by rw [HN.out]; omega)
            have hc := (HP.out.kept HB.out (Nat.le_refl _)).cells q1 (by rw [HN.out]; omega)
            subst hA
            have hc' : wr.cell? ⟨bb, off + q1, none⟩ = some (.int .u8 (b8 (at8 p q1))) := hc
            clear hc
            go_wp2
            go_roundw
            case rel =>
              refine ⟨k + 1, by omega, rfl, ?_, trivial⟩
              have e : at8 p q1 = at8 p (4 * t + k) := by rw [E0.out, E1.out]
              rw [← hx_num, ← e, b8m]
            case measure => simp [intOf]; omega
          · obtain rfl : k = 4 := by omega
            have N2 : Hid (t + 1 ≤ maxLen) := by show _ ≤ _; unfold maxLen; omega
            have N3 : Hid ((t + 1) * 4 ≤ 140737488355328) := by show _ ≤ _; omega
            have N4 : Hid (∀ o, w.heap.size ≤ (wr.alloc o).heap.size) := by intro o; have := HB.out.size; simp; omega
            go_wp2_with (at_builtin; refine wpList_append_own _ rfl _ _ 53 rfl w.heap.size 54 i0 (.int .u32 0) 1 4 Tryd.underlying53 hi hz0 hz1 hz2 rfl (by omega) _ _ _ rfl (HO.out.alloc _) ⟨wr.heap.size, 0, none⟩ 1 1 [Value.int .u32 (u (hx p t 4))] rfl rfl (cell_one_new _ _ _) (one_u32 _) N2.out N3.out (N4.out _) ?_; intro v3 w3 hown hgrow _)
            have HB3 : Hid (Below w.heap.size w w3) :=
              ((HB.out.alloc HB.out.size _).grown hgrow (N4.out _) (fun g hk => (HO.out.lt g hk).1))
            obtain ⟨g3, c3, rfl⟩ := ownsRow_succ hown
            have HO3 : Hid (w3.ownsRow w.heap.size 54 1 (.slice (some ⟨g3, 0, none⟩) (t + 1) c3) (t + 1) (wRow (words p 16) (t + 1))) := by
              rw [wRow_next, wAt_low _ _ h16, at32_words _ _ h16]; exact hown
            clear hown hgrow
            go_wp2
            go_roundw
            case rel => exact ⟨t + 1, _, _, by omega, rfl, rfl, HO3, HB3⟩
            case measure => simp [intOf]; omega
      · obtain ⟨g, rfl, hcell⟩ := row_word HO.out (by omega)
        obtain ⟨a2, e2, E2⟩ : ∃ q : Nat, (t : Int) - 2 = (q : Int) ∧ Hid (t - 2 = q) := ⟨t - 2, by omega, rfl⟩
        obtain ⟨a7, e7, E7⟩ : ∃ q : Nat, (t : Int) - 7 = (q : Int) ∧ Hid (t - 7 = q) := ⟨t - 7, by omega, rfl⟩
        obtain ⟨a15, e15, E15⟩ : ∃ q : Nat, (t : Int) - 15 = (q : Int) ∧ Hid (t - 15 = q) := ⟨t - 15, by omega, rfl⟩
        obtain ⟨a16, e16, E16⟩ : ∃ q : Nat, (t : Int) - 16 = (q : Int) ∧ Hid (t - 16 = q) := ⟨t - 16, by omega, rfl⟩
        have c2 := hcell a2 (by omega)
        have c7 := hcell a7 (by omega)
        have c15 := hcell a15 (by omega)
        have c16 := hcell a16 (by omega)
        have b2 : (a2 : Int) < (t : Int) := by omega
        have b7 : (a7 : Int) < (t : Int) := by omega
        have b15 : (a15 : Int) < (t : Int) := by omega
        have b16 : (a16 : Int) < (t : Int) := by omega
        clear hcell
        obtain ⟨x, HX⟩ : ∃ x, Hid (wAt (words p 16) a15 = x) := ⟨_, rfl⟩
        obtain ⟨y, HY⟩ : ∃ y, Hid (wAt (words p 16) a2 = y) := ⟨_, rfl⟩
        obtain ⟨p16, H16⟩ : ∃ x, Hid (wAt (words p 16) a16 = x) := ⟨_, rfl⟩
        obtain ⟨p7, H7⟩ : ∃ x, Hid (wAt (words p 16) a7 = x) := ⟨_, rfl⟩
        rw [HX.out] at c15
        rw [HY.out] at c2
        rw [H16.out] at c16
        rw [H7.out] at c7
        have HNX : Hid (wAt (words p 16) t = p16 + sig0 x + p7 + sig1 y) := by
          show _ = _
          rw [wAt_high _ _ (by omega), E16.out, E15.out, E7.out, E2.out, HX.out, HY.out, H16.out, H7.out]
        go_wp2
        go_region
        have k16 := cell_drew c16
        have k7 := cell_drew c7
        have HOd : Hid (wr.drew.ownsRow w.heap.size 54 1 (.slice (some ⟨g, 0, none⟩) t c) t (wRow (words p 16) t)) := own_drew HO.out
        have HBd : Hid (Below w.heap.size w wr.drew) := HB.out.drew
        clear c2 c15 c16 c7 HO HB
        generalize wr.drew = w2 at *
        go_wp2_with fail
        refine (turn7 _ _).mono ?_; rintro ee ww ⟨rfl, rfl⟩
        go_wp2_with fail
        refine (turn18 _ _).mono ?_; rintro ee ww ⟨rfl, rfl⟩
        go_wp2_with fail
        refine (turn17 _ _).mono ?_; rintro ee ww ⟨rfl, rfl⟩
        go_wp2_with fail
        refine (turn19 _ _).mono ?_; rintro ee ww ⟨rfl, rfl⟩
        go_wp2
        have hw16 : IntKind.i64.wrap (a16 : Int) = (a16 : Int) := i64in _ (by omega) (by omega)
        have hw7 : IntKind.i64.wrap (a7 : Int) = (a7 : Int) := i64in _ (by omega) (by omega)
        have hz16 : (0 : Int) ≤ (a16 : Int) := by omega
        have hz7 : (0 : Int) ≤ (a7 : Int) := by omega
        have HOe : Hid (w2.drew.ownsRow w.heap.size 54 1 (.slice (some ⟨g, 0, none⟩) t c) t (wRow (words p 16) t)) := own_drew HOd.out
        have HBe : Hid (Below w.heap.size w w2.drew) := HBd.out.drew
        have N2 : Hid (t + 1 ≤ maxLen) := by show _ ≤ _; unfold maxLen; omega
        have N3 : Hid ((t + 1) * 4 ≤ 140737488355328) := by show _ ≤ _; omega
        have N4 : Hid (∀ o, w.heap.size ≤ (w2.drew.alloc o).heap.size) := by intro o; have := HBe.out.size; simp at this ⊢; omega
        clear HOd HBd
        refine wp_region_noPanic ?_
        refine wp_region_held_drew (S := fun _ => True) (by kernel_rfl) trivial (fun hS => ?_)
        have k16 := cell_drew k16
        have k7 := cell_drew k7
        generalize w2.drew = w3 at *
        clear hS
        refine wpAnyH_take (i := 0) (v := ?_) (by simp only [List.getElem?_toArray, List.getElem?_cons_zero]; rfl) (by kernel_rfl) (by kernel_rfl) (by kernel_rfl) (fun _ _ _ h => h) (Or.inl ⟨by rfl, ?_⟩) trivial ?_
        rotate_left 1
        · intro w hSw
          go_simp
          with_reducible rfl
        simp only [Act.put, List.setIfInBounds_toArray, List.set_cons_zero, List.set_cons_succ]
        refine wpAnyH_take (i := 1) (v := ?_) (by simp only [List.getElem?_toArray, List.getElem?_cons_zero, List.getElem?_cons_succ]; rfl) (by kernel_rfl) (by kernel_rfl) (by kernel_rfl) (fun _ _ _ h => h) (Or.inl ⟨by rfl, ?_⟩) trivial ?_
        rotate_left 1
        · intro w hSw
          go_simp
          with_reducible rfl
        simp only [Act.put, List.setIfInBounds_toArray, List.set_cons_zero, List.set_cons_succ]
        refine wpAnyH_take (i := 2) (v := ?_) (by simp only [List.getElem?_toArray, List.getElem?_cons_zero, List.getElem?_cons_succ]; rfl) (by kernel_rfl) (by kernel_rfl) (by kernel_rfl) (fun _ _ _ h => h) (Or.inl ⟨by rfl, ?_⟩) trivial ?_
        rotate_left 1
        · intro w hSw
          go_simp
          with_reducible rfl
        simp only [Act.put, List.setIfInBounds_toArray, List.set_cons_zero, List.set_cons_succ]
        refine wpAnyH_take (i := 3) (v := ?_) (by simp only [List.getElem?_toArray, List.getElem?_cons_zero, List.getElem?_cons_succ]; rfl) (by kernel_rfl) (by kernel_rfl) (by kernel_rfl) (fun _ _ _ h => h) (Or.inl ⟨by rfl, ?_⟩) trivial ?_
        rotate_left 1
        · intro w hSw
          go_simp
          with_reducible rfl
        simp only [Act.put, List.setIfInBounds_toArray, List.set_cons_zero, List.set_cons_succ]
        refine wpAnyH_take (i := 4) (v := ?_) (by simp only [List.getElem?_toArray, List.getElem?_cons_zero, List.getElem?_cons_succ]; rfl) (by kernel_rfl) (by kernel_rfl) (by kernel_rfl) (fun _ _ _ h => h) (Or.inl ⟨by rfl, ?_⟩) trivial ?_
        rotate_left 1
        · intro w hSw
          go_simp
          with_reducible rfl
        simp only [Act.put, List.setIfInBounds_toArray, List.set_cons_zero, List.set_cons_succ]
        refine wpAnyH_take (i := 6) (v := ?_) (by simp only [List.getElem?_toArray, List.getElem?_cons_zero, List.getElem?_cons_succ]; rfl) (by kernel_rfl) (by kernel_rfl) (by kernel_rfl) (fun _ _ _ h => h) (Or.inl ⟨by rfl, ?_⟩) trivial ?_
        rotate_left 1
        · intro w hSw
          go_simp
          with_reducible rfl
        simp only [Act.put, List.setIfInBounds_toArray, List.set_cons_zero, List.set_cons_succ]
        refine wpAnyH_take (i := 8) (v := ?_) (by simp only [List.getElem?_toArray, List.getElem?_cons_zero, List.getElem?_cons_succ]; rfl) (by kernel_rfl) (by kernel_rfl) (by kernel_rfl) (fun _ _ _ h => h) (Or.inl ⟨by rfl, ?_⟩) trivial ?_
        rotate_left 1
        · intro w hSw
          go_simp
          with_reducible rfl
        simp only [Act.put, List.setIfInBounds_toArray, List.set_cons_zero, List.set_cons_succ]
        refine wpAnyH_take (i := 9) (v := ?_) (by simp only [List.getElem?_toArray, List.getElem?_cons_zero, List.getElem?_cons_succ]; rfl) (by kernel_rfl) (by kernel_rfl) (by kernel_rfl) (fun _ _ _ h => h) (Or.inl ⟨by rfl, ?_⟩) trivial ?_
        rotate_left 1
        · intro w hSw
          go_simp
          with_reducible rfl
        simp only [Act.put, List.setIfInBounds_toArray, List.set_cons_zero, List.set_cons_succ]
        refine wpAnyH_take (i := 10) (v := ?_) (by simp only [List.getElem?_toArray, List.getElem?_cons_zero, List.getElem?_cons_succ]; rfl) (by kernel_rfl) (by kernel_rfl) (by kernel_rfl) (fun _ _ _ h => h) (Or.inl ⟨by rfl, ?_⟩) trivial ?_
        rotate_left 1
        · intro w hSw
          go_simp
          with_reducible rfl
        simp only [Act.put, List.setIfInBounds_toArray, List.set_cons_zero, List.set_cons_succ]
        refine wpAnyH_take (i := 11) (v := ?_) (by simp only [List.getElem?_toArray, List.getElem?_cons_zero, List.getElem?_cons_succ]; rfl) (by kernel_rfl) (by kernel_rfl) (by kernel_rfl) (fun _ _ _ h => h) (Or.inl ⟨by rfl, ?_⟩) trivial ?_
        rotate_left 1
        · intro w hSw
          go_simp
          with_reducible rfl
        simp only [Act.put, List.setIfInBounds_toArray, List.set_cons_zero, List.set_cons_succ]
        refine wpAnyH_take (i := 14) (v := ?_) (by simp only [List.getElem?_toArray, List.getElem?_cons_zero, List.getElem?_cons_succ]; rfl) (by kernel_rfl) (by kernel_rfl) (by kernel_rfl) (fun _ _ _ h => h) (Or.inl ⟨by rfl, ?_⟩) trivial ?_
        rotate_left 1
        · intro w hSw
          go_simp
          with_reducible rfl
        simp only [Act.put, List.setIfInBounds_toArray, List.set_cons_zero, List.set_cons_succ]
        refine wpAnyH_ready (rs := [5, 12]) (by kernel_rfl) (by simp) ?_
        refine (AllReadyH.cons (by simp only [List.getElem?_toArray, List.getElem?_cons_zero, List.getElem?_cons_succ]; rfl) (fun K hK => ?_) (AllReadyH.cons (by simp only [List.getElem?_toArray, List.getElem?_cons_zero, List.getElem?_cons_succ]; rfl) (fun K hK => ?_) AllReadyH.nil))
        · go_simp
          refine hK.out _ _ trivial (fun hS => ?_)
          clear hK K hS
          refine wpAnyH_take (i := 7) (v := ?_) (by simp only [List.getElem?_toArray, List.getElem?_cons_zero, List.getElem?_cons_succ]; rfl) (by kernel_rfl) (by kernel_rfl) (by kernel_rfl) (fun _ _ _ h => h) (Or.inl ⟨by rfl, ?_⟩) trivial ?_
          rotate_left 1
          · intro w hSw
            go_simp
            with_reducible rfl
          simp only [Act.put, List.setIfInBounds_toArray, List.set_cons_zero, List.set_cons_succ]
          refine wpAnyH_ready (rs := [12]) (by kernel_rfl) (by simp) ?_
          refine (AllReadyH.cons (by simp only [List.getElem?_toArray, List.getElem?_cons_zero, List.getElem?_cons_succ]; rfl) (fun K hK => ?_) AllReadyH.nil)
          go_simp
          refine hK.out _ _ trivial (fun hS => ?_)
          clear hK K hS
          refine wpAnyH_take (i := 13) (v := ?_) (by simp only [List.getElem?_toArray, List.getElem?_cons_zero, List.getElem?_cons_succ]; rfl) (by kernel_rfl) (by kernel_rfl) (by kernel_rfl) (fun _ _ _ h => h) (Or.inl ⟨by rfl, ?_⟩) trivial ?_
          rotate_left 1
          · intro w hSw
            go_simp
            with_reducible rfl
          simp only [Act.put, List.setIfInBounds_toArray, List.set_cons_zero, List.set_cons_succ]
          refine wpAnyH_take (i := 15) (v := ?_) (by simp only [List.getElem?_toArray, List.getElem?_cons_zero, List.getElem?_cons_succ]; rfl) (by kernel_rfl) (by kernel_rfl) (by kernel_rfl) (fun _ _ _ h => h) (Or.inl ⟨by rfl, ?_⟩) trivial ?_
          rotate_left 1
          · intro w hSw
            go_simp
            with_reducible rfl
          simp only [Act.put, List.setIfInBounds_toArray, List.set_cons_zero, List.set_cons_succ]
          clear hw16 hw7 hz16 hz7 k16 k7
          refine wpAnyH_ready (rs := [16]) (by kernel_rfl) (by simp) ?_
          refine (AllReadyH.cons (by simp only [List.getElem?_toArray, List.getElem?_cons_zero, List.getElem?_cons_succ]; rfl) (fun K hK => ?_) AllReadyH.nil)
          go_simp
          refine hK.out _ _ trivial (fun hS => ?_)
          clear hK K hS
          refine wpAnyH_ready (rs := [17]) (by kernel_rfl) (by simp) ?_
          refine (AllReadyH.cons (by simp only [List.getElem?_toArray, List.getElem?_cons_zero, List.getElem?_cons_succ]; rfl) (fun K hK => ?_) AllReadyH.nil)
          rw [if_pos (by rfl)]
          refine wp_append_own _ _ _ 53 rfl w.heap.size 54 i0 (.int .u32 0) 1 4 Tryd.underlying53 hi hz0 hz1 hz2 rfl (by omega) _ _ _ rfl (HOe.out.alloc _) ⟨w3.heap.size, 0, none⟩ 1 1 [_] rfl rfl (cell_one_new _ _ _) (one_u32 _) N2.out N3.out (N4.out _) ?_
          intro v4 w4 hown hgrow _
          rw [word_num, ← HNX.out, ← wRow_next] at hown
          have HB5 : Hid (Below w.heap.size w w4) := (HBe.out.alloc HBe.out.size _).grown hgrow (N4.out _) (fun g hk => (HOe.out.lt g hk).1)
          obtain ⟨g5, c5, rfl⟩ := ownsRow_succ hown
          have HO5 := hid hown
          clear hown hgrow
          refine hK.out _ _ trivial (fun hS => ?_)
          clear hK K hS
          simp only [Act.put, List.setIfInBounds_toArray, List.set_cons_zero, List.set_cons_succ]
          refine wpAnyH_take (i := 18) (v := ?_) (by simp only [List.getElem?_toArray, List.getElem?_cons_zero, List.getElem?_cons_succ]; rfl) (by kernel_rfl) (by kernel_rfl) (by kernel_rfl) (fun _ _ _ h => h) (Or.inl ⟨by rfl, ?_⟩) trivial ?_
          rotate_left 1
          · intro w hSw
            go_simp
            with_reducible rfl
          simp only [Act.put, List.setIfInBounds_toArray, List.set_cons_zero, List.set_cons_succ]
          refine wpAnyH_done (by kernel_rfl) ?_ _
          refine NoPanic.normal ?_
          go_wp2
          go_roundw
          case rel => exact ⟨t + 1, _, _, by omega, rfl, rfl, HO5, HB5⟩
          case measure => simp [intOf]; omega
        · go_simp
          refine hK.out _ _ trivial (fun hS => ?_)
          clear hK K hS
          refine wpAnyH_ready (rs := [5]) (by kernel_rfl) (by simp) ?_
          refine (AllReadyH.cons (by simp only [List.getElem?_toArray, List.getElem?_cons_zero, List.getElem?_cons_succ]; rfl) (fun K hK => ?_) AllReadyH.nil)
          go_simp
          refine hK.out _ _ trivial (fun hS => ?_)
          clear hK K hS
          refine wpAnyH_take (i := 7) (v := ?_) (by simp only [List.getElem?_toArray, List.getElem?_cons_zero, List.getElem?_cons_succ]; rfl) (by kernel_rfl) (by kernel_rfl) (by kernel_rfl) (fun _ _ _ h => h) (Or.inl ⟨by rfl, ?_⟩) trivial ?_
          rotate_left 1
          · intro w hSw
            go_simp
            with_reducible rfl
          simp only [Act.put, List.setIfInBounds_toArray, List.set_cons_zero, List.set_cons_succ]
          refine wpAnyH_take (i := 13) (v := ?_) (by simp only [List.getElem?_toArray, List.getElem?_cons_zero, List.getElem?_cons_succ]; rfl) (by kernel_rfl) (by kernel_rfl) (by kernel_rfl) (fun _ _ _ h => h) (Or.inl ⟨by rfl, ?_⟩) trivial ?_
          rotate_left 1
          · intro w hSw
            go_simp
            with_reducible rfl
          simp only [Act.put, List.setIfInBounds_toArray, List.set_cons_zero, List.set_cons_succ]
          refine wpAnyH_take (i := 15) (v := ?_) (by simp only [List.getElem?_toArray, List.getElem?_cons_zero, List.getElem?_cons_succ]; rfl) (by kernel_rfl) (by kernel_rfl) (by kernel_rfl) (fun _ _ _ h => h) (Or.inl ⟨by rfl, ?_⟩) trivial ?_
          rotate_left 1
          · intro w hSw
            go_simp
            with_reducible rfl
          simp only [Act.put, List.setIfInBounds_toArray, List.set_cons_zero, List.set_cons_succ]
          clear hw16 hw7 hz16 hz7 k16 k7
          refine wpAnyH_ready (rs := [16]) (by kernel_rfl) (by simp) ?_
          refine (AllReadyH.cons (by simp only [List.getElem?_toArray, List.getElem?_cons_zero, List.getElem?_cons_succ]; rfl) (fun K hK => ?_) AllReadyH.nil)
          go_simp
          refine hK.out _ _ trivial (fun hS => ?_)
          clear hK K hS
          refine wpAnyH_ready (rs := [17]) (by kernel_rfl) (by simp) ?_
          refine (AllReadyH.cons (by simp only [List.getElem?_toArray, List.getElem?_cons_zero, List.getElem?_cons_succ]; rfl) (fun K hK => ?_) AllReadyH.nil)
          rw [if_pos (by rfl)]
          refine wp_append_own _ _ _ 53 rfl w.heap.size 54 i0 (.int .u32 0) 1 4 Tryd.underlying53 hi hz0 hz1 hz2 rfl (by omega) _ _ _ rfl (HOe.out.alloc _) ⟨w3.heap.size, 0, none⟩ 1 1 [_] rfl rfl (cell_one_new _ _ _) (one_u32 _) N2.out N3.out (N4.out _) ?_
          intro v4 w4 hown hgrow _
          rw [word_num, ← HNX.out, ← wRow_next] at hown
          have HB5 : Hid (Below w.heap.size w w4) := (HBe.out.alloc HBe.out.size _).grown hgrow (N4.out _) (fun g hk => (HOe.out.lt g hk).1)
          obtain ⟨g5, c5, rfl⟩ := ownsRow_succ hown
          have HO5 := hid hown
          clear hown hgrow
          refine hK.out _ _ trivial (fun hS => ?_)
          clear hK K hS
          simp only [Act.put, List.setIfInBounds_toArray, List.set_cons_zero, List.set_cons_succ]
          refine wpAnyH_take (i := 18) (v := ?_) (by simp only [List.getElem?_toArray, List.getElem?_cons_zero, List.getElem?_cons_succ]; rfl) (by kernel_rfl) (by kernel_rfl) (by kernel_rfl) (fun _ _ _ h => h) (Or.inl ⟨by rfl, ?_⟩) trivial ?_
          rotate_left 1
          · intro w hSw
            go_simp
            with_reducible rfl
          simp only [Act.put, List.setIfInBounds_toArray, List.set_cons_zero, List.set_cons_succ]
          refine wpAnyH_done (by kernel_rfl) ?_ _
          refine NoPanic.normal ?_
          go_wp2
          go_roundw
          case rel => exact ⟨t + 1, _, _, by omega, rfl, rfl, HO5, HB5⟩
          case measure => simp [intOf]; omega
    · obtain rfl : t = 64 := by omega
      go_wp2
      go_ret
      exact ⟨_, rfl, HO.out, HB.out⟩
end Go.Proofs.YtoeomghebgbniaaDoor.Sha
