/- Glob: Match: what the call does. Conditions: a pattern that Parse made. -/
import Derived.Test.YtpipkgkfhbagmaaGreatDoorJM
import Derived.Deep.DeepCutAuto
namespace Go.Proofs.YtpipkgkfhbagmaaGreatDoor.Glob
open Go.RowKit
theorem startTryztrue (A : Pl) : (fun j => A j || j == 0) = startA true A := by
  funext j; unfold startA; rw [Bool.true_and, Bool.or_comm]
theorem startTryzfalse (A : Pl) : startA false A = A := by
  funext j; unfold startA; rfl
theorem range_any_succ (p : Nat → Bool) (k : Nat) : (List.range (k + 1)).any p = ((List.range k).any p || p k) := by
  rw [List.range_succ, List.any_append]; simp
theorem range_any_yes (p : Nat → Bool) (n k : Nat) (h : k < n) (hp : p k = true) : (List.range n).any p = true := List.any_eq_true.2 ⟨k, List.mem_range.2 h, hp⟩
/-- What is asked of each place. -/
def hitB (rooted : Bool) (hs : H) (path : By) (i : Nat) : Bool := atA rooted hs path i hs.length && endB path i
theorem mB_eq (rooted : Bool) (hs : H) (path : By) : mB rooted hs path = (decide (path.length ≤ 160) && (List.range (path.length + 1)).any (hitB rooted hs path)) := rfl
set_option maxRecDepth 100000 in
set_option maxHeartbeats 4000000 in
theorem match_long (g : Nat) (s : By) (p : Pt) (path : By) (w : World) (hp : PatIs w g s p) (hl : 160 < path.length) :
    Calls Tryz.prog 22 #[.pointer (some ⟨g, 0, none⟩), .string (ba path)] w fun e w' => e = .returned (.bool (mB p.rooted p.hs path)) ∧ Below w.heap.size w w' := by
  have HM : Hid (mB p.rooted p.hs path = false) := by show _ = _; rw [mB_eq, decide_eq_false (by omega)]; rfl
  have z := ba_size path
  have hi : (160 : Int) < (path.length : Int) := by omega
  have hm := made_yes hp
  clear hl hp
  go_enter Tryz.func22, Tryz.ntmps22
  go_wp2_with (go_at_call 40; refine hm.mono ?_; rintro e1 w1 ⟨rfl, rfl⟩)
  go_ret
  exact ⟨ret_bool HM.out.symm, Below.refl _ _⟩
set_option maxRecDepth 100000 in
set_option maxHeartbeats 8000000 in
theorem match_short (g : Nat) (s : By) (p : Pt) (path : By) (w : World) (hp : PatIs w g s p) (hl : path.length ≤ 160) :
    Calls Tryz.prog 22 #[.pointer (some ⟨g, 0, none⟩), .string (ba path)] w fun e w' => e = .returned (.bool (mB p.rooted p.hs path)) ∧ Below w.heap.size w w' := by
  have HM : Hid (mB p.rooted p.hs path = (List.range (path.length + 1)).any (hitB p.rooted p.hs path)) := by show _ = _; rw [mB_eq, decide_eq_true hl]; rfl
  have z := ba_size path
  have hi : ¬ ((160 : Int) < (path.length : Int)) := by omega
  have hm := made_yes hp
  obtain ⟨ge, cp, k3, hg, hge, hn, _⟩ := hp.els
  have k2 : w.cell? ⟨g, 2, none⟩ = some (.bool p.rooted) := by obtain ⟨A, c, n, _, _, _, h2, _⟩ := hp.cells; exact h2
  obtain ⟨W1, hW1⟩ : ∃ W1, w.alloc (.cells Tryz.zeroCells80 80) = W1 := ⟨_, rfl⟩
  have HZ : Hid (Has W1 w.heap.size 80 Tryz.zeroCells80) := hW1 ▸ Has.fresh _ _ _
  have B1 : Below w.heap.size w W1 := hW1 ▸ (Below.refl _ _).alloc (Nat.le_refl _) _
  obtain ⟨W2, hW2⟩ : ∃ W2, W1.setRow w.heap.size Tryz.zeroCells80 = W2 := ⟨_, rfl⟩
  have H2 : Hid (Has W2 w.heap.size 80 (plv (fun _ => false))) := hW2 ▸ zcells ▸ HZ.out.row
  have B2 : Hid (Below w.heap.size w W2) := hW2 ▸ B1.rowG (Nat.le_refl _) _
  have CS : Hid (∀ A W, Below w.heap.size w W → Calls Tryz.prog 41 #[.pointer (some ⟨g, 0, none⟩), .agg (plv A)] W fun e w' => e = .returned (.agg (plv (skipA p.hs A))) ∧ Below W.heap.size W w') := fun A W hW => skip_any g s p A W (hp.stays hW)
  have CP : Hid (∀ A c W, Below w.heap.size w W → Calls Tryz.prog 42 #[.pointer (some ⟨g, 0, none⟩), .agg (plv A), .int .u8 (b8 c)] W fun e w' => e = .returned (.agg (plv (stepA p.hs A c))) ∧ Below W.heap.size W w') := fun A c W hW => step_any g s p A c W (hp.stays hW)
  have HK2 := hid k2
  have HK3 := hid k3
  rw [HM.out]
  generalize p.hs = hs at *
  generalize p.rooted = rooted at *
  clear hp HM B1 k2 k3
  obtain ⟨ans, HANS⟩ : ∃ ans, Hid ((List.range (path.length + 1)).any (hitB rooted hs path) = ans) := ⟨_, rfl⟩
  rw [HANS.out]
  go_enter Tryz.func22, Tryz.ntmps22
  go_wp2_with (first
    | (go_at_call 40; refine hm.mono ?_; rintro e1 w1 ⟨rfl, rfl⟩)
    | (refine wpList_store_row rfl 80 (.tmp 5) (.tmp 16) rfl w.heap.size Tryz.zeroCells80 rfl rfl 80 Tryz.zeroCells80 HZ.out iZ.out rfl zOne.out ?_))
  go_loopw [6, 7, 20] (fun _ _ i wr => ∃ k : Nat, i = .int .i64 (k : Int) ∧ k ≤ path.length + 1 ∧ Hid (k ≤ path.length → Has wr w.heap.size 80 (plv (preA rooted hs path k))) ∧ Hid ((List.range k).any (hitB rooted hs path) = false) ∧ Hid (Below w.heap.size w wr))
    (fun _ _ i _ => path.length + 1 - (intOf i).toNat)
  case atStart => exact ⟨0, rfl, Nat.zero_le _, fun _ => H2.out, rfl, B2⟩
  case round =>
    obtain ⟨k, rfl, hk, J1, JN, JB⟩ := hrel
    by_cases hlt : k < path.length + 1
    · have k2 := (JB.out.cell (p := ⟨g, 2, none⟩) hg).trans HK2.out
      have X := hid (J1.out (by omega))
      clear J1
      have hkk : k ≤ path.length := by omega
      go_upto_region 7 with (fail)
      go_cut [20, 38] from 20 to 71 (fun c t w' => c = .int .i64 (k : Int) ∧ t = .bool (startB rooted path k) ∧ wr = w')
      case first => as_aux_lemma =>
        by_cases h0 : k = 0
        · have HT : Hid (startB rooted path k = true) := by show _ = _; unfold startB; rw [h0]; rfl
          have e0 : ((k : Int) == 0) = true := by simp [h0]
          clear h0
          go_wp2
          go_meet
          case rel => exact ⟨rfl, by rw [HT.out], rfl⟩
        · have e0 : ((k : Int) == 0) = false := by simp [h0]
          obtain ⟨j, hj⟩ : ∃ j, k - 1 = j := ⟨_, rfl⟩
          have ej : (k : Int) - 1 = (j : Int) := by omega
          have ij := index_str path j (by omega)
          have HT : Hid (startB rooted path k = ((at8 path j == 47) && !rooted)) := by
            show _ = _; unfold startB; rw [hj, show (k == 0) = false by simp [h0]]; rfl
          have q7 : (b8 (at8 path j) == 47) = (at8 path j == 47) := b8_eq _ 47
          generalize at8 path j = x at ij HT q7
          obtain ⟨bq, hbq⟩ : ∃ bq, (x == 47) = bq := ⟨_, rfl⟩
          rw [hbq] at q7 HT
          clear h0 hj hbq
          cases bq with
          | false =>
            go_wp2
            go_meet
            case rel => exact ⟨rfl, by rw [HT.out]; rfl, rfl⟩
          | true =>
            go_wp2
            go_meet
            case rel => exact ⟨rfl, by rw [HT.out]; rfl, rfl⟩
      case rest =>
        obtain ⟨rfl, rfl, rfl⟩ := hcut
        obtain ⟨b, hb⟩ : ∃ b, startB rooted path k = b := ⟨_, rfl⟩
        rw [hb]
        go_upto_if 38 with (fail)
        go_cut [20] from 20 to 71 (fun c w' => c = .int .i64 (k : Int) ∧ Hid (Has w' w.heap.size 80 (plv (startA b (preA rooted hs path k)))) ∧ Hid (Below w.heap.size w w'))
        case first => as_aux_lemma =>
          have qz : wr.cell? ⟨w.heap.size, 0, none⟩ = some (.bool (preA rooted hs path k 0)) := (X.out.at_ 0).trans (plv_get _ 0 (by omega))
          have fz := X.out.free 0
          clear hb
          cases b with
          | true =>
            go_wp2
            go_meet
            case rel =>
              refine ⟨rfl, ?_, JB.out.setCell (Nat.le_refl _) _⟩
              have := X.out.put 0 (.bool true)
              rw [plv_set, startTryztrue] at this
              exact this
          | false =>
            go_wp2
            go_meet
            case rel => exact ⟨rfl, by rw [startTryzfalse]; exact X, JB⟩
        case rest =>
          obtain ⟨rfl, X0, XB0⟩ := hcut
          obtain ⟨at_, HAT⟩ : ∃ at_, Hid (atA rooted hs path k = at_) := ⟨_, rfl⟩
          have HAT2 : Hid (skipA hs (startA b (preA rooted hs path k)) = at_) := by show _ = _; rw [← hb]; exact HAT.out
          have CK := hid (CS.out (startA b (preA rooted hs path k)) wc XB0.out)
          rw [HAT2.out] at CK
          generalize startA b (preA rooted hs path k) = sa at X0 CK
          obtain ⟨en, hen⟩ : ∃ en, (k == path.length) = en := ⟨_, rfl⟩
          have e7 : ((k : Int) == (path.length : Int)) = en := by rw [← hen, Bool.eq_iff_iff]; simp; omega
          have HEN := hid hen
          clear hb hen HAT2 X JB k2
          go_upto_region 11 with (first
            | (refine wpList_load_row rfl 80 _ rfl w.heap.size rfl 80 _ (0, 0) _ X0.out Tryz.underlying80 rfl (iPlaces _) ?_)
            | (go_at_call 41; refine CK.out.mono ?_; rintro e1 w1 ⟨rfl, hb1⟩
               have X1 := hid (X0.out.stays hb1)
               have XB1 := hid (XB0.out.thenG hb1)
               obtain ⟨Wz, hWz⟩ : ∃ Wz, w1.setRow w.heap.size (plv at_) = Wz := ⟨_, rfl⟩
               have X2 : Hid (Has Wz w.heap.size 80 (plv at_)) := hWz ▸ X1.out.row
               have XB : Hid (Below w.heap.size w Wz) := hWz ▸ XB1.out.rowG (Nat.le_refl _) _
               clear hb1)
            | (refine wpList_store_row rfl 80 (.tmp 5) (.tmp 42) rfl w.heap.size (plv at_) rfl rfl 80 _ X1.out (iPlaces _) (by rw [plv_size, plv_size]) (plv_one _) ?_))
          have qn : Wz.cell? ⟨w.heap.size, hs.length, none⟩ = some (.bool (at_ hs.length)) := (X2.out.at_ _).trans (plv_get _ _ (by omega))
          have k3z := (XB.out.cell (p := ⟨g, 3, none⟩) hg).trans HK3.out
          have HHIT : Hid (hitB rooted hs path k = (at_ hs.length && (en || (at8 path k == 47)))) := by show _ = _; unfold hitB endB; rw [HAT.out, HEN.out]
          go_cut [20, 62] from 20 to 71 (fun c t w' => c = .int .i64 (k : Int) ∧ t = .bool (hitB rooted hs path k) ∧ Wz = w')
          case first => as_aux_lemma =>
            generalize at_ hs.length = an at qn HHIT
            cases an with
            | false =>
              go_wp2
              go_meet
              case rel => exact ⟨rfl, by rw [HHIT.out]; rfl, rfl⟩
            | true =>
              cases en with
              | true =>
                go_wp2
                go_meet
                case rel => exact ⟨rfl, by rw [HHIT.out]; rfl, rfl⟩
              | false =>
                have ij := index_str path k (by have := HEN.out; simp at this; omega)
                have q7 : (b8 (at8 path k) == 47) = (at8 path k == 47) := b8_eq _ 47
                generalize at8 path k = x at *
                obtain ⟨bq, hbq⟩ : ∃ bq, (x == 47) = bq := ⟨_, rfl⟩
                rw [hbq] at q7 HHIT
                clear hbq
                go_wp2
                go_meet
                case rel => exact ⟨rfl, by rw [HHIT.out]; rfl, rfl⟩
          case rest =>
            obtain ⟨rfl, rfl, rfl⟩ := hcut
            have HIN : Hid (hitB rooted hs path k = true → ans = true) := fun h => by rw [← HANS.out]; exact range_any_yes _ _ k (by omega) h
            have HNN := hid (range_any_succ (hitB rooted hs path) k)
            obtain ⟨hit, hhit⟩ : ∃ hit, hitB rooted hs path k = hit := ⟨_, rfl⟩
            rw [hhit] at HIN HNN
            rw [hhit]
            clear qn k3z HHIT hhit
            cases hit with
            | true =>
              go_wp2
              go_ret
              exact ⟨ret_bool (HIN.out (by first | rfl | trivial)).symm, XB.out⟩
            | false =>
              have HNO : Hid ((List.range (k + 1)).any (hitB rooted hs path) = false) := by show _ = _; rw [HNN.out, JN.out]; rfl
              clear HIN HNN
              cases en with
              | true =>
                have HE1 : Hid (k = path.length) := by have := HEN.out; show _ = _; simpa using this
                go_wp2
                exact ⟨⟨k + 1, by go_num, by omega, fun h => by have := HE1.out; omega, HNO.out, XB.out⟩, by simp [intOf]; omega⟩
              | false =>
                have QI : Hid (∀ W, (Instr.index 9 (.string (ba path)) (.int .i64 (k : Int))).run Tryz.prog W = .ok (.int .u8 (b8 (at8 path k))) W) := index_str path k (by have := HEN.out; simp at this; omega)
                have CT : Hid (∀ W, Below w.heap.size w W → Calls Tryz.prog 42 #[.pointer (some ⟨g, 0, none⟩), .agg (plv at_), .int .u8 (b8 (at8 path k))] W fun e w' => e = .returned (.agg (plv (stepA hs at_ (at8 path k)))) ∧ Below W.heap.size W w') := fun W hW => CP.out at_ (at8 path k) W hW
                have HST : Hid (stepA hs at_ (at8 path k) = preA rooted hs path (k + 1)) := by show _ = _; rw [← HAT.out]; rfl
                generalize at8 path k = x at QI CT HST
                generalize stepA hs at_ x = st_ at CT HST
                go_wp2
                refine wp_region_noPanic ?_
                refine wp_region_held_drew (S := fun _ => True) (by kernel_rfl) (trivial) (fun hS => ?_)
                refine wpAnyH_take (i := 0) (v := ?_) (by simp only [List.getElem?_toArray, List.getElem?_cons_zero]; rfl) (by kernel_rfl) (by kernel_rfl) (by kernel_rfl) (fun _ _ _ h => h) (Or.inl ⟨by rfl, ?_⟩) (by assumption) ?_
                rotate_left 1
                · intro w hSw
                  go_simp
                  with_reducible rfl
                simp only [Act.put, List.setIfInBounds_toArray, List.set_cons_zero, List.set_cons_succ]
                refine wpAnyH_take (i := 2) (v := ?_) (by simp only [List.getElem?_toArray, List.getElem?_cons_zero, List.getElem?_cons_succ]; rfl) (by kernel_rfl) (by kernel_rfl) (by kernel_rfl) (fun _ _ _ h => h) (Or.inl ⟨by rfl, ?_⟩) (by assumption) ?_
                rotate_left 1
                · intro w hSw
                  go_simp
                  with_reducible rfl
                simp only [Act.put, List.setIfInBounds_toArray, List.set_cons_zero, List.set_cons_succ]
                refine wpAnyH_take (i := 3) (v := ?_) (by simp only [List.getElem?_toArray, List.getElem?_cons_zero, List.getElem?_cons_succ]; rfl) (by kernel_rfl) (by kernel_rfl) (by kernel_rfl) (fun _ _ _ h => h) (Or.inl ⟨by rfl, ?_⟩) (by assumption) ?_
                rotate_left 1
                · intro w hSw
                  go_simp
                  with_reducible rfl
                simp only [Act.put, List.setIfInBounds_toArray, List.set_cons_zero, List.set_cons_succ]
                refine wpAnyH_take (i := 4) (v := ?_) (by simp only [List.getElem?_toArray, List.getElem?_cons_zero, List.getElem?_cons_succ]; rfl) (by kernel_rfl) (by kernel_rfl) (by kernel_rfl) (fun _ _ _ h => h) (Or.inl ⟨by rfl, ?_⟩) (by assumption) ?_
                rotate_left 1
                · intro w hSw
                  have qi := QI.out w
                  go_simp
                  with_reducible rfl
                simp only [Act.put, List.setIfInBounds_toArray, List.set_cons_zero, List.set_cons_succ]
                refine wpAnyH_ready (rs := [1]) (by kernel_rfl) (by simp) ?_
                refine AllReadyH.cons (by simp only [List.getElem?_toArray, List.getElem?_cons_zero, List.getElem?_cons_succ]; rfl) (fun K hK => ?_) AllReadyH.nil
                rw [if_pos (by rfl)]
                refine wp_load_row 80 (.tmp 5) rfl w.heap.size rfl 80 (plv at_) (0, 0) _ (X2.out.drawn 1) Tryz.underlying80 rfl (iPlaces _) ?_
                refine hK.out _ _ trivial (fun hS => ?_)
                clear hK K hS
                simp only [Act.put, List.setIfInBounds_toArray, List.set_cons_zero, List.set_cons_succ]
                refine wpAnyH_ready (rs := [5]) (by kernel_rfl) (by simp) ?_
                refine AllReadyH.cons (by simp only [List.getElem?_toArray, List.getElem?_cons_zero, List.getElem?_cons_succ]; rfl) (fun K hK => ?_) (AllReadyH.nil)
                go_simp
                refine (CT.out _ XB.out.drew).mono ?_
                rintro e9 y9 ⟨rfl, hb9⟩
                have Y1 := hid (Has.stays (w := Wz.drew) (X2.out.drawn 1) hb9)
                have YB : Hid (Below w.heap.size w y9) := XB.out.drew.thenG hb9
                have hz1 := trivial
                refine hK.out _ _ hz1 (fun hS => ?_)
                clear hK K hS
                refine wpAnyH_ready (rs := [6]) (by kernel_rfl) (by simp) ?_
                refine AllReadyH.cons (by simp only [List.getElem?_toArray, List.getElem?_cons_zero, List.getElem?_cons_succ]; rfl) (fun K hK => ?_) AllReadyH.nil
                rw [if_pos (by rfl)]
                refine wp_store_row 80 (.tmp 5) (.tmp 70) rfl w.heap.size (plv st_) rfl rfl 80 _ Y1.out (iPlaces _) (by rw [plv_size, plv_size]) (plv_one _) ?_
                refine hK.out _ _ trivial (fun hS => ?_)
                clear hK K hS
                refine wpAnyH_done (by kernel_rfl) ?_ _
                refine NoPanic.normal ?_
                go_wp2
                exact ⟨⟨k + 1, by go_num, by omega, fun _ => HST.out ▸ Y1.out.row, HNO.out, YB.out.rowG (Nat.le_refl _) _⟩, by simp [intOf]; omega⟩
    · have HF : Hid (ans = false) := by have := JN.out; rw [show k = path.length + 1 by omega, HANS.out] at this; exact this
      have hk2 : ¬ ((k : Int) < (path.length : Int) + 1) := by omega
      clear J1 hlt
      go_wp2
      go_ret
      exact ⟨ret_bool HF.out.symm, JB.out⟩
end Go.Proofs.YtpipkgkfhbagmaaGreatDoor.Glob
