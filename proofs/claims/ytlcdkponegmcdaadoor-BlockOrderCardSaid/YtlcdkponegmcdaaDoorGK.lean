/- The walk of BlockOrder: the acts put, the last ones noted. Conditions: the listed table; acts in a block of the world. -/
import Derived.Test.YtlcdkponegmcdaaDoorGJ
namespace Go.Proofs.YtlcdkponegmcdaaDoor
open Go.RowKit
theorem last_len (xs : List ActT) : (lastR xs).length ≤ xs.length := by
  induction xs with
  | nil => exact Nat.le_refl _
  | cons x r ih => rw [lastR]; split <;> simp only [List.length_cons] <;> omega
theorem drop_at (xs : List ActT) (i : Nat) (h : i < xs.length) : xs.drop i = xs.getD i act0 :: xs.drop (i + 1) := by
  rw [List.drop_eq_getElem_cons h, List.getD, List.getElem?_eq_getElem h]; rfl
theorem lat_next (x : ActT) (r : List ActT) (j : Nat) (h : j < r.length) : lat x (r.take (j + 1)) = (lat x (r.take j) || (decide ((r.getD j act0).name = x.name) && good (r.getD j act0))) := by
  rw [List.take_succ_eq_append_getElem h, lat, List.any_append, List.getD, List.getElem?_eq_getElem h]
  simp [lat]
/-- What the look for a later one reads. -/
structure S14 (bb o1 o2 : Nat) (Y X : ByteArray) (L : Int) (W : World) : Prop where
  y1 : W.cell? ⟨bb, o1 + 1, none⟩ = some (.string Y)
  y3 : W.cell? ⟨bb, o1 + 3, none⟩ = some (.int .i64 L)
  x1 : W.cell? ⟨bb, o2 + 1, none⟩ = some (.string X)
set_option maxRecDepth 100000 in
set_option maxHeartbeats 4000000 in
theorem order_big (A : Option Addr) (n cap bb off : Nat) (xs : List ActT) (w : World) (_h : ActsIn w A n bb off xs) (hT : Sha.Tab w) (hl : 20 < n) :
    Calls Tryd.prog 8 #[.slice A n cap] w fun e w' => e = .returned (.bool true) ∧ Below w.heap.size w w' := by
  have h1 : (20 : Int) < (n : Int) := by omega
  have CA := hid (awake_any w hT)
  clear _h hl hT
  go_enter Tryd.func8, Tryd.ntmps8
  go_wp2_with (go_at_call 14; refine CA.out.mono ?_; rintro e5 w5 ⟨rfl, hb5⟩)
  go_ret
  exact ⟨rfl, hb5⟩
set_option maxRecDepth 100000 in
set_option maxHeartbeats 32000000 in
theorem order_any (A : Option Addr) (n cap bb off : Nat) (xs : List ActT) (w : World) (h : ActsIn w A n bb off xs) (hT : Sha.Tab w) :
    Calls Tryd.prog 8 #[.slice A n cap] w fun e w' => e = .returned (.bool true) ∧ Below w.heap.size w w' := by
  by_cases hb : 20 < n
  · exact order_big A n cap bb off xs w h hT hb
  have hn20 : n ≤ 20 := by omega
  have h1 : ¬ (20 : Int) < (n : Int) := by omega
  have HA := hid h
  have HT := hid hT
  have HPOS := hid hT.pos
  have HN : Hid (xs.length = n) := h.len
  have HOK := hid h.ok
  clear h hT hb
  go_enter Tryd.func8, Tryd.ntmps8
  go_wp2_with (fail)
  refine (newk_any w).mono ?_
  rintro e1 w1 ⟨o1, pf, rfl, hf1, hl1, hb1⟩
  have B1 := hid hb1
  have F1 := hid hf1
  have L1 := hid hl1
  clear hf1 hl1 hb1
  go_wp2_with (fail)
  refine (newk_any w1).mono ?_
  rintro e2 w2 ⟨o2, pg, rfl, hf2, hl2, hb2⟩
  have O2 : Hid (OSt w.heap.size w w2 pf pg (FA (xs.take 0)) (fun _ => none) (80 * 0) 0 (.slice none 0 0) []) :=
    ⟨o1, o2, F1.out.on hb2, hf2, L1.out, fun k hk => Nat.le_trans B1.out.size (hl2 k hk), fun k hk hh => by have := F1.out.low k hk; have := hl2 k hh; omega, World.ownsRow_nil _ _ _ _, (fun k hk => by cases hk), (fun k hk => by cases hk), B1.out.trans (hb2.mono B1.out.size), Nat.le_trans B1.out.size hb2.size⟩
  clear hf2 hl2 hb2
  go_wp2
  go_loopw [5, 6, 7, 8] (fun v5 v6 _ _ wr => ∃ (i : Nat) (ls : List ActT), i ≤ n ∧ v6 = .int .i64 (i : Int) ∧ Hid (ls ++ lastR (xs.drop i) = lastR xs) ∧ Hid (OSt w.heap.size w wr pf pg (FA (xs.take i)) (fun _ => none) (80 * i) 0 v5 ls)) (fun _ v6 _ _ _ => n - (intOf v6).toNat)
  case atStart => exact ⟨0, [], by omega, rfl, rfl, O2.out⟩
  case round =>
    obtain ⟨wo, hwo⟩ : ∃ wo, wo = wr := ⟨_, rfl⟩
    subst hwo
    obtain ⟨i, ls, hi, rfl, HLS, HO⟩ := hrel
    by_cases hlt : i < n
    · have hlt2 : (i : Int) < (n : Int) := by omega
      have w1' : IntKind.i64.wrap ((i : Int) + 1) = ((i + 1 : Nat) : Int) := i64in _ (by omega) (by omega)
      obtain ⟨hA, hbbw⟩ := HA.out.src (by omega)
      subst hA
      have hix : i < xs.length := by rw [HN.out]; exact hlt
      have HDR : Hid (xs.drop i = xs.getD i act0 :: xs.drop (i + 1)) := drop_at xs i hix
      have HFN : Hid (FA (xs.take (i + 1)) = stepF (FA (xs.take i)) (xs.getD i act0)) := FTrydtake xs i hix
      have HAX : Hid (ActAt w bb (off + i * 4) (xs.getD i act0)) := HA.out.at_ i hlt
      have HXO : Hid (ActOk (xs.getD i act0)) := HOK.out _ (by rw [List.getD, List.getElem?_eq_getElem hix]; exact List.getElem_mem _)
      obtain ⟨x, HX⟩ : ∃ x, Hid (xs.getD i act0 = x) := ⟨_, rfl⟩
      rw [HX.out] at HDR HFN HAX HXO
      have HXK : Hid (∀ W, Below w.heap.size w W → ActAt W bb (off + i * 4) x) := fun W hW => HAX.out.kept hW (Nat.le_refl _)
      obtain ⟨r, HR⟩ : ∃ r, Hid (xs.drop (i + 1) = r) := ⟨_, rfl⟩
      have HRL : Hid (i + 1 + r.length = n) := by show _ = _; rw [← HR.out, List.length_drop, HN.out]; omega
      have HRA : Hid (∀ j, j < r.length → r.getD j act0 = xs.getD (i + 1 + j) act0) := fun j _ => by
        rw [← HR.out]; simp only [List.getD, List.getElem?_drop]
      have HYK : Hid (∀ k, k < n → ∀ W, Below w.heap.size w W → ActAt W bb (off + k * 4) (xs.getD k act0)) := fun k hk W hW => (HA.out.at_ k hk).kept hW (Nat.le_refl _)
      go_wp2
      go_loopw [7, 8] (fun v7 v8 wq => ∃ j k : Nat, i + 1 + j = k ∧ k ≤ n ∧ v8 = .int .i64 (k : Int) ∧ v7 = .bool (lat x (r.take j)) ∧ Hid (Below wo.heap.size wo wq)) (fun _ v8 _ => n - (intOf v8).toNat)
      case atStart => exact ⟨0, i + 1, by omega, by omega, rfl, rfl, Below.refl _ _⟩
      case round =>
        obtain ⟨wq, hwq⟩ : ∃ wq, wq = wr := ⟨_, rfl⟩
        subst hwq
        obtain ⟨j, k, hjk, hk, rfl, rfl, HBQ⟩ := hrel
        by_cases hkn : k < n
        · have hkn2 : (k : Int) < (n : Int) := by omega
          have w2' : IntKind.i64.wrap ((k : Int) + 1) = (k : Int) + 1 := i64in _ (by omega) (by omega)
          have hjr : j < r.length := by have := HRL.out; omega
          have HLN : Hid (lat x (r.take (j + 1)) = (lat x (r.take j) || (decide ((xs.getD k act0).name = x.name) && good (xs.getD k act0)))) := by
            show _ = _
            rw [lat_next x r j hjr, HRA.out j hjr, hjk]
          have hBw : Below w.heap.size w wq.drew := (HO.out.below.1.trans (HBQ.out.mono HO.out.below.2)).drew
          have hy := HYK.out k hkn wq.drew hBw
          have hx := HXK.out wq.drew hBw
          obtain ⟨y, HY⟩ : ∃ y, Hid (xs.getD k act0 = y) := ⟨_, rfl⟩
          rw [HY.out] at HLN hy
          obtain ⟨Y, HYN⟩ : ∃ Y, Hid (y.name = Y) := ⟨_, rfl⟩
          obtain ⟨X, HXN⟩ : ∃ X, Hid (x.name = X) := ⟨_, rfl⟩
          obtain ⟨L, HYL⟩ : ∃ L, Hid (y.long = L) := ⟨_, rfl⟩
          obtain ⟨lb, HLB⟩ : ∃ lb, Hid (lat x (r.take j) = lb) := ⟨_, rfl⟩
          obtain ⟨nb, HNB⟩ : ∃ nb, Hid (lat x (r.take (j + 1)) = nb) := ⟨_, rfl⟩
          have HS : Hid (S14 bb (off + k * 4) (off + i * 4) Y X L wq.drew) := ⟨by rw [← HYN.out]; exact hy.c1, by rw [← HYL.out]; exact hy.c3, by rw [← HXN.out]; exact hx.c1⟩
          have HG : Hid (good y = decide (L ≤ 4096)) := by show _ = _; rw [good, HYL.out]
          rw [HLB.out, HG.out, HYN.out, HXN.out, HNB.out] at HLN
          have HBD : Hid (Below wo.heap.size wo wq.drew) := HBQ.out.drew
          rw [HLB.out]
          clear hBw hy hx
          cases lb with
          | true =>
            have HNV : Hid (nb = true) := by show _ = _; rw [HLN.out]; rfl
            go_wp2
            refine wp_region_noPanic ?_
            refine wp_region_held_drew (S := S14 bb (off + k * 4) (off + i * 4) Y X L) (by kernel_rfl) (HS.out) (fun hS => ?_)
            refine wpAnyH_take (i := 0) (v := ?_) (by simp only [List.getElem?_toArray, List.getElem?_cons_zero]; rfl) (by kernel_rfl) (by kernel_rfl) (by kernel_rfl) (fun _ _ _ h => h) (Or.inl ⟨by rfl, ?_⟩) (by assumption) ?_
            rotate_left 1
            · intro w hSw
              go_simp
              try with_reducible rfl
            simp only [Act.put, List.setIfInBounds_toArray, List.set_cons_zero, List.set_cons_succ]
            refine wpAnyH_take (i := 1) (v := ?_) (by simp only [List.getElem?_toArray, List.getElem?_cons_zero, List.getElem?_cons_succ]; rfl) (by kernel_rfl) (by kernel_rfl) (by kernel_rfl) (fun _ _ _ h => h) (Or.inl ⟨by rfl, ?_⟩) (by assumption) ?_
            rotate_left 1
            · intro w hSw
              go_simp
              try with_reducible rfl
            simp only [Act.put, List.setIfInBounds_toArray, List.set_cons_zero, List.set_cons_succ]
            refine wpAnyH_take (i := 2) (v := undef) (by simp only [List.getElem?_toArray, List.getElem?_cons_zero, List.getElem?_cons_succ]; rfl) (by kernel_rfl) (by kernel_rfl) (by kernel_rfl) (fun _ _ _ h => h) (Or.inr ⟨by rfl, rfl⟩) (by assumption) ?_
            simp only [Act.put, List.setIfInBounds_toArray, List.set_cons_zero, List.set_cons_succ]
            refine wpAnyH_take (i := 3) (v := undef) (by simp only [List.getElem?_toArray, List.getElem?_cons_zero, List.getElem?_cons_succ]; rfl) (by kernel_rfl) (by kernel_rfl) (by kernel_rfl) (fun _ _ _ h => h) (Or.inr ⟨by rfl, rfl⟩) (by assumption) ?_
            simp only [Act.put, List.setIfInBounds_toArray, List.set_cons_zero, List.set_cons_succ]
            refine wpAnyH_take (i := 4) (v := undef) (by simp only [List.getElem?_toArray, List.getElem?_cons_zero, List.getElem?_cons_succ]; rfl) (by kernel_rfl) (by kernel_rfl) (by kernel_rfl) (fun _ _ _ h => h) (Or.inr ⟨by rfl, rfl⟩) (by assumption) ?_
            simp only [Act.put, List.setIfInBounds_toArray, List.set_cons_zero, List.set_cons_succ]
            refine wpAnyH_take (i := 5) (v := undef) (by simp only [List.getElem?_toArray, List.getElem?_cons_zero, List.getElem?_cons_succ]; rfl) (by kernel_rfl) (by kernel_rfl) (by kernel_rfl) (fun _ _ _ h => h) (Or.inr ⟨by rfl, rfl⟩) (by assumption) ?_
            simp only [Act.put, List.setIfInBounds_toArray, List.set_cons_zero, List.set_cons_succ]
            refine wpAnyH_take (i := 6) (v := undef) (by simp only [List.getElem?_toArray, List.getElem?_cons_zero, List.getElem?_cons_succ]; rfl) (by kernel_rfl) (by kernel_rfl) (by kernel_rfl) (fun _ _ _ h => h) (Or.inr ⟨by rfl, rfl⟩) (by assumption) ?_
            simp only [Act.put, List.setIfInBounds_toArray, List.set_cons_zero, List.set_cons_succ]
            refine wpAnyH_take (i := 7) (v := undef) (by simp only [List.getElem?_toArray, List.getElem?_cons_zero, List.getElem?_cons_succ]; rfl) (by kernel_rfl) (by kernel_rfl) (by kernel_rfl) (fun _ _ _ h => h) (Or.inr ⟨by rfl, rfl⟩) (by assumption) ?_
            simp only [Act.put, List.setIfInBounds_toArray, List.set_cons_zero, List.set_cons_succ]
            refine wpAnyH_take (i := 8) (v := undef) (by simp only [List.getElem?_toArray, List.getElem?_cons_zero, List.getElem?_cons_succ]; rfl) (by kernel_rfl) (by kernel_rfl) (by kernel_rfl) (fun _ _ _ h => h) (Or.inr ⟨by rfl, rfl⟩) (by assumption) ?_
            simp only [Act.put, List.setIfInBounds_toArray, List.set_cons_zero, List.set_cons_succ]
            refine wpAnyH_take (i := 9) (v := undef) (by simp only [List.getElem?_toArray, List.getElem?_cons_zero, List.getElem?_cons_succ]; rfl) (by kernel_rfl) (by kernel_rfl) (by kernel_rfl) (fun _ _ _ h => h) (Or.inr ⟨by rfl, rfl⟩) (by assumption) ?_
            simp only [Act.put, List.setIfInBounds_toArray, List.set_cons_zero, List.set_cons_succ]
            refine wpAnyH_take (i := 10) (v := undef) (by simp only [List.getElem?_toArray, List.getElem?_cons_zero, List.getElem?_cons_succ]; rfl) (by kernel_rfl) (by kernel_rfl) (by kernel_rfl) (fun _ _ _ h => h) (Or.inr ⟨by rfl, rfl⟩) (by assumption) ?_
            simp only [Act.put, List.setIfInBounds_toArray, List.set_cons_zero, List.set_cons_succ]
            refine wpAnyH_take (i := 11) (v := undef) (by simp only [List.getElem?_toArray, List.getElem?_cons_zero, List.getElem?_cons_succ]; rfl) (by kernel_rfl) (by kernel_rfl) (by kernel_rfl) (fun _ _ _ h => h) (Or.inr ⟨by rfl, rfl⟩) (by assumption) ?_
            simp only [Act.put, List.setIfInBounds_toArray, List.set_cons_zero, List.set_cons_succ]
            refine wpAnyH_take (i := 12) (v := undef) (by simp only [List.getElem?_toArray, List.getElem?_cons_zero, List.getElem?_cons_succ]; rfl) (by kernel_rfl) (by kernel_rfl) (by kernel_rfl) (fun _ _ _ h => h) (Or.inr ⟨by rfl, rfl⟩) (by assumption) ?_
            simp only [Act.put, List.setIfInBounds_toArray, List.set_cons_zero, List.set_cons_succ]
            refine wpAnyH_take (i := 13) (v := undef) (by simp only [List.getElem?_toArray, List.getElem?_cons_zero, List.getElem?_cons_succ]; rfl) (by kernel_rfl) (by kernel_rfl) (by kernel_rfl) (fun _ _ _ h => h) (Or.inr ⟨by rfl, rfl⟩) (by assumption) ?_
            simp only [Act.put, List.setIfInBounds_toArray, List.set_cons_zero, List.set_cons_succ]
            refine wpAnyH_take (i := 14) (v := undef) (by simp only [List.getElem?_toArray, List.getElem?_cons_zero, List.getElem?_cons_succ]; rfl) (by kernel_rfl) (by kernel_rfl) (by kernel_rfl) (fun _ _ _ h => h) (Or.inr ⟨by rfl, rfl⟩) (by assumption) ?_
            simp only [Act.put, List.setIfInBounds_toArray, List.set_cons_zero, List.set_cons_succ]
            refine wpAnyH_take (i := 15) (v := undef) (by simp only [List.getElem?_toArray, List.getElem?_cons_zero, List.getElem?_cons_succ]; rfl) (by kernel_rfl) (by kernel_rfl) (by kernel_rfl) (fun _ _ _ h => h) (Or.inr ⟨by rfl, rfl⟩) (by assumption) ?_
            simp only [Act.put, List.setIfInBounds_toArray, List.set_cons_zero, List.set_cons_succ]
            refine wpAnyH_take (i := 16) (v := undef) (by simp only [List.getElem?_toArray, List.getElem?_cons_zero, List.getElem?_cons_succ]; rfl) (by kernel_rfl) (by kernel_rfl) (by kernel_rfl) (fun _ _ _ h => h) (Or.inr ⟨by rfl, rfl⟩) (by assumption) ?_
            simp only [Act.put, List.setIfInBounds_toArray, List.set_cons_zero, List.set_cons_succ]
            refine wpAnyH_take (i := 17) (v := undef) (by simp only [List.getElem?_toArray, List.getElem?_cons_zero, List.getElem?_cons_succ]; rfl) (by kernel_rfl) (by kernel_rfl) (by kernel_rfl) (fun _ _ _ h => h) (Or.inr ⟨by rfl, rfl⟩) (by assumption) ?_
            simp only [Act.put, List.setIfInBounds_toArray, List.set_cons_zero, List.set_cons_succ]
            refine wpAnyH_take (i := 18) (v := undef) (by simp only [List.getElem?_toArray, List.getElem?_cons_zero, List.getElem?_cons_succ]; rfl) (by kernel_rfl) (by kernel_rfl) (by kernel_rfl) (fun _ _ _ h => h) (Or.inr ⟨by rfl, rfl⟩) (by assumption) ?_
            simp only [Act.put, List.setIfInBounds_toArray, List.set_cons_zero, List.set_cons_succ]
            refine wpAnyH_take (i := 19) (v := undef) (by simp only [List.getElem?_toArray, List.getElem?_cons_zero, List.getElem?_cons_succ]; rfl) (by kernel_rfl) (by kernel_rfl) (by kernel_rfl) (fun _ _ _ h => h) (Or.inr ⟨by rfl, rfl⟩) (by assumption) ?_
            simp only [Act.put, List.setIfInBounds_toArray, List.set_cons_zero, List.set_cons_succ]
            refine wpAnyH_take (i := 20) (v := undef) (by simp only [List.getElem?_toArray, List.getElem?_cons_zero, List.getElem?_cons_succ]; rfl) (by kernel_rfl) (by kernel_rfl) (by kernel_rfl) (fun _ _ _ h => h) (Or.inr ⟨by rfl, rfl⟩) (by assumption) ?_
            simp only [Act.put, List.setIfInBounds_toArray, List.set_cons_zero, List.set_cons_succ]
            refine wpAnyH_take (i := 21) (v := ?_) (by simp only [List.getElem?_toArray, List.getElem?_cons_zero, List.getElem?_cons_succ]; rfl) (by kernel_rfl) (by kernel_rfl) (by kernel_rfl) (fun _ _ _ h => h) (Or.inl ⟨by rfl, ?_⟩) (by assumption) ?_
            rotate_left 1
            · intro w hSw
              go_simp
              try with_reducible rfl
            simp only [Act.put, List.setIfInBounds_toArray, List.set_cons_zero, List.set_cons_succ]
            refine wpAnyH_take (i := 22) (v := ?_) (by simp only [List.getElem?_toArray, List.getElem?_cons_zero, List.getElem?_cons_succ]; rfl) (by kernel_rfl) (by kernel_rfl) (by kernel_rfl) (fun _ _ _ h => h) (Or.inl ⟨by rfl, ?_⟩) (by assumption) ?_
            rotate_left 1
            · intro w hSw
              go_simp
              try with_reducible rfl
            simp only [Act.put, List.setIfInBounds_toArray, List.set_cons_zero, List.set_cons_succ]
            refine wpAnyH_done (by kernel_rfl) ?_ _
            refine NoPanic.normal ?_
            go_wp2
            go_roundw
            case rel => exact ⟨j + 1, k + 1, by omega, by omega, by go_num, by rw [HNB.out, HNV.out], HBD.out⟩
            case measure => simp [intOf]; omega
          | false =>
            by_cases hyx : Y = X
            · obtain rfl : X = Y := hyx.symm
              by_cases hL : L ≤ 4096
              · have HNV : Hid (nb = true) := by show _ = _; rw [HLN.out]; simp [hL]
                go_wp2
                refine wp_region_noPanic ?_
                refine wp_region_held_drew (S := S14 bb (off + k * 4) (off + i * 4) X X L) (by kernel_rfl) (HS.out) (fun hS => ?_)
                refine wpAnyH_take (i := 0) (v := ?_) (by simp only [List.getElem?_toArray, List.getElem?_cons_zero]; rfl) (by kernel_rfl) (by kernel_rfl) (by kernel_rfl) (fun _ _ _ h => h) (Or.inl ⟨by rfl, ?_⟩) (by assumption) ?_
                rotate_left 1
                · intro w hSw
                  go_simp
                  try with_reducible rfl
                simp only [Act.put, List.setIfInBounds_toArray, List.set_cons_zero, List.set_cons_succ]
                refine wpAnyH_take (i := 1) (v := ?_) (by simp only [List.getElem?_toArray, List.getElem?_cons_zero, List.getElem?_cons_succ]; rfl) (by kernel_rfl) (by kernel_rfl) (by kernel_rfl) (fun _ _ _ h => h) (Or.inl ⟨by rfl, ?_⟩) (by assumption) ?_
                rotate_left 1
                · intro w hSw
                  go_simp
                  try with_reducible rfl
                simp only [Act.put, List.setIfInBounds_toArray, List.set_cons_zero, List.set_cons_succ]
                refine wpAnyH_take (i := 2) (v := ?_) (by simp only [List.getElem?_toArray, List.getElem?_cons_zero, List.getElem?_cons_succ]; rfl) (by kernel_rfl) (by kernel_rfl) (by kernel_rfl) (fun _ _ _ h => h) (Or.inl ⟨by rfl, ?_⟩) (by assumption) ?_
                rotate_left 1
                · intro w hSw
                  have h1 := hSw.y1
                  have h2 := hSw.y3
                  have h3 := hSw.x1
                  go_simp
                  try with_reducible rfl
                simp only [Act.put, List.setIfInBounds_toArray, List.set_cons_zero, List.set_cons_succ]
                refine wpAnyH_take (i := 3) (v := ?_) (by simp only [List.getElem?_toArray, List.getElem?_cons_zero, List.getElem?_cons_succ]; rfl) (by kernel_rfl) (by kernel_rfl) (by kernel_rfl) (fun _ _ _ h => h) (Or.inl ⟨by rfl, ?_⟩) (by assumption) ?_
                rotate_left 1
                · intro w hSw
                  have h1 := hSw.y1
                  have h2 := hSw.y3
                  have h3 := hSw.x1
                  go_simp
                  try with_reducible rfl
                simp only [Act.put, List.setIfInBounds_toArray, List.set_cons_zero, List.set_cons_succ]
                refine wpAnyH_take (i := 4) (v := ?_) (by simp only [List.getElem?_toArray, List.getElem?_cons_zero, List.getElem?_cons_succ]; rfl) (by kernel_rfl) (by kernel_rfl) (by kernel_rfl) (fun _ _ _ h => h) (Or.inl ⟨by rfl, ?_⟩) (by assumption) ?_
                rotate_left 1
                · intro w hSw
                  have h1 := hSw.y1
                  have h2 := hSw.y3
                  have h3 := hSw.x1
                  go_simp
                  try with_reducible rfl
                simp only [Act.put, List.setIfInBounds_toArray, List.set_cons_zero, List.set_cons_succ]
                refine wpAnyH_take (i := 5) (v := ?_) (by simp only [List.getElem?_toArray, List.getElem?_cons_zero, List.getElem?_cons_succ]; rfl) (by kernel_rfl) (by kernel_rfl) (by kernel_rfl) (fun _ _ _ h => h) (Or.inl ⟨by rfl, ?_⟩) (by assumption) ?_
                rotate_left 1
                · intro w hSw
                  have h1 := hSw.y1
                  have h2 := hSw.y3
                  have h3 := hSw.x1
                  go_simp
                  try with_reducible rfl
                simp only [Act.put, List.setIfInBounds_toArray, List.set_cons_zero, List.set_cons_succ]
                refine wpAnyH_take (i := 6) (v := ?_) (by simp only [List.getElem?_toArray, List.getElem?_cons_zero, List.getElem?_cons_succ]; rfl) (by kernel_rfl) (by kernel_rfl) (by kernel_rfl) (fun _ _ _ h => h) (Or.inl ⟨by rfl, ?_⟩) (by assumption) ?_
                rotate_left 1
                · intro w hSw
                  have h1 := hSw.y1
                  have h2 := hSw.y3
                  have h3 := hSw.x1
                  go_simp
                  try with_reducible rfl
                simp only [Act.put, List.setIfInBounds_toArray, List.set_cons_zero, List.set_cons_succ]
                refine wpAnyH_take (i := 7) (v := ?_) (by simp only [List.getElem?_toArray, List.getElem?_cons_zero, List.getElem?_cons_succ]; rfl) (by kernel_rfl) (by kernel_rfl) (by kernel_rfl) (fun _ _ _ h => h) (Or.inl ⟨by rfl, ?_⟩) (by assumption) ?_
                rotate_left 1
                · intro w hSw
                  have h1 := hSw.y1
                  have h2 := hSw.y3
                  have h3 := hSw.x1
                  go_simp
                  try with_reducible rfl
                simp only [Act.put, List.setIfInBounds_toArray, List.set_cons_zero, List.set_cons_succ]
                refine wpAnyH_take (i := 8) (v := ?_) (by simp only [List.getElem?_toArray, List.getElem?_cons_zero, List.getElem?_cons_succ]; rfl) (by kernel_rfl) (by kernel_rfl) (by kernel_rfl) (fun _ _ _ h => h) (Or.inl ⟨by rfl, ?_⟩) (by assumption) ?_
                rotate_left 1
                · intro w hSw
                  have h1 := hSw.y1
                  have h2 := hSw.y3
                  have h3 := hSw.x1
                  go_simp
                  try with_reducible rfl
                simp only [Act.put, List.setIfInBounds_toArray, List.set_cons_zero, List.set_cons_succ]
                refine wpAnyH_take (i := 9) (v := ?_) (by simp only [List.getElem?_toArray, List.getElem?_cons_zero, List.getElem?_cons_succ]; rfl) (by kernel_rfl) (by kernel_rfl) (by kernel_rfl) (fun _ _ _ h => h) (Or.inl ⟨by rfl, ?_⟩) (by assumption) ?_
                rotate_left 1
                · intro w hSw
                  have h1 := hSw.y1
                  have h2 := hSw.y3
                  have h3 := hSw.x1
                  go_simp
                  try with_reducible rfl
                simp only [Act.put, List.setIfInBounds_toArray, List.set_cons_zero, List.set_cons_succ]
                refine wpAnyH_take (i := 10) (v := ?_) (by simp only [List.getElem?_toArray, List.getElem?_cons_zero, List.getElem?_cons_succ]; rfl) (by kernel_rfl) (by kernel_rfl) (by kernel_rfl) (fun _ _ _ h => h) (Or.inl ⟨by rfl, ?_⟩) (by assumption) ?_
                rotate_left 1
                · intro w hSw
                  have h1 := hSw.y1
                  have h2 := hSw.y3
                  have h3 := hSw.x1
                  go_simp
                  try with_reducible rfl
                simp only [Act.put, List.setIfInBounds_toArray, List.set_cons_zero, List.set_cons_succ]
                refine wpAnyH_take (i := 11) (v := ?_) (by simp only [List.getElem?_toArray, List.getElem?_cons_zero, List.getElem?_cons_succ]; rfl) (by kernel_rfl) (by kernel_rfl) (by kernel_rfl) (fun _ _ _ h => h) (Or.inl ⟨by rfl, ?_⟩) (by assumption) ?_
                rotate_left 1
                · intro w hSw
                  have h1 := hSw.y1
                  have h2 := hSw.y3
                  have h3 := hSw.x1
                  go_simp
                  try with_reducible rfl
                simp only [Act.put, List.setIfInBounds_toArray, List.set_cons_zero, List.set_cons_succ]
                refine wpAnyH_take (i := 12) (v := ?_) (by simp only [List.getElem?_toArray, List.getElem?_cons_zero, List.getElem?_cons_succ]; rfl) (by kernel_rfl) (by kernel_rfl) (by kernel_rfl) (fun _ _ _ h => h) (Or.inl ⟨by rfl, ?_⟩) (by assumption) ?_
                rotate_left 1
                · intro w hSw
                  have h1 := hSw.y1
                  have h2 := hSw.y3
                  have h3 := hSw.x1
                  go_simp
                  try with_reducible rfl
                simp only [Act.put, List.setIfInBounds_toArray, List.set_cons_zero, List.set_cons_succ]
                refine wpAnyH_take (i := 13) (v := ?_) (by simp only [List.getElem?_toArray, List.getElem?_cons_zero, List.getElem?_cons_succ]; rfl) (by kernel_rfl) (by kernel_rfl) (by kernel_rfl) (fun _ _ _ h => h) (Or.inl ⟨by rfl, ?_⟩) (by assumption) ?_
                rotate_left 1
                · intro w hSw
                  have h1 := hSw.y1
                  have h2 := hSw.y3
                  have h3 := hSw.x1
                  go_simp
                  try with_reducible rfl
                simp only [Act.put, List.setIfInBounds_toArray, List.set_cons_zero, List.set_cons_succ]
                refine wpAnyH_take (i := 14) (v := ?_) (by simp only [List.getElem?_toArray, List.getElem?_cons_zero, List.getElem?_cons_succ]; rfl) (by kernel_rfl) (by kernel_rfl) (by kernel_rfl) (fun _ _ _ h => h) (Or.inl ⟨by rfl, ?_⟩) (by assumption) ?_
                rotate_left 1
                · intro w hSw
                  have h1 := hSw.y1
                  have h2 := hSw.y3
                  have h3 := hSw.x1
                  go_simp
                  try with_reducible rfl
                simp only [Act.put, List.setIfInBounds_toArray, List.set_cons_zero, List.set_cons_succ]
                refine wpAnyH_take (i := 15) (v := ?_) (by simp only [List.getElem?_toArray, List.getElem?_cons_zero, List.getElem?_cons_succ]; rfl) (by kernel_rfl) (by kernel_rfl) (by kernel_rfl) (fun _ _ _ h => h) (Or.inl ⟨by rfl, ?_⟩) (by assumption) ?_
                rotate_left 1
                · intro w hSw
                  have h1 := hSw.y1
                  have h2 := hSw.y3
                  have h3 := hSw.x1
                  go_simp
                  try with_reducible rfl
                simp only [Act.put, List.setIfInBounds_toArray, List.set_cons_zero, List.set_cons_succ]
                refine wpAnyH_take (i := 16) (v := ?_) (by simp only [List.getElem?_toArray, List.getElem?_cons_zero, List.getElem?_cons_succ]; rfl) (by kernel_rfl) (by kernel_rfl) (by kernel_rfl) (fun _ _ _ h => h) (Or.inl ⟨by rfl, ?_⟩) (by assumption) ?_
                rotate_left 1
                · intro w hSw
                  have h1 := hSw.y1
                  have h2 := hSw.y3
                  have h3 := hSw.x1
                  go_simp
                  try with_reducible rfl
                simp only [Act.put, List.setIfInBounds_toArray, List.set_cons_zero, List.set_cons_succ]
                refine wpAnyH_take (i := 17) (v := ?_) (by simp only [List.getElem?_toArray, List.getElem?_cons_zero, List.getElem?_cons_succ]; rfl) (by kernel_rfl) (by kernel_rfl) (by kernel_rfl) (fun _ _ _ h => h) (Or.inl ⟨by rfl, ?_⟩) (by assumption) ?_
                rotate_left 1
                · intro w hSw
                  have h1 := hSw.y1
                  have h2 := hSw.y3
                  have h3 := hSw.x1
                  go_simp
                  try with_reducible rfl
                simp only [Act.put, List.setIfInBounds_toArray, List.set_cons_zero, List.set_cons_succ]
                refine wpAnyH_take (i := 18) (v := ?_) (by simp only [List.getElem?_toArray, List.getElem?_cons_zero, List.getElem?_cons_succ]; rfl) (by kernel_rfl) (by kernel_rfl) (by kernel_rfl) (fun _ _ _ h => h) (Or.inl ⟨by rfl, ?_⟩) (by assumption) ?_
                rotate_left 1
                · intro w hSw
                  have h1 := hSw.y1
                  have h2 := hSw.y3
                  have h3 := hSw.x1
                  go_simp
                  try with_reducible rfl
                simp only [Act.put, List.setIfInBounds_toArray, List.set_cons_zero, List.set_cons_succ]
                refine wpAnyH_take (i := 19) (v := ?_) (by simp only [List.getElem?_toArray, List.getElem?_cons_zero, List.getElem?_cons_succ]; rfl) (by kernel_rfl) (by kernel_rfl) (by kernel_rfl) (fun _ _ _ h => h) (Or.inl ⟨by rfl, ?_⟩) (by assumption) ?_
                rotate_left 1
                · intro w hSw
                  have h1 := hSw.y1
                  have h2 := hSw.y3
                  have h3 := hSw.x1
                  go_simp
                  try with_reducible rfl
                simp only [Act.put, List.setIfInBounds_toArray, List.set_cons_zero, List.set_cons_succ]
                refine wpAnyH_take (i := 20) (v := ?_) (by simp only [List.getElem?_toArray, List.getElem?_cons_zero, List.getElem?_cons_succ]; rfl) (by kernel_rfl) (by kernel_rfl) (by kernel_rfl) (fun _ _ _ h => h) (Or.inl ⟨by rfl, ?_⟩) (by assumption) ?_
                rotate_left 1
                · intro w hSw
                  go_simp
                  try with_reducible rfl
                simp only [Act.put, List.setIfInBounds_toArray, List.set_cons_zero, List.set_cons_succ]
                refine wpAnyH_take (i := 21) (v := ?_) (by simp only [List.getElem?_toArray, List.getElem?_cons_zero, List.getElem?_cons_succ]; rfl) (by kernel_rfl) (by kernel_rfl) (by kernel_rfl) (fun _ _ _ h => h) (Or.inl ⟨by rfl, ?_⟩) (by assumption) ?_
                rotate_left 1
                · intro w hSw
                  go_simp
                  try with_reducible rfl
                simp only [Act.put, List.setIfInBounds_toArray, List.set_cons_zero, List.set_cons_succ]
                refine wpAnyH_take (i := 22) (v := ?_) (by simp only [List.getElem?_toArray, List.getElem?_cons_zero, List.getElem?_cons_succ]; rfl) (by kernel_rfl) (by kernel_rfl) (by kernel_rfl) (fun _ _ _ h => h) (Or.inl ⟨by rfl, ?_⟩) (by assumption) ?_
                rotate_left 1
                · intro w hSw
                  go_simp
                  try with_reducible rfl
                simp only [Act.put, List.setIfInBounds_toArray, List.set_cons_zero, List.set_cons_succ]
                refine wpAnyH_done (by kernel_rfl) ?_ _
                refine NoPanic.normal ?_
                go_wp2
                go_roundw
                case rel => exact ⟨j + 1, k + 1, by omega, by omega, by go_num, by rw [HNB.out, HNV.out], HBD.out⟩
                case measure => simp [intOf]; omega

              · have HNV : Hid (nb = false) := by show _ = _; rw [HLN.out]; simp [hL]
                go_wp2
                refine wp_region_noPanic ?_
                refine wp_region_held_drew (S := S14 bb (off + k * 4) (off + i * 4) X X L) (by kernel_rfl) (HS.out) (fun hS => ?_)
                refine wpAnyH_take (i := 0) (v := ?_) (by simp only [List.getElem?_toArray, List.getElem?_cons_zero]; rfl) (by kernel_rfl) (by kernel_rfl) (by kernel_rfl) (fun _ _ _ h => h) (Or.inl ⟨by rfl, ?_⟩) (by assumption) ?_
                rotate_left 1
                · intro w hSw
                  go_simp
                  try with_reducible rfl
                simp only [Act.put, List.setIfInBounds_toArray, List.set_cons_zero, List.set_cons_succ]
                refine wpAnyH_take (i := 1) (v := ?_) (by simp only [List.getElem?_toArray, List.getElem?_cons_zero, List.getElem?_cons_succ]; rfl) (by kernel_rfl) (by kernel_rfl) (by kernel_rfl) (fun _ _ _ h => h) (Or.inl ⟨by rfl, ?_⟩) (by assumption) ?_
                rotate_left 1
                · intro w hSw
                  go_simp
                  try with_reducible rfl
                simp only [Act.put, List.setIfInBounds_toArray, List.set_cons_zero, List.set_cons_succ]
                refine wpAnyH_take (i := 2) (v := ?_) (by simp only [List.getElem?_toArray, List.getElem?_cons_zero, List.getElem?_cons_succ]; rfl) (by kernel_rfl) (by kernel_rfl) (by kernel_rfl) (fun _ _ _ h => h) (Or.inl ⟨by rfl, ?_⟩) (by assumption) ?_
                rotate_left 1
                · intro w hSw
                  have h1 := hSw.y1
                  have h2 := hSw.y3
                  have h3 := hSw.x1
                  go_simp
                  try with_reducible rfl
                simp only [Act.put, List.setIfInBounds_toArray, List.set_cons_zero, List.set_cons_succ]
                refine wpAnyH_take (i := 3) (v := ?_) (by simp only [List.getElem?_toArray, List.getElem?_cons_zero, List.getElem?_cons_succ]; rfl) (by kernel_rfl) (by kernel_rfl) (by kernel_rfl) (fun _ _ _ h => h) (Or.inl ⟨by rfl, ?_⟩) (by assumption) ?_
                rotate_left 1
                · intro w hSw
                  have h1 := hSw.y1
                  have h2 := hSw.y3
                  have h3 := hSw.x1
                  go_simp
                  try with_reducible rfl
                simp only [Act.put, List.setIfInBounds_toArray, List.set_cons_zero, List.set_cons_succ]
                refine wpAnyH_take (i := 4) (v := ?_) (by simp only [List.getElem?_toArray, List.getElem?_cons_zero, List.getElem?_cons_succ]; rfl) (by kernel_rfl) (by kernel_rfl) (by kernel_rfl) (fun _ _ _ h => h) (Or.inl ⟨by rfl, ?_⟩) (by assumption) ?_
                rotate_left 1
                · intro w hSw
                  have h1 := hSw.y1
                  have h2 := hSw.y3
                  have h3 := hSw.x1
                  go_simp
                  try with_reducible rfl
                simp only [Act.put, List.setIfInBounds_toArray, List.set_cons_zero, List.set_cons_succ]
                refine wpAnyH_take (i := 5) (v := ?_) (by simp only [List.getElem?_toArray, List.getElem?_cons_zero, List.getElem?_cons_succ]; rfl) (by kernel_rfl) (by kernel_rfl) (by kernel_rfl) (fun _ _ _ h => h) (Or.inl ⟨by rfl, ?_⟩) (by assumption) ?_
                rotate_left 1
                · intro w hSw
                  have h1 := hSw.y1
                  have h2 := hSw.y3
                  have h3 := hSw.x1
                  go_simp
                  try with_reducible rfl
                simp only [Act.put, List.setIfInBounds_toArray, List.set_cons_zero, List.set_cons_succ]
                refine wpAnyH_take (i := 6) (v := ?_) (by simp only [List.getElem?_toArray, List.getElem?_cons_zero, List.getElem?_cons_succ]; rfl) (by kernel_rfl) (by kernel_rfl) (by kernel_rfl) (fun _ _ _ h => h) (Or.inl ⟨by rfl, ?_⟩) (by assumption) ?_
                rotate_left 1
                · intro w hSw
                  have h1 := hSw.y1
                  have h2 := hSw.y3
                  have h3 := hSw.x1
                  go_simp
                  try with_reducible rfl
                simp only [Act.put, List.setIfInBounds_toArray, List.set_cons_zero, List.set_cons_succ]
                refine wpAnyH_take (i := 7) (v := ?_) (by simp only [List.getElem?_toArray, List.getElem?_cons_zero, List.getElem?_cons_succ]; rfl) (by kernel_rfl) (by kernel_rfl) (by kernel_rfl) (fun _ _ _ h => h) (Or.inl ⟨by rfl, ?_⟩) (by assumption) ?_
                rotate_left 1
                · intro w hSw
                  have h1 := hSw.y1
                  have h2 := hSw.y3
                  have h3 := hSw.x1
                  go_simp
                  try with_reducible rfl
                simp only [Act.put, List.setIfInBounds_toArray, List.set_cons_zero, List.set_cons_succ]
                refine wpAnyH_take (i := 8) (v := ?_) (by simp only [List.getElem?_toArray, List.getElem?_cons_zero, List.getElem?_cons_succ]; rfl) (by kernel_rfl) (by kernel_rfl) (by kernel_rfl) (fun _ _ _ h => h) (Or.inl ⟨by rfl, ?_⟩) (by assumption) ?_
                rotate_left 1
                · intro w hSw
                  have h1 := hSw.y1
                  have h2 := hSw.y3
                  have h3 := hSw.x1
                  go_simp
                  try with_reducible rfl
                simp only [Act.put, List.setIfInBounds_toArray, List.set_cons_zero, List.set_cons_succ]
                refine wpAnyH_take (i := 9) (v := ?_) (by simp only [List.getElem?_toArray, List.getElem?_cons_zero, List.getElem?_cons_succ]; rfl) (by kernel_rfl) (by kernel_rfl) (by kernel_rfl) (fun _ _ _ h => h) (Or.inl ⟨by rfl, ?_⟩) (by assumption) ?_
                rotate_left 1
                · intro w hSw
                  have h1 := hSw.y1
                  have h2 := hSw.y3
                  have h3 := hSw.x1
                  go_simp
                  try with_reducible rfl
                simp only [Act.put, List.setIfInBounds_toArray, List.set_cons_zero, List.set_cons_succ]
                refine wpAnyH_take (i := 10) (v := ?_) (by simp only [List.getElem?_toArray, List.getElem?_cons_zero, List.getElem?_cons_succ]; rfl) (by kernel_rfl) (by kernel_rfl) (by kernel_rfl) (fun _ _ _ h => h) (Or.inl ⟨by rfl, ?_⟩) (by assumption) ?_
                rotate_left 1
                · intro w hSw
                  have h1 := hSw.y1
                  have h2 := hSw.y3
                  have h3 := hSw.x1
                  go_simp
                  try with_reducible rfl
                simp only [Act.put, List.setIfInBounds_toArray, List.set_cons_zero, List.set_cons_succ]
                refine wpAnyH_take (i := 11) (v := ?_) (by simp only [List.getElem?_toArray, List.getElem?_cons_zero, List.getElem?_cons_succ]; rfl) (by kernel_rfl) (by kernel_rfl) (by kernel_rfl) (fun _ _ _ h => h) (Or.inl ⟨by rfl, ?_⟩) (by assumption) ?_
                rotate_left 1
                · intro w hSw
                  have h1 := hSw.y1
                  have h2 := hSw.y3
                  have h3 := hSw.x1
                  go_simp
                  try with_reducible rfl
                simp only [Act.put, List.setIfInBounds_toArray, List.set_cons_zero, List.set_cons_succ]
                refine wpAnyH_take (i := 12) (v := ?_) (by simp only [List.getElem?_toArray, List.getElem?_cons_zero, List.getElem?_cons_succ]; rfl) (by kernel_rfl) (by kernel_rfl) (by kernel_rfl) (fun _ _ _ h => h) (Or.inl ⟨by rfl, ?_⟩) (by assumption) ?_
                rotate_left 1
                · intro w hSw
                  have h1 := hSw.y1
                  have h2 := hSw.y3
                  have h3 := hSw.x1
                  go_simp
                  try with_reducible rfl
                simp only [Act.put, List.setIfInBounds_toArray, List.set_cons_zero, List.set_cons_succ]
                refine wpAnyH_take (i := 13) (v := ?_) (by simp only [List.getElem?_toArray, List.getElem?_cons_zero, List.getElem?_cons_succ]; rfl) (by kernel_rfl) (by kernel_rfl) (by kernel_rfl) (fun _ _ _ h => h) (Or.inl ⟨by rfl, ?_⟩) (by assumption) ?_
                rotate_left 1
                · intro w hSw
                  have h1 := hSw.y1
                  have h2 := hSw.y3
                  have h3 := hSw.x1
                  go_simp
                  try with_reducible rfl
                simp only [Act.put, List.setIfInBounds_toArray, List.set_cons_zero, List.set_cons_succ]
                refine wpAnyH_take (i := 14) (v := ?_) (by simp only [List.getElem?_toArray, List.getElem?_cons_zero, List.getElem?_cons_succ]; rfl) (by kernel_rfl) (by kernel_rfl) (by kernel_rfl) (fun _ _ _ h => h) (Or.inl ⟨by rfl, ?_⟩) (by assumption) ?_
                rotate_left 1
                · intro w hSw
                  have h1 := hSw.y1
                  have h2 := hSw.y3
                  have h3 := hSw.x1
                  go_simp
                  try with_reducible rfl
                simp only [Act.put, List.setIfInBounds_toArray, List.set_cons_zero, List.set_cons_succ]
                refine wpAnyH_take (i := 15) (v := ?_) (by simp only [List.getElem?_toArray, List.getElem?_cons_zero, List.getElem?_cons_succ]; rfl) (by kernel_rfl) (by kernel_rfl) (by kernel_rfl) (fun _ _ _ h => h) (Or.inl ⟨by rfl, ?_⟩) (by assumption) ?_
                rotate_left 1
                · intro w hSw
                  have h1 := hSw.y1
                  have h2 := hSw.y3
                  have h3 := hSw.x1
                  go_simp
                  try with_reducible rfl
                simp only [Act.put, List.setIfInBounds_toArray, List.set_cons_zero, List.set_cons_succ]
                refine wpAnyH_take (i := 16) (v := ?_) (by simp only [List.getElem?_toArray, List.getElem?_cons_zero, List.getElem?_cons_succ]; rfl) (by kernel_rfl) (by kernel_rfl) (by kernel_rfl) (fun _ _ _ h => h) (Or.inl ⟨by rfl, ?_⟩) (by assumption) ?_
                rotate_left 1
                · intro w hSw
                  have h1 := hSw.y1
                  have h2 := hSw.y3
                  have h3 := hSw.x1
                  go_simp
                  try with_reducible rfl
                simp only [Act.put, List.setIfInBounds_toArray, List.set_cons_zero, List.set_cons_succ]
                refine wpAnyH_take (i := 17) (v := ?_) (by simp only [List.getElem?_toArray, List.getElem?_cons_zero, List.getElem?_cons_succ]; rfl) (by kernel_rfl) (by kernel_rfl) (by kernel_rfl) (fun _ _ _ h => h) (Or.inl ⟨by rfl, ?_⟩) (by assumption) ?_
                rotate_left 1
                · intro w hSw
                  have h1 := hSw.y1
                  have h2 := hSw.y3
                  have h3 := hSw.x1
                  go_simp
                  try with_reducible rfl
                simp only [Act.put, List.setIfInBounds_toArray, List.set_cons_zero, List.set_cons_succ]
                refine wpAnyH_take (i := 18) (v := ?_) (by simp only [List.getElem?_toArray, List.getElem?_cons_zero, List.getElem?_cons_succ]; rfl) (by kernel_rfl) (by kernel_rfl) (by kernel_rfl) (fun _ _ _ h => h) (Or.inl ⟨by rfl, ?_⟩) (by assumption) ?_
                rotate_left 1
                · intro w hSw
                  have h1 := hSw.y1
                  have h2 := hSw.y3
                  have h3 := hSw.x1
                  go_simp
                  try with_reducible rfl
                simp only [Act.put, List.setIfInBounds_toArray, List.set_cons_zero, List.set_cons_succ]
                refine wpAnyH_take (i := 19) (v := ?_) (by simp only [List.getElem?_toArray, List.getElem?_cons_zero, List.getElem?_cons_succ]; rfl) (by kernel_rfl) (by kernel_rfl) (by kernel_rfl) (fun _ _ _ h => h) (Or.inl ⟨by rfl, ?_⟩) (by assumption) ?_
                rotate_left 1
                · intro w hSw
                  have h1 := hSw.y1
                  have h2 := hSw.y3
                  have h3 := hSw.x1
                  go_simp
                  try with_reducible rfl
                simp only [Act.put, List.setIfInBounds_toArray, List.set_cons_zero, List.set_cons_succ]
                refine wpAnyH_take (i := 20) (v := ?_) (by simp only [List.getElem?_toArray, List.getElem?_cons_zero, List.getElem?_cons_succ]; rfl) (by kernel_rfl) (by kernel_rfl) (by kernel_rfl) (fun _ _ _ h => h) (Or.inl ⟨by rfl, ?_⟩) (by assumption) ?_
                rotate_left 1
                · intro w hSw
                  go_simp
                  try with_reducible rfl
                simp only [Act.put, List.setIfInBounds_toArray, List.set_cons_zero, List.set_cons_succ]
                refine wpAnyH_take (i := 21) (v := ?_) (by simp only [List.getElem?_toArray, List.getElem?_cons_zero, List.getElem?_cons_succ]; rfl) (by kernel_rfl) (by kernel_rfl) (by kernel_rfl) (fun _ _ _ h => h) (Or.inl ⟨by rfl, ?_⟩) (by assumption) ?_
                rotate_left 1
                · intro w hSw
                  go_simp
                  try with_reducible rfl
                simp only [Act.put, List.setIfInBounds_toArray, List.set_cons_zero, List.set_cons_succ]
                refine wpAnyH_take (i := 22) (v := ?_) (by simp only [List.getElem?_toArray, List.getElem?_cons_zero, List.getElem?_cons_succ]; rfl) (by kernel_rfl) (by kernel_rfl) (by kernel_rfl) (fun _ _ _ h => h) (Or.inl ⟨by rfl, ?_⟩) (by assumption) ?_
                rotate_left 1
                · intro w hSw
                  go_simp
                  try with_reducible rfl
                simp only [Act.put, List.setIfInBounds_toArray, List.set_cons_zero, List.set_cons_succ]
                refine wpAnyH_done (by kernel_rfl) ?_ _
                refine NoPanic.normal ?_
                go_wp2
                go_roundw
                case rel => exact ⟨j + 1, k + 1, by omega, by omega, by go_num, by rw [HNB.out, HNV.out]; simp; omega, HBD.out⟩
                case measure => simp [intOf]; omega

            · have HNV : Hid (nb = false) := by show _ = _; rw [HLN.out]; simp [hyx]
              have q1 : (Y.toList == X.toList) = false := by
                rw [ByteArray.toList_eq, ByteArray.toList_eq]
                simp only [beq_eq_false_iff_ne, ne_eq]
                intro e
                apply hyx
                cases Y; cases X
                exact congrArg ByteArray.mk (Array.toList_inj.1 e)
              go_wp2
              refine wp_region_noPanic ?_
              refine wp_region_held_drew (S := S14 bb (off + k * 4) (off + i * 4) Y X L) (by kernel_rfl) (HS.out) (fun hS => ?_)
              refine wpAnyH_take (i := 0) (v := ?_) (by simp only [List.getElem?_toArray, List.getElem?_cons_zero]; rfl) (by kernel_rfl) (by kernel_rfl) (by kernel_rfl) (fun _ _ _ h => h) (Or.inl ⟨by rfl, ?_⟩) (by assumption) ?_
              rotate_left 1
              · intro w hSw
                go_simp
                try with_reducible rfl
              simp only [Act.put, List.setIfInBounds_toArray, List.set_cons_zero, List.set_cons_succ]
              refine wpAnyH_take (i := 1) (v := ?_) (by simp only [List.getElem?_toArray, List.getElem?_cons_zero, List.getElem?_cons_succ]; rfl) (by kernel_rfl) (by kernel_rfl) (by kernel_rfl) (fun _ _ _ h => h) (Or.inl ⟨by rfl, ?_⟩) (by assumption) ?_
              rotate_left 1
              · intro w hSw
                go_simp
                try with_reducible rfl
              simp only [Act.put, List.setIfInBounds_toArray, List.set_cons_zero, List.set_cons_succ]
              refine wpAnyH_take (i := 2) (v := ?_) (by simp only [List.getElem?_toArray, List.getElem?_cons_zero, List.getElem?_cons_succ]; rfl) (by kernel_rfl) (by kernel_rfl) (by kernel_rfl) (fun _ _ _ h => h) (Or.inl ⟨by rfl, ?_⟩) (by assumption) ?_
              rotate_left 1
              · intro w hSw
                have h1 := hSw.y1
                have h2 := hSw.y3
                have h3 := hSw.x1
                go_simp
                try with_reducible rfl
              simp only [Act.put, List.setIfInBounds_toArray, List.set_cons_zero, List.set_cons_succ]
              refine wpAnyH_take (i := 3) (v := ?_) (by simp only [List.getElem?_toArray, List.getElem?_cons_zero, List.getElem?_cons_succ]; rfl) (by kernel_rfl) (by kernel_rfl) (by kernel_rfl) (fun _ _ _ h => h) (Or.inl ⟨by rfl, ?_⟩) (by assumption) ?_
              rotate_left 1
              · intro w hSw
                have h1 := hSw.y1
                have h2 := hSw.y3
                have h3 := hSw.x1
                go_simp
                try with_reducible rfl
              simp only [Act.put, List.setIfInBounds_toArray, List.set_cons_zero, List.set_cons_succ]
              refine wpAnyH_take (i := 4) (v := ?_) (by simp only [List.getElem?_toArray, List.getElem?_cons_zero, List.getElem?_cons_succ]; rfl) (by kernel_rfl) (by kernel_rfl) (by kernel_rfl) (fun _ _ _ h => h) (Or.inl ⟨by rfl, ?_⟩) (by assumption) ?_
              rotate_left 1
              · intro w hSw
                have h1 := hSw.y1
                have h2 := hSw.y3
                have h3 := hSw.x1
                go_simp
                try with_reducible rfl
              simp only [Act.put, List.setIfInBounds_toArray, List.set_cons_zero, List.set_cons_succ]
              refine wpAnyH_take (i := 5) (v := ?_) (by simp only [List.getElem?_toArray, List.getElem?_cons_zero, List.getElem?_cons_succ]; rfl) (by kernel_rfl) (by kernel_rfl) (by kernel_rfl) (fun _ _ _ h => h) (Or.inl ⟨by rfl, ?_⟩) (by assumption) ?_
              rotate_left 1
              · intro w hSw
                have h1 := hSw.y1
                have h2 := hSw.y3
                have h3 := hSw.x1
                go_simp
                try with_reducible rfl
              simp only [Act.put, List.setIfInBounds_toArray, List.set_cons_zero, List.set_cons_succ]
              refine wpAnyH_take (i := 6) (v := ?_) (by simp only [List.getElem?_toArray, List.getElem?_cons_zero, List.getElem?_cons_succ]; rfl) (by kernel_rfl) (by kernel_rfl) (by kernel_rfl) (fun _ _ _ h => h) (Or.inl ⟨by rfl, ?_⟩) (by assumption) ?_
              rotate_left 1
              · intro w hSw
                have h1 := hSw.y1
                have h2 := hSw.y3
                have h3 := hSw.x1
                go_simp
                try with_reducible rfl
              simp only [Act.put, List.setIfInBounds_toArray, List.set_cons_zero, List.set_cons_succ]
              refine wpAnyH_take (i := 7) (v := ?_) (by simp only [List.getElem?_toArray, List.getElem?_cons_zero, List.getElem?_cons_succ]; rfl) (by kernel_rfl) (by kernel_rfl) (by kernel_rfl) (fun _ _ _ h => h) (Or.inl ⟨by rfl, ?_⟩) (by assumption) ?_
              rotate_left 1
              · intro w hSw
                have h1 := hSw.y1
                have h2 := hSw.y3
                have h3 := hSw.x1
                go_simp
                try with_reducible rfl
              simp only [Act.put, List.setIfInBounds_toArray, List.set_cons_zero, List.set_cons_succ]
              refine wpAnyH_take (i := 8) (v := ?_) (by simp only [List.getElem?_toArray, List.getElem?_cons_zero, List.getElem?_cons_succ]; rfl) (by kernel_rfl) (by kernel_rfl) (by kernel_rfl) (fun _ _ _ h => h) (Or.inl ⟨by rfl, ?_⟩) (by assumption) ?_
              rotate_left 1
              · intro w hSw
                have h1 := hSw.y1
                have h2 := hSw.y3
                have h3 := hSw.x1
                go_simp
                try with_reducible rfl
              simp only [Act.put, List.setIfInBounds_toArray, List.set_cons_zero, List.set_cons_succ]
              refine wpAnyH_take (i := 9) (v := ?_) (by simp only [List.getElem?_toArray, List.getElem?_cons_zero, List.getElem?_cons_succ]; rfl) (by kernel_rfl) (by kernel_rfl) (by kernel_rfl) (fun _ _ _ h => h) (Or.inl ⟨by rfl, ?_⟩) (by assumption) ?_
              rotate_left 1
              · intro w hSw
                have h1 := hSw.y1
                have h2 := hSw.y3
                have h3 := hSw.x1
                go_simp
                try with_reducible rfl
              simp only [Act.put, List.setIfInBounds_toArray, List.set_cons_zero, List.set_cons_succ]
              refine wpAnyH_take (i := 10) (v := ?_) (by simp only [List.getElem?_toArray, List.getElem?_cons_zero, List.getElem?_cons_succ]; rfl) (by kernel_rfl) (by kernel_rfl) (by kernel_rfl) (fun _ _ _ h => h) (Or.inl ⟨by rfl, ?_⟩) (by assumption) ?_
              rotate_left 1
              · intro w hSw
                have h1 := hSw.y1
                have h2 := hSw.y3
                have h3 := hSw.x1
                go_simp
                try with_reducible rfl
              simp only [Act.put, List.setIfInBounds_toArray, List.set_cons_zero, List.set_cons_succ]
              refine wpAnyH_take (i := 11) (v := ?_) (by simp only [List.getElem?_toArray, List.getElem?_cons_zero, List.getElem?_cons_succ]; rfl) (by kernel_rfl) (by kernel_rfl) (by kernel_rfl) (fun _ _ _ h => h) (Or.inl ⟨by rfl, ?_⟩) (by assumption) ?_
              rotate_left 1
              · intro w hSw
                have h1 := hSw.y1
                have h2 := hSw.y3
                have h3 := hSw.x1
                go_simp
                try with_reducible rfl
              simp only [Act.put, List.setIfInBounds_toArray, List.set_cons_zero, List.set_cons_succ]
              refine wpAnyH_take (i := 12) (v := ?_) (by simp only [List.getElem?_toArray, List.getElem?_cons_zero, List.getElem?_cons_succ]; rfl) (by kernel_rfl) (by kernel_rfl) (by kernel_rfl) (fun _ _ _ h => h) (Or.inl ⟨by rfl, ?_⟩) (by assumption) ?_
              rotate_left 1
              · intro w hSw
                have h1 := hSw.y1
                have h2 := hSw.y3
                have h3 := hSw.x1
                go_simp
                try with_reducible rfl
              simp only [Act.put, List.setIfInBounds_toArray, List.set_cons_zero, List.set_cons_succ]
              refine wpAnyH_take (i := 13) (v := ?_) (by simp only [List.getElem?_toArray, List.getElem?_cons_zero, List.getElem?_cons_succ]; rfl) (by kernel_rfl) (by kernel_rfl) (by kernel_rfl) (fun _ _ _ h => h) (Or.inl ⟨by rfl, ?_⟩) (by assumption) ?_
              rotate_left 1
              · intro w hSw
                have h1 := hSw.y1
                have h2 := hSw.y3
                have h3 := hSw.x1
                go_simp
                try with_reducible rfl
              simp only [Act.put, List.setIfInBounds_toArray, List.set_cons_zero, List.set_cons_succ]
              refine wpAnyH_take (i := 14) (v := undef) (by simp only [List.getElem?_toArray, List.getElem?_cons_zero, List.getElem?_cons_succ]; rfl) (by kernel_rfl) (by kernel_rfl) (by kernel_rfl) (fun _ _ _ h => h) (Or.inr ⟨by rfl, rfl⟩) (by assumption) ?_
              simp only [Act.put, List.setIfInBounds_toArray, List.set_cons_zero, List.set_cons_succ]
              refine wpAnyH_take (i := 15) (v := undef) (by simp only [List.getElem?_toArray, List.getElem?_cons_zero, List.getElem?_cons_succ]; rfl) (by kernel_rfl) (by kernel_rfl) (by kernel_rfl) (fun _ _ _ h => h) (Or.inr ⟨by rfl, rfl⟩) (by assumption) ?_
              simp only [Act.put, List.setIfInBounds_toArray, List.set_cons_zero, List.set_cons_succ]
              refine wpAnyH_take (i := 16) (v := undef) (by simp only [List.getElem?_toArray, List.getElem?_cons_zero, List.getElem?_cons_succ]; rfl) (by kernel_rfl) (by kernel_rfl) (by kernel_rfl) (fun _ _ _ h => h) (Or.inr ⟨by rfl, rfl⟩) (by assumption) ?_
              simp only [Act.put, List.setIfInBounds_toArray, List.set_cons_zero, List.set_cons_succ]
              refine wpAnyH_take (i := 17) (v := undef) (by simp only [List.getElem?_toArray, List.getElem?_cons_zero, List.getElem?_cons_succ]; rfl) (by kernel_rfl) (by kernel_rfl) (by kernel_rfl) (fun _ _ _ h => h) (Or.inr ⟨by rfl, rfl⟩) (by assumption) ?_
              simp only [Act.put, List.setIfInBounds_toArray, List.set_cons_zero, List.set_cons_succ]
              refine wpAnyH_take (i := 18) (v := undef) (by simp only [List.getElem?_toArray, List.getElem?_cons_zero, List.getElem?_cons_succ]; rfl) (by kernel_rfl) (by kernel_rfl) (by kernel_rfl) (fun _ _ _ h => h) (Or.inr ⟨by rfl, rfl⟩) (by assumption) ?_
              simp only [Act.put, List.setIfInBounds_toArray, List.set_cons_zero, List.set_cons_succ]
              refine wpAnyH_take (i := 19) (v := undef) (by simp only [List.getElem?_toArray, List.getElem?_cons_zero, List.getElem?_cons_succ]; rfl) (by kernel_rfl) (by kernel_rfl) (by kernel_rfl) (fun _ _ _ h => h) (Or.inr ⟨by rfl, rfl⟩) (by assumption) ?_
              simp only [Act.put, List.setIfInBounds_toArray, List.set_cons_zero, List.set_cons_succ]
              refine wpAnyH_take (i := 20) (v := ?_) (by simp only [List.getElem?_toArray, List.getElem?_cons_zero, List.getElem?_cons_succ]; rfl) (by kernel_rfl) (by kernel_rfl) (by kernel_rfl) (fun _ _ _ h => h) (Or.inl ⟨by rfl, ?_⟩) (by assumption) ?_
              rotate_left 1
              · intro w hSw
                go_simp
                try with_reducible rfl
              simp only [Act.put, List.setIfInBounds_toArray, List.set_cons_zero, List.set_cons_succ]
              refine wpAnyH_take (i := 21) (v := ?_) (by simp only [List.getElem?_toArray, List.getElem?_cons_zero, List.getElem?_cons_succ]; rfl) (by kernel_rfl) (by kernel_rfl) (by kernel_rfl) (fun _ _ _ h => h) (Or.inl ⟨by rfl, ?_⟩) (by assumption) ?_
              rotate_left 1
              · intro w hSw
                go_simp
                try with_reducible rfl
              simp only [Act.put, List.setIfInBounds_toArray, List.set_cons_zero, List.set_cons_succ]
              refine wpAnyH_take (i := 22) (v := ?_) (by simp only [List.getElem?_toArray, List.getElem?_cons_zero, List.getElem?_cons_succ]; rfl) (by kernel_rfl) (by kernel_rfl) (by kernel_rfl) (fun _ _ _ h => h) (Or.inl ⟨by rfl, ?_⟩) (by assumption) ?_
              rotate_left 1
              · intro w hSw
                go_simp
                try with_reducible rfl
              simp only [Act.put, List.setIfInBounds_toArray, List.set_cons_zero, List.set_cons_succ]
              refine wpAnyH_done (by kernel_rfl) ?_ _
              refine NoPanic.normal ?_
              go_wp2
              go_roundw
              case rel => exact ⟨j + 1, k + 1, by omega, by omega, by go_num, by rw [HNB.out, HNV.out], HBD.out⟩
              case measure => simp [intOf]; omega

        · obtain rfl : k = n := by omega
          have hjr : r.take j = r := List.take_of_length_le (by have := HRL.out; omega)
          rw [hjr]
          clear hjr
          have HOQ : Hid (OSt w.heap.size w wq.drew pf pg (FA (xs.take i)) (fun _ => none) (80 * i) 0 u5 ls) := HO.out.on HBQ.out.drew
          have HBD : Hid (Below w.heap.size w wq.drew) := HOQ.out.below.1
          have HS : Hid (ActAt wq.drew bb (off + i * 4) x) := HXK.out wq.drew HBD.out
          have HWP : Hid (0 < wq.drew.heap.size) := Nat.lt_of_lt_of_le HPOS.out HBD.out.size
          obtain ⟨lb, HLB⟩ : ∃ lb, Hid (lat x r = lb) := ⟨_, rfl⟩
          obtain ⟨L, HXL⟩ : ∃ L, Hid (x.long = L) := ⟨_, rfl⟩
          rw [HLB.out]
          have hik : (i : Int) < (k : Int) := hlt2
          go_wp2
          refine wp_region_noPanic ?_
          refine wp_region_held_drew (S := fun W => ActAt W bb (off + i * 4) x) (by kernel_rfl) (HS.out) (fun hS => ?_)
          refine wpAnyH_take (i := 0) (v := ?_) (by simp only [List.getElem?_toArray, List.getElem?_cons_zero]; rfl) (by kernel_rfl) (by kernel_rfl) (by kernel_rfl) (fun _ _ _ h => h) (Or.inl ⟨by rfl, ?_⟩) (by assumption) ?_
          rotate_left 1
          · intro w hSw
            have h1 := hSw.c1
            go_simp
            try with_reducible rfl
          simp only [Act.put, List.setIfInBounds_toArray, List.set_cons_zero, List.set_cons_succ]
          refine wpAnyH_take (i := 1) (v := ?_) (by simp only [List.getElem?_toArray, List.getElem?_cons_zero, List.getElem?_cons_succ]; rfl) (by kernel_rfl) (by kernel_rfl) (by kernel_rfl) (fun _ _ _ h => h) (Or.inl ⟨by rfl, ?_⟩) (by assumption) ?_
          rotate_left 1
          · intro w hSw
            have h1 := hSw.c1
            go_simp
            try with_reducible rfl
          simp only [Act.put, List.setIfInBounds_toArray, List.set_cons_zero, List.set_cons_succ]
          refine wpAnyH_take (i := 2) (v := ?_) (by simp only [List.getElem?_toArray, List.getElem?_cons_zero, List.getElem?_cons_succ]; rfl) (by kernel_rfl) (by kernel_rfl) (by kernel_rfl) (fun _ _ _ h => h) (Or.inl ⟨by rfl, ?_⟩) (by assumption) ?_
          rotate_left 1
          · intro w hSw
            have h1 := hSw.c1
            go_simp
            try with_reducible rfl
          simp only [Act.put, List.setIfInBounds_toArray, List.set_cons_zero, List.set_cons_succ]
          refine wpAnyH_take (i := 3) (v := ?_) (by simp only [List.getElem?_toArray, List.getElem?_cons_zero, List.getElem?_cons_succ]; rfl) (by kernel_rfl) (by kernel_rfl) (by kernel_rfl) (fun _ _ _ h => h) (Or.inl ⟨by rfl, ?_⟩) (by assumption) ?_
          rotate_left 1
          · intro w hSw
            have h1 := hSw.c1
            go_simp
            try with_reducible rfl
          simp only [Act.put, List.setIfInBounds_toArray, List.set_cons_zero, List.set_cons_succ]
          refine wpAnyH_take (i := 4) (v := ?_) (by simp only [List.getElem?_toArray, List.getElem?_cons_zero, List.getElem?_cons_succ]; rfl) (by kernel_rfl) (by kernel_rfl) (by kernel_rfl) (fun _ _ _ h => h) (Or.inl ⟨by rfl, ?_⟩) (by assumption) ?_
          rotate_left 1
          · intro w hSw
            have h1 := hSw.c1
            go_simp
            try with_reducible rfl
          simp only [Act.put, List.setIfInBounds_toArray, List.set_cons_zero, List.set_cons_succ]
          refine wpAnyH_take (i := 5) (v := ?_) (by simp only [List.getElem?_toArray, List.getElem?_cons_zero, List.getElem?_cons_succ]; rfl) (by kernel_rfl) (by kernel_rfl) (by kernel_rfl) (fun _ _ _ h => h) (Or.inl ⟨by rfl, ?_⟩) (by assumption) ?_
          rotate_left 1
          · intro w hSw
            have h1 := hSw.c1
            go_simp
            try with_reducible rfl
          simp only [Act.put, List.setIfInBounds_toArray, List.set_cons_zero, List.set_cons_succ]
          refine wpAnyH_take (i := 6) (v := ?_) (by simp only [List.getElem?_toArray, List.getElem?_cons_zero, List.getElem?_cons_succ]; rfl) (by kernel_rfl) (by kernel_rfl) (by kernel_rfl) (fun _ _ _ h => h) (Or.inl ⟨by rfl, ?_⟩) (by assumption) ?_
          rotate_left 1
          · intro w hSw
            have h1 := hSw.c1
            go_simp
            try with_reducible rfl
          simp only [Act.put, List.setIfInBounds_toArray, List.set_cons_zero, List.set_cons_succ]
          refine wpAnyH_take (i := 7) (v := ?_) (by simp only [List.getElem?_toArray, List.getElem?_cons_zero, List.getElem?_cons_succ]; rfl) (by kernel_rfl) (by kernel_rfl) (by kernel_rfl) (fun _ _ _ h => h) (Or.inl ⟨by rfl, ?_⟩) (by assumption) ?_
          rotate_left 1
          · intro w hSw
            have h1 := hSw.c1
            go_simp
            try with_reducible rfl
          simp only [Act.put, List.setIfInBounds_toArray, List.set_cons_zero, List.set_cons_succ]
          refine wpAnyH_take (i := 8) (v := ?_) (by simp only [List.getElem?_toArray, List.getElem?_cons_zero, List.getElem?_cons_succ]; rfl) (by kernel_rfl) (by kernel_rfl) (by kernel_rfl) (fun _ _ _ h => h) (Or.inl ⟨by rfl, ?_⟩) (by assumption) ?_
          rotate_left 1
          · intro w hSw
            have h1 := hSw.c1
            go_simp
            try with_reducible rfl
          simp only [Act.put, List.setIfInBounds_toArray, List.set_cons_zero, List.set_cons_succ]
          refine' wpAnyH_take (i := 9) (v := _) (by simp only [List.getElem?_toArray, List.getElem?_cons_zero, List.getElem?_cons_succ]; rfl) (by kernel_rfl) (by kernel_rfl) (by kernel_rfl) (fun _ _ _ h => h) (yields_load_act (by rfl) (.tmp 76) rfl bb (off + i * 4) rfl x (fun w hS => hS)) (by assumption) ?_
          simp only [Act.put, List.setIfInBounds_toArray, List.set_cons_zero, List.set_cons_succ]
          refine wpAnyH_ready (rs := [10]) (by kernel_rfl) (by simp) ?_
          refine AllReadyH.cons (by simp only [List.getElem?_toArray, List.getElem?_cons_zero, List.getElem?_cons_succ]; rfl) (fun K hK => ?_) AllReadyH.nil
          go_simp
          refine (data_any x HXO.out wq.drew HWP.out).mono ?_
          rintro e3 w3 ⟨vd, rfl, hfd, hbd⟩
          have hz1 := HS.out.kept hbd (Nat.le_refl _)
          refine hK.out _ _ hz1 (fun hS => ?_)
          clear hK K hS
          refine wpAnyH_ready (rs := [11]) (by kernel_rfl) (by simp) ?_
          refine AllReadyH.cons (by simp only [List.getElem?_toArray, List.getElem?_cons_zero, List.getElem?_cons_succ]; rfl) (fun K hK => ?_) AllReadyH.nil
          go_simp
          refine (HOQ.out.add_f HT.out hbd x HXO.out vd hfd (by omega)).mono ?_
          rintro e4 w4 ⟨⟨z4, rfl⟩, ho4⟩
          have O4 := hid ho4
          have hz2 := HXK.out w4 ho4.below.1
          refine hK.out _ _ hz2 (fun hS => ?_)
          clear hK K hS
          refine wpAnyH_done (by kernel_rfl) ?_ _
          refine NoPanic.normal ?_
          rw [← HFN.out] at O4
          have c3 : w4.cell? ⟨bb, off + i * 4 + 3, none⟩ = some (.int .i64 L) := by rw [← HXL.out]; exact hz2.c3
          have HLD : Hid (ActAt w4 bb (off + i * 4) x) := hz2
          have HGD : Hid (good x = decide (L ≤ 4096)) := by show _ = _; rw [good, HXL.out]
          have HLR : Hid (lastR (x :: r) = if (decide (L ≤ 4096) && !lb) = true then x :: lastR r else lastR r) := by show _ = _; rw [lastR, HLB.out, HGD.out]
          have hls := HLS.out
          rw [HDR.out, HR.out, HLR.out] at hls
          have HBS : Hid (ls.length ≤ 20) := by
            show _ ≤ _
            have h2 := congrArg List.length hls
            have h3 := last_len xs
            rw [HN.out] at h3
            rw [List.length_append] at h2
            omega
          clear hz1 hz2 hfd hbd ho4
          cases lb with
          | true =>
            rw [if_neg (by simp)] at hls
            have HLSN := hid hls
            clear hls
            go_wp2
            go_roundw
            case rel => exact ⟨i + 1, ls, by omega, by go_num, by rw [HR.out]; exact HLSN.out, O4.out⟩
            case measure => simp [intOf]; omega
          | false =>
            by_cases hL : L ≤ 4096
            · rw [if_pos (by simp [hL])] at hls
              have HLSN : Hid ((ls ++ [x]) ++ lastR r = lastR xs) := by show _ = _; rw [List.append_assoc]; exact hls
              obtain ⟨v9, w9, hr9, ho9⟩ := O4.out.app x (by have := HBS.out; omega)
              have R9 := hid hr9
              have O9 := hid ho9
              clear hls hr9 ho9
              go_wp2_with (first
                | (refine wpList_load_g (by rfl) 47 (.tmp 93) rfl bb (off + i * 4) rfl (actCells x) HLD.out.load ?_)
                | (refine wpList_build_act (by rfl) (.tmp 94) rfl x rfl ?_)
                | (refine wpList_append_run rfl (.tmp 90) (.tmp 95) 39 39 rfl ⟨_, _, R9.out, ?_⟩))
              go_roundw
              case rel => exact ⟨i + 1, ls ++ [x], by omega, by go_num, by rw [HR.out]; exact HLSN.out, O9.out⟩
              case measure => simp [intOf]; omega
            · rw [if_neg (by simp [hL])] at hls
              have HLSN := hid hls
              clear hls
              go_wp2
              go_roundw
              case rel => exact ⟨i + 1, ls, by omega, by go_num, by rw [HR.out]; exact HLSN.out, O4.out⟩
              case measure => simp [intOf]; omega
    · obtain rfl : i = n := by omega
      have HLSE : Hid (ls = lastR xs) := by
        have h9 := HLS.out
        rw [List.drop_of_length_le (by rw [HN.out]; exact Nat.le_refl _)] at h9
        show _ = _
        rw [← h9]; simp [lastR]
      have HTK : Hid (xs.take i = xs) := List.take_of_length_le (by rw [HN.out]; exact Nat.le_refl _)
      have HO3 := HO.out
      rw [HTK.out] at HO3
      obtain ⟨m0, HM0⟩ : ∃ m, Hid (ls.length = m) := ⟨_, rfl⟩
      have hm20 : m0 ≤ 20 := by have := last_len xs; rw [HN.out, ← HLSE.out, HM0.out] at this; omega
      obtain ⟨A5, c5, hv5⟩ := HO3.form
      rw [HM0.out] at hv5
      subst hv5
      have HAL : Hid (∀ k, k < m0 → ls.getD k act0 ∈ lastR xs ∧ ActOk (ls.getD k act0)) := fun k hk => by
        have hk2 : k < ls.length := by rw [HM0.out]; exact hk
        have h9 : ls.getD k act0 ∈ lastR xs := by
          rw [← HLSE.out, List.getD, List.getElem?_eq_getElem hk2]; exact List.getElem_mem _
        exact ⟨h9, HOK.out _ (last_sub _ h9).1⟩
      have HRV : Hid (∀ k, k < m0 → ls.reverse.getD (m0 - 1 - k) act0 = ls.getD k act0) := fun k hk => by
        have hk2 : k < ls.length := by rw [HM0.out]; exact hk
        simp only [List.getD]
        rw [List.getElem?_reverse (by rw [HM0.out]; omega), HM0.out, show m0 - 1 - (m0 - 1 - k) = k by omega]
      have HRVL : Hid (ls.reverse.length = m0) := by show _ = _; rw [List.length_reverse, HM0.out]
      have HO4 : Hid (OSt w.heap.size w wo pf pg (FA xs) (FA (ls.reverse.take (m0 - m0))) (80 * i) (80 * (m0 - m0)) (.slice A5 m0 c5) ls) := by
        show OSt _ _ _ _ _ _ _ _ _ _ _
        rw [Nat.sub_self]
        exact HO3
      have w3' : IntKind.i64.wrap ((m0 : Int) - 1) = (m0 : Int) - 1 := i64in _ (by omega) (by omega)
      clear HO3 hlt
      go_wp2
      go_loopw [9] (fun v9 wr => ∃ (m : Nat) (z : Int), v9 = .int .i64 z ∧ z = (m : Int) - 1 ∧ m ≤ m0 ∧ Hid (OSt w.heap.size w wr pf pg (FA xs) (FA (ls.reverse.take (m0 - m))) (80 * i) (80 * (m0 - m)) (.slice A5 m0 c5) ls)) (fun v9 _ => (intOf v9 + 1).toNat)
      case atStart => exact ⟨m0, _, rfl, rfl, Nat.le_refl _, HO4.out⟩
      case round =>
        obtain ⟨wq, hwq⟩ : ∃ wq, wq = wr := ⟨_, rfl⟩
        subst hwq
        obtain ⟨m, z, rfl, hz, hm, HOQ⟩ := hrel
        cases m with
        | succ k =>
          obtain rfl : z = (k : Int) := by omega
          clear hz
          have hk0 : (0 : Int) ≤ (k : Int) := by omega
          have hkm : (k : Int) < (m0 : Int) := by omega
          have w4' : IntKind.i64.wrap ((k : Int) - 1) = (k : Int) - 1 := i64in _ (by omega) (by omega)
          have hkl : k < ls.length := by rw [HM0.out]; omega
          obtain ⟨x, HX⟩ : ∃ x, Hid (ls.getD k act0 = x) := ⟨_, rfl⟩
          have HXO := hid (HAL.out k (by omega)).2
          rw [HX.out] at HXO
          have HFN : Hid (FA (ls.reverse.take (m0 - k)) = stepF (FA (ls.reverse.take (m0 - (k + 1)))) x) := by
            show _ = _
            have h9 := FTrydtake ls.reverse (m0 - (k + 1)) (by rw [HRVL.out]; omega)
            rw [show m0 - (k + 1) + 1 = m0 - k by omega, show m0 - (k + 1) = m0 - 1 - k by omega, HRV.out k (by omega), HX.out] at h9
            rw [show m0 - (k + 1) = m0 - 1 - k by omega]
            exact h9
          have HB8 : Hid (80 * (m0 - (k + 1)) + 80 = 80 * (m0 - k)) := by show _ = _; omega
          have HOD : Hid (OSt w.heap.size w wq.drew pf pg (FA xs) (FA (ls.reverse.take (m0 - (k + 1)))) (80 * i) (80 * (m0 - (k + 1))) (.slice A5 m0 c5) ls) := HOQ.out.on (Below.refl _ _).drew
          obtain ⟨gl, c6, hv6, hac⟩ := HOD.out.act k hkl
          rw [HM0.out] at hv6
          injection hv6 with hA6 hn6 hc6
          subst hA6 hc6
          clear hn6
          rw [HX.out] at hac
          have HS := hid hac
          have HWP : Hid (0 < wq.drew.heap.size) := Nat.lt_of_lt_of_le HPOS.out (Nat.le_trans HOD.out.below.2 (Nat.le_refl _))
          have HACT : Hid (∀ W bf bg Fg, OSt w.heap.size w W pf pg (FA xs) Fg bf bg (.slice (some ⟨gl, 0, none⟩) m0 c5) ls → ActAt W gl (k * 4) x) := fun W bf bg Fg h => by
            obtain ⟨g7, c7, hv7, ha7⟩ := h.act k hkl
            rw [HM0.out] at hv7
            injection hv7 with hA7 _ _
            injection hA7 with hA7
            injection hA7 with hA7 _ _
            subst hA7
            rw [HX.out] at ha7
            exact ha7
          clear hac
          go_wp2
          refine wp_region_noPanic ?_
          refine wp_region_held_drew (S := fun W => ActAt W gl (k * 4) x) (by kernel_rfl) (HS.out) (fun hS => ?_)
          refine wpAnyH_take (i := 0) (v := ?_) (by simp only [List.getElem?_toArray, List.getElem?_cons_zero]; rfl) (by kernel_rfl) (by kernel_rfl) (by kernel_rfl) (fun _ _ _ h => h) (Or.inl ⟨by rfl, ?_⟩) (by assumption) ?_
          rotate_left 1
          · intro w hSw
            have h1 := hSw.c1
            go_simp
            try with_reducible rfl
          simp only [Act.put, List.setIfInBounds_toArray, List.set_cons_zero, List.set_cons_succ]
          refine wpAnyH_take (i := 1) (v := ?_) (by simp only [List.getElem?_toArray, List.getElem?_cons_zero, List.getElem?_cons_succ]; rfl) (by kernel_rfl) (by kernel_rfl) (by kernel_rfl) (fun _ _ _ h => h) (Or.inl ⟨by rfl, ?_⟩) (by assumption) ?_
          rotate_left 1
          · intro w hSw
            have h1 := hSw.c1
            go_simp
            try with_reducible rfl
          simp only [Act.put, List.setIfInBounds_toArray, List.set_cons_zero, List.set_cons_succ]
          refine wpAnyH_take (i := 2) (v := ?_) (by simp only [List.getElem?_toArray, List.getElem?_cons_zero, List.getElem?_cons_succ]; rfl) (by kernel_rfl) (by kernel_rfl) (by kernel_rfl) (fun _ _ _ h => h) (Or.inl ⟨by rfl, ?_⟩) (by assumption) ?_
          rotate_left 1
          · intro w hSw
            have h1 := hSw.c1
            go_simp
            try with_reducible rfl
          simp only [Act.put, List.setIfInBounds_toArray, List.set_cons_zero, List.set_cons_succ]
          refine wpAnyH_take (i := 3) (v := ?_) (by simp only [List.getElem?_toArray, List.getElem?_cons_zero, List.getElem?_cons_succ]; rfl) (by kernel_rfl) (by kernel_rfl) (by kernel_rfl) (fun _ _ _ h => h) (Or.inl ⟨by rfl, ?_⟩) (by assumption) ?_
          rotate_left 1
          · intro w hSw
            have h1 := hSw.c1
            go_simp
            try with_reducible rfl
          simp only [Act.put, List.setIfInBounds_toArray, List.set_cons_zero, List.set_cons_succ]
          refine wpAnyH_take (i := 4) (v := ?_) (by simp only [List.getElem?_toArray, List.getElem?_cons_zero, List.getElem?_cons_succ]; rfl) (by kernel_rfl) (by kernel_rfl) (by kernel_rfl) (fun _ _ _ h => h) (Or.inl ⟨by rfl, ?_⟩) (by assumption) ?_
          rotate_left 1
          · intro w hSw
            have h1 := hSw.c1
            go_simp
            try with_reducible rfl
          simp only [Act.put, List.setIfInBounds_toArray, List.set_cons_zero, List.set_cons_succ]
          refine wpAnyH_take (i := 5) (v := ?_) (by simp only [List.getElem?_toArray, List.getElem?_cons_zero, List.getElem?_cons_succ]; rfl) (by kernel_rfl) (by kernel_rfl) (by kernel_rfl) (fun _ _ _ h => h) (Or.inl ⟨by rfl, ?_⟩) (by assumption) ?_
          rotate_left 1
          · intro w hSw
            have h1 := hSw.c1
            go_simp
            try with_reducible rfl
          simp only [Act.put, List.setIfInBounds_toArray, List.set_cons_zero, List.set_cons_succ]
          refine wpAnyH_take (i := 6) (v := ?_) (by simp only [List.getElem?_toArray, List.getElem?_cons_zero, List.getElem?_cons_succ]; rfl) (by kernel_rfl) (by kernel_rfl) (by kernel_rfl) (fun _ _ _ h => h) (Or.inl ⟨by rfl, ?_⟩) (by assumption) ?_
          rotate_left 1
          · intro w hSw
            have h1 := hSw.c1
            go_simp
            try with_reducible rfl
          simp only [Act.put, List.setIfInBounds_toArray, List.set_cons_zero, List.set_cons_succ]
          refine wpAnyH_take (i := 7) (v := ?_) (by simp only [List.getElem?_toArray, List.getElem?_cons_zero, List.getElem?_cons_succ]; rfl) (by kernel_rfl) (by kernel_rfl) (by kernel_rfl) (fun _ _ _ h => h) (Or.inl ⟨by rfl, ?_⟩) (by assumption) ?_
          rotate_left 1
          · intro w hSw
            have h1 := hSw.c1
            go_simp
            try with_reducible rfl
          simp only [Act.put, List.setIfInBounds_toArray, List.set_cons_zero, List.set_cons_succ]
          refine wpAnyH_take (i := 8) (v := ?_) (by simp only [List.getElem?_toArray, List.getElem?_cons_zero, List.getElem?_cons_succ]; rfl) (by kernel_rfl) (by kernel_rfl) (by kernel_rfl) (fun _ _ _ h => h) (Or.inl ⟨by rfl, ?_⟩) (by assumption) ?_
          rotate_left 1
          · intro w hSw
            have h1 := hSw.c1
            go_simp
            try with_reducible rfl
          simp only [Act.put, List.setIfInBounds_toArray, List.set_cons_zero, List.set_cons_succ]
          refine' wpAnyH_take (i := 9) (v := _) (by simp only [List.getElem?_toArray, List.getElem?_cons_zero, List.getElem?_cons_succ]; rfl) (by kernel_rfl) (by kernel_rfl) (by kernel_rfl) (fun _ _ _ h => h) (yields_load_act (by rfl) (.tmp 112) rfl gl (k * 4) rfl x (fun w hS => hS)) (by assumption) ?_
          simp only [Act.put, List.setIfInBounds_toArray, List.set_cons_zero, List.set_cons_succ]
          refine wpAnyH_ready (rs := [10]) (by kernel_rfl) (by simp) ?_
          refine AllReadyH.cons (by simp only [List.getElem?_toArray, List.getElem?_cons_zero, List.getElem?_cons_succ]; rfl) (fun K hK => ?_) AllReadyH.nil
          go_simp
          refine (data_any x HXO.out wq.drew HWP.out).mono ?_
          rintro e3 w3 ⟨vd, rfl, hfd, hbd⟩
          have hz1 := HS.out.kept hbd (Nat.le_refl _)
          refine hK.out _ _ hz1 (fun hS => ?_)
          clear hK K hS
          refine wpAnyH_ready (rs := [11]) (by kernel_rfl) (by simp) ?_
          refine AllReadyH.cons (by simp only [List.getElem?_toArray, List.getElem?_cons_zero, List.getElem?_cons_succ]; rfl) (fun K hK => ?_) AllReadyH.nil
          go_simp
          refine (HOD.out.add_g HT.out hbd x HXO.out vd hfd (by omega)).mono ?_
          rintro e4 w4 ⟨⟨z4, rfl⟩, ho4⟩
          have O4 := hid ho4
          have hz2 := HACT.out w4 _ _ _ ho4
          refine hK.out _ _ hz2 (fun hS => ?_)
          clear hK K hS
          refine wpAnyH_done (by kernel_rfl) ?_ _
          refine NoPanic.normal ?_
          rw [← HFN.out, HB8.out] at O4
          clear hz1 hz2 hfd hbd ho4
          go_wp2
          go_roundw
          case rel => exact ⟨k, _, rfl, rfl, by omega, O4.out⟩
          case measure => simp [intOf]
        | zero =>
          obtain rfl : z = -1 := by omega
          clear hz
          have hneg : ¬ (0 : Int) ≤ -1 := by omega
          have HO5 := HOQ.out
          rw [Nat.sub_zero, List.take_of_length_le (by rw [HRVL.out]; exact Nat.le_refl _), HLSE.out, FTrydback, ← HLSE.out] at HO5
          have HO6 := hid HO5
          clear HO5
          go_wp2
          go_loopw [10, 11, 12, 13, 14, 15, 16, 17, 18, 19] (fun v10 _ _ _ _ _ _ _ _ _ wr => ∃ a : Nat, a ≤ m0 ∧ v10 = .int .i64 (a : Int) ∧ Hid (OSt w.heap.size w wr pf pg (FA xs) (FA xs) (80 * i) (80 * m0) (.slice A5 m0 c5) ls)) (fun v10 _ _ _ _ _ _ _ _ _ _ => m0 - (intOf v10).toNat)
          case atStart => exact ⟨0, by omega, rfl, HO6.out⟩
          case round =>
            obtain ⟨wa, hwa⟩ : ∃ wa, wa = wr := ⟨_, rfl⟩
            subst hwa
            obtain ⟨a, ha, rfl, HOA⟩ := hrel
            by_cases ham : a < m0
            · have ham2 : (a : Int) < (m0 : Int) := by omega
              have w5' : IntKind.i64.wrap ((a : Int) + 1) = (a : Int) + 1 := i64in _ (by omega) (by omega)
              have hal : a < ls.length := by rw [HM0.out]; exact ham
              obtain ⟨x, HX⟩ : ∃ x, Hid (ls.getD a act0 = x) := ⟨_, rfl⟩
              have HXM := hid (HAL.out a ham).1
              have HXO := hid (HAL.out a ham).2
              rw [HX.out] at HXO HXM
              have HFX : Hid (FA xs (nm x) = some (dataL x)) := FTrydat xs x HXM.out
              have HDL : Hid ((dataL x).length ≤ 4096) := dataL_good (last_sub x HXM.out).2
              obtain ⟨gl, c6, hv6, hac⟩ := HOA.out.act a hal
              rw [HM0.out] at hv6
              injection hv6 with hA6 hn6 hc6
              subst hA6 hc6
              clear hn6
              rw [HX.out] at hac
              have HS := hid hac
              have HWP : Hid (0 < wa.heap.size) := Nat.lt_of_lt_of_le HPOS.out HOA.out.below.2
              obtain ⟨c, HC⟩ : ∃ c, Hid (cntL (dataL x).length = c) := ⟨_, rfl⟩
              have hc32 : c ≤ 32 := by rw [← HC.out]; exact cntL_le _ HDL.out
              obtain ⟨hs, HHS⟩ : ∃ hs, Hid (hashes (dataL x) = hs) := ⟨_, rfl⟩
              have HHL : Hid (hs.length = c) := by show _ = _; rw [← HHS.out, hashes_len, HC.out]
              have HHA : Hid (∀ k (hk : k < c), hs[k]'(by rw [HHL.out]; exact hk) = dg (partL (dataL x) k)) := fun k hk => by
                have h9 := hashes_at (dataL x) k (by rw [HC.out]; exact hk)
                have e9 := HHS.out
                subst e9
                exact h9
              have HACT : Hid (∀ W, OSt w.heap.size w W pf pg (FA xs) (FA xs) (80 * i) (80 * m0) (.slice (some ⟨gl, 0, none⟩) m0 c5) ls → ActAt W gl (a * 4) x) := fun W h => by
                obtain ⟨g7, c7, hv7, ha7⟩ := h.act a hal
                rw [HM0.out] at hv7
                injection hv7 with hA7 _ _
                injection hA7 with hA7
                injection hA7 with hA7 _ _
                subst hA7
                rw [HX.out] at ha7
                exact ha7
              clear hac
              go_wp2_with (first
                | (refine wpList_load_g (by rfl) 47 (.tmp 125) rfl gl (a * 4) rfl (actCells x) HS.out.load ?_)
                | (go_at_call 25; refine (data_any x HXO.out wa HWP.out).mono ?_; rintro e3 w3 ⟨vd, rfl, hfd, hbd⟩
                   obtain ⟨Ad, cd, bd, hyd, _, _⟩ := hfd.bytes (Nat.lt_of_lt_of_le HWP.out hbd.size)
                   have O3 : Hid (OSt w.heap.size w w3 pf pg (FA xs) (FA xs) (80 * i) (80 * m0) (.slice (some ⟨gl, 0, none⟩) m0 c5) ls) := HOA.out.on hbd
                   have YD := hid hyd
                   clear hfd hbd hyd)
                | (go_at_call 15; refine (list_any vd (dataL x) Ad cd bd 0 w3 (HT.out.kept O3.out.below.1 HPOS.out) YD.out HDL.out).mono ?_; rintro e4 w4 ⟨v11, rfl, hd4, hb4⟩
                   have O4 : Hid (OSt w.heap.size w w4 pf pg (FA xs) (FA xs) (80 * i) (80 * m0) (.slice (some ⟨gl, 0, none⟩) m0 c5) ls) := O3.out.on hb4
                   have D4 : Hid (Dgs 0 w4 v11 (hashes (dataL x))) := hd4.mono (Nat.zero_le _)
                   rw [HHS.out] at D4
                   obtain ⟨A11, c11, hv11⟩ := D4.out.form
                   rw [HHL.out] at hv11
                   subst hv11
                   clear hd4 hb4))
              go_loopw [13, 14, 15, 16, 17, 18, 19] (fun v13 _ _ _ _ _ _ wr => ∃ k : Nat, k ≤ c ∧ v13 = .int .i64 (k : Int) ∧ Hid (OSt w.heap.size w wr pf pg (FA xs) (FA xs) (80 * i) (80 * m0) (.slice (some ⟨gl, 0, none⟩) m0 c5) ls) ∧ Hid (Dgs 0 wr (.slice A11 c c11) hs)) (fun v13 _ _ _ _ _ _ _ => c - (intOf v13).toNat)
              case atStart => exact ⟨0, by omega, rfl, O4.out, D4.out⟩
              case round =>
                obtain ⟨wk, hwk⟩ : ∃ wk, wk = wr := ⟨_, rfl⟩
                subst hwk
                obtain ⟨k, hk, rfl, HOK2, HDK⟩ := hrel
                by_cases hkc : k < c
                · have hkc2 : (k : Int) < (c : Int) := by omega
                  have w6' : IntKind.i64.wrap ((k : Int) + 1) = (k : Int) + 1 := i64in _ (by omega) (by omega)
                  obtain ⟨q, ys, hdg, hle, hyl, hfind⟩ := HOK2.out.find (nm x) (dataL x) HFX.out k (by rw [HC.out]; exact hkc)
                  obtain ⟨d, HD⟩ : ∃ d, Hid (dg (partL (dataL x) k) = d) := ⟨_, rfl⟩
                  have HDD : Hid (d.length = 32) := by show _ = _; rw [← HD.out]; exact dg_len _
                  rw [HD.out] at hdg hfind
                  have HI : k < hs.length := by rw [HHL.out]; exact hkc
                  have HHK : Hid (hs[k] = d) := by show _ = _; rw [← HD.out]; exact HHA.out k hkc
                  obtain ⟨g11, c12, hv12, _⟩ := HDK.out.at_ k HI
                  rw [HHL.out] at hv12
                  injection hv12 with hA12 hn12 hc12
                  subst hA12 hc12
                  clear hn12
                  have HLD := hid (HDK.out.ld k HI d HHK.out)
                  have HFI := hid hfind
                  have HDG : Hid (same8 (dg ys) d = true) := by show _ = _; rw [hdg]; exact same8_refl d
                  obtain ⟨X, HXN⟩ : ∃ X, Hid (x.name = X) := ⟨_, rfl⟩
                  have HGT : Hid ((Op.bytesLess (ba q.1).toList X.toList || (ba q.1).toList == X.toList) = true) := by
                    refine not_gtr q.1 X ?_
                    rw [← HXN.out]; exact hle
                  have HYL : Hid (ys.length ≤ 1000000) := by show _ ≤ _; omega
                  have HZ1 := hid (pcell_size q)
                  obtain ⟨Z, HZZ⟩ : ∃ Z, Hid (ba ys = Z) := ⟨_, rfl⟩
                  clear hdg hle hyl hfind
                  go_wp2_with (first
                    | (refine wpList_load_g (by rfl) 27 (.tmp 141) rfl g11 (k * 32) rfl (hvec d) HLD.out ?_)
                    | fail)
                  refine (HFI.out wk (Below.refl _ _)).1.mono ?_
                  rintro e5 w5 ⟨v5, rfl, hf5, hb5⟩
                  have F5 : Hid (Fresh 0 w5 v5 ys) := Fresh.mono hf5 (Nat.zero_le _)
                  have B5 := hid hb5
                  clear hf5 hb5
                  go_wp2_with (first
                    | (refine wpList_store_row rfl 54 (.tmp 15) (.tmp 145) rfl w5.heap.size (pcell q).toArray rfl rfl 54 _ (Has.fresh w5 54 _) HZ1.out rfl (pcell_all q) ?_
                       generalize hG : World.setRow _ _ _ = W1
                       obtain ⟨W6, hG0, X6, XB6⟩ := box_p w5 q
                       obtain rfl : W6 = W1 := hG0.symm.trans hG
                       have B6 : Hid (Below wk.heap.size wk W6) := B5.out.trans (XB6.out.mono B5.out.size)
                       have HLD6 := hid ((HDK.out.kept B6.out (Nat.le_refl _)).ld k HI d HHK.out)
                       clear hG hG0)
                    | (refine wpList_load_g (by rfl) 27 (.tmp 151) rfl g11 (k * 32) rfl (hvec d) HLD6.out ?_)
                    | fail)
                  refine (HFI.out W6 B6.out).2.mono ?_
                  rintro e7 w7 ⟨v7, rfl, hf7, hb7⟩
                  have F7 : Hid (Fresh 0 w7 v7 ys) := Fresh.mono hf7 (Nat.zero_le _)
                  have B7 : Hid (Below wk.heap.size wk w7) := B6.out.trans (hb7.mono B6.out.size)
                  have F57 : Hid (Fresh 0 w7 v5 ys) := fresh_kept (fresh_kept F5.out XB6.out) hb7
                  have X67 : Hid (Has w7 w5.heap.size 54 (pcell q).toArray) := X6.out.on hb7
                  clear hf7 hb7
                  go_wp2_with (first
                    | (refine wpList_store_row rfl 54 (.tmp 18) (.tmp 155) rfl w7.heap.size (pcell q).toArray rfl rfl 54 _ (Has.fresh w7 54 _) HZ1.out rfl (pcell_all q) ?_
                       generalize hG : World.setRow _ _ _ = W1
                       obtain ⟨W8, hG0, X8, XB8⟩ := box_p w7 q
                       obtain rfl : W8 = W1 := hG0.symm.trans hG
                       clear hG hG0)
                    | fail)
                  have B8 : Hid (Below wk.heap.size wk W8.drew) := (B7.out.trans (XB8.out.mono B7.out.size)).drew
                  have O8 : Hid (OSt w.heap.size w W8.drew pf pg (FA xs) (FA xs) (80 * i) (80 * m0) (.slice (some ⟨gl, 0, none⟩) m0 c5) ls) := HOK2.out.on B8.out
                  have F58 := fresh_kept F57.out XB8.out.drew
                  have F78 := fresh_kept F7.out XB8.out.drew
                  have hwp8 : 0 < W8.drew.heap.size := Nat.lt_of_lt_of_le HPOS.out (Nat.le_trans O8.out.below.2 (Nat.le_refl _))
                  obtain ⟨Aa, ca, ba1, hya, _, _⟩ := F58.bytes hwp8
                  obtain ⟨Ab, cb1, bb1, hyb, _, _⟩ := F78.bytes hwp8
                  have ea := hya.form
                  have eb := hyb.form
                  obtain ⟨m, HM⟩ : ∃ m, Hid (ys.length = m) := ⟨_, rfl⟩
                  rw [HM.out] at ea eb
                  subst ea eb
                  have S8 : Hid (S31 w5.heap.size w7.heap.size q (.slice Aa m ca) (.slice Ab m cb1) ys Aa Ab ca cb1 ba1 bb1 (.slice (some ⟨g11, 0, none⟩) c c11) hs gl (a * 4) x W8.drew) :=
                    ⟨X67.out.on XB8.out.drew, X8.out, hya, hyb, HDK.out.kept B8.out (Nat.le_refl _), HACT.out _ O8.out⟩
                  have HT8 : Hid (Sha.Tab W8.drew) := HT.out.kept O8.out.below.1 HPOS.out
                  clear hya hyb F58 F78 hwp8
                  refine wp_region_noPanic ?_
                  refine wp_region_held_drew (S := S31 w5.heap.size w7.heap.size q (.slice Aa m ca) (.slice Ab m cb1) ys Aa Ab ca cb1 ba1 bb1 (.slice (some ⟨g11, 0, none⟩) c c11) hs gl (a * 4) x) (by kernel_rfl) (S8.out) (fun hS => ?_)
                  refine wpAnyH_take (i := 0) (v := ?_) (by simp only [List.getElem?_toArray, List.getElem?_cons_zero]; rfl) (by kernel_rfl) (by kernel_rfl) (by kernel_rfl) (fun _ _ _ h => h) (Or.inl ⟨by rfl, ?_⟩) (by assumption) ?_
                  rotate_left 1
                  · intro w hSw
                    go_simp
                    try with_reducible rfl
                  simp only [Act.put, List.setIfInBounds_toArray, List.set_cons_zero, List.set_cons_succ]
                  refine wpAnyH_take (i := 1) (v := ?_) (by simp only [List.getElem?_toArray, List.getElem?_cons_zero, List.getElem?_cons_succ]; rfl) (by kernel_rfl) (by kernel_rfl) (by kernel_rfl) (fun _ _ _ h => h) (Or.inl ⟨by rfl, ?_⟩) (by assumption) ?_
                  rotate_left 1
                  · intro w hSw
                    go_simp
                    try with_reducible rfl
                  simp only [Act.put, List.setIfInBounds_toArray, List.set_cons_zero, List.set_cons_succ]
                  refine wpAnyH_take (i := 2) (v := ?_) (by simp only [List.getElem?_toArray, List.getElem?_cons_zero, List.getElem?_cons_succ]; rfl) (by kernel_rfl) (by kernel_rfl) (by kernel_rfl) (fun _ _ _ h => h) (Or.inl ⟨by rfl, ?_⟩) (by assumption) ?_
                  rotate_left 1
                  · intro w hSw
                    go_simp
                    try with_reducible rfl
                  simp only [Act.put, List.setIfInBounds_toArray, List.set_cons_zero, List.set_cons_succ]
                  refine wpAnyH_take (i := 3) (v := ?_) (by simp only [List.getElem?_toArray, List.getElem?_cons_zero, List.getElem?_cons_succ]; rfl) (by kernel_rfl) (by kernel_rfl) (by kernel_rfl) (fun _ _ _ h => h) (Or.inl ⟨by rfl, ?_⟩) (by assumption) ?_
                  rotate_left 1
                  · intro w hSw
                    go_simp
                    try with_reducible rfl
                  simp only [Act.put, List.setIfInBounds_toArray, List.set_cons_zero, List.set_cons_succ]
                  refine wpAnyH_take (i := 4) (v := ?_) (by simp only [List.getElem?_toArray, List.getElem?_cons_zero, List.getElem?_cons_succ]; rfl) (by kernel_rfl) (by kernel_rfl) (by kernel_rfl) (fun _ _ _ h => h) (Or.inl ⟨by rfl, ?_⟩) (by assumption) ?_
                  rotate_left 1
                  · intro w hSw
                    go_simp
                    try with_reducible rfl
                  simp only [Act.put, List.setIfInBounds_toArray, List.set_cons_zero, List.set_cons_succ]
                  refine wpAnyH_take (i := 5) (v := ?_) (by simp only [List.getElem?_toArray, List.getElem?_cons_zero, List.getElem?_cons_succ]; rfl) (by kernel_rfl) (by kernel_rfl) (by kernel_rfl) (fun _ _ _ h => h) (Or.inl ⟨by rfl, ?_⟩) (by assumption) ?_
                  rotate_left 1
                  · intro w hSw
                    go_simp
                    try with_reducible rfl
                  simp only [Act.put, List.setIfInBounds_toArray, List.set_cons_zero, List.set_cons_succ]
                  refine wpAnyH_take (i := 6) (v := ?_) (by simp only [List.getElem?_toArray, List.getElem?_cons_zero, List.getElem?_cons_succ]; rfl) (by kernel_rfl) (by kernel_rfl) (by kernel_rfl) (fun _ _ _ h => h) (Or.inl ⟨by rfl, ?_⟩) (by assumption) ?_
                  rotate_left 1
                  · intro w hSw
                    go_simp
                    try with_reducible rfl
                  simp only [Act.put, List.setIfInBounds_toArray, List.set_cons_zero, List.set_cons_succ]
                  refine' wpAnyH_take (i := 7) (v := _) (by simp only [List.getElem?_toArray, List.getElem?_cons_zero, List.getElem?_cons_succ]; rfl) (by kernel_rfl) (by kernel_rfl) (by kernel_rfl) (fun _ _ _ h => h) (yields_load_pl (by rfl) (.tmp 15) rfl w5.heap.size 0 rfl (.agg (pcell q).toArray) (fun w hS => load_pl hS.box1)) (by assumption) ?_
                  simp only [Act.put, List.setIfInBounds_toArray, List.set_cons_zero, List.set_cons_succ]
                  refine' wpAnyH_take (i := 8) (v := _) (by simp only [List.getElem?_toArray, List.getElem?_cons_zero, List.getElem?_cons_succ]; rfl) (by kernel_rfl) (by kernel_rfl) (by kernel_rfl) (fun _ _ _ h => h) (yields_load_pl (by rfl) (.tmp 18) rfl w7.heap.size 0 rfl (.agg (pcell q).toArray) (fun w hS => load_pl hS.box2)) (by assumption) ?_
                  simp only [Act.put, List.setIfInBounds_toArray, List.set_cons_zero, List.set_cons_succ]
                  refine' wpAnyH_take (i := 9) (v := _) (by simp only [List.getElem?_toArray, List.getElem?_cons_zero, List.getElem?_cons_succ]; rfl) (by kernel_rfl) (by kernel_rfl) (by kernel_rfl) (fun _ _ _ h => h) (yields_neq_pl (by rfl) (.tmp 164) (.tmp 165) rfl q rfl rfl) (by assumption) ?_
                  simp only [Act.put, List.setIfInBounds_toArray, List.set_cons_zero, List.set_cons_succ]
                  refine wpAnyH_take (i := 10) (v := ?_) (by simp only [List.getElem?_toArray, List.getElem?_cons_zero, List.getElem?_cons_succ]; rfl) (by kernel_rfl) (by kernel_rfl) (by kernel_rfl) (fun _ _ _ h => h) (Or.inl ⟨by rfl, ?_⟩) (by assumption) ?_
                  rotate_left 1
                  · intro w hSw
                    go_simp
                    try with_reducible rfl
                  simp only [Act.put, List.setIfInBounds_toArray, List.set_cons_zero, List.set_cons_succ]
                  refine wpAnyH_take (i := 11) (v := ?_) (by simp only [List.getElem?_toArray, List.getElem?_cons_zero, List.getElem?_cons_succ]; rfl) (by kernel_rfl) (by kernel_rfl) (by kernel_rfl) (fun _ _ _ h => h) (Or.inl ⟨by rfl, ?_⟩) (by assumption) ?_
                  rotate_left 1
                  · intro w hSw
                    go_simp
                    try with_reducible rfl
                  simp only [Act.put, List.setIfInBounds_toArray, List.set_cons_zero, List.set_cons_succ]
                  refine wpAnyH_take (i := 12) (v := ?_) (by simp only [List.getElem?_toArray, List.getElem?_cons_zero, List.getElem?_cons_succ]; rfl) (by kernel_rfl) (by kernel_rfl) (by kernel_rfl) (fun _ _ _ h => h) (Or.inl ⟨by rfl, ?_⟩) (by assumption) ?_
                  rotate_left 1
                  · intro w hSw
                    go_simp
                    try with_reducible rfl
                  simp only [Act.put, List.setIfInBounds_toArray, List.set_cons_zero, List.set_cons_succ]
                  refine wpAnyH_take (i := 13) (v := ?_) (by simp only [List.getElem?_toArray, List.getElem?_cons_zero, List.getElem?_cons_succ]; rfl) (by kernel_rfl) (by kernel_rfl) (by kernel_rfl) (fun _ _ _ h => h) (Or.inl ⟨by rfl, ?_⟩) (by assumption) ?_
                  rotate_left 1
                  · intro w hSw
                    have hcp := conv_back hSw.y1
                    rw [HZZ.out] at hcp
                    go_simp
                    try with_reducible rfl
                  simp only [Act.put, List.setIfInBounds_toArray, List.set_cons_zero, List.set_cons_succ]
                  refine wpAnyH_take (i := 14) (v := ?_) (by simp only [List.getElem?_toArray, List.getElem?_cons_zero, List.getElem?_cons_succ]; rfl) (by kernel_rfl) (by kernel_rfl) (by kernel_rfl) (fun _ _ _ h => h) (Or.inl ⟨by rfl, ?_⟩) (by assumption) ?_
                  rotate_left 1
                  · intro w hSw
                    go_simp
                    try with_reducible rfl
                  simp only [Act.put, List.setIfInBounds_toArray, List.set_cons_zero, List.set_cons_succ]
                  refine wpAnyH_take (i := 15) (v := ?_) (by simp only [List.getElem?_toArray, List.getElem?_cons_zero, List.getElem?_cons_succ]; rfl) (by kernel_rfl) (by kernel_rfl) (by kernel_rfl) (fun _ _ _ h => h) (Or.inl ⟨by rfl, ?_⟩) (by assumption) ?_
                  rotate_left 1
                  · intro w hSw
                    have hcp := conv_back hSw.y2
                    rw [HZZ.out] at hcp
                    go_simp
                    try with_reducible rfl
                  simp only [Act.put, List.setIfInBounds_toArray, List.set_cons_zero, List.set_cons_succ]
                  refine wpAnyH_take (i := 16) (v := ?_) (by simp only [List.getElem?_toArray, List.getElem?_cons_zero, List.getElem?_cons_succ]; rfl) (by kernel_rfl) (by kernel_rfl) (by kernel_rfl) (fun _ _ _ h => h) (Or.inl ⟨by rfl, ?_⟩) (by assumption) ?_
                  rotate_left 1
                  · intro w hSw
                    go_simp
                    try with_reducible rfl
                  simp only [Act.put, List.setIfInBounds_toArray, List.set_cons_zero, List.set_cons_succ]
                  refine wpAnyH_take (i := 17) (v := ?_) (by simp only [List.getElem?_toArray, List.getElem?_cons_zero, List.getElem?_cons_succ]; rfl) (by kernel_rfl) (by kernel_rfl) (by kernel_rfl) (fun _ _ _ h => h) (Or.inl ⟨by rfl, ?_⟩) (by assumption) ?_
                  rotate_left 1
                  · intro w hSw
                    go_simp
                    try with_reducible rfl
                  simp only [Act.put, List.setIfInBounds_toArray, List.set_cons_zero, List.set_cons_succ]
                  refine wpAnyH_take (i := 18) (v := ?_) (by simp only [List.getElem?_toArray, List.getElem?_cons_zero, List.getElem?_cons_succ]; rfl) (by kernel_rfl) (by kernel_rfl) (by kernel_rfl) (fun _ _ _ h => h) (Or.inl ⟨by rfl, ?_⟩) (by assumption) ?_
                  rotate_left 1
                  · intro w hSw
                    go_simp
                    try with_reducible rfl
                  simp only [Act.put, List.setIfInBounds_toArray, List.set_cons_zero, List.set_cons_succ]
                  refine wpAnyH_take (i := 19) (v := ?_) (by simp only [List.getElem?_toArray, List.getElem?_cons_zero, List.getElem?_cons_succ]; rfl) (by kernel_rfl) (by kernel_rfl) (by kernel_rfl) (fun _ _ _ h => h) (Or.inl ⟨by rfl, ?_⟩) (by assumption) ?_
                  rotate_left 1
                  · intro w hSw
                    go_simp
                    try with_reducible rfl
                  simp only [Act.put, List.setIfInBounds_toArray, List.set_cons_zero, List.set_cons_succ]
                  refine wpAnyH_take (i := 20) (v := ?_) (by simp only [List.getElem?_toArray, List.getElem?_cons_zero, List.getElem?_cons_succ]; rfl) (by kernel_rfl) (by kernel_rfl) (by kernel_rfl) (fun _ _ _ h => h) (Or.inl ⟨by rfl, ?_⟩) (by assumption) ?_
                  rotate_left 1
                  · intro w hSw
                    go_simp
                    try with_reducible rfl
                  simp only [Act.put, List.setIfInBounds_toArray, List.set_cons_zero, List.set_cons_succ]
                  refine wpAnyH_take (i := 21) (v := ?_) (by simp only [List.getElem?_toArray, List.getElem?_cons_zero, List.getElem?_cons_succ]; rfl) (by kernel_rfl) (by kernel_rfl) (by kernel_rfl) (fun _ _ _ h => h) (Or.inl ⟨by rfl, ?_⟩) (by assumption) ?_
                  rotate_left 1
                  · intro w hSw
                    go_simp
                    try with_reducible rfl
                  simp only [Act.put, List.setIfInBounds_toArray, List.set_cons_zero, List.set_cons_succ]
                  refine wpAnyH_take (i := 22) (v := ?_) (by simp only [List.getElem?_toArray, List.getElem?_cons_zero, List.getElem?_cons_succ]; rfl) (by kernel_rfl) (by kernel_rfl) (by kernel_rfl) (fun _ _ _ h => h) (Or.inl ⟨by rfl, ?_⟩) (by assumption) ?_
                  rotate_left 1
                  · intro w hSw
                    go_simp
                    try with_reducible rfl
                  simp only [Act.put, List.setIfInBounds_toArray, List.set_cons_zero, List.set_cons_succ]
                  refine' wpAnyH_take (i := 23) (v := _) (by simp only [List.getElem?_toArray, List.getElem?_cons_zero, List.getElem?_cons_succ]; rfl) (by kernel_rfl) (by kernel_rfl) (by kernel_rfl) (fun _ _ _ h => h) (yields_load_h (by rfl) (.tmp 179) rfl g11 (k * 32) rfl d (fun w hS => hS.l.ld k HI d HHK.out)) (by assumption) ?_
                  simp only [Act.put, List.setIfInBounds_toArray, List.set_cons_zero, List.set_cons_succ]
                  refine wpAnyH_ready (rs := [24]) (by kernel_rfl) (by simp) ?_
                  refine AllReadyH.cons (by simp only [List.getElem?_toArray, List.getElem?_cons_zero, List.getElem?_cons_succ]; rfl) (fun K hK => ?_) AllReadyH.nil
                  go_simp
                  refine (verify_any _ ys Aa ca ba1 0 d HDD.out W8.drew HT8.out S8.out.y1 HYL.out).mono ?_
                  rintro e9 w9 ⟨rfl, hb9⟩
                  rw [HDG.out]
                  have hz1 := S8.out.on hb9
                  refine hK.out _ _ hz1 (fun hS => ?_)
                  clear hK K hS
                  refine wpAnyH_take (i := 25) (v := ?_) (by simp only [List.getElem?_toArray, List.getElem?_cons_zero, List.getElem?_cons_succ]; rfl) (by kernel_rfl) (by kernel_rfl) (by kernel_rfl) (fun _ _ _ h => h) (Or.inl ⟨by rfl, ?_⟩) (by assumption) ?_
                  rotate_left 1
                  · intro w hSw
                    go_simp
                    try with_reducible rfl
                  simp only [Act.put, List.setIfInBounds_toArray, List.set_cons_zero, List.set_cons_succ]
                  refine wpAnyH_take (i := 26) (v := ?_) (by simp only [List.getElem?_toArray, List.getElem?_cons_zero, List.getElem?_cons_succ]; rfl) (by kernel_rfl) (by kernel_rfl) (by kernel_rfl) (fun _ _ _ h => h) (Or.inl ⟨by rfl, ?_⟩) (by assumption) ?_
                  rotate_left 1
                  · intro w hSw
                    go_simp
                    try with_reducible rfl
                  simp only [Act.put, List.setIfInBounds_toArray, List.set_cons_zero, List.set_cons_succ]
                  refine wpAnyH_take (i := 27) (v := ?_) (by simp only [List.getElem?_toArray, List.getElem?_cons_zero, List.getElem?_cons_succ]; rfl) (by kernel_rfl) (by kernel_rfl) (by kernel_rfl) (fun _ _ _ h => h) (Or.inl ⟨by rfl, ?_⟩) (by assumption) ?_
                  rotate_left 1
                  · intro w hSw
                    go_simp
                    try with_reducible rfl
                  simp only [Act.put, List.setIfInBounds_toArray, List.set_cons_zero, List.set_cons_succ]
                  refine wpAnyH_take (i := 28) (v := ?_) (by simp only [List.getElem?_toArray, List.getElem?_cons_zero, List.getElem?_cons_succ]; rfl) (by kernel_rfl) (by kernel_rfl) (by kernel_rfl) (fun _ _ _ h => h) (Or.inl ⟨by rfl, ?_⟩) (by assumption) ?_
                  rotate_left 1
                  · intro w hSw
                    go_simp
                    try with_reducible rfl
                  simp only [Act.put, List.setIfInBounds_toArray, List.set_cons_zero, List.set_cons_succ]
                  refine wpAnyH_take (i := 29) (v := ?_) (by simp only [List.getElem?_toArray, List.getElem?_cons_zero, List.getElem?_cons_succ]; rfl) (by kernel_rfl) (by kernel_rfl) (by kernel_rfl) (fun _ _ _ h => h) (Or.inl ⟨by rfl, ?_⟩) (by assumption) ?_
                  rotate_left 1
                  · intro w hSw
                    have hq0 : w.cell? ⟨w5.heap.size, 0, none⟩ = some (.string (ba q.1)) := hSw.box1.at_ 0
                    go_simp
                    try with_reducible rfl
                  simp only [Act.put, List.setIfInBounds_toArray, List.set_cons_zero, List.set_cons_succ]
                  refine wpAnyH_take (i := 30) (v := ?_) (by simp only [List.getElem?_toArray, List.getElem?_cons_zero, List.getElem?_cons_succ]; rfl) (by kernel_rfl) (by kernel_rfl) (by kernel_rfl) (fun _ _ _ h => h) (Or.inl ⟨by rfl, ?_⟩) (by assumption) ?_
                  rotate_left 1
                  · intro w hSw
                    go_simp
                    try with_reducible rfl
                  simp only [Act.put, List.setIfInBounds_toArray, List.set_cons_zero, List.set_cons_succ]
                  refine wpAnyH_take (i := 31) (v := ?_) (by simp only [List.getElem?_toArray, List.getElem?_cons_zero, List.getElem?_cons_succ]; rfl) (by kernel_rfl) (by kernel_rfl) (by kernel_rfl) (fun _ _ _ h => h) (Or.inl ⟨by rfl, ?_⟩) (by assumption) ?_
                  rotate_left 1
                  · intro w hSw
                    go_simp
                    try with_reducible rfl
                  simp only [Act.put, List.setIfInBounds_toArray, List.set_cons_zero, List.set_cons_succ]
                  refine wpAnyH_take (i := 32) (v := ?_) (by simp only [List.getElem?_toArray, List.getElem?_cons_zero, List.getElem?_cons_succ]; rfl) (by kernel_rfl) (by kernel_rfl) (by kernel_rfl) (fun _ _ _ h => h) (Or.inl ⟨by rfl, ?_⟩) (by assumption) ?_
                  rotate_left 1
                  · intro w hSw
                    go_simp
                    try with_reducible rfl
                  simp only [Act.put, List.setIfInBounds_toArray, List.set_cons_zero, List.set_cons_succ]
                  refine wpAnyH_take (i := 33) (v := ?_) (by simp only [List.getElem?_toArray, List.getElem?_cons_zero, List.getElem?_cons_succ]; rfl) (by kernel_rfl) (by kernel_rfl) (by kernel_rfl) (fun _ _ _ h => h) (Or.inl ⟨by rfl, ?_⟩) (by assumption) ?_
                  rotate_left 1
                  · intro w hSw
                    go_simp
                    try with_reducible rfl
                  simp only [Act.put, List.setIfInBounds_toArray, List.set_cons_zero, List.set_cons_succ]
                  refine wpAnyH_take (i := 34) (v := ?_) (by simp only [List.getElem?_toArray, List.getElem?_cons_zero, List.getElem?_cons_succ]; rfl) (by kernel_rfl) (by kernel_rfl) (by kernel_rfl) (fun _ _ _ h => h) (Or.inl ⟨by rfl, ?_⟩) (by assumption) ?_
                  rotate_left 1
                  · intro w hSw
                    have hx0 := hSw.act.c1
                    rw [HXN.out] at hx0
                    go_simp
                    try with_reducible rfl
                  simp only [Act.put, List.setIfInBounds_toArray, List.set_cons_zero, List.set_cons_succ]
                  refine' wpAnyH_take (i := 35) (v := _) (by simp only [List.getElem?_toArray, List.getElem?_cons_zero, List.getElem?_cons_succ]; rfl) (by kernel_rfl) (by kernel_rfl) (by kernel_rfl) (fun _ _ _ h => h) (yields_gtr (by rfl) (.tmp 186) (.tmp 191) 9 rfl (ba q.1) X rfl rfl HGT.out) (by assumption) ?_
                  simp only [Act.put, List.setIfInBounds_toArray, List.set_cons_zero, List.set_cons_succ]
                  refine wpAnyH_take (i := 36) (v := ?_) (by simp only [List.getElem?_toArray, List.getElem?_cons_zero, List.getElem?_cons_succ]; rfl) (by kernel_rfl) (by kernel_rfl) (by kernel_rfl) (fun _ _ _ h => h) (Or.inl ⟨by rfl, ?_⟩) (by assumption) ?_
                  rotate_left 1
                  · intro w hSw
                    go_simp
                    try with_reducible rfl
                  simp only [Act.put, List.setIfInBounds_toArray, List.set_cons_zero, List.set_cons_succ]
                  refine wpAnyH_done (by kernel_rfl) ?_ _
                  refine NoPanic.normal ?_
                  have O9 : Hid (OSt w.heap.size w w9 pf pg (FA xs) (FA xs) (80 * i) (80 * m0) (.slice (some ⟨gl, 0, none⟩) m0 c5) ls) := O8.out.on hb9
                  have D9 : Hid (Dgs 0 w9 (.slice (some ⟨g11, 0, none⟩) c c11) hs) := S8.out.l.kept hb9 (Nat.le_refl _)
                  clear hz1 hb9
                  go_wp2
                  go_roundw
                  case rel => exact ⟨k + 1, by omega, by go_num, O9.out, D9.out⟩
                  case measure => simp [intOf]; omega
                · obtain rfl : k = c := by omega
                  go_wp2
                  go_roundw
                  case rel => exact ⟨a + 1, by omega, by go_num, HOK2.out⟩
                  case measure => simp [intOf]; omega
            · obtain rfl : a = m0 := by omega
              have CF := hid (HOA.out.len_f)
              have CG := hid (HOA.out.len_g)
              rw [← HLSE.out, HM0.out] at CF CG
              have CA := hid (awake_any wa (HT.out.kept HOA.out.below.1 HPOS.out))
              go_wp2_with (fail)
              refine CF.out.mono ?_
              rintro e5 w5 ⟨rfl, rfl⟩
              go_wp2_with (fail)
              refine CG.out.mono ?_
              rintro e6 w6 ⟨rfl, rfl⟩
              go_wp2_with (fail)
              refine CA.out.mono ?_
              rintro e7 w7 ⟨rfl, hb7⟩
              go_wp2
              go_ret
              exact ⟨rfl, HOA.out.below.1.trans (hb7.mono HOA.out.below.2)⟩
end Go.Proofs.YtlcdkponegmcdaaDoor
