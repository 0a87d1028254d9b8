/- The document's Temp (caravanref02). Conditions: at most 300 bytes. -/
import Derived.Test.YtoeomghebgbniaaDoorRA
import Derived.Test.YtoeomghebgbniaaDoorPZ
import Derived.Test.YtoeomghebgbniaaDoorSX
import Derived.Test.YtoeomghebgbniaaDoorZL
namespace Go.Proofs.YtoeomghebgbniaaDoor
open Go.RowKit
theorem box_b (w : World) (d : List UInt8) : ∃ W1, (w.alloc (.cells Sha.zero32 34)).setRow w.heap.size (Sha.bvec d) = W1 ∧ Hid (Has W1 w.heap.size 34 (Sha.bvec d)) ∧ Hid (Below w.heap.size w W1) := by
  refine ⟨_, rfl, ?_, ?_⟩
  · exact setRow_heap _ _ _ _ 34 (0, 0) (Has.fresh w 34 _)
  · exact ((Below.refl _ _).alloc (Nat.le_refl _) _).rowK (Nat.le_refl _) _
set_option maxRecDepth 100000 in
set_option maxHeartbeats 1000000 in
theorem rtemp_no (s : ByteArray) (h : mayB (tl s) = false) (w : World) (hs : s.size ≤ 4000) :
    Calls Tryd.prog 6 #[.string s] w fun e w' => e = .returned (.tuple #[.string ⟨#[]⟩, .bool false]) ∧ Below w.heap.size w w' := by
  have HM : Hid (∀ W, Calls Tryd.prog 19 #[.string s] W fun e w' => e = .returned (.bool false) ∧ Below W.heap.size W w') := fun W => rmay_v s false h W hs
  clear h
  go_enter Tryd.func6, Tryd.ntmps6
  go_wp2_with fail
  refine (HM.out _).mono ?_; rintro e1 w1 ⟨rfl, hb1⟩; have B1 := hid hb1; clear hb1
  go_wp2
  go_ret2
  exact ⟨rfl, B1.out⟩
set_option maxRecDepth 100000 in
set_option maxHeartbeats 3000000 in
theorem rtemp_yes (s : ByteArray) (h : mayB (tl s) = true) (w : World) (hs : s.size ≤ 300) :
    Calls Tryd.prog 6 #[.string s] w fun e w' => e = .returned (.tuple #[.string (ba (tempL (tl s))), .bool true]) ∧ Below w.heap.size w w' := by
  obtain ⟨a, HA⟩ : ∃ a, Hid (ba (aheadL (tl s)) = a) := ⟨_, rfl⟩
  obtain ⟨b, HB⟩ : ∃ b, Hid (ba (lastP (tl s)) = b) := ⟨_, rfl⟩
  have has : a.size ≤ 300 := by rw [← HA.out, ba_size]; have := aheadL_len (tl s); rw [tl_length] at this; omega
  have hbs : b.size ≤ 300 := by rw [← HB.out, ba_size]; have := lastP_len (tl s); rw [tl_length] at this; omega
  have C0 : Hid (∀ W, Calls Tryd.prog 19 #[.string s] W fun e w' => e = .returned (.bool true) ∧ Below W.heap.size W w') := fun W => rmay_v s true h W (by omega)
  have C1 : Hid (∀ W, Calls Tryd.prog 20 #[.string s] W fun e w' => e = .returned (.string b) ∧ Below W.heap.size W w') := by intro W; rw [← HB.out]; exact rlast_any s W (by omega)
  have C2 : Hid (∀ W, Calls Tryd.prog 24 #[.string s] W fun e w' => e = .returned (.string a) ∧ Below W.heap.size W w') := by intro W; rw [← HA.out]; exact rahead_any s W (by omega)
  obtain ⟨hx, HX⟩ : ∃ x, Hid (Sha.shaL (tl s) = x) := ⟨_, rfl⟩
  obtain ⟨t, HT⟩ : ∃ t, Hid (ba (hexL (tl s)) = t) := ⟨_, rfl⟩
  have hts : t.size = 64 := by rw [← HT.out, ba_size]; exact Sha.textUp_len _ 32
  have CS : Hid (∀ (W : World) (bb c : Nat), bb < W.heap.size → s.size ≤ c → (∀ j, j < s.size → W.cell? ⟨bb, 0 + j, none⟩ = some (.int .u8 (Sha.b8 (Sha.at8 (tl s) j)))) →
      Calls Tryd.prog 21 #[.slice (some ⟨bb, 0, none⟩) s.size c] W fun e w' => e = .returned (.agg (Sha.bvec hx)) ∧ Below W.heap.size W w') := by
    intro W bb c h1 h2 h3
    have hB : Sha.Bytes W (.slice (some ⟨bb, 0, none⟩) s.size c) (tl s) (some ⟨bb, 0, none⟩) c bb 0 := by
      refine ⟨by rw [tl_length], by rw [tl_length]; exact h2, (fun h => by cases h), fun a ha j hj => ?_, h1, fun _ => rfl⟩
      obtain rfl := Option.some.inj ha
      rw [tl_length] at hj
      have e : (⟨bb, 0, none⟩ : Addr).add j = ⟨bb, 0 + j, none⟩ := by unfold Addr.add; split <;> simp_all
      rw [e]; exact h3 j hj
    have := Sha.refSum_any (tl s) (some ⟨bb, 0, none⟩) s.size c bb 0 W (tl_length s) (by omega) hB
    rw [HX.out] at this; exact this
  have CT : Hid (∀ W, Calls Tryd.prog 22 #[.agg (Sha.bvec hx)] W fun e w' => e = .returned (.string t) ∧ Below W.heap.size W w') := by
    intro W
    have := Sha.rtext_any hx (by rw [← HX.out]; exact Sha.fin_len _) W
    rw [← HT.out, hexL, HX.out]; exact this
  have Z1 := Sha.size_dig hx (by rw [← HX.out]; exact Sha.fin_len _)
  have Z2 := Sha.size_zero hx (by rw [← HX.out]; exact Sha.fin_len _)
  have HCV := fun w : World => run_bytes_of_string (P := Tryd.prog) w 9 36 5 s Tryd.underlying9 Tryd.underlying36 Tryd.underlying5
  obtain ⟨x, HX2⟩ : ∃ x, Hid (ba ((tl b).take 12) = x) := ⟨_, rfl⟩
  have hxs : x.size ≤ 12 := by rw [← HX2.out, ba_size, List.length_take]; omega
  obtain ⟨y, HY⟩ : ∃ y, Hid (ba ((tl t).take 8) = y) := ⟨_, rfl⟩
  have hys : y.size ≤ 8 := by rw [← HY.out, ba_size, List.length_take]; omega
  have y1 : t.extract 0 8 = y := by rw [← HY.out, ba_take]
  have h8 : (8 : Int) ≤ (t.size : Int) := by omega
  have z1 : ¬ 9223372036854775807 < 3 + x.size := by omega
  have z2 : ¬ 9223372036854775807 < 3 + x.size + y.size := by omega
  clear h
  have hfin : ∀ b' : ByteArray, b' = x → ba (besideL (tl a) (tl ((⟨#[126, 116, 126]⟩ : ByteArray) ++ b' ++ y))) = ba (tempL (tl s)) := by
    rintro b' rfl
    have e8 : tl a = aheadL (tl s) := by rw [← HA.out, tl_ba]
    have e7 : lastP (tl s) = tl b := by rw [← HB.out, tl_ba]
    have e6 : hexL (tl s) = tl t := by rw [← HT.out, tl_ba]
    have e5 : tl b' = (tl b).take 12 := by rw [← HX2.out, tl_ba]
    have e4 : tl y = (tl t).take 8 := by rw [← HY.out, tl_ba]
    have e9 : ∀ c d : ByteArray, tl (c ++ d) = tl c ++ tl d := by intro c d; simp [tl]
    rw [tempL, tempPart, e7, e6, e9, e9, e5, e4, e8]
  have HF := hid hfin
  clear hfin
  by_cases hb : (12 : Int) < (b.size : Int)
  · have x1 : b.extract 0 12 = x := by rw [← HX2.out, ba_take]
    have hb2 : (12 : Int) ≤ (b.size : Int) := by omega
    go_enter Tryd.func6, Tryd.ntmps6
    go_wp2_with fail
    refine (C0.out _).mono ?_; rintro e1 w1 ⟨rfl, hb1⟩; have B1 := hid hb1; clear hb1
    go_wp2_with fail
    refine (C1.out _).mono ?_; rintro e2 w2 ⟨rfl, hb2⟩; have B2 : Hid (Below w.heap.size w w2) := B1.out.trans (hb2.mono B1.out.size); clear hb2
    go_wp2_with fail
    have K1 : Hid (∀ c fr, ∀ j, j < s.size → ((w2.alloc (.cells (bytesRow s c) 5 fr)).drew).cell? ⟨w2.heap.size, 0 + j, none⟩ = some (.int .u8 (Sha.b8 (Sha.at8 (tl s) j)))) := by
      intro c fr j hj
      exact bytes_cell s c w2 fr j hj
    have K3 : Hid (∀ c fr, w2.heap.size < ((w2.alloc (.cells (bytesRow s c) 5 fr)).drew).heap.size) := by intro c fr; simp
    have K4 : Hid (∀ c fr, Below w.heap.size w ((w2.alloc (.cells (bytesRow s c) 5 fr)).drew)) := fun c fr => (B2.out.alloc B2.out.size _).drew
    refine (CS.out _ _ _ (K3.out _ _) (grownCap_ge _ _ _ _) (K1.out _ _)).mono ?_; rintro e3 w3 ⟨rfl, hb3⟩
    have B3 : Hid (Below w.heap.size w w3) := (K4.out _ _).trans (hb3.mono (K4.out _ _).size)
    clear hb3
    go_wp2_with (first
      | (refine wpList_store_row rfl 34 (.tmp 6) (.tmp 21) rfl w3.heap.size (Sha.bvec hx) rfl rfl 34 Sha.zero32 (Has.fresh w3 34 _) Z1.out Z2.out (Sha.bvec_one _) ?_
         generalize hG : World.setRow _ _ _ = W1
         obtain ⟨W0, hG0, X1, X2⟩ := box_b w3 hx
         obtain rfl : W0 = W1 := hG0.symm.trans hG
         have BW : Hid (Below w.heap.size w W0) := B3.out.trans (X2.out.mono B3.out.size)
         clear hG hG0)
      | (refine wpList_load_row rfl 34 (.tmp 6) rfl w3.heap.size rfl 34 (Sha.bvec hx) (0, 0) _ X1.out Tryd.underlying34 rfl Z1.out ?_))
    refine (CT.out _).mono ?_; rintro e4 w4 ⟨rfl, hb4⟩
    have B4 : Hid (Below w.heap.size w w4) := BW.out.trans (hb4.mono BW.out.size)
    have B5 : Hid (Below w.heap.size w w4.drew) := B4.out.drewN' 1
    clear hb4
    have s5 : Below w.heap.size w w4.drew := B5.out
    go_wp2
    refine wp_region_noPanic ?_
    refine wp_region_held_drew (S := fun w' => Below w.heap.size w w') (by kernel_rfl) s5 (fun hS => ?_)
    refine wpAnyH_take (i := 0) (v := ?_) (by simp only [List.getElem?_toArray, List.getElem?_cons_zero]; rfl) (by kernel_rfl) (by kernel_rfl) (by kernel_rfl) (fun _ _ _ h => h) (Or.inl ⟨by rfl, ?_⟩) (by assumption) ?_
    rotate_left 1
    · intro w hSw
      (try dsimp only at hSw)
      go_simp
      with_reducible rfl
    simp only [Act.put, List.setIfInBounds_toArray, List.set_cons_zero, List.set_cons_succ]
    refine wpAnyH_take (i := 2) (v := ?_) (by simp only [List.getElem?_toArray, List.getElem?_cons_zero, List.getElem?_cons_succ]; rfl) (by kernel_rfl) (by kernel_rfl) (by kernel_rfl) (fun _ _ _ h => h) (Or.inl ⟨by rfl, ?_⟩) (by assumption) ?_
    rotate_left 1
    · intro w hSw
      (try dsimp only at hSw)
      go_simp
      with_reducible rfl
    simp only [Act.put, List.setIfInBounds_toArray, List.set_cons_zero, List.set_cons_succ]
    refine wpAnyH_take (i := 3) (v := ?_) (by simp only [List.getElem?_toArray, List.getElem?_cons_zero, List.getElem?_cons_succ]; rfl) (by kernel_rfl) (by kernel_rfl) (by kernel_rfl) (fun _ _ _ h => h) (Or.inl ⟨by rfl, ?_⟩) (by assumption) ?_
    rotate_left 1
    · intro w hSw
      (try dsimp only at hSw)
      go_simp
      with_reducible rfl
    simp only [Act.put, List.setIfInBounds_toArray, List.set_cons_zero, List.set_cons_succ]
    refine wpAnyH_take (i := 4) (v := ?_) (by simp only [List.getElem?_toArray, List.getElem?_cons_zero, List.getElem?_cons_succ]; rfl) (by kernel_rfl) (by kernel_rfl) (by kernel_rfl) (fun _ _ _ h => h) (Or.inl ⟨by rfl, ?_⟩) (by assumption) ?_
    rotate_left 1
    · intro w hSw
      (try dsimp only at hSw)
      go_simp
      with_reducible rfl
    simp only [Act.put, List.setIfInBounds_toArray, List.set_cons_zero, List.set_cons_succ]
    refine wpAnyH_take (i := 5) (v := ?_) (by simp only [List.getElem?_toArray, List.getElem?_cons_zero, List.getElem?_cons_succ]; rfl) (by kernel_rfl) (by kernel_rfl) (by kernel_rfl) (fun _ _ _ h => h) (Or.inl ⟨by rfl, ?_⟩) (by assumption) ?_
    rotate_left 1
    · intro w hSw
      (try dsimp only at hSw)
      go_simp
      with_reducible rfl
    simp only [Act.put, List.setIfInBounds_toArray, List.set_cons_zero, List.set_cons_succ]
    refine wpAnyH_take (i := 6) (v := ?_) (by simp only [List.getElem?_toArray, List.getElem?_cons_zero, List.getElem?_cons_succ]; rfl) (by kernel_rfl) (by kernel_rfl) (by kernel_rfl) (fun _ _ _ h => h) (Or.inl ⟨by rfl, ?_⟩) (by assumption) ?_
    rotate_left 1
    · intro w hSw
      (try dsimp only at hSw)
      go_simp
      with_reducible rfl
    simp only [Act.put, List.setIfInBounds_toArray, List.set_cons_zero, List.set_cons_succ]
    refine wpAnyH_ready (rs := [1]) (by kernel_rfl) (by simp) ?_
    refine AllReadyH.cons (by simp only [List.getElem?_toArray, List.getElem?_cons_zero, List.getElem?_cons_succ]; rfl) (fun K hK => ?_) AllReadyH.nil
    go_simp
    refine (C2.out _).mono ?_
    rintro e6 w6 ⟨rfl, hb6⟩
    have B6 : Hid (Below w.heap.size w w6) := B5.out.trans (hb6.mono B5.out.size)
    have s6 : Below w.heap.size w w6 := B6.out
    clear hb6
    refine hK.out _ _ s6 (fun hS => ?_)
    clear hK K
    refine wpAnyH_ready (rs := [7]) (by kernel_rfl) (by simp) ?_
    refine AllReadyH.cons (by simp only [List.getElem?_toArray, List.getElem?_cons_zero, List.getElem?_cons_succ]; rfl) (fun K hK => ?_) AllReadyH.nil
    go_simp
    refine (rbeside_any a _ _ (by omega) (by
      have k1 : (⟨#[126, 116, 126]⟩ : ByteArray).size = 3 := rfl
      simp only [ByteArray.size_append, k1]; omega)).mono ?_
    rintro e7 w7 ⟨rfl, rfl⟩
    refine hK.out _ _ s6 (fun hS => ?_)
    clear hK K
    refine wpAnyH_take (i := 8) (v := ?_) (by simp only [List.getElem?_toArray, List.getElem?_cons_zero, List.getElem?_cons_succ]; rfl) (by kernel_rfl) (by kernel_rfl) (by kernel_rfl) (fun _ _ _ h => h) (Or.inl ⟨by rfl, ?_⟩) (by assumption) ?_
    rotate_left 1
    · intro w hSw
      (try dsimp only at hSw)
      go_simp
      with_reducible rfl
    simp only [Act.put, List.setIfInBounds_toArray, List.set_cons_zero, List.set_cons_succ]
    refine wpAnyH_take (i := 9) (v := ?_) (by simp only [List.getElem?_toArray, List.getElem?_cons_zero, List.getElem?_cons_succ]; rfl) (by kernel_rfl) (by kernel_rfl) (by kernel_rfl) (fun _ _ _ h => h) (Or.inl ⟨by rfl, ?_⟩) (by assumption) ?_
    rotate_left 1
    · intro w hSw
      (try dsimp only at hSw)
      go_simp
      with_reducible rfl
    simp only [Act.put, List.setIfInBounds_toArray, List.set_cons_zero, List.set_cons_succ]
    refine wpAnyH_done (by kernel_rfl) ?_ _
    refine NoPanic.normal ?_
    go_wp2
    go_ret2
    exact ⟨ret_str2 (by rw [← HF.out _ rfl]; simp [tl]), B6.out⟩
  · have HB2 : Hid (b = x) := by
      show _ = _
      rw [← HX2.out, List.take_of_length_le (by rw [tl_length]; omega), ba_tl]
    have hb2 : decide ((12 : Int) < (b.size : Int)) = false := by simpa using hb
    have HK := hid (And.intro h8 (And.intro y1 (And.intro z1 (And.intro z2 (And.intro hys (And.intro hxs hts))))))
    clear hb h8 y1 z1 z2 hys hxs hts
    go_enter Tryd.func6, Tryd.ntmps6
    go_wp2_with fail
    refine (C0.out _).mono ?_; rintro e1 w1 ⟨rfl, hb1⟩; have B1 := hid hb1; clear hb1
    go_wp2_with fail
    refine (C1.out _).mono ?_; rintro e2 w2 ⟨rfl, hb2⟩; have B2 : Hid (Below w.heap.size w w2) := B1.out.trans (hb2.mono B1.out.size); clear hb2
    go_wp2_with fail
    have K1 : Hid (∀ c fr, ∀ j, j < s.size → ((w2.alloc (.cells (bytesRow s c) 5 fr)).drew).cell? ⟨w2.heap.size, 0 + j, none⟩ = some (.int .u8 (Sha.b8 (Sha.at8 (tl s) j)))) := by
      intro c fr j hj
      exact bytes_cell s c w2 fr j hj
    have K3 : Hid (∀ c fr, w2.heap.size < ((w2.alloc (.cells (bytesRow s c) 5 fr)).drew).heap.size) := by intro c fr; simp
    have K4 : Hid (∀ c fr, Below w.heap.size w ((w2.alloc (.cells (bytesRow s c) 5 fr)).drew)) := fun c fr => (B2.out.alloc B2.out.size _).drew
    refine (CS.out _ _ _ (K3.out _ _) (grownCap_ge _ _ _ _) (K1.out _ _)).mono ?_; rintro e3 w3 ⟨rfl, hb3⟩
    have B3 : Hid (Below w.heap.size w w3) := (K4.out _ _).trans (hb3.mono (K4.out _ _).size)
    clear hb3
    go_wp2_with (first
      | (refine wpList_store_row rfl 34 (.tmp 6) (.tmp 21) rfl w3.heap.size (Sha.bvec hx) rfl rfl 34 Sha.zero32 (Has.fresh w3 34 _) Z1.out Z2.out (Sha.bvec_one _) ?_
         generalize hG : World.setRow _ _ _ = W1
         obtain ⟨W0, hG0, X1, X2⟩ := box_b w3 hx
         obtain rfl : W0 = W1 := hG0.symm.trans hG
         have BW : Hid (Below w.heap.size w W0) := B3.out.trans (X2.out.mono B3.out.size)
         clear hG hG0)
      | (refine wpList_load_row rfl 34 (.tmp 6) rfl w3.heap.size rfl 34 (Sha.bvec hx) (0, 0) _ X1.out Tryd.underlying34 rfl Z1.out ?_))
    refine (CT.out _).mono ?_; rintro e4 w4 ⟨rfl, hb4⟩
    obtain ⟨h8, y1, _, _, hys, hxs, hts⟩ := HK.out
    have z1 : ¬ 9223372036854775807 < 3 + b.size := by omega
    have z2 : ¬ 9223372036854775807 < 3 + b.size + y.size := by omega
    have B4 : Hid (Below w.heap.size w w4) := BW.out.trans (hb4.mono BW.out.size)
    have B5 : Hid (Below w.heap.size w w4.drew) := B4.out.drewN' 1
    clear hb4
    have s5 : Below w.heap.size w w4.drew := B5.out
    go_wp2
    refine wp_region_noPanic ?_
    refine wp_region_held_drew (S := fun w' => Below w.heap.size w w') (by kernel_rfl) s5 (fun hS => ?_)
    refine wpAnyH_take (i := 0) (v := ?_) (by simp only [List.getElem?_toArray, List.getElem?_cons_zero]; rfl) (by kernel_rfl) (by kernel_rfl) (by kernel_rfl) (fun _ _ _ h => h) (Or.inl ⟨by rfl, ?_⟩) (by assumption) ?_
    rotate_left 1
    · intro w hSw
      (try dsimp only at hSw)
      go_simp
      with_reducible rfl
    simp only [Act.put, List.setIfInBounds_toArray, List.set_cons_zero, List.set_cons_succ]
    refine wpAnyH_take (i := 2) (v := ?_) (by simp only [List.getElem?_toArray, List.getElem?_cons_zero, List.getElem?_cons_succ]; rfl) (by kernel_rfl) (by kernel_rfl) (by kernel_rfl) (fun _ _ _ h => h) (Or.inl ⟨by rfl, ?_⟩) (by assumption) ?_
    rotate_left 1
    · intro w hSw
      (try dsimp only at hSw)
      go_simp
      with_reducible rfl
    simp only [Act.put, List.setIfInBounds_toArray, List.set_cons_zero, List.set_cons_succ]
    refine wpAnyH_take (i := 3) (v := ?_) (by simp only [List.getElem?_toArray, List.getElem?_cons_zero, List.getElem?_cons_succ]; rfl) (by kernel_rfl) (by kernel_rfl) (by kernel_rfl) (fun _ _ _ h => h) (Or.inl ⟨by rfl, ?_⟩) (by assumption) ?_
    rotate_left 1
    · intro w hSw
      (try dsimp only at hSw)
      go_simp
      with_reducible rfl
    simp only [Act.put, List.setIfInBounds_toArray, List.set_cons_zero, List.set_cons_succ]
    refine wpAnyH_take (i := 4) (v := ?_) (by simp only [List.getElem?_toArray, List.getElem?_cons_zero, List.getElem?_cons_succ]; rfl) (by kernel_rfl) (by kernel_rfl) (by kernel_rfl) (fun _ _ _ h => h) (Or.inl ⟨by rfl, ?_⟩) (by assumption) ?_
    rotate_left 1
    · intro w hSw
      (try dsimp only at hSw)
      go_simp
      with_reducible rfl
    simp only [Act.put, List.setIfInBounds_toArray, List.set_cons_zero, List.set_cons_succ]
    refine wpAnyH_take (i := 5) (v := ?_) (by simp only [List.getElem?_toArray, List.getElem?_cons_zero, List.getElem?_cons_succ]; rfl) (by kernel_rfl) (by kernel_rfl) (by kernel_rfl) (fun _ _ _ h => h) (Or.inl ⟨by rfl, ?_⟩) (by assumption) ?_
    rotate_left 1
    · intro w hSw
      (try dsimp only at hSw)
      go_simp
      with_reducible rfl
    simp only [Act.put, List.setIfInBounds_toArray, List.set_cons_zero, List.set_cons_succ]
    refine wpAnyH_take (i := 6) (v := ?_) (by simp only [List.getElem?_toArray, List.getElem?_cons_zero, List.getElem?_cons_succ]; rfl) (by kernel_rfl) (by kernel_rfl) (by kernel_rfl) (fun _ _ _ h => h) (Or.inl ⟨by rfl, ?_⟩) (by assumption) ?_
    rotate_left 1
    · intro w hSw
      (try dsimp only at hSw)
      go_simp
      with_reducible rfl
    simp only [Act.put, List.setIfInBounds_toArray, List.set_cons_zero, List.set_cons_succ]
    refine wpAnyH_ready (rs := [1]) (by kernel_rfl) (by simp) ?_
    refine AllReadyH.cons (by simp only [List.getElem?_toArray, List.getElem?_cons_zero, List.getElem?_cons_succ]; rfl) (fun K hK => ?_) AllReadyH.nil
    go_simp
    refine (C2.out _).mono ?_
    rintro e6 w6 ⟨rfl, hb6⟩
    have B6 : Hid (Below w.heap.size w w6) := B5.out.trans (hb6.mono B5.out.size)
    have s6 : Below w.heap.size w w6 := B6.out
    clear hb6
    refine hK.out _ _ s6 (fun hS => ?_)
    clear hK K
    refine wpAnyH_ready (rs := [7]) (by kernel_rfl) (by simp) ?_
    refine AllReadyH.cons (by simp only [List.getElem?_toArray, List.getElem?_cons_zero, List.getElem?_cons_succ]; rfl) (fun K hK => ?_) AllReadyH.nil
    go_simp
    refine (rbeside_any a _ _ (by omega) (by
      have k1 : (⟨#[126, 116, 126]⟩ : ByteArray).size = 3 := rfl
      simp only [ByteArray.size_append, k1]; omega)).mono ?_
    rintro e7 w7 ⟨rfl, rfl⟩
    refine hK.out _ _ s6 (fun hS => ?_)
    clear hK K
    refine wpAnyH_take (i := 8) (v := ?_) (by simp only [List.getElem?_toArray, List.getElem?_cons_zero, List.getElem?_cons_succ]; rfl) (by kernel_rfl) (by kernel_rfl) (by kernel_rfl) (fun _ _ _ h => h) (Or.inl ⟨by rfl, ?_⟩) (by assumption) ?_
    rotate_left 1
    · intro w hSw
      (try dsimp only at hSw)
      go_simp
      with_reducible rfl
    simp only [Act.put, List.setIfInBounds_toArray, List.set_cons_zero, List.set_cons_succ]
    refine wpAnyH_take (i := 9) (v := ?_) (by simp only [List.getElem?_toArray, List.getElem?_cons_zero, List.getElem?_cons_succ]; rfl) (by kernel_rfl) (by kernel_rfl) (by kernel_rfl) (fun _ _ _ h => h) (Or.inl ⟨by rfl, ?_⟩) (by assumption) ?_
    rotate_left 1
    · intro w hSw
      (try dsimp only at hSw)
      go_simp
      with_reducible rfl
    simp only [Act.put, List.setIfInBounds_toArray, List.set_cons_zero, List.set_cons_succ]
    refine wpAnyH_done (by kernel_rfl) ?_ _
    refine NoPanic.normal ?_
    go_wp2
    go_ret2
    exact ⟨ret_str2 (by rw [← HF.out _ HB2.out]; simp [tl]), B6.out⟩
end Go.Proofs.YtoeomghebgbniaaDoor
