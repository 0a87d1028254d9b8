/- The law LinkApart: what its call does. Conditions: a heap that has a block; acts that come in. -/
import Derived.Test.YtcfmjebnjjpajaaNL
namespace Go.Proofs.Ytcfmjebnjjpajaa
open Go.RowKit
section
variable {w0 w : World} {p : Nat} {xs : Nat → List UInt8} {e : Nat} {o : Nat → Option Nat} {x : Nat × Nat}
/-- A Send whose answer is not looked at. -/
theorem sk_send1 {bv : Value} {ys : List UInt8} {A : Option Addr} {cap bb off : Nat} (h : Sk w0 w p xs e o x) (hs : Bytes w bv ys A cap bb off) (hy : ys.length ≤ 500000) : Calls Try.prog 15 #[.pointer (some ⟨p, 0, none⟩), .int .i64 1, bv] w fun ex w' => ∃ n, ex = .returned (.int .i64 n) ∧ ∃ zs o', Sk w0 w' p (upd xs 1 zs) e o' (0, 0) := by
  refine (sk_send 1 (by decide) 1 (by decide) h hs hy).mono ?_
  rintro ex w' ⟨rfl, o', h1, _⟩
  exact ⟨_, rfl, _, _, h1⟩
theorem sk_deliver2' (c : Int) (h : Sk w0 w p xs e o x) : Calls Try.prog 16 #[.pointer (some ⟨p, 0, none⟩), .int .i64 2, .int .i64 c] w fun ex w' => ∃ v, ex = .returned v ∧ ∃ zs o', Sk w0 w' p (upd xs 1 zs) e o' (0, 0) := by
  refine (sk_deliver2 c h).mono ?_
  rintro ex w' ⟨v, rfl, zs, h1, _⟩
  exact ⟨v, rfl, zs, o, h1⟩
end
set_option maxRecDepth 100000 in
set_option maxHeartbeats 4000000 in
theorem apart_law (s : ByteArray) (A : Option Addr) (n cap bp off : Nat) (acts : List AcT) (w : World) (hp : 0 < w.heap.size) (hr : ActsIn w A n bp off acts) : Calls Try.prog 5 #[.string s, .slice A n cap] w fun e w' => e = .returned (.bool true) ∧ Below w.heap.size w w' := by
  obtain ⟨u, hu, hcu⟩ := cut_text s 2000
  have KU := conv_string u
  have HP := hid hp
  have HR := hid hr
  have HU : Hid (u.size ≤ 2000) := hu
  have CN := hid (sk_new (w0 := w) (Below.refl _ _) hp)
  have C1 : Hid (∀ W, Sk w W w.heap.size (fun _ => []) 0 (fun _ => none) (0, 0) → Calls Try.prog 15 #[.pointer (some ⟨w.heap.size, 0, none⟩), .int .i64 2, .slice (some ⟨W.heap.size, 0, none⟩) u.size (grownCap W u.size 0 5)] (Lib.bytesWorld W 5 u) fun e w' => e = .returned (.int .i64 0) ∧ ∃ xs o, xs 0 = tl u ∧ Sk w w' w.heap.size xs 0 o (0, 0)) := fun W h => by
    have hl : ¬ 262144 < 0 + (tl u).length := by rw [tl_length]; have := HU.out; omega
    refine (sk_send 0 (by decide) 2 (by decide) (h.kept (conv_below u W)) (conv_bytes u W) (by rw [tl_length]; have := HU.out; omega)).mono ?_
    rintro e w' ⟨rfl, o', hs, _⟩
    exact ⟨by simp only [sendE, List.length_nil, if_neg hl], _, _, by simp only [upd_at, sendX, List.length_nil, if_neg hl, List.nil_append], hs⟩
  clear hp hu hr
  rcases hcu with ⟨rfl, hs⟩ | ⟨hs, e0⟩
  all_goals
    go_enter Try.func5, Try.ntmps5
    go_wp2_with (fail)
    refine CN.out.mono ?_
    rintro e1 w1 ⟨rfl, h1, _⟩
    have S1 := hid h1
    clear h1
    go_wp2_with (fail)
    refine (C1.out _ S1.out).mono ?_
    rintro e2 w2 ⟨rfl, x2, o2, q0, h2⟩
    have S2 := hid h2
    have Q0 := hid q0
    clear h2 q0
    go_wp2_with (fail)
    go_loopw [6] (fun i wr => ∃ (j : Nat) (xs : Nat → List UInt8) (o : Nat → Option Nat), j ≤ 100 ∧ i = .int .i64 (j : Int) ∧ Hid (xs 0 = tl u ∧ Sk w wr w.heap.size xs 0 o (0, 0))) (fun i _ => 100 - (intOf i).toNat)
    case atStart => exact ⟨0, _, _, by omega, rfl, Q0.out, S2.out⟩
    case round =>
      obtain ⟨j, xs, o, hj, rfl, HS⟩ := hrel
      obtain ⟨wo, hwo⟩ : ∃ wo, wo = wr := ⟨_, rfl⟩
      subst hwo
      by_cases hlt : j < n
      · by_cases hlt2 : j < 100
        · have PA := (HR.out.kept HS.out.2.below (Nat.le_refl _)).2.2.1 j hlt
          have HI := hid (HR.out.2.2.2 j hlt)
          obtain rfl := (HR.out.2.1 (by omega)).1
          obtain ⟨x, hx⟩ : ∃ x, acts.getD j acz = x := ⟨_, rfl⟩
          rw [hx] at PA HI
          obtain ⟨wh, en, nn, sd⟩ := x
          obtain ⟨c0, c1, c2, c3⟩ := PA
          simp only at c0 c1 c2 c3
          have g0 : (0 : Int) ≤ (j : Int) := by omega
          have g1 : (j : Int) < (n : Int) := by omega
          have g2 : (j : Int) < 100 := by omega
          obtain ⟨r, hrr⟩ : ∃ r, wh.tmod 2 = r := ⟨_, rfl⟩
          have HC3 : Hid (∀ W, Below wo.heap.size wo W → W.cell? ⟨bp, off + j * 4 + 3, none⟩ = some (.string sd)) := fun W hb => (hb.cell (p := ⟨bp, off + j * 4 + 3, none⟩) (block_lt_of_cell (a := ⟨bp, off + j * 4 + 3, none⟩) c3)).trans c3
          have HBO := hid HS.out.2.below
          have HCW : Hid (∀ W, Below w.heap.size w W → W.cell? ⟨bp, off + j * 4 + 3, none⟩ = some (.string sd)) := fun W hb => by
            have := ((HR.out.kept hb (Nat.le_refl _)).2.2.1 j hlt).2.2.2
            rw [hx] at this
            exact this
          clear hlt hlt2 hx
          by_cases hr0 : r = 0
          · subst hr0
            obtain ⟨t, ht, hct⟩ := cut_text sd 2000
            have KT := conv_string t
            have HT : Hid (t.size ≤ 2000) := ht
            clear ht
            rcases hct with ⟨rfl, hsd⟩ | ⟨hsd, e9⟩
            · have k1 : min (t.size : Int) 2000 = (t.size : Int) := by omega
              have k5 : ((2000 : Int) < (t.size : Int)) = False := eq_false (by omega)
              have k6 : ((t.size : Int) ≤ 2000) = True := eq_true (by omega)
              have k2 : (0 : Int) ≤ (t.size : Int) := by omega
              have k3 : (t.size : Int) ≤ (t.size : Int) := by omega
              have k4 : t.extract 0 t.size = t := ByteArray.extract_zero_size
              clear hsd
              go_wp2_with (fail)
              have z0 : Below wo.heap.size wo wo.drew := (Below.refl _ _).drew
              have z1 : Below wo.heap.size wo (Lib.bytesWorld wo.drew 5 t) := z0.trans (conv_below t wo.drew)
              have SZ : Hid (Sk w (Lib.bytesWorld wo.drew 5 t) w.heap.size xs 0 o (0, 0)) := HS.out.2.kept z1
              have HTL : Hid ((tl t).length ≤ 500000) := by show _ ≤ _; rw [tl_length]; have := HT.out; omega
              refine wp_region_noPanic ?_
              refine wp_region_held_drew (S := fun W => Below w.heap.size w W ∧ (W.cell? ⟨bp, off + j * 4 + 3, none⟩ = some (.string t))) (by kernel_rfl) (⟨HBO.out.trans (z0.mono HBO.out.size), HC3.out _ z0⟩) (fun hS => ?_)
              refine wpAnyH_take (i := 0) (v := ?_) (by simp only [List.getElem?_toArray, List.getElem?_cons_zero]; rfl) (by kernel_rfl) (by kernel_rfl) (by kernel_rfl) (fun _ _ _ h => h) (Or.inl ⟨by rfl, ?_⟩) (by assumption) ?_
              rotate_left 1
              · intro w hSw
                go_simp
                with_reducible rfl
              simp only [Act.put, List.setIfInBounds_toArray, List.set_cons_zero, List.set_cons_succ]
              refine wpAnyH_take (i := 1) (v := ?_) (by simp only [List.getElem?_toArray, List.getElem?_cons_zero, List.getElem?_cons_succ]; rfl) (by kernel_rfl) (by kernel_rfl) (by kernel_rfl) (fun _ _ _ h => h) (Or.inl ⟨by rfl, ?_⟩) (by assumption) ?_
              rotate_left 1
              · intro w hSw
                go_simp
                with_reducible rfl
              simp only [Act.put, List.setIfInBounds_toArray, List.set_cons_zero, List.set_cons_succ]
              refine wpAnyH_take (i := 2) (v := ?_) (by simp only [List.getElem?_toArray, List.getElem?_cons_zero, List.getElem?_cons_succ]; rfl) (by kernel_rfl) (by kernel_rfl) (by kernel_rfl) (fun _ _ _ h => h) (Or.inl ⟨by rfl, ?_⟩) (by assumption) ?_
              rotate_left 1
              · intro w hSw
                go_simp
                with_reducible rfl
              simp only [Act.put, List.setIfInBounds_toArray, List.set_cons_zero, List.set_cons_succ]
              refine wpAnyH_take (i := 3) (v := ?_) (by simp only [List.getElem?_toArray, List.getElem?_cons_zero, List.getElem?_cons_succ]; rfl) (by kernel_rfl) (by kernel_rfl) (by kernel_rfl) (fun _ _ _ h => h) (Or.inl ⟨by rfl, ?_⟩) (by assumption) ?_
              rotate_left 1
              · intro w hSw
                go_simp
                with_reducible rfl
              simp only [Act.put, List.setIfInBounds_toArray, List.set_cons_zero, List.set_cons_succ]
              refine wpAnyH_take (i := 4) (v := ?_) (by simp only [List.getElem?_toArray, List.getElem?_cons_zero, List.getElem?_cons_succ]; rfl) (by kernel_rfl) (by kernel_rfl) (by kernel_rfl) (fun _ _ _ h => h) (Or.inl ⟨by rfl, ?_⟩) (by assumption) ?_
              rotate_left 1
              · intro w hSw
                go_simp
                with_reducible rfl
              simp only [Act.put, List.setIfInBounds_toArray, List.set_cons_zero, List.set_cons_succ]
              refine wpAnyH_take (i := 5) (v := ?_) (by simp only [List.getElem?_toArray, List.getElem?_cons_zero, List.getElem?_cons_succ]; rfl) (by kernel_rfl) (by kernel_rfl) (by kernel_rfl) (fun _ _ _ h => h) (Or.inl ⟨by rfl, ?_⟩) (by assumption) ?_
              rotate_left 1
              · intro w hSw
                have u3 := hSw.2
                go_simp
                with_reducible rfl
              simp only [Act.put, List.setIfInBounds_toArray, List.set_cons_zero, List.set_cons_succ]
              refine wpAnyH_take (i := 6) (v := ?_) (by simp only [List.getElem?_toArray, List.getElem?_cons_zero, List.getElem?_cons_succ]; rfl) (by kernel_rfl) (by kernel_rfl) (by kernel_rfl) (fun _ _ _ h => h) (Or.inl ⟨by rfl, ?_⟩) (by assumption) ?_
              rotate_left 1
              · intro w hSw
                go_simp
                with_reducible rfl
              simp only [Act.put, List.setIfInBounds_toArray, List.set_cons_zero, List.set_cons_succ]
              refine wpAnyH_take (i := 7) (v := ?_) (by simp only [List.getElem?_toArray, List.getElem?_cons_zero, List.getElem?_cons_succ]; rfl) (by kernel_rfl) (by kernel_rfl) (by kernel_rfl) (fun _ _ _ h => h) (Or.inl ⟨by rfl, ?_⟩) (by assumption) ?_
              rotate_left 1
              · intro w hSw
                go_simp
                with_reducible rfl
              simp only [Act.put, List.setIfInBounds_toArray, List.set_cons_zero, List.set_cons_succ]
              refine wpAnyH_take (i := 8) (v := ?_) (by simp only [List.getElem?_toArray, List.getElem?_cons_zero, List.getElem?_cons_succ]; rfl) (by kernel_rfl) (by kernel_rfl) (by kernel_rfl) (fun _ _ _ h => h) (Or.inl ⟨by rfl, ?_⟩) (by assumption) ?_
              rotate_left 1
              · intro w hSw
                go_simp
                with_reducible rfl
              simp only [Act.put, List.setIfInBounds_toArray, List.set_cons_zero, List.set_cons_succ]
              refine wpAnyH_take (i := 9) (v := ?_) (by simp only [List.getElem?_toArray, List.getElem?_cons_zero, List.getElem?_cons_succ]; rfl) (by kernel_rfl) (by kernel_rfl) (by kernel_rfl) (fun _ _ _ h => h) (Or.inl ⟨by rfl, ?_⟩) (by assumption) ?_
              rotate_left 1
              · intro w hSw
                go_simp
                with_reducible rfl
              simp only [Act.put, List.setIfInBounds_toArray, List.set_cons_zero, List.set_cons_succ]
              refine wpAnyH_take (i := 10) (v := ?_) (by simp only [List.getElem?_toArray, List.getElem?_cons_zero, List.getElem?_cons_succ]; rfl) (by kernel_rfl) (by kernel_rfl) (by kernel_rfl) (fun _ _ _ h => h) (Or.inl ⟨by rfl, ?_⟩) (by assumption) ?_
              rotate_left 1
              · intro w hSw
                have u3 := hSw.2
                go_simp
                with_reducible rfl
              simp only [Act.put, List.setIfInBounds_toArray, List.set_cons_zero, List.set_cons_succ]
              refine wpAnyH_take (i := 11) (v := ?_) (by simp only [List.getElem?_toArray, List.getElem?_cons_zero, List.getElem?_cons_succ]; rfl) (by kernel_rfl) (by kernel_rfl) (by kernel_rfl) (fun _ _ _ h => h) (Or.inl ⟨by rfl, ?_⟩) (by assumption) ?_
              rotate_left 1
              · intro w hSw
                go_simp
                with_reducible rfl
              simp only [Act.put, List.setIfInBounds_toArray, List.set_cons_zero, List.set_cons_succ]
              refine wpAnyH_take (i := 12) (v := ?_) (by simp only [List.getElem?_toArray, List.getElem?_cons_zero, List.getElem?_cons_succ]; rfl) (by kernel_rfl) (by kernel_rfl) (by kernel_rfl) (fun _ _ _ h => h) (Or.inl ⟨by rfl, ?_⟩) (by assumption) ?_
              rotate_left 1
              · intro w hSw
                go_simp
                with_reducible rfl
              simp only [Act.put, List.setIfInBounds_toArray, List.set_cons_zero, List.set_cons_succ]
              refine wpAnyH_take (i := 13) (v := ?_) (by simp only [List.getElem?_toArray, List.getElem?_cons_zero, List.getElem?_cons_succ]; rfl) (by kernel_rfl) (by kernel_rfl) (by kernel_rfl) (fun _ _ _ h => h) (Or.inl ⟨by rfl, ?_⟩) (by assumption) ?_
              rotate_left 1
              · intro w hSw
                go_simp
                with_reducible rfl
              simp only [Act.put, List.setIfInBounds_toArray, List.set_cons_zero, List.set_cons_succ]
              refine wpAnyH_ready (rs := [14]) (by kernel_rfl) (by simp) ?_
              refine AllReadyH.cons (by simp only [List.getElem?_toArray, List.getElem?_cons_zero, List.getElem?_cons_succ]; rfl) (fun K hK => ?_) AllReadyH.nil
              go_simp
              refine hK.out _ _ ⟨HBO.out.trans (z1.mono HBO.out.size), HC3.out _ z1⟩ (fun hS => ?_)
              clear hK K hS
              refine wpAnyH_ready (rs := [15]) (by kernel_rfl) (by simp) ?_
              refine AllReadyH.cons (by simp only [List.getElem?_toArray, List.getElem?_cons_zero, List.getElem?_cons_succ]; rfl) (fun K hK => ?_) (AllReadyH.nil)
              go_simp
              refine (sk_send1 SZ.out (conv_bytes t wo.drew) HTL.out).mono ?_
              rintro e3 w3 ⟨m3, rfl, zs3, o3, h3⟩
              have hz2 := And.intro h3.below (HCW.out _ h3.below)
              refine hK.out _ _ hz2 (fun hS => ?_)
              clear hK K hS
              refine wpAnyH_done (by kernel_rfl) ?_ _
              refine NoPanic.normal ?_
              have S3 := hid h3
              clear h3 hz2 z0 z1
              go_wp2
              go_roundw
              case rel => exact ⟨j + 1, _, _, by omega, by go_num, by rw [upd_ne _ _ (by decide)]; exact HS.out.1, S3.out⟩
              case measure => simp [intOf]; omega
            · have k1 : (2000 : Int) < (sd.size : Int) := by omega
              have k3 : (2000 : Int) ≤ (sd.size : Int) := by omega
              clear hsd
              go_wp2_with (fail)
              have z0 : Below wo.heap.size wo wo.drew := (Below.refl _ _).drew
              have z1 : Below wo.heap.size wo (Lib.bytesWorld wo.drew 5 t) := z0.trans (conv_below t wo.drew)
              have SZ : Hid (Sk w (Lib.bytesWorld wo.drew 5 t) w.heap.size xs 0 o (0, 0)) := HS.out.2.kept z1
              have HTL : Hid ((tl t).length ≤ 500000) := by show _ ≤ _; rw [tl_length]; have := HT.out; omega
              refine wp_region_noPanic ?_
              refine wp_region_held_drew (S := fun W => Below w.heap.size w W ∧ (W.cell? ⟨bp, off + j * 4 + 3, none⟩ = some (.string sd))) (by kernel_rfl) (⟨HBO.out.trans (z0.mono HBO.out.size), HC3.out _ z0⟩) (fun hS => ?_)
              refine wpAnyH_take (i := 0) (v := ?_) (by simp only [List.getElem?_toArray, List.getElem?_cons_zero]; rfl) (by kernel_rfl) (by kernel_rfl) (by kernel_rfl) (fun _ _ _ h => h) (Or.inl ⟨by rfl, ?_⟩) (by assumption) ?_
              rotate_left 1
              · intro w hSw
                go_simp
                with_reducible rfl
              simp only [Act.put, List.setIfInBounds_toArray, List.set_cons_zero, List.set_cons_succ]
              refine wpAnyH_take (i := 1) (v := ?_) (by simp only [List.getElem?_toArray, List.getElem?_cons_zero, List.getElem?_cons_succ]; rfl) (by kernel_rfl) (by kernel_rfl) (by kernel_rfl) (fun _ _ _ h => h) (Or.inl ⟨by rfl, ?_⟩) (by assumption) ?_
              rotate_left 1
              · intro w hSw
                go_simp
                with_reducible rfl
              simp only [Act.put, List.setIfInBounds_toArray, List.set_cons_zero, List.set_cons_succ]
              refine wpAnyH_take (i := 2) (v := ?_) (by simp only [List.getElem?_toArray, List.getElem?_cons_zero, List.getElem?_cons_succ]; rfl) (by kernel_rfl) (by kernel_rfl) (by kernel_rfl) (fun _ _ _ h => h) (Or.inl ⟨by rfl, ?_⟩) (by assumption) ?_
              rotate_left 1
              · intro w hSw
                go_simp
                with_reducible rfl
              simp only [Act.put, List.setIfInBounds_toArray, List.set_cons_zero, List.set_cons_succ]
              refine wpAnyH_take (i := 3) (v := ?_) (by simp only [List.getElem?_toArray, List.getElem?_cons_zero, List.getElem?_cons_succ]; rfl) (by kernel_rfl) (by kernel_rfl) (by kernel_rfl) (fun _ _ _ h => h) (Or.inl ⟨by rfl, ?_⟩) (by assumption) ?_
              rotate_left 1
              · intro w hSw
                go_simp
                with_reducible rfl
              simp only [Act.put, List.setIfInBounds_toArray, List.set_cons_zero, List.set_cons_succ]
              refine wpAnyH_take (i := 4) (v := ?_) (by simp only [List.getElem?_toArray, List.getElem?_cons_zero, List.getElem?_cons_succ]; rfl) (by kernel_rfl) (by kernel_rfl) (by kernel_rfl) (fun _ _ _ h => h) (Or.inl ⟨by rfl, ?_⟩) (by assumption) ?_
              rotate_left 1
              · intro w hSw
                go_simp
                with_reducible rfl
              simp only [Act.put, List.setIfInBounds_toArray, List.set_cons_zero, List.set_cons_succ]
              refine wpAnyH_take (i := 5) (v := ?_) (by simp only [List.getElem?_toArray, List.getElem?_cons_zero, List.getElem?_cons_succ]; rfl) (by kernel_rfl) (by kernel_rfl) (by kernel_rfl) (fun _ _ _ h => h) (Or.inl ⟨by rfl, ?_⟩) (by assumption) ?_
              rotate_left 1
              · intro w hSw
                have u3 := hSw.2
                go_simp
                with_reducible rfl
              simp only [Act.put, List.setIfInBounds_toArray, List.set_cons_zero, List.set_cons_succ]
              refine wpAnyH_take (i := 6) (v := ?_) (by simp only [List.getElem?_toArray, List.getElem?_cons_zero, List.getElem?_cons_succ]; rfl) (by kernel_rfl) (by kernel_rfl) (by kernel_rfl) (fun _ _ _ h => h) (Or.inl ⟨by rfl, ?_⟩) (by assumption) ?_
              rotate_left 1
              · intro w hSw
                go_simp
                with_reducible rfl
              simp only [Act.put, List.setIfInBounds_toArray, List.set_cons_zero, List.set_cons_succ]
              refine wpAnyH_take (i := 7) (v := ?_) (by simp only [List.getElem?_toArray, List.getElem?_cons_zero, List.getElem?_cons_succ]; rfl) (by kernel_rfl) (by kernel_rfl) (by kernel_rfl) (fun _ _ _ h => h) (Or.inl ⟨by rfl, ?_⟩) (by assumption) ?_
              rotate_left 1
              · intro w hSw
                go_simp
                with_reducible rfl
              simp only [Act.put, List.setIfInBounds_toArray, List.set_cons_zero, List.set_cons_succ]
              refine wpAnyH_take (i := 8) (v := ?_) (by simp only [List.getElem?_toArray, List.getElem?_cons_zero, List.getElem?_cons_succ]; rfl) (by kernel_rfl) (by kernel_rfl) (by kernel_rfl) (fun _ _ _ h => h) (Or.inl ⟨by rfl, ?_⟩) (by assumption) ?_
              rotate_left 1
              · intro w hSw
                go_simp
                with_reducible rfl
              simp only [Act.put, List.setIfInBounds_toArray, List.set_cons_zero, List.set_cons_succ]
              refine wpAnyH_take (i := 9) (v := ?_) (by simp only [List.getElem?_toArray, List.getElem?_cons_zero, List.getElem?_cons_succ]; rfl) (by kernel_rfl) (by kernel_rfl) (by kernel_rfl) (fun _ _ _ h => h) (Or.inl ⟨by rfl, ?_⟩) (by assumption) ?_
              rotate_left 1
              · intro w hSw
                go_simp
                with_reducible rfl
              simp only [Act.put, List.setIfInBounds_toArray, List.set_cons_zero, List.set_cons_succ]
              refine wpAnyH_take (i := 10) (v := ?_) (by simp only [List.getElem?_toArray, List.getElem?_cons_zero, List.getElem?_cons_succ]; rfl) (by kernel_rfl) (by kernel_rfl) (by kernel_rfl) (fun _ _ _ h => h) (Or.inl ⟨by rfl, ?_⟩) (by assumption) ?_
              rotate_left 1
              · intro w hSw
                have u3 := hSw.2
                go_simp
                with_reducible rfl
              simp only [Act.put, List.setIfInBounds_toArray, List.set_cons_zero, List.set_cons_succ]
              refine wpAnyH_take (i := 11) (v := ?_) (by simp only [List.getElem?_toArray, List.getElem?_cons_zero, List.getElem?_cons_succ]; rfl) (by kernel_rfl) (by kernel_rfl) (by kernel_rfl) (fun _ _ _ h => h) (Or.inl ⟨by rfl, ?_⟩) (by assumption) ?_
              rotate_left 1
              · intro w hSw
                go_simp
                with_reducible rfl
              simp only [Act.put, List.setIfInBounds_toArray, List.set_cons_zero, List.set_cons_succ]
              refine wpAnyH_take (i := 12) (v := ?_) (by simp only [List.getElem?_toArray, List.getElem?_cons_zero, List.getElem?_cons_succ]; rfl) (by kernel_rfl) (by kernel_rfl) (by kernel_rfl) (fun _ _ _ h => h) (Or.inl ⟨by rfl, ?_⟩) (by assumption) ?_
              rotate_left 1
              · intro w hSw
                go_simp
                with_reducible rfl
              simp only [Act.put, List.setIfInBounds_toArray, List.set_cons_zero, List.set_cons_succ]
              refine wpAnyH_take (i := 13) (v := ?_) (by simp only [List.getElem?_toArray, List.getElem?_cons_zero, List.getElem?_cons_succ]; rfl) (by kernel_rfl) (by kernel_rfl) (by kernel_rfl) (fun _ _ _ h => h) (Or.inl ⟨by rfl, ?_⟩) (by assumption) ?_
              rotate_left 1
              · intro w hSw
                go_simp
                with_reducible rfl
              simp only [Act.put, List.setIfInBounds_toArray, List.set_cons_zero, List.set_cons_succ]
              refine wpAnyH_ready (rs := [14]) (by kernel_rfl) (by simp) ?_
              refine AllReadyH.cons (by simp only [List.getElem?_toArray, List.getElem?_cons_zero, List.getElem?_cons_succ]; rfl) (fun K hK => ?_) AllReadyH.nil
              go_simp
              refine hK.out _ _ ⟨HBO.out.trans (z1.mono HBO.out.size), HC3.out _ z1⟩ (fun hS => ?_)
              clear hK K hS
              refine wpAnyH_ready (rs := [15]) (by kernel_rfl) (by simp) ?_
              refine AllReadyH.cons (by simp only [List.getElem?_toArray, List.getElem?_cons_zero, List.getElem?_cons_succ]; rfl) (fun K hK => ?_) (AllReadyH.nil)
              go_simp
              refine (sk_send1 SZ.out (conv_bytes t wo.drew) HTL.out).mono ?_
              rintro e3 w3 ⟨m3, rfl, zs3, o3, h3⟩
              have hz2 := And.intro h3.below (HCW.out _ h3.below)
              refine hK.out _ _ hz2 (fun hS => ?_)
              clear hK K hS
              refine wpAnyH_done (by kernel_rfl) ?_ _
              refine NoPanic.normal ?_
              have S3 := hid h3
              clear h3 hz2 z0 z1
              go_wp2
              go_roundw
              case rel => exact ⟨j + 1, _, _, by omega, by go_num, by rw [upd_ne _ _ (by decide)]; exact HS.out.1, S3.out⟩
              case measure => simp [intOf]; omega
          · have gr : (r == 0) = false := by simpa using hr0
            clear hr0
            go_wp2_with (fail)
            refine (sk_deliver2' nn HS.out.2).mono ?_
            rintro e3 w3 ⟨v3, rfl, zs3, o3, h3⟩
            have S3 := hid h3
            clear h3
            go_wp2
            go_roundw
            case rel => exact ⟨j + 1, _, _, by omega, by go_num, by rw [upd_ne _ _ (by decide)]; exact HS.out.1, S3.out⟩
            case measure => simp [intOf]; omega
        · have g1 : (j : Int) < (n : Int) := by omega
          have g2 : ¬ (j : Int) < 100 := by omega
          clear hlt hlt2 hj
          obtain ⟨xn, hxn⟩ : ∃ xn, wo.heap.size = xn := ⟨_, rfl⟩
          have hq : ((u.size : Nat) : Int) = min (u.size : Int) ((xs 0).length : Int) := by rw [HS.out.1, tl_length]; omega
          have CD := hid (sk_deliver 0 (by decide) 1 (by decide) (u.size : Int) (by omega) u.size hq HS.out.2)
          rw [HS.out.1] at CD
          clear hq hxn xn
          go_wp2_with (fail)
          refine CD.out.mono ?_
          rintro e3 w3 ⟨A3, y3, rfl, p3, h3, _⟩
          obtain ⟨off3, by3⟩ := p3.bytes
          have cv : (convert 26 9 (.slice A3 u.size u.size)).run Try.prog w3 = .ok (.string u) w3 := by
            have := conv_back by3
            rw [List.take_of_length_le (by rw [tl_length]; exact Nat.le_refl _), ba_tl] at this
            exact this
          have S3 := hid h3
          have HZ : Hid ((upd xs 0 (List.drop u.size (tl u)) 0).length = 0) := by show _ = _; rw [upd_at, List.length_drop, tl_length, Nat.sub_self]
          clear p3 h3 by3 CD
          go_wp2_with (fail)
          refine (sk_left 0 (by decide) 1 (by decide) S3.out).mono ?_
          rintro e4 w4 ⟨rfl, h4, _⟩
          rw [HZ.out]
          have B4 := hid h4.below
          have CW := hid (works_any w4 (Nat.lt_of_lt_of_le HP.out B4.out.size))
          clear h4
          go_wp2_with (fail)
          refine CW.out.mono ?_
          rintro e5 w5 ⟨rfl, b5⟩
          have B5 : Hid (Below w.heap.size w w5) := B4.out.trans (b5.mono B4.out.size)
          clear b5
          go_wp2
          go_ret
          exact ⟨rfl, B5.out⟩
      · have g1 : ¬ (j : Int) < (n : Int) := by omega
        clear hlt hj
        obtain ⟨xn, hxn⟩ : ∃ xn, wo.heap.size = xn := ⟨_, rfl⟩
        have hq : ((u.size : Nat) : Int) = min (u.size : Int) ((xs 0).length : Int) := by rw [HS.out.1, tl_length]; omega
        have CD := hid (sk_deliver 0 (by decide) 1 (by decide) (u.size : Int) (by omega) u.size hq HS.out.2)
        rw [HS.out.1] at CD
        clear hq hxn xn
        go_wp2_with (fail)
        refine CD.out.mono ?_
        rintro e3 w3 ⟨A3, y3, rfl, p3, h3, _⟩
        obtain ⟨off3, by3⟩ := p3.bytes
        have cv : (convert 26 9 (.slice A3 u.size u.size)).run Try.prog w3 = .ok (.string u) w3 := by
          have := conv_back by3
          rw [List.take_of_length_le (by rw [tl_length]; exact Nat.le_refl _), ba_tl] at this
          exact this
        have S3 := hid h3
        have HZ : Hid ((upd xs 0 (List.drop u.size (tl u)) 0).length = 0) := by show _ = _; rw [upd_at, List.length_drop, tl_length, Nat.sub_self]
        clear p3 h3 by3 CD
        go_wp2_with (fail)
        refine (sk_left 0 (by decide) 1 (by decide) S3.out).mono ?_
        rintro e4 w4 ⟨rfl, h4, _⟩
        rw [HZ.out]
        have B4 := hid h4.below
        have CW := hid (works_any w4 (Nat.lt_of_lt_of_le HP.out B4.out.size))
        clear h4
        go_wp2_with (fail)
        refine CW.out.mono ?_
        rintro e5 w5 ⟨rfl, b5⟩
        have B5 : Hid (Below w.heap.size w w5) := B4.out.trans (b5.mono B4.out.size)
        clear b5
        go_wp2
        go_ret
        exact ⟨rfl, B5.out⟩
end Go.Proofs.Ytcfmjebnjjpajaa
