/- The walk of BlockNear. Conditions: the listed table; bytes in a block of the world. -/
import Derived.Test.YtlcdkponegmcdaaDoorED
namespace Go.Proofs.YtlcdkponegmcdaaDoor
open Go.RowKit
theorem run_hash_neq (xs ys : List UInt8) (hx : xs.length = 32) (hy : ys.length = 32) (w : World) :
    (binOp .neq 27 (.agg (hvec xs)) (.agg (hvec ys))).run Tryd.prog w = .ok (.bool (!same8 xs ys)) w := by
  rw [run_neq_struct, run_hash_equal xs ys hx hy]
  rfl
theorem yields_neq_h {ops : Array Oper} {S : World → Prop} {o : Oper} {a : Act} (hw : Region.wanted o (yielded ops a.tmps) = true) (x y : Operand) (ho : o.op = .binOp .neq 27 x y 27) (l m : List UInt8) (hx : a.eval x = .agg (hvec l)) (hy : a.eval y = .agg (hvec m)) (hl : l.length = 32) (hm : m.length = 32)
    (b : Bool) (hb : (!same8 l m) = b) : YieldsIf Tryd.prog ops S o (.bool b) a :=
  .inl ⟨hw, fun w _ => by
    unfold execOp
    simp only [ho, hx, hy, Sem.run_bind, run_eqGuard_agg w .neq 27 x y _ _ eqGH, run_hash_neq l m hl hm w, Result.andThen_ok, hb, Sem.run_pure]⟩
/-- Two lists side by side. -/
structure L2 (v1 v2 : Value) (h1 h2 : List (List UInt8)) (W : World) : Prop where
  a : Dgs 0 W v1 h1
  b : Dgs 0 W v2 h2
theorem L2.on {v1 v2 : Value} {h1 h2 : List (List UInt8)} {W W' : World} (h : L2 v1 v2 h1 h2 W) (hb : Below W.heap.size W W') : L2 v1 v2 h1 h2 W' := ⟨h.a.kept hb (Nat.le_refl _), h.b.kept hb (Nat.le_refl _)⟩
set_option maxRecDepth 100000 in
theorem Dgs.ld {W : World} {g c n : Nat} {hs : List (List UInt8)} (h : Dgs 0 W (.slice (some ⟨g, 0, none⟩) n c) hs) (i : Nat) (hi : i < hs.length) (d : List UInt8) (hd : hs[i] = d) : (loadVar 27 ⟨g, i * 32, none⟩).run Tryd.prog W = .ok (.agg (hvec d)) W := by
  obtain ⟨g9, c9, hv9, _, _, hl9⟩ := h.at_ i hi
  injection hv9 with hv9
  injection hv9 with hv9
  injection hv9 with hv9
  subst hv9
  rw [hd] at hl9
  exact hl9
theorem part_set (xs : List UInt8) (k : Nat) (c : UInt8) (i : Nat) (hi : i ≠ k / szL xs.length) : partL (xs.set k c) i = partL xs i := by
  have hp := szL_pos xs.length
  unfold partL
  rw [List.length_set]
  generalize szL xs.length = s at hi hp ⊢
  apply List.ext_getElem?
  intro j
  by_cases hj : j < s
  · rw [List.getElem?_take_of_lt hj, List.getElem?_take_of_lt hj, List.getElem?_drop, List.getElem?_drop, List.getElem?_set_ne]
    intro e
    apply hi
    rw [e]
    rw [Nat.mul_comm, Nat.mul_add_div hp, Nat.div_eq_of_lt hj]
    rfl
  · rw [List.getElem?_eq_none (by rw [List.length_take]; omega), List.getElem?_eq_none (by rw [List.length_take]; omega)]
theorem set_same (xs : List UInt8) (k : Nat) (c : UInt8) (hk : k < xs.length) (h : at8 xs k = c) : xs.set k c = xs := by
  apply List.ext_getElem (by simp)
  intro i h1 h2
  rw [List.getElem_set]
  split
  · rename_i e
    subst e
    rw [← h, at8, List.getD, List.getElem?_eq_getElem hk]; rfl
  · rfl
theorem fresh_set {B : Nat} {w : World} {g c n : Nat} {xs : List UInt8} (h : Fresh B w (.slice (some ⟨g, 0, none⟩) n c) xs) (hn : xs.length = n) (k : Nat) (x : UInt8) (hk : k < n) :
    (∃ u, w.cell? ⟨g, k, none⟩ = some u) ∧ w.frozen? ⟨g, k, none⟩ = false ∧ Fresh B (w.setCell ⟨g, k, none⟩ (.int .u8 (b8 x))) (.slice (some ⟨g, 0, none⟩) n c) (xs.set k x) := by
  subst hn
  have hc := World.ownsRow.cellAt (g := g) (cap := c) h k (by omega)
  have hf := World.ownsRow.frozenAt (g := g) (cap := c) h k
  refine ⟨⟨V8 (at8 xs k), by rw [hc]; exact get_map hk⟩, hf, ?_⟩
  have := World.ownsRow.stored (g := g) (cap := c) h k (.int .u8 (b8 x))
  unfold Fresh
  rw [List.length_set, List.map_set]
  exact this.1
theorem rem_nat (n m : Nat) : (n : Int).tmod (m : Int) = ((n % m : Nat) : Int) := by
  rw [Int.tmod_eq_emod_of_nonneg (by omega)]; omega
theorem wrap_small (x : Nat) (h : x ≤ 100000) : IntKind.i64.wrap (x : Int) = x := i64in _ (by omega) (by omega)
theorem wrap64_small (x : Nat) (h : x ≤ 100000) : wrap64 (x : Int) = x := by simp only [wrap64]; omega
theorem cnt_iff (n k : Nat) : k * szL n < n ↔ k < cntL n := by
  have hp := szL_pos n
  rw [cntL, Nat.lt_div_iff_mul_lt hp]
  constructor <;> intro h <;> omega
/-- What the last region reads. -/
structure L3 (v1 v2 : Value) (h1 h2 : List (List UInt8)) (bb j : Nat) (z : Int) (W : World) : Prop where
  l : L2 v1 v2 h1 h2 W
  c : W.cell? ⟨bb, j, none⟩ = some (.int .u8 z)
theorem L3.on {v1 v2 : Value} {h1 h2 : List (List UInt8)} {bb j : Nat} {z : Int} {W W' : World} (h : L3 v1 v2 h1 h2 bb j z W) (hb : Below W.heap.size W W') : L3 v1 v2 h1 h2 bb j z W' := ⟨h.l.on hb, (hb.cell (block_lt_of_cell h.c)).trans h.c⟩
set_option maxRecDepth 100000 in
set_option maxHeartbeats 4000000 in
theorem near_no (v : Value) (xs : List UInt8) (A : Option Addr) (cap bb off : Nat) (i : Nat) (c : UInt8) (w : World) (h : Bytes w v xs A cap bb off) (hT : Sha.Tab w) (hl : xs.length = 0 ∨ 4096 < xs.length) :
    Calls Tryd.prog 9 #[v, .int .u16 (i : Int), .int .u8 (b8 c)] w fun e w' => e = .returned (.bool true) ∧ Below w.heap.size w w' := by
  obtain rfl := h.form
  obtain ⟨n, HN⟩ : ∃ n, Hid (xs.length = n) := ⟨_, rfl⟩
  rw [HN.out] at hl ⊢
  have CA := hid (awake_any w hT)
  rcases hl with hl | hl
  · have h1 : (n : Int) = 0 := by omega
    clear h hl hT
    go_enter Tryd.func9, Tryd.ntmps9
    go_wp2_with (go_at_call 14; refine CA.out.mono ?_; rintro e5 w5 ⟨rfl, hb5⟩)
    go_ret
    exact ⟨rfl, hb5⟩
  · have h1 : ¬ (n : Int) = 0 := by omega
    have h2 : (4096 : Int) < (n : Int) := by omega
    clear h hl hT
    go_enter Tryd.func9, Tryd.ntmps9
    go_wp2_with (go_at_call 14; refine CA.out.mono ?_; rintro e5 w5 ⟨rfl, hb5⟩)
    go_ret
    exact ⟨rfl, hb5⟩
set_option maxRecDepth 100000 in
set_option maxHeartbeats 8000000 in
theorem near_any (v : Value) (xs : List UInt8) (A : Option Addr) (cap bb off : Nat) (at0 : Nat) (hat : at0 < 65536) (tb : UInt8) (w : World) (h : Bytes w v xs A cap bb off) (hT : Sha.Tab w) :
    Calls Tryd.prog 9 #[v, .int .u16 (at0 : Int), .int .u8 (b8 tb)] w fun e w' => e = .returned (.bool true) ∧ Below w.heap.size w w' := by
  by_cases hno : xs.length = 0 ∨ 4096 < xs.length
  · exact near_no v xs A cap bb off at0 tb w h hT hno
  have hl : xs.length ≤ 4096 := by omega
  have hl0 : 0 < xs.length := by omega
  have hsrc := h.src hl0
  subst hsrc
  have e0 := h.form
  have HBY := hid h
  have HT := hid hT
  have HPOS := hid hT.pos
  obtain ⟨n, HN⟩ : ∃ n, Hid (xs.length = n) := ⟨_, rfl⟩
  obtain ⟨s, HS⟩ : ∃ s, Hid (szL xs.length = s) := ⟨_, rfl⟩
  obtain ⟨c, HC⟩ : ∃ c, Hid (cntL xs.length = c) := ⟨_, rfl⟩
  obtain ⟨k, HK⟩ : ∃ k, Hid (at0 % n = k) := ⟨_, rfl⟩
  have hkn : k < n := by rw [← HK.out]; exact Nat.mod_lt _ (by have := HN.out; omega)
  obtain ⟨kk, HKK⟩ : ∃ kk, Hid (k / s = kk) := ⟨_, rfl⟩
  have hs16 := szL_cases xs.length
  rw [HS.out] at hs16
  have hkc : kk < c := by
    have h1 := (cnt_iff xs.length kk).1 (by
      rw [HS.out, HN.out, ← HKK.out]
      exact Nat.lt_of_le_of_lt (Nat.div_mul_le_self k s) hkn)
    rw [HC.out] at h1; exact h1
  have hc32 : c ≤ 32 := by rw [← HC.out]; exact cntL_le _ hl
  obtain ⟨ys, HYS⟩ : ∃ ys, Hid (xs.set k tb = ys) := ⟨_, rfl⟩
  have HYL : Hid (ys.length = n) := by show _ = _; rw [← HYS.out, List.length_set, HN.out]
  obtain ⟨ha, HHA⟩ : ∃ ha, Hid (hashes xs = ha) := ⟨_, rfl⟩
  obtain ⟨hb, HHB⟩ : ∃ hb, Hid (hashes ys = hb) := ⟨_, rfl⟩
  have HAL : Hid (ha.length = c) := by show _ = _; rw [← HHA.out, hashes_len, HC.out]
  have HBL : Hid (hb.length = c) := by show _ = _; rw [← HHB.out, hashes_len, HYL.out, ← HN.out, HC.out]
  have HSAME : Hid (∀ i (hi : i < c), i ≠ kk → ha[i]'(by rw [HAL.out]; exact hi) = hb[i]'(by rw [HBL.out]; exact hi)) := fun i hi hne => by
    have h1 := hashes_at xs i (by rw [HC.out]; exact hi)
    have h2 := hashes_at ys i (by rw [HYL.out, ← HN.out, HC.out]; exact hi)
    have e1 := HHA.out
    have e2 := HHB.out
    subst e1
    subst e2
    rw [h1, h2, ← HYS.out, part_set xs k tb i (by rw [HS.out, HKK.out]; exact hne)]
  have HSAM2 : Hid (at8 xs k = tb → ha = hb) := fun he => by
    rw [← HHA.out, ← HHB.out, ← HYS.out, set_same xs k tb (by rw [HN.out]; exact hkn) he]
  have hb0 : Below w.heap.size w (w.alloc (.cells #[] 5)) := (Below.refl _ _).alloc (Nat.le_refl _) _
  have h0 : Fresh w.heap.size (w.alloc (.cells #[] 5)) (.slice (some ⟨w.heap.size, 0, none⟩) 0 0) [] := World.ownsRow_made w #[] 0 (Nat.le_refl _) (by unfold maxLen; omega) rfl
  obtain ⟨v1, w1, hr1, hf1, hg1⟩ := fresh_app h0 (h.kept hb0 (Nat.le_refl _)) (by simp; omega) (by simp)
  have B1 : Below w.heap.size w w1 := hb0.grown hg1 (by simp) (fun g hg => by have hg : w.heap.size = g := Option.some.inj hg; omega)
  rw [List.nil_append] at hf1
  have hform : ∃ g c1, v1 = .slice (some ⟨g, 0, none⟩) n c1 := by
    rcases hf1.2 with ⟨_, k2⟩ | ⟨g, c1, cur, k1, _⟩
    · omega
    · exact ⟨g, c1, by rw [k1, HN.out]⟩
  obtain ⟨g, c1, rfl⟩ := hform
  obtain ⟨⟨u0, hcell⟩, hfro, hf2⟩ := fresh_set hf1 HN.out k tb hkn
  rw [HYS.out] at hf2
  have hgw : w.heap.size ≤ g := (World.ownsRow.lt hf1 g rfl).1
  obtain ⟨W2, HW2⟩ : ∃ W2, Hid (w1.setCell ⟨g, k, none⟩ (.int .u8 (b8 tb)) = W2) := ⟨_, rfl⟩
  have B2 : Below w.heap.size w W2 := by rw [← HW2.out]; exact B1.grown (Grw.of_set g k w1 _) B1.size (fun k hk => by have hk : g = k := Option.some.inj hk; omega)
  rw [HW2.out] at hf2
  have CL1 := hid (list_any v xs _ cap bb off W2 (hT.kept B2 hT.pos) (h.kept B2 (Nat.le_refl _)) hl)
  rw [HHA.out] at CL1
  have HF2 := hid hf2
  have HB2 := hid B2
  have HR1 := hid hr1
  have CZ := hid (size_any (xs.length : Int))
  rw [sizeI_nat _ hl, HS.out, HN.out] at CZ
  have hn : n ≤ 4096 := by rw [← HN.out]; exact hl
  rw [e0, HN.out] at CL1 HR1 HBY ⊢
  have r1 : IntKind.i64.wrap (at0 : Int) = (at0 : Int) := i64in _ (by omega) (by omega)
  have r2 : (at0 : Int).tmod (n : Int) = (k : Int) := by rw [← HK.out]; exact rem_nat at0 n
  have r3 : ¬ (n : Int) = 0 := by have := HN.out; omega
  have r4 : ¬ (4096 : Int) < (n : Int) := by omega
  have r5 : (k : Int) < (n : Int) := by omega
  have r6 : ¬ (s : Int) = 0 := by omega
  have r7 : ¬ (s : Int) < 1 := by omega
  have r9 : ¬ (c : Int) ≤ (kk : Int) := by omega
  have r10 : (kk : Int) < (c : Int) := by omega
  have hcz := h.cells k (by rw [HN.out]; exact hkn)
  obtain ⟨z, HZ⟩ : ∃ z, Hid (b8 (at8 xs k) = z) := ⟨_, rfl⟩
  unfold V8 at hcz
  rw [HZ.out] at hcz
  have HCZ := hid hcz
  obtain ⟨zt, HZT⟩ : ∃ zt, Hid (b8 tb = zt) := ⟨_, rfl⟩
  have HSAM3 : Hid (zt = z → ha = hb) := fun he => HSAM2.out (b8_inj (by rw [HZ.out, HZT.out]; exact he.symm))
  have hkk1 : kk ≤ 100000 := by omega
  clear hs16
  have r8b : IntKind.i64.wrap ((k : Int) / (s : Int)) = (kk : Int) := by
    rw [← Int.natCast_ediv, HKK.out]
    exact wrap_small kk hkk1
  have HR8 := hid r8b
  clear r8b
  have r8 : wrap64 ((k : Int) / (s : Int)) = (kk : Int) := by
    rw [← Int.natCast_ediv, HKK.out]
    exact wrap64_small kk hkk1
  rw [HZT.out] at HW2 ⊢
  clear h hT hl hl0 e0 hno hb0 h0 hr1 hf1 hg1 B1 hf2 B2 hcz hat
  go_enter Tryd.func9, Tryd.ntmps9
  go_wp2_with (first
    | (refine wpList_append_run rfl (.tmp 29) (.tmp 30) 25 25 rfl ⟨_, _, HR1.out, ?_⟩)
    | fail)
  generalize hWW : World.setCell _ _ _ = W0
  obtain rfl : W2 = W0 := HW2.out.symm.trans hWW
  clear hWW hcell hfro
  refine CL1.out.mono ?_
  rintro e3 w3 ⟨va, rfl, hd3, hb3⟩
  have D3 : Hid (Dgs 0 w3 va ha) := hd3.mono (Nat.zero_le _)
  have B3 : Hid (Below w.heap.size w w3) := HB2.out.trans (hb3.mono HB2.out.size)
  obtain ⟨ga, ca, rfl, -⟩ := D3.out.at_ 0 (by rw [HAL.out]; omega)
  rw [HAL.out] at D3
  obtain ⟨Ay, cy, by_, hy3, _, _⟩ := Fresh.bytes (fresh_kept HF2.out hb3) (Nat.lt_of_lt_of_le HPOS.out B3.out.size)
  have CL2 := hid (list_any _ ys _ _ _ _ w3 (HT.out.kept B3.out HPOS.out) hy3 (by rw [HYL.out]; exact hn))
  rw [HHB.out] at CL2
  clear hd3 hb3 hy3
  rw [HAL.out]
  go_wp2_with (fail)
  refine CL2.out.mono ?_
  rintro e4 w4 ⟨vb, rfl, hd4, hb4⟩
  have D4 : Hid (Dgs 0 w4 vb hb) := hd4.mono (Nat.zero_le _)
  have B4 : Hid (Below w.heap.size w w4) := B3.out.trans (hb4.mono B3.out.size)
  obtain ⟨gb, cb1, rfl, -⟩ := D4.out.at_ 0 (by rw [HBL.out]; omega)
  rw [HBL.out] at D4
  have LL4 : Hid (L2 (.slice (some ⟨ga, 0, none⟩) c ca) (.slice (some ⟨gb, 0, none⟩) c cb1) ha hb w4) := ⟨D3.out.kept hb4 (Nat.le_refl _), D4.out⟩
  clear hd4 hb4
  rw [HBL.out]
  go_wp2_with (go_at_call 10; refine (CZ.out _).mono ?_; rintro e5 w5 ⟨rfl, rfl⟩)
  go_loopw [14] (fun b wr => ∃ i : Nat, i ≤ c ∧ b = .int .i64 (i : Int) ∧ Hid (L2 (.slice (some ⟨ga, 0, none⟩) c ca) (.slice (some ⟨gb, 0, none⟩) c cb1) ha hb wr) ∧ Hid (Below w.heap.size w wr)) (fun b _ => c - (intOf b).toNat)
  case atStart => exact ⟨0, by omega, rfl, LL4.out, B4.out⟩
  case round =>
    obtain ⟨i, hi, rfl, J1, J2⟩ := hrel
    by_cases hlt : i < c
    · have hlt2 : (i : Int) < (c : Int) := by omega
      have w1' : IntKind.i64.wrap ((i : Int) + 1) = (i : Int) + 1 := i64in _ (by omega) (by omega)
      have J1d : Hid (L2 (.slice (some ⟨ga, 0, none⟩) c ca) (.slice (some ⟨gb, 0, none⟩) c cb1) ha hb wr.drew) := hid (J1.out.on (Below.refl _ wr).drew)
      have J2d : Hid (Below w.heap.size w wr.drew) := hid J2.out.drew
      by_cases hik : i = kk
      · have hq2 : ((i : Int) == (kk : Int)) = true := by simp; omega
        have hq3 : ((i : Int) != (kk : Int)) = false := by simp; omega
        clear hik
        go_wp2
        have r8b := HR8.out
        refine wp_region_noPanic ?_
        refine wp_region_held_drew (S := L2 (.slice (some ⟨ga, 0, none⟩) c ca) (.slice (some ⟨gb, 0, none⟩) c cb1) ha hb) (by kernel_rfl) (J1d.out) (fun hS => ?_)
        refine wpAnyH_take (i := 0) (v := ?_) (by simp only [List.getElem?_toArray, List.getElem?_cons_zero]; rfl) (by kernel_rfl) (by kernel_rfl) (by kernel_rfl) (fun _ _ _ h => h) (Or.inl ⟨by rfl, ?_⟩) (by assumption) ?_
        rotate_left 1
        · intro w hSw
          go_simp
          try with_reducible rfl
        simp only [Act.put, List.setIfInBounds_toArray, List.set_cons_zero, List.set_cons_succ]
        refine wpAnyH_take (i := 1) (v := ?_) (by simp only [List.getElem?_toArray, List.getElem?_cons_zero, List.getElem?_cons_succ]; rfl) (by kernel_rfl) (by kernel_rfl) (by kernel_rfl) (fun _ _ _ h => h) (Or.inl ⟨by rfl, ?_⟩) (by assumption) ?_
        rotate_left 1
        · intro w hSw
          go_simp
          try with_reducible rfl
        simp only [Act.put, List.setIfInBounds_toArray, List.set_cons_zero, List.set_cons_succ]
        refine wpAnyH_take (i := 2) (v := ?_) (by simp only [List.getElem?_toArray, List.getElem?_cons_zero, List.getElem?_cons_succ]; rfl) (by kernel_rfl) (by kernel_rfl) (by kernel_rfl) (fun _ _ _ h => h) (Or.inl ⟨by rfl, ?_⟩) (by assumption) ?_
        rotate_left 1
        · intro w hSw
          go_simp
          try with_reducible rfl
        simp only [Act.put, List.setIfInBounds_toArray, List.set_cons_zero, List.set_cons_succ]
        refine wpAnyH_take (i := 3) (v := ?_) (by simp only [List.getElem?_toArray, List.getElem?_cons_zero, List.getElem?_cons_succ]; rfl) (by kernel_rfl) (by kernel_rfl) (by kernel_rfl) (fun _ _ _ h => h) (Or.inl ⟨by rfl, ?_⟩) (by assumption) ?_
        rotate_left 1
        · intro w hSw
          go_simp
          try with_reducible rfl
        simp only [Act.put, List.setIfInBounds_toArray, List.set_cons_zero, List.set_cons_succ]
        refine wpAnyH_take (i := 4) (v := ?_) (by simp only [List.getElem?_toArray, List.getElem?_cons_zero, List.getElem?_cons_succ]; rfl) (by kernel_rfl) (by kernel_rfl) (by kernel_rfl) (fun _ _ _ h => h) (Or.inl ⟨by rfl, ?_⟩) (by assumption) ?_
        rotate_left 1
        · intro w hSw
          go_simp
          try with_reducible rfl
        simp only [Act.put, List.setIfInBounds_toArray, List.set_cons_zero, List.set_cons_succ]
        refine wpAnyH_take (i := 5) (v := ?_) (by simp only [List.getElem?_toArray, List.getElem?_cons_zero, List.getElem?_cons_succ]; rfl) (by kernel_rfl) (by kernel_rfl) (by kernel_rfl) (fun _ _ _ h => h) (Or.inl ⟨by rfl, ?_⟩) (by assumption) ?_
        rotate_left 1
        · intro w hSw
          go_simp
          try with_reducible rfl
        simp only [Act.put, List.setIfInBounds_toArray, List.set_cons_zero, List.set_cons_succ]
        refine wpAnyH_take (i := 6) (v := undef) (by simp only [List.getElem?_toArray, List.getElem?_cons_zero, List.getElem?_cons_succ]; rfl) (by kernel_rfl) (by kernel_rfl) (by kernel_rfl) (fun _ _ _ h => h) (Or.inr ⟨by rfl, rfl⟩) (by assumption) ?_
        simp only [Act.put, List.setIfInBounds_toArray, List.set_cons_zero, List.set_cons_succ]
        refine wpAnyH_take (i := 7) (v := undef) (by simp only [List.getElem?_toArray, List.getElem?_cons_zero, List.getElem?_cons_succ]; rfl) (by kernel_rfl) (by kernel_rfl) (by kernel_rfl) (fun _ _ _ h => h) (Or.inr ⟨by rfl, rfl⟩) (by assumption) ?_
        simp only [Act.put, List.setIfInBounds_toArray, List.set_cons_zero, List.set_cons_succ]
        refine wpAnyH_take (i := 8) (v := undef) (by simp only [List.getElem?_toArray, List.getElem?_cons_zero, List.getElem?_cons_succ]; rfl) (by kernel_rfl) (by kernel_rfl) (by kernel_rfl) (fun _ _ _ h => h) (Or.inr ⟨by rfl, rfl⟩) (by assumption) ?_
        simp only [Act.put, List.setIfInBounds_toArray, List.set_cons_zero, List.set_cons_succ]
        refine wpAnyH_take (i := 9) (v := undef) (by simp only [List.getElem?_toArray, List.getElem?_cons_zero, List.getElem?_cons_succ]; rfl) (by kernel_rfl) (by kernel_rfl) (by kernel_rfl) (fun _ _ _ h => h) (Or.inr ⟨by rfl, rfl⟩) (by assumption) ?_
        simp only [Act.put, List.setIfInBounds_toArray, List.set_cons_zero, List.set_cons_succ]
        refine wpAnyH_take (i := 10) (v := undef) (by simp only [List.getElem?_toArray, List.getElem?_cons_zero, List.getElem?_cons_succ]; rfl) (by kernel_rfl) (by kernel_rfl) (by kernel_rfl) (fun _ _ _ h => h) (Or.inr ⟨by rfl, rfl⟩) (by assumption) ?_
        simp only [Act.put, List.setIfInBounds_toArray, List.set_cons_zero, List.set_cons_succ]
        refine wpAnyH_take (i := 11) (v := undef) (by simp only [List.getElem?_toArray, List.getElem?_cons_zero, List.getElem?_cons_succ]; rfl) (by kernel_rfl) (by kernel_rfl) (by kernel_rfl) (fun _ _ _ h => h) (Or.inr ⟨by rfl, rfl⟩) (by assumption) ?_
        simp only [Act.put, List.setIfInBounds_toArray, List.set_cons_zero, List.set_cons_succ]
        refine wpAnyH_take (i := 12) (v := undef) (by simp only [List.getElem?_toArray, List.getElem?_cons_zero, List.getElem?_cons_succ]; rfl) (by kernel_rfl) (by kernel_rfl) (by kernel_rfl) (fun _ _ _ h => h) (Or.inr ⟨by rfl, rfl⟩) (by assumption) ?_
        simp only [Act.put, List.setIfInBounds_toArray, List.set_cons_zero, List.set_cons_succ]
        refine wpAnyH_take (i := 13) (v := undef) (by simp only [List.getElem?_toArray, List.getElem?_cons_zero, List.getElem?_cons_succ]; rfl) (by kernel_rfl) (by kernel_rfl) (by kernel_rfl) (fun _ _ _ h => h) (Or.inr ⟨by rfl, rfl⟩) (by assumption) ?_
        simp only [Act.put, List.setIfInBounds_toArray, List.set_cons_zero, List.set_cons_succ]
        refine wpAnyH_take (i := 14) (v := undef) (by simp only [List.getElem?_toArray, List.getElem?_cons_zero, List.getElem?_cons_succ]; rfl) (by kernel_rfl) (by kernel_rfl) (by kernel_rfl) (fun _ _ _ h => h) (Or.inr ⟨by rfl, rfl⟩) (by assumption) ?_
        simp only [Act.put, List.setIfInBounds_toArray, List.set_cons_zero, List.set_cons_succ]
        refine wpAnyH_take (i := 15) (v := ?_) (by simp only [List.getElem?_toArray, List.getElem?_cons_zero, List.getElem?_cons_succ]; rfl) (by kernel_rfl) (by kernel_rfl) (by kernel_rfl) (fun _ _ _ h => h) (Or.inl ⟨by rfl, ?_⟩) (by assumption) ?_
        rotate_left 1
        · intro w hSw
          go_simp
          try with_reducible rfl
        simp only [Act.put, List.setIfInBounds_toArray, List.set_cons_zero, List.set_cons_succ]
        refine wpAnyH_done (by kernel_rfl) ?_ _
        refine NoPanic.normal ?_
        clear r8b
        go_wp2
        go_roundw
        case rel => exact ⟨i + 1, by omega, by go_num, J1d.out, J2d.out⟩
        case measure => simp [intOf]; omega
      · have hq : ¬ (i : Int) = (kk : Int) := by omega
        have hq2 : ((i : Int) == (kk : Int)) = false := by simp; omega
        have hq3 : ((i : Int) != (kk : Int)) = true := by simp; omega
        have hq4 : ¬ i = kk := hik
        have HIA : i < ha.length := by rw [HAL.out]; exact hlt
        have HIB : i < hb.length := by rw [HBL.out]; exact hlt
        obtain ⟨d, HD⟩ : ∃ d, Hid (ha[i]'(by rw [HAL.out]; exact hlt) = d) := ⟨_, hid rfl⟩
        have HDB : Hid (hb[i]'(by rw [HBL.out]; exact hlt) = d) := by show _ = _; rw [← HD.out]; exact (HSAME.out i hlt hik).symm
        have HDL : Hid (d.length = 32) := by show _ = _; rw [← HD.out]; exact J1.out.a.len _ (List.getElem_mem _)
        have HNE : Hid ((!same8 d d) = false) := by show _ = _; rw [same8_refl]; rfl
        go_wp2
        have r8b := HR8.out
        refine wp_region_noPanic ?_
        refine wp_region_held_drew (S := L2 (.slice (some ⟨ga, 0, none⟩) c ca) (.slice (some ⟨gb, 0, none⟩) c cb1) ha hb) (by kernel_rfl) (J1d.out) (fun hS => ?_)
        refine wpAnyH_take (i := 0) (v := ?_) (by simp only [List.getElem?_toArray, List.getElem?_cons_zero]; rfl) (by kernel_rfl) (by kernel_rfl) (by kernel_rfl) (fun _ _ _ h => h) (Or.inl ⟨by rfl, ?_⟩) (by assumption) ?_
        rotate_left 1
        · intro w hSw
          go_simp
          try with_reducible rfl
        simp only [Act.put, List.setIfInBounds_toArray, List.set_cons_zero, List.set_cons_succ]
        refine wpAnyH_take (i := 1) (v := ?_) (by simp only [List.getElem?_toArray, List.getElem?_cons_zero, List.getElem?_cons_succ]; rfl) (by kernel_rfl) (by kernel_rfl) (by kernel_rfl) (fun _ _ _ h => h) (Or.inl ⟨by rfl, ?_⟩) (by assumption) ?_
        rotate_left 1
        · intro w hSw
          go_simp
          try with_reducible rfl
        simp only [Act.put, List.setIfInBounds_toArray, List.set_cons_zero, List.set_cons_succ]
        refine wpAnyH_take (i := 2) (v := ?_) (by simp only [List.getElem?_toArray, List.getElem?_cons_zero, List.getElem?_cons_succ]; rfl) (by kernel_rfl) (by kernel_rfl) (by kernel_rfl) (fun _ _ _ h => h) (Or.inl ⟨by rfl, ?_⟩) (by assumption) ?_
        rotate_left 1
        · intro w hSw
          go_simp
          try with_reducible rfl
        simp only [Act.put, List.setIfInBounds_toArray, List.set_cons_zero, List.set_cons_succ]
        refine wpAnyH_take (i := 3) (v := ?_) (by simp only [List.getElem?_toArray, List.getElem?_cons_zero, List.getElem?_cons_succ]; rfl) (by kernel_rfl) (by kernel_rfl) (by kernel_rfl) (fun _ _ _ h => h) (Or.inl ⟨by rfl, ?_⟩) (by assumption) ?_
        rotate_left 1
        · intro w hSw
          go_simp
          try with_reducible rfl
        simp only [Act.put, List.setIfInBounds_toArray, List.set_cons_zero, List.set_cons_succ]
        refine wpAnyH_take (i := 4) (v := ?_) (by simp only [List.getElem?_toArray, List.getElem?_cons_zero, List.getElem?_cons_succ]; rfl) (by kernel_rfl) (by kernel_rfl) (by kernel_rfl) (fun _ _ _ h => h) (Or.inl ⟨by rfl, ?_⟩) (by assumption) ?_
        rotate_left 1
        · intro w hSw
          go_simp
          try with_reducible rfl
        simp only [Act.put, List.setIfInBounds_toArray, List.set_cons_zero, List.set_cons_succ]
        refine wpAnyH_take (i := 5) (v := ?_) (by simp only [List.getElem?_toArray, List.getElem?_cons_zero, List.getElem?_cons_succ]; rfl) (by kernel_rfl) (by kernel_rfl) (by kernel_rfl) (fun _ _ _ h => h) (Or.inl ⟨by rfl, ?_⟩) (by assumption) ?_
        rotate_left 1
        · intro w hSw
          go_simp
          try with_reducible rfl
        simp only [Act.put, List.setIfInBounds_toArray, List.set_cons_zero, List.set_cons_succ]
        refine wpAnyH_take (i := 6) (v := ?_) (by simp only [List.getElem?_toArray, List.getElem?_cons_zero, List.getElem?_cons_succ]; rfl) (by kernel_rfl) (by kernel_rfl) (by kernel_rfl) (fun _ _ _ h => h) (Or.inl ⟨by rfl, ?_⟩) (by assumption) ?_
        rotate_left 1
        · intro w hSw
          go_simp
          try with_reducible rfl
        simp only [Act.put, List.setIfInBounds_toArray, List.set_cons_zero, List.set_cons_succ]
        refine wpAnyH_take (i := 7) (v := ?_) (by simp only [List.getElem?_toArray, List.getElem?_cons_zero, List.getElem?_cons_succ]; rfl) (by kernel_rfl) (by kernel_rfl) (by kernel_rfl) (fun _ _ _ h => h) (Or.inl ⟨by rfl, ?_⟩) (by assumption) ?_
        rotate_left 1
        · intro w hSw
          go_simp
          try with_reducible rfl
        simp only [Act.put, List.setIfInBounds_toArray, List.set_cons_zero, List.set_cons_succ]
        refine wpAnyH_take (i := 8) (v := ?_) (by simp only [List.getElem?_toArray, List.getElem?_cons_zero, List.getElem?_cons_succ]; rfl) (by kernel_rfl) (by kernel_rfl) (by kernel_rfl) (fun _ _ _ h => h) (Or.inl ⟨by rfl, ?_⟩) (by assumption) ?_
        rotate_left 1
        · intro w hSw
          go_simp
          try with_reducible rfl
        simp only [Act.put, List.setIfInBounds_toArray, List.set_cons_zero, List.set_cons_succ]
        refine' wpAnyH_take (i := 9) (v := _) (by simp only [List.getElem?_toArray, List.getElem?_cons_zero, List.getElem?_cons_succ]; rfl) (by kernel_rfl) (by kernel_rfl) (by kernel_rfl) (fun _ _ _ h => h) (yields_load_h (by rfl) (.tmp 88) rfl ga (i * 32) rfl d (fun w hS => hS.a.ld i HIA d HD.out)) (by assumption) ?_
        simp only [Act.put, List.setIfInBounds_toArray, List.set_cons_zero, List.set_cons_succ]
        refine wpAnyH_take (i := 10) (v := ?_) (by simp only [List.getElem?_toArray, List.getElem?_cons_zero, List.getElem?_cons_succ]; rfl) (by kernel_rfl) (by kernel_rfl) (by kernel_rfl) (fun _ _ _ h => h) (Or.inl ⟨by rfl, ?_⟩) (by assumption) ?_
        rotate_left 1
        · intro w hSw
          go_simp
          try with_reducible rfl
        simp only [Act.put, List.setIfInBounds_toArray, List.set_cons_zero, List.set_cons_succ]
        refine wpAnyH_take (i := 11) (v := ?_) (by simp only [List.getElem?_toArray, List.getElem?_cons_zero, List.getElem?_cons_succ]; rfl) (by kernel_rfl) (by kernel_rfl) (by kernel_rfl) (fun _ _ _ h => h) (Or.inl ⟨by rfl, ?_⟩) (by assumption) ?_
        rotate_left 1
        · intro w hSw
          go_simp
          try with_reducible rfl
        simp only [Act.put, List.setIfInBounds_toArray, List.set_cons_zero, List.set_cons_succ]
        refine wpAnyH_take (i := 12) (v := ?_) (by simp only [List.getElem?_toArray, List.getElem?_cons_zero, List.getElem?_cons_succ]; rfl) (by kernel_rfl) (by kernel_rfl) (by kernel_rfl) (fun _ _ _ h => h) (Or.inl ⟨by rfl, ?_⟩) (by assumption) ?_
        rotate_left 1
        · intro w hSw
          go_simp
          try with_reducible rfl
        simp only [Act.put, List.setIfInBounds_toArray, List.set_cons_zero, List.set_cons_succ]
        refine' wpAnyH_take (i := 13) (v := _) (by simp only [List.getElem?_toArray, List.getElem?_cons_zero, List.getElem?_cons_succ]; rfl) (by kernel_rfl) (by kernel_rfl) (by kernel_rfl) (fun _ _ _ h => h) (yields_load_h (by rfl) (.tmp 92) rfl gb (i * 32) rfl d (fun w hS => hS.b.ld i HIB d HDB.out)) (by assumption) ?_
        simp only [Act.put, List.setIfInBounds_toArray, List.set_cons_zero, List.set_cons_succ]
        refine' wpAnyH_take (i := 14) (v := _) (by simp only [List.getElem?_toArray, List.getElem?_cons_zero, List.getElem?_cons_succ]; rfl) (by kernel_rfl) (by kernel_rfl) (by kernel_rfl) (fun _ _ _ h => h) (yields_neq_h (by rfl) (.tmp 89) (.tmp 93) rfl d d rfl rfl HDL.out HDL.out false HNE.out) (by assumption) ?_
        simp only [Act.put, List.setIfInBounds_toArray, List.set_cons_zero, List.set_cons_succ]
        refine wpAnyH_take (i := 15) (v := ?_) (by simp only [List.getElem?_toArray, List.getElem?_cons_zero, List.getElem?_cons_succ]; rfl) (by kernel_rfl) (by kernel_rfl) (by kernel_rfl) (fun _ _ _ h => h) (Or.inl ⟨by rfl, ?_⟩) (by assumption) ?_
        rotate_left 1
        · intro w hSw
          go_simp
          try with_reducible rfl
        simp only [Act.put, List.setIfInBounds_toArray, List.set_cons_zero, List.set_cons_succ]
        refine wpAnyH_done (by kernel_rfl) ?_ _
        refine NoPanic.normal ?_
        clear r8b
        go_wp2
        go_roundw
        case rel => exact ⟨i + 1, by omega, by go_num, J1d.out, J2d.out⟩
        case measure => simp [intOf]; omega
    · obtain rfl : i = c := by omega
      have L3d : Hid (L3 (.slice (some ⟨ga, 0, none⟩) i ca) (.slice (some ⟨gb, 0, none⟩) i cb1) ha hb bb (off + k) z wr.drew) := hid ⟨J1.out.on (Below.refl _ wr).drew, (J2.out.drew.cell (block_lt_of_cell HCZ.out)).trans HCZ.out⟩
      have J2d : Hid (Below w.heap.size w wr.drew) := hid J2.out.drew
      have CA := hid (awake_any wr.drew (HT.out.kept J2d.out HPOS.out))
      by_cases hzz : zt = z
      · subst hzz
        have hab := HSAM3.out rfl
        have HIA : kk < ha.length := by rw [HAL.out]; exact hkc
        have HIB : kk < hb.length := by rw [HBL.out]; exact hkc
        obtain ⟨d, HD⟩ : ∃ d, Hid (ha[kk]'(by rw [HAL.out]; exact hkc) = d) := ⟨_, hid rfl⟩
        have HDB : Hid (hb[kk]'(by rw [HBL.out]; exact hkc) = d) := by show _ = _; rw [← HD.out]; simp only [hab]
        have HDL : Hid (d.length = 32) := by show _ = _; rw [← HD.out]; exact J1.out.a.len _ (List.getElem_mem _)
        have HEQ := hid (same8_refl d)
        clear hab
        go_wp2
        have r8b := HR8.out
        refine wp_region_noPanic ?_
        refine wp_region_held_drew (S := L3 (.slice (some ⟨ga, 0, none⟩) i ca) (.slice (some ⟨gb, 0, none⟩) i cb1) ha hb bb (off + k) zt) (by kernel_rfl) (L3d.out) (fun hS => ?_)
        refine wpAnyH_take (i := 0) (v := ?_) (by simp only [List.getElem?_toArray, List.getElem?_cons_zero]; rfl) (by kernel_rfl) (by kernel_rfl) (by kernel_rfl) (fun _ _ _ h => h) (Or.inl ⟨by rfl, ?_⟩) (by assumption) ?_
        rotate_left 1
        · intro w hSw
          go_simp
          try with_reducible rfl
        simp only [Act.put, List.setIfInBounds_toArray, List.set_cons_zero, List.set_cons_succ]
        refine wpAnyH_take (i := 1) (v := ?_) (by simp only [List.getElem?_toArray, List.getElem?_cons_zero, List.getElem?_cons_succ]; rfl) (by kernel_rfl) (by kernel_rfl) (by kernel_rfl) (fun _ _ _ h => h) (Or.inl ⟨by rfl, ?_⟩) (by assumption) ?_
        rotate_left 1
        · intro w hSw
          go_simp
          try with_reducible rfl
        simp only [Act.put, List.setIfInBounds_toArray, List.set_cons_zero, List.set_cons_succ]
        refine wpAnyH_take (i := 2) (v := ?_) (by simp only [List.getElem?_toArray, List.getElem?_cons_zero, List.getElem?_cons_succ]; rfl) (by kernel_rfl) (by kernel_rfl) (by kernel_rfl) (fun _ _ _ h => h) (Or.inl ⟨by rfl, ?_⟩) (by assumption) ?_
        rotate_left 1
        · intro w hSw
          go_simp
          try with_reducible rfl
        simp only [Act.put, List.setIfInBounds_toArray, List.set_cons_zero, List.set_cons_succ]
        refine wpAnyH_take (i := 3) (v := ?_) (by simp only [List.getElem?_toArray, List.getElem?_cons_zero, List.getElem?_cons_succ]; rfl) (by kernel_rfl) (by kernel_rfl) (by kernel_rfl) (fun _ _ _ h => h) (Or.inl ⟨by rfl, ?_⟩) (by assumption) ?_
        rotate_left 1
        · intro w hSw
          go_simp
          try with_reducible rfl
        simp only [Act.put, List.setIfInBounds_toArray, List.set_cons_zero, List.set_cons_succ]
        refine wpAnyH_take (i := 4) (v := ?_) (by simp only [List.getElem?_toArray, List.getElem?_cons_zero, List.getElem?_cons_succ]; rfl) (by kernel_rfl) (by kernel_rfl) (by kernel_rfl) (fun _ _ _ h => h) (Or.inl ⟨by rfl, ?_⟩) (by assumption) ?_
        rotate_left 1
        · intro w hSw
          have hc := hSw.c
          go_simp
          try with_reducible rfl
        simp only [Act.put, List.setIfInBounds_toArray, List.set_cons_zero, List.set_cons_succ]
        refine wpAnyH_take (i := 5) (v := ?_) (by simp only [List.getElem?_toArray, List.getElem?_cons_zero, List.getElem?_cons_succ]; rfl) (by kernel_rfl) (by kernel_rfl) (by kernel_rfl) (fun _ _ _ h => h) (Or.inl ⟨by rfl, ?_⟩) (by assumption) ?_
        rotate_left 1
        · intro w hSw
          go_simp
          try with_reducible rfl
        simp only [Act.put, List.setIfInBounds_toArray, List.set_cons_zero, List.set_cons_succ]
        refine wpAnyH_take (i := 6) (v := ?_) (by simp only [List.getElem?_toArray, List.getElem?_cons_zero, List.getElem?_cons_succ]; rfl) (by kernel_rfl) (by kernel_rfl) (by kernel_rfl) (fun _ _ _ h => h) (Or.inl ⟨by rfl, ?_⟩) (by assumption) ?_
        rotate_left 1
        · intro w hSw
          go_simp
          try with_reducible rfl
        simp only [Act.put, List.setIfInBounds_toArray, List.set_cons_zero, List.set_cons_succ]
        refine wpAnyH_take (i := 7) (v := ?_) (by simp only [List.getElem?_toArray, List.getElem?_cons_zero, List.getElem?_cons_succ]; rfl) (by kernel_rfl) (by kernel_rfl) (by kernel_rfl) (fun _ _ _ h => h) (Or.inl ⟨by rfl, ?_⟩) (by assumption) ?_
        rotate_left 1
        · intro w hSw
          go_simp
          try with_reducible rfl
        simp only [Act.put, List.setIfInBounds_toArray, List.set_cons_zero, List.set_cons_succ]
        refine wpAnyH_take (i := 8) (v := ?_) (by simp only [List.getElem?_toArray, List.getElem?_cons_zero, List.getElem?_cons_succ]; rfl) (by kernel_rfl) (by kernel_rfl) (by kernel_rfl) (fun _ _ _ h => h) (Or.inl ⟨by rfl, ?_⟩) (by assumption) ?_
        rotate_left 1
        · intro w hSw
          go_simp
          try with_reducible rfl
        simp only [Act.put, List.setIfInBounds_toArray, List.set_cons_zero, List.set_cons_succ]
        refine wpAnyH_take (i := 9) (v := ?_) (by simp only [List.getElem?_toArray, List.getElem?_cons_zero, List.getElem?_cons_succ]; rfl) (by kernel_rfl) (by kernel_rfl) (by kernel_rfl) (fun _ _ _ h => h) (Or.inl ⟨by rfl, ?_⟩) (by assumption) ?_
        rotate_left 1
        · intro w hSw
          go_simp
          try with_reducible rfl
        simp only [Act.put, List.setIfInBounds_toArray, List.set_cons_zero, List.set_cons_succ]
        refine wpAnyH_take (i := 10) (v := ?_) (by simp only [List.getElem?_toArray, List.getElem?_cons_zero, List.getElem?_cons_succ]; rfl) (by kernel_rfl) (by kernel_rfl) (by kernel_rfl) (fun _ _ _ h => h) (Or.inl ⟨by rfl, ?_⟩) (by assumption) ?_
        rotate_left 1
        · intro w hSw
          go_simp
          try with_reducible rfl
        simp only [Act.put, List.setIfInBounds_toArray, List.set_cons_zero, List.set_cons_succ]
        refine wpAnyH_take (i := 11) (v := ?_) (by simp only [List.getElem?_toArray, List.getElem?_cons_zero, List.getElem?_cons_succ]; rfl) (by kernel_rfl) (by kernel_rfl) (by kernel_rfl) (fun _ _ _ h => h) (Or.inl ⟨by rfl, ?_⟩) (by assumption) ?_
        rotate_left 1
        · intro w hSw
          go_simp
          try with_reducible rfl
        simp only [Act.put, List.setIfInBounds_toArray, List.set_cons_zero, List.set_cons_succ]
        refine' wpAnyH_take (i := 12) (v := _) (by simp only [List.getElem?_toArray, List.getElem?_cons_zero, List.getElem?_cons_succ]; rfl) (by kernel_rfl) (by kernel_rfl) (by kernel_rfl) (fun _ _ _ h => h) (yields_load_h (by rfl) (.tmp 107) rfl ga (kk * 32) rfl d (fun w hS => hS.l.a.ld kk HIA d HD.out)) (by assumption) ?_
        simp only [Act.put, List.setIfInBounds_toArray, List.set_cons_zero, List.set_cons_succ]
        refine wpAnyH_take (i := 13) (v := ?_) (by simp only [List.getElem?_toArray, List.getElem?_cons_zero, List.getElem?_cons_succ]; rfl) (by kernel_rfl) (by kernel_rfl) (by kernel_rfl) (fun _ _ _ h => h) (Or.inl ⟨by rfl, ?_⟩) (by assumption) ?_
        rotate_left 1
        · intro w hSw
          go_simp
          try with_reducible rfl
        simp only [Act.put, List.setIfInBounds_toArray, List.set_cons_zero, List.set_cons_succ]
        refine wpAnyH_take (i := 14) (v := ?_) (by simp only [List.getElem?_toArray, List.getElem?_cons_zero, List.getElem?_cons_succ]; rfl) (by kernel_rfl) (by kernel_rfl) (by kernel_rfl) (fun _ _ _ h => h) (Or.inl ⟨by rfl, ?_⟩) (by assumption) ?_
        rotate_left 1
        · intro w hSw
          go_simp
          try with_reducible rfl
        simp only [Act.put, List.setIfInBounds_toArray, List.set_cons_zero, List.set_cons_succ]
        refine wpAnyH_take (i := 15) (v := ?_) (by simp only [List.getElem?_toArray, List.getElem?_cons_zero, List.getElem?_cons_succ]; rfl) (by kernel_rfl) (by kernel_rfl) (by kernel_rfl) (fun _ _ _ h => h) (Or.inl ⟨by rfl, ?_⟩) (by assumption) ?_
        rotate_left 1
        · intro w hSw
          go_simp
          try with_reducible rfl
        simp only [Act.put, List.setIfInBounds_toArray, List.set_cons_zero, List.set_cons_succ]
        refine wpAnyH_take (i := 16) (v := ?_) (by simp only [List.getElem?_toArray, List.getElem?_cons_zero, List.getElem?_cons_succ]; rfl) (by kernel_rfl) (by kernel_rfl) (by kernel_rfl) (fun _ _ _ h => h) (Or.inl ⟨by rfl, ?_⟩) (by assumption) ?_
        rotate_left 1
        · intro w hSw
          go_simp
          try with_reducible rfl
        simp only [Act.put, List.setIfInBounds_toArray, List.set_cons_zero, List.set_cons_succ]
        refine wpAnyH_take (i := 17) (v := ?_) (by simp only [List.getElem?_toArray, List.getElem?_cons_zero, List.getElem?_cons_succ]; rfl) (by kernel_rfl) (by kernel_rfl) (by kernel_rfl) (fun _ _ _ h => h) (Or.inl ⟨by rfl, ?_⟩) (by assumption) ?_
        rotate_left 1
        · intro w hSw
          go_simp
          try with_reducible rfl
        simp only [Act.put, List.setIfInBounds_toArray, List.set_cons_zero, List.set_cons_succ]
        refine' wpAnyH_take (i := 18) (v := _) (by simp only [List.getElem?_toArray, List.getElem?_cons_zero, List.getElem?_cons_succ]; rfl) (by kernel_rfl) (by kernel_rfl) (by kernel_rfl) (fun _ _ _ h => h) (yields_load_h (by rfl) (.tmp 113) rfl gb (kk * 32) rfl d (fun w hS => hS.l.b.ld kk HIB d HDB.out)) (by assumption) ?_
        simp only [Act.put, List.setIfInBounds_toArray, List.set_cons_zero, List.set_cons_succ]
        refine' wpAnyH_take (i := 19) (v := _) (by simp only [List.getElem?_toArray, List.getElem?_cons_zero, List.getElem?_cons_succ]; rfl) (by kernel_rfl) (by kernel_rfl) (by kernel_rfl) (fun _ _ _ h => h) (yields_eql_h (by rfl) (.tmp 108) (.tmp 114) rfl d d rfl rfl HDL.out HDL.out true HEQ.out) (by assumption) ?_
        simp only [Act.put, List.setIfInBounds_toArray, List.set_cons_zero, List.set_cons_succ]
        refine wpAnyH_take (i := 20) (v := ?_) (by simp only [List.getElem?_toArray, List.getElem?_cons_zero, List.getElem?_cons_succ]; rfl) (by kernel_rfl) (by kernel_rfl) (by kernel_rfl) (fun _ _ _ h => h) (Or.inl ⟨by rfl, ?_⟩) (by assumption) ?_
        rotate_left 1
        · intro w hSw
          go_simp
          try with_reducible rfl
        simp only [Act.put, List.setIfInBounds_toArray, List.set_cons_zero, List.set_cons_succ]
        refine wpAnyH_take (i := 21) (v := ?_) (by simp only [List.getElem?_toArray, List.getElem?_cons_zero, List.getElem?_cons_succ]; rfl) (by kernel_rfl) (by kernel_rfl) (by kernel_rfl) (fun _ _ _ h => h) (Or.inl ⟨by rfl, ?_⟩) (by assumption) ?_
        rotate_left 1
        · intro w hSw
          go_simp
          try with_reducible rfl
        simp only [Act.put, List.setIfInBounds_toArray, List.set_cons_zero, List.set_cons_succ]
        refine wpAnyH_ready (rs := [22]) (by kernel_rfl) (by simp) ?_
        refine AllReadyH.cons (by simp only [List.getElem?_toArray, List.getElem?_cons_zero, List.getElem?_cons_succ]; rfl) (fun K hK => ?_) AllReadyH.nil
        go_simp
        refine (CA.out).mono ?_
        rintro e7 w7 ⟨rfl, hb7⟩
        have hz1 := L3d.out.on hb7
        refine hK.out _ _ hz1 (fun hS => ?_)
        clear hK K hS
        refine wpAnyH_take (i := 23) (v := ?_) (by simp only [List.getElem?_toArray, List.getElem?_cons_zero, List.getElem?_cons_succ]; rfl) (by kernel_rfl) (by kernel_rfl) (by kernel_rfl) (fun _ _ _ h => h) (Or.inl ⟨by rfl, ?_⟩) (by assumption) ?_
        rotate_left 1
        · intro w hSw
          go_simp
          try with_reducible rfl
        simp only [Act.put, List.setIfInBounds_toArray, List.set_cons_zero, List.set_cons_succ]
        refine wpAnyH_take (i := 24) (v := ?_) (by simp only [List.getElem?_toArray, List.getElem?_cons_zero, List.getElem?_cons_succ]; rfl) (by kernel_rfl) (by kernel_rfl) (by kernel_rfl) (fun _ _ _ h => h) (Or.inl ⟨by rfl, ?_⟩) (by assumption) ?_
        rotate_left 1
        · intro w hSw
          go_simp
          try with_reducible rfl
        simp only [Act.put, List.setIfInBounds_toArray, List.set_cons_zero, List.set_cons_succ]
        refine wpAnyH_done (by kernel_rfl) ?_ _
        refine NoPanic.normal ?_
        clear r8b
        go_wp2
        go_ret
        exact ⟨rfl, J2d.out.trans (hb7.mono J2d.out.size)⟩
      · have hz2 : (zt == z) = false := by simp; exact hzz
        have hz3 : (zt != z) = true := by simp; exact hzz
        go_wp2
        refine wp_region_noPanic ?_
        refine wp_region_held_drew (S := L3 (.slice (some ⟨ga, 0, none⟩) i ca) (.slice (some ⟨gb, 0, none⟩) i cb1) ha hb bb (off + k) z) (by kernel_rfl) (L3d.out) (fun hS => ?_)
        refine wpAnyH_take (i := 0) (v := ?_) (by simp only [List.getElem?_toArray, List.getElem?_cons_zero]; rfl) (by kernel_rfl) (by kernel_rfl) (by kernel_rfl) (fun _ _ _ h => h) (Or.inl ⟨by rfl, ?_⟩) (by assumption) ?_
        rotate_left 1
        · intro w hSw
          go_simp
          try with_reducible rfl
        simp only [Act.put, List.setIfInBounds_toArray, List.set_cons_zero, List.set_cons_succ]
        refine wpAnyH_take (i := 1) (v := ?_) (by simp only [List.getElem?_toArray, List.getElem?_cons_zero, List.getElem?_cons_succ]; rfl) (by kernel_rfl) (by kernel_rfl) (by kernel_rfl) (fun _ _ _ h => h) (Or.inl ⟨by rfl, ?_⟩) (by assumption) ?_
        rotate_left 1
        · intro w hSw
          go_simp
          try with_reducible rfl
        simp only [Act.put, List.setIfInBounds_toArray, List.set_cons_zero, List.set_cons_succ]
        refine wpAnyH_take (i := 2) (v := ?_) (by simp only [List.getElem?_toArray, List.getElem?_cons_zero, List.getElem?_cons_succ]; rfl) (by kernel_rfl) (by kernel_rfl) (by kernel_rfl) (fun _ _ _ h => h) (Or.inl ⟨by rfl, ?_⟩) (by assumption) ?_
        rotate_left 1
        · intro w hSw
          go_simp
          try with_reducible rfl
        simp only [Act.put, List.setIfInBounds_toArray, List.set_cons_zero, List.set_cons_succ]
        refine wpAnyH_take (i := 3) (v := ?_) (by simp only [List.getElem?_toArray, List.getElem?_cons_zero, List.getElem?_cons_succ]; rfl) (by kernel_rfl) (by kernel_rfl) (by kernel_rfl) (fun _ _ _ h => h) (Or.inl ⟨by rfl, ?_⟩) (by assumption) ?_
        rotate_left 1
        · intro w hSw
          go_simp
          try with_reducible rfl
        simp only [Act.put, List.setIfInBounds_toArray, List.set_cons_zero, List.set_cons_succ]
        refine wpAnyH_take (i := 4) (v := ?_) (by simp only [List.getElem?_toArray, List.getElem?_cons_zero, List.getElem?_cons_succ]; rfl) (by kernel_rfl) (by kernel_rfl) (by kernel_rfl) (fun _ _ _ h => h) (Or.inl ⟨by rfl, ?_⟩) (by assumption) ?_
        rotate_left 1
        · intro w hSw
          have hc := hSw.c
          go_simp
          try with_reducible rfl
        simp only [Act.put, List.setIfInBounds_toArray, List.set_cons_zero, List.set_cons_succ]
        refine wpAnyH_take (i := 5) (v := ?_) (by simp only [List.getElem?_toArray, List.getElem?_cons_zero, List.getElem?_cons_succ]; rfl) (by kernel_rfl) (by kernel_rfl) (by kernel_rfl) (fun _ _ _ h => h) (Or.inl ⟨by rfl, ?_⟩) (by assumption) ?_
        rotate_left 1
        · intro w hSw
          go_simp
          try with_reducible rfl
        simp only [Act.put, List.setIfInBounds_toArray, List.set_cons_zero, List.set_cons_succ]
        refine wpAnyH_take (i := 6) (v := ?_) (by simp only [List.getElem?_toArray, List.getElem?_cons_zero, List.getElem?_cons_succ]; rfl) (by kernel_rfl) (by kernel_rfl) (by kernel_rfl) (fun _ _ _ h => h) (Or.inl ⟨by rfl, ?_⟩) (by assumption) ?_
        rotate_left 1
        · intro w hSw
          go_simp
          try with_reducible rfl
        simp only [Act.put, List.setIfInBounds_toArray, List.set_cons_zero, List.set_cons_succ]
        refine wpAnyH_take (i := 7) (v := undef) (by simp only [List.getElem?_toArray, List.getElem?_cons_zero, List.getElem?_cons_succ]; rfl) (by kernel_rfl) (by kernel_rfl) (by kernel_rfl) (fun _ _ _ h => h) (Or.inr ⟨by rfl, rfl⟩) (by assumption) ?_
        simp only [Act.put, List.setIfInBounds_toArray, List.set_cons_zero, List.set_cons_succ]
        refine wpAnyH_take (i := 8) (v := undef) (by simp only [List.getElem?_toArray, List.getElem?_cons_zero, List.getElem?_cons_succ]; rfl) (by kernel_rfl) (by kernel_rfl) (by kernel_rfl) (fun _ _ _ h => h) (Or.inr ⟨by rfl, rfl⟩) (by assumption) ?_
        simp only [Act.put, List.setIfInBounds_toArray, List.set_cons_zero, List.set_cons_succ]
        refine wpAnyH_take (i := 9) (v := undef) (by simp only [List.getElem?_toArray, List.getElem?_cons_zero, List.getElem?_cons_succ]; rfl) (by kernel_rfl) (by kernel_rfl) (by kernel_rfl) (fun _ _ _ h => h) (Or.inr ⟨by rfl, rfl⟩) (by assumption) ?_
        simp only [Act.put, List.setIfInBounds_toArray, List.set_cons_zero, List.set_cons_succ]
        refine wpAnyH_take (i := 10) (v := undef) (by simp only [List.getElem?_toArray, List.getElem?_cons_zero, List.getElem?_cons_succ]; rfl) (by kernel_rfl) (by kernel_rfl) (by kernel_rfl) (fun _ _ _ h => h) (Or.inr ⟨by rfl, rfl⟩) (by assumption) ?_
        simp only [Act.put, List.setIfInBounds_toArray, List.set_cons_zero, List.set_cons_succ]
        refine wpAnyH_take (i := 11) (v := undef) (by simp only [List.getElem?_toArray, List.getElem?_cons_zero, List.getElem?_cons_succ]; rfl) (by kernel_rfl) (by kernel_rfl) (by kernel_rfl) (fun _ _ _ h => h) (Or.inr ⟨by rfl, rfl⟩) (by assumption) ?_
        simp only [Act.put, List.setIfInBounds_toArray, List.set_cons_zero, List.set_cons_succ]
        refine wpAnyH_take (i := 12) (v := undef) (by simp only [List.getElem?_toArray, List.getElem?_cons_zero, List.getElem?_cons_succ]; rfl) (by kernel_rfl) (by kernel_rfl) (by kernel_rfl) (fun _ _ _ h => h) (Or.inr ⟨by rfl, rfl⟩) (by assumption) ?_
        simp only [Act.put, List.setIfInBounds_toArray, List.set_cons_zero, List.set_cons_succ]
        refine wpAnyH_take (i := 13) (v := undef) (by simp only [List.getElem?_toArray, List.getElem?_cons_zero, List.getElem?_cons_succ]; rfl) (by kernel_rfl) (by kernel_rfl) (by kernel_rfl) (fun _ _ _ h => h) (Or.inr ⟨by rfl, rfl⟩) (by assumption) ?_
        simp only [Act.put, List.setIfInBounds_toArray, List.set_cons_zero, List.set_cons_succ]
        refine wpAnyH_take (i := 14) (v := undef) (by simp only [List.getElem?_toArray, List.getElem?_cons_zero, List.getElem?_cons_succ]; rfl) (by kernel_rfl) (by kernel_rfl) (by kernel_rfl) (fun _ _ _ h => h) (Or.inr ⟨by rfl, rfl⟩) (by assumption) ?_
        simp only [Act.put, List.setIfInBounds_toArray, List.set_cons_zero, List.set_cons_succ]
        refine wpAnyH_take (i := 15) (v := undef) (by simp only [List.getElem?_toArray, List.getElem?_cons_zero, List.getElem?_cons_succ]; rfl) (by kernel_rfl) (by kernel_rfl) (by kernel_rfl) (fun _ _ _ h => h) (Or.inr ⟨by rfl, rfl⟩) (by assumption) ?_
        simp only [Act.put, List.setIfInBounds_toArray, List.set_cons_zero, List.set_cons_succ]
        refine wpAnyH_take (i := 16) (v := undef) (by simp only [List.getElem?_toArray, List.getElem?_cons_zero, List.getElem?_cons_succ]; rfl) (by kernel_rfl) (by kernel_rfl) (by kernel_rfl) (fun _ _ _ h => h) (Or.inr ⟨by rfl, rfl⟩) (by assumption) ?_
        simp only [Act.put, List.setIfInBounds_toArray, List.set_cons_zero, List.set_cons_succ]
        refine wpAnyH_take (i := 17) (v := undef) (by simp only [List.getElem?_toArray, List.getElem?_cons_zero, List.getElem?_cons_succ]; rfl) (by kernel_rfl) (by kernel_rfl) (by kernel_rfl) (fun _ _ _ h => h) (Or.inr ⟨by rfl, rfl⟩) (by assumption) ?_
        simp only [Act.put, List.setIfInBounds_toArray, List.set_cons_zero, List.set_cons_succ]
        refine wpAnyH_take (i := 18) (v := undef) (by simp only [List.getElem?_toArray, List.getElem?_cons_zero, List.getElem?_cons_succ]; rfl) (by kernel_rfl) (by kernel_rfl) (by kernel_rfl) (fun _ _ _ h => h) (Or.inr ⟨by rfl, rfl⟩) (by assumption) ?_
        simp only [Act.put, List.setIfInBounds_toArray, List.set_cons_zero, List.set_cons_succ]
        refine wpAnyH_take (i := 19) (v := undef) (by simp only [List.getElem?_toArray, List.getElem?_cons_zero, List.getElem?_cons_succ]; rfl) (by kernel_rfl) (by kernel_rfl) (by kernel_rfl) (fun _ _ _ h => h) (Or.inr ⟨by rfl, rfl⟩) (by assumption) ?_
        simp only [Act.put, List.setIfInBounds_toArray, List.set_cons_zero, List.set_cons_succ]
        refine wpAnyH_take (i := 20) (v := ?_) (by simp only [List.getElem?_toArray, List.getElem?_cons_zero, List.getElem?_cons_succ]; rfl) (by kernel_rfl) (by kernel_rfl) (by kernel_rfl) (fun _ _ _ h => h) (Or.inl ⟨by rfl, ?_⟩) (by assumption) ?_
        rotate_left 1
        · intro w hSw
          go_simp
          try with_reducible rfl
        simp only [Act.put, List.setIfInBounds_toArray, List.set_cons_zero, List.set_cons_succ]
        refine wpAnyH_take (i := 21) (v := ?_) (by simp only [List.getElem?_toArray, List.getElem?_cons_zero, List.getElem?_cons_succ]; rfl) (by kernel_rfl) (by kernel_rfl) (by kernel_rfl) (fun _ _ _ h => h) (Or.inl ⟨by rfl, ?_⟩) (by assumption) ?_
        rotate_left 1
        · intro w hSw
          go_simp
          try with_reducible rfl
        simp only [Act.put, List.setIfInBounds_toArray, List.set_cons_zero, List.set_cons_succ]
        refine wpAnyH_ready (rs := [22]) (by kernel_rfl) (by simp) ?_
        refine AllReadyH.cons (by simp only [List.getElem?_toArray, List.getElem?_cons_zero, List.getElem?_cons_succ]; rfl) (fun K hK => ?_) AllReadyH.nil
        go_simp
        refine (CA.out).mono ?_
        rintro e7 w7 ⟨rfl, hb7⟩
        have hz1 := L3d.out.on hb7
        refine hK.out _ _ hz1 (fun hS => ?_)
        clear hK K hS
        refine wpAnyH_take (i := 23) (v := ?_) (by simp only [List.getElem?_toArray, List.getElem?_cons_zero, List.getElem?_cons_succ]; rfl) (by kernel_rfl) (by kernel_rfl) (by kernel_rfl) (fun _ _ _ h => h) (Or.inl ⟨by rfl, ?_⟩) (by assumption) ?_
        rotate_left 1
        · intro w hSw
          go_simp
          try with_reducible rfl
        simp only [Act.put, List.setIfInBounds_toArray, List.set_cons_zero, List.set_cons_succ]
        refine wpAnyH_take (i := 24) (v := ?_) (by simp only [List.getElem?_toArray, List.getElem?_cons_zero, List.getElem?_cons_succ]; rfl) (by kernel_rfl) (by kernel_rfl) (by kernel_rfl) (fun _ _ _ h => h) (Or.inl ⟨by rfl, ?_⟩) (by assumption) ?_
        rotate_left 1
        · intro w hSw
          go_simp
          try with_reducible rfl
        simp only [Act.put, List.setIfInBounds_toArray, List.set_cons_zero, List.set_cons_succ]
        refine wpAnyH_done (by kernel_rfl) ?_ _
        refine NoPanic.normal ?_
        go_wp2
        go_ret
        exact ⟨rfl, J2d.out.trans (hb7.mono J2d.out.size)⟩
end Go.Proofs.YtlcdkponegmcdaaDoor
