/- Several texts in one: GA, GB, GC, GF, GH, GD, GI, GJ. Conditions: those said at each. -/
import Derived.Test.YtlcdkponegmcdaaDoorEE
import Derived.Test.YtlcdkponegmcdaaDoorEC
import Derived.Test.YtlcdkponegmcdaaDoorZX2
import Derived.Test.YtlcdkponegmcdaaDoorED
/- Rows of slices over bytes; the document's Blocks, Part: what each call does. Conditions: bytes in a block of the world. -/
namespace Go.Proofs.YtlcdkponegmcdaaDoor
open Go.RowKit
theorem rsum_any (v : Value) (xs : By) (A : Option Addr) (cap bb off : Nat) (w : World) (h : Bytes w v xs A cap bb off) (hl : xs.length ≤ 100000) :
    Calls Tryd.prog 21 #[v] w fun e w' => e = .returned (.agg (hvec (dg xs))) ∧ Below w.heap.size w w' := by
  have e0 := h.form
  rw [e0]
  refine (Sha.refSum_any xs A xs.length cap bb off w rfl hl ⟨rfl, h.le, h.zero, h.at_, h.blk, h.src⟩).mono ?_
  rintro e w' ⟨rfl, hb⟩
  refine ⟨?_, hb⟩
  unfold dg
  rfl
theorem infoB : (Tryd.prog.info? 25).map (fun i => (i.zero, i.size, i.bytes)) = some (some (.slice none 0 0), 1, 24) := by kernel_rfl
/-- Slices over bytes of the call's own, in a row of the call's own. -/
def Bls (B : Nat) (w : World) (v : Value) (xss : List By) : Prop :=
  ∃ vs : List Value, w.ownsRow B 25 1 v xss.length vs ∧ ∀ i, i < xss.length → ∃ u, vs[i]? = some u ∧ Fresh B w u (xss.getD i [])
theorem Bls.nil (B : Nat) (w : World) : Bls B w (.slice none 0 0) [] := ⟨[], World.ownsRow_nil _ _ _ _, fun i h => by cases h⟩
theorem Bls.mono {B B' : Nat} {w : World} {v : Value} {xss : List By} (h : Bls B w v xss) (hb : B' ≤ B) : Bls B' w v xss := by
  obtain ⟨vs, ho, hf⟩ := h
  refine ⟨vs, ⟨ho.1, ?_⟩, fun i hi => ?_⟩
  · rcases ho.2 with h1 | ⟨g, c, cur, h1, h2, h3⟩
    · exact .inl h1
    · exact .inr ⟨g, c, cur, h1, by omega, h3⟩
  · obtain ⟨u, h1, h2⟩ := hf i hi
    exact ⟨u, h1, h2.mono hb⟩
theorem Bls.kept {B : Nat} {w w' : World} {v : Value} {xss : List By} (h : Bls B w v xss) (hb : Below w.heap.size w w') : Bls B w' v xss := by
  obtain ⟨vs, ho, hf⟩ := h
  refine ⟨vs, row_of ho (fun g hg => hb.block g (World.ownsRow.lt ho g hg).2), fun i hi => ?_⟩
  obtain ⟨u, h1, h2⟩ := hf i hi
  exact ⟨u, h1, fresh_kept h2 hb⟩
theorem Bls.grown {B B2 : Nat} {w w' : World} {v v2 : Value} {xss : List By} {e2 : TypeId} {s2 n2 : Nat} {x2 : List Value} (h : Bls B w v xss) (h2 : w.ownsRow B2 e2 s2 v2 n2 x2) (h3 : 25 ≠ e2) (h4 : 5 ≠ e2) (hg : w.grownBy w' v2.ownBlock) : Bls B w' v xss := by
  obtain ⟨vs, ho, hf⟩ := h
  refine ⟨vs, World.ownsRow.kept ho hg (rows_apart ho h2 h3), fun i hi => ?_⟩
  obtain ⟨u, k1, k2⟩ := hf i hi
  exact ⟨u, k1, World.ownsRow.kept k2 hg (rows_apart k2 h2 h4)⟩
theorem Bls.form {B : Nat} {w : World} {v : Value} {xss : List By} (h : Bls B w v xss) : ∃ A c, v = .slice A xss.length c := by
  obtain ⟨vs, ho, _⟩ := h
  rcases ho.2 with ⟨h1, h2⟩ | ⟨g, c, cur, h1, _⟩
  · exact ⟨none, 0, by rw [h1, h2]⟩
  · exact ⟨some ⟨g, 0, none⟩, c, h1⟩
theorem Bls.at_ {B : Nat} {w : World} {v : Value} {xss : List By} (h : Bls B w v xss) (k : Nat) (hk : k < xss.length) :
    ∃ g c u, v = .slice (some ⟨g, 0, none⟩) xss.length c ∧ w.cell? ⟨g, k, none⟩ = some u ∧ Fresh B w u (xss.getD k []) := by
  obtain ⟨vs, ho, hf⟩ := h
  obtain ⟨u, h1, h2⟩ := hf k hk
  rcases ho.2 with ⟨_, h3⟩ | ⟨g, c, cur, h3, hB, h4, h5⟩
  · omega
  · refine ⟨g, c, u, h3, ?_, h2⟩
    subst h3
    have := World.ownsRow.cells (g := g) ho rfl k u h1
    rwa [add_at, Nat.zero_add] at this
theorem fresh_one {B : Nat} {w : World} {u : Value} {ys : By} (h : Fresh B w u ys) : u.oneCell' = true := by
  rcases h.2 with ⟨rfl, _⟩ | ⟨g, c, cur, rfl, _⟩ <;> rfl
theorem append_bl (w : World) (B : Nat) (v : Value) (xss : List By) (h : Bls B w v xss) (u : Value) (ys : By) (hu : Fresh B w u ys) (a : Addr) (ha : w.cell? (a.add 0) = some u) (hn : xss.length ≤ 100000) (hB : B ≤ w.heap.size) (ty : TypeId) :
    ∃ v' w', (Builtin.append_ #[71, 71] ty #[v, .slice (some a) 1 1]).run Tryd.prog w = .ok v' w' ∧ Bls B w' v' (xss ++ [ys]) ∧ w.grownBy w' v.ownBlock := by
  obtain ⟨vs, ho, hf⟩ := h
  obtain ⟨i0, hi, hz0, hz1, hz2⟩ := info_parts infoB
  obtain ⟨v', w', hr, ho', hg, _, _⟩ := run_append_own_at (P := Tryd.prog) w B 71 ty 25 i0 (.slice none 0 0) 1 24 Tryd.underlying71 hi hz0 hz1 hz2 rfl (by omega) v xss.length vs ho a 1 1 [u] rfl (fun j u' hj => by
      match j, hj with
      | 0, hj => obtain rfl := Option.some.inj hj; exact ha
      | j + 1, hj => simp at hj) (fun x hx => by simp only [List.mem_singleton] at hx; subst hx; exact fresh_one hu) (by unfold maxLen; omega) (by omega) hB
  have hl : vs.length = xss.length := by have := ho.1; omega
  have hk : ∀ {u ys}, Fresh B w u ys → Fresh B w' u ys := fun hu => World.ownsRow.kept hu hg (rows_apart hu ho (by decide))
  refine ⟨v', w', hr, ⟨vs ++ [u], by rw [List.length_append]; exact ho', fun i hi => ?_⟩, hg⟩
  rw [List.length_append, List.length_singleton] at hi
  by_cases hlt : i < xss.length
  · obtain ⟨u', h1, h2⟩ := hf i hlt
    refine ⟨u', by rw [List.getElem?_append_left (by omega)]; exact h1, ?_⟩
    have : (xss ++ [ys]).getD i [] = xss.getD i [] := by simp only [List.getD, List.getElem?_append_left hlt]
    rw [this]; exact hk h2
  · obtain rfl : i = xss.length := by omega
    refine ⟨u, by rw [List.getElem?_append_right (by omega), hl]; simp, ?_⟩
    have : (xss ++ [ys]).getD xss.length [] = ys := by simp [List.getD]
    rw [this]; exact hk hu
/-- A file's blocks. -/
def blocksTo (xs : By) (k : Nat) : List By := (List.range k).map (partL xs)
def blocksL (xs : By) : List By := if xs.length ≤ 4096 then blocksTo xs (cntL xs.length) else []
theorem blocksTo_len (xs : By) (k : Nat) : (blocksTo xs k).length = k := by simp [blocksTo]
theorem blocksTo_next (xs : By) (k : Nat) : blocksTo xs (k + 1) = blocksTo xs k ++ [partL xs k] := by simp [blocksTo, List.range_succ]
theorem blocksTo_at (xs : By) (k i : Nat) (h : i < k) : (blocksTo xs k).getD i [] = partL xs i := by simp [blocksTo, List.getD, h]
theorem blocksL_long (xs : By) (h : 4096 < xs.length) : blocksL xs = [] := by rw [blocksL, if_neg (by omega)]
theorem blocksL_ok (xs : By) (h : xs.length ≤ 4096) : blocksL xs = blocksTo xs (cntL xs.length) := by rw [blocksL, if_pos h]
set_option maxRecDepth 100000 in
set_option maxHeartbeats 4000000 in
theorem rblocks_any (v : Value) (xs : By) (A : Option Addr) (cap bb off : Nat) (w : World) (h : Bytes w v xs A cap bb off) (hp : 0 < w.heap.size) (hmax : xs.length ≤ 100000) :
    Calls Tryd.prog 35 #[v] w fun e w' => ∃ v', e = .returned v' ∧ Bls w.heap.size w' v' (blocksL xs) ∧ Below w.heap.size w w' := by
  have e0 := h.form
  obtain ⟨n, HN⟩ : ∃ n, Hid (xs.length = n) := ⟨_, rfl⟩
  by_cases hl : 4096 < xs.length
  · have HV : Hid (blocksL xs = []) := blocksL_long xs hl
    rw [HN.out] at e0 hl
    have C1 := hid (rsize_any (n : Int) w)
    rw [sizeI_no (n : Int) (.inr (by omega))] at C1
    rw [e0]
    clear h e0 hl hmax
    go_enter Tryd.func35, Tryd.ntmps35
    go_wp2_with (go_at_call 11; refine C1.out.mono ?_; rintro e1 w1 ⟨rfl, hb1⟩)
    go_loopw [4, 5, 6] (fun v4 v5 _ wr => v4 = .slice none 0 0 ∧ v5 = .int .i64 0 ∧ wr = w1) (fun _ _ _ _ => 0)
    case atStart => exact ⟨rfl, rfl, rfl⟩
    case round =>
      obtain ⟨rfl, rfl, rfl⟩ := hrel
      go_wp2
      go_ret
      exact ⟨_, rfl, by rw [HV.out]; exact Bls.nil _ _, hb1⟩
  · have hl : xs.length ≤ 4096 := by omega
    have HV : Hid (blocksL xs = blocksTo xs (cntL xs.length)) := blocksL_ok xs hl
    have C1 := hid (rsize_any (n : Int) w)
    rw [sizeI_nat n (by rw [← HN.out]; exact hl)] at C1
    have HK := hid (fun k => cnt_iff xs.length k)
    obtain ⟨s, HS⟩ : ∃ s, Hid (szL xs.length = s) := ⟨_, rfl⟩
    obtain ⟨c, HC⟩ : ∃ c, Hid (cntL xs.length = c) := ⟨_, rfl⟩
    have hc32 : c ≤ 32 := by rw [← HC.out]; exact cntL_le _ hl
    have hs := szL_cases xs.length
    rw [HS.out] at hs
    rw [show szL n = s by rw [← HN.out, HS.out]] at C1
    have HKK : Hid (∀ k : Nat, k * s < n ↔ k < c) := fun k => by
      have := HK.out k
      rw [HS.out, HC.out, HN.out] at this
      exact this
    clear HK
    have HBY := hid h
    have hle := h.le
    rw [HN.out] at hle e0
    have hn : n ≤ 4096 := by rw [← HN.out]; exact hl
    have hncap : (n : Int) ≤ (cap : Int) := by omega
    rw [HC.out] at HV
    have hs0 : (0 : Int) < (s : Int) := by omega
    have hs8 : s ≤ 128 := by omega
    have HPOS := hid hp
    rw [e0] at HBY ⊢
    clear h e0 hl hmax hle hs hp
    go_enter Tryd.func35, Tryd.ntmps35
    go_wp2_with (go_at_call 11; refine C1.out.mono ?_; rintro e1 w1 ⟨rfl, hb1⟩)
    have HB1 := hid hb1
    clear hb1
    go_loopw [4, 5, 6] (fun v4 v5 _ wr => ∃ k m : Nat, k ≤ c ∧ k * s = m ∧ v5 = .int .i64 (m : Int) ∧ Hid (Bls w.heap.size wr v4 (blocksTo xs k)) ∧ Hid (Below w.heap.size w wr)) (fun _ v5 _ _ => 5000 - (intOf v5).toNat)
    case atStart => exact ⟨0, 0, by omega, by omega, rfl, Bls.nil _ _, HB1.out⟩
    case round =>
      obtain ⟨k, m, hk, hkm, rfl, J1, J2⟩ := hrel
      have hK := HKK.out k
      rw [hkm] at hK
      by_cases hlt : m < n
      · have hlt2 : (m : Int) < (n : Int) := by omega
        have HKC : Hid (k < c) := hK.1 hlt
        obtain ⟨q, hq⟩ : ∃ q : Nat, m + s = q := ⟨_, rfl⟩
        have hkq : (k + 1) * s = q := by rw [Nat.add_mul, hkm]; omega
        have w1 : IntKind.i64.wrap ((m : Int) + (s : Int)) = (q : Int) := by rw [← hq]; exact i64in _ (by omega) (by omega)
        obtain ⟨p, HP⟩ : ∃ p, Hid (min s (n - m) = p) := ⟨_, rfl⟩
        have hp := HP.out
        have hBk := HBY.out.kept J2.out (Nat.le_refl _)
        have hsrc := hBk.src (by rw [HN.out]; omega)
        subst hsrc
        have hcm : ¬ cap = m := by omega
        have hmn : (m : Int) ≤ (n : Int) := by omega
        have HMID := (hBk.mid m p (by rw [HN.out]; omega) (by omega)).2
        have HVS : Hid ((xs.drop m).take p = partL xs k) := by
          show _ = _
          rw [partL, HS.out, hkm, ← HP.out]
          have hl : (xs.drop m).length = n - m := by rw [List.length_drop, HN.out]
          rw [Nat.min_comm, ← hl, ← List.take_take]
          exact List.take_of_length_le (by rw [List.length_take]; omega)
        rw [HVS.out] at HMID
        obtain ⟨v5, w5, hr5, hf5, hg5⟩ := fresh_app (fresh_nil w.heap.size wr) HMID (by have := partL_le xs k; simp; omega) J2.out.size
        rw [List.nil_append] at hf5
        obtain ⟨A5, c5, b5, hy5, _, _⟩ := hf5.bytes (Nat.lt_of_lt_of_le HPOS.out (Nat.le_trans J2.out.size hg5.size))
        have e5 := hy5.form
        generalize (partL xs k).length = m5 at e5
        subst e5
        clear hy5
        have B5 : Below wr.heap.size wr w5 := (Below.refl _ _).grown hg5 (Nat.le_refl _) (fun _ e => by cases e)
        have B5w : Below w.heap.size w w5 := J2.out.trans (B5.mono J2.out.size)
        have L5 : Bls w.heap.size w5 u4 (blocksTo xs k) := J1.out.kept B5
        have BA : Below w5.heap.size w5 (w5.alloc (.cells #[.slice A5 m5 c5] 25)) := (Below.refl _ _).alloc (Nat.le_refl _) _
        obtain ⟨v6, w6, hr6, hl6, hg6⟩ := append_bl (w5.alloc (.cells #[.slice A5 m5 c5] 25)) w.heap.size u4 (blocksTo xs k) (L5.kept BA) (.slice A5 m5 c5) (partL xs k) (fresh_kept hf5 BA) ⟨w5.heap.size, 0, none⟩ (by rw [add_at]; exact (Has.fresh w5 25 #[.slice A5 m5 c5]).at_ 0) (by rw [blocksTo_len]; omega) (by have := B5w.size; simp; omega) 71
        rw [← blocksTo_next] at hl6
        have B6 : Hid (Below w.heap.size w w6) := (B5w.alloc B5w.size (.cells #[.slice A5 m5 c5] 25)).grown hg6 (by have := B5w.size; simp; omega) (fun g hg => by
          obtain ⟨vs, ho, _⟩ := L5
          exact (World.ownsRow.lt ho g hg).1)
        have R5 := hid hr5
        have R6 := hid hr6
        have L6 := hid hl6
        clear hf5 hg5 hr5 B5 B5w L5 BA hr6 hl6 hg6 HMID HVS hBk hK
        rcases Nat.lt_or_ge n q with hqn | hqn
        · have hp2 : p = n - m := by omega
          have h5 : (n : Int) < (q : Int) := by omega
          have h6 : ¬ (q : Int) ≤ (n : Int) := by omega
          have h8 : min (q : Int) (n : Int) = (n : Int) := by omega
          rw [hp2] at R5
          clear hp hp2 HP
          go_wp2_with (first
            | (at_builtin; refine wpList_append_run rfl (.tmp 21) (.tmp 30) 25 25 rfl ⟨_, _, R5.out, ?_⟩)
            | (at_builtin; refine wpList_append_run rfl (.tmp 32) (.tmp 34) 71 71 rfl ⟨_, _, R6.out, ?_⟩))
          go_roundw
          case rel => exact ⟨k + 1, q, HKC.out, hkq, by go_num, L6.out, B6.out⟩
          case measure => simp [intOf]; omega
        · have hp2 : p = q - m := by omega
          have h5 : (q : Int) ≤ (n : Int) := by omega
          have h6 : (m : Int) ≤ (q : Int) := by omega
          have h7 : (q : Int) ≤ (cap : Int) := by omega
          have h8 : min (q : Int) (n : Int) = (q : Int) := by omega
          rw [hp2] at R5
          clear hp hp2 HP
          go_wp2_with (first
            | (at_builtin; refine wpList_append_run rfl (.tmp 21) (.tmp 30) 25 25 rfl ⟨_, _, R5.out, ?_⟩)
            | (at_builtin; refine wpList_append_run rfl (.tmp 32) (.tmp 34) 71 71 rfl ⟨_, _, R6.out, ?_⟩))
          go_roundw
          case rel => exact ⟨k + 1, q, HKC.out, hkq, by go_num, L6.out, B6.out⟩
          case measure => simp [intOf]; omega
      · have hlt2 : ¬ (m : Int) < (n : Int) := by omega
        have HE : Hid (k = c) := by show _ = _; have : ¬ k < c := fun e => hlt (hK.2 e); omega
        clear hK
        go_wp2
        go_ret
        exact ⟨_, rfl, by rw [HV.out, ← HE.out]; exact J1.out, J2.out⟩
end Go.Proofs.YtlcdkponegmcdaaDoor
/- The document's Part, List, Same: what each call does. Conditions: bytes in a block of the world. -/
namespace Go.Proofs.YtlcdkponegmcdaaDoor
open Go.RowKit
theorem blocksL_len (xs : By) : (blocksL xs).length = cntI xs.length := by
  by_cases h : xs.length ≤ 4096
  · rw [blocksL_ok xs h, blocksTo_len, cntI_nat _ h]
  · rw [blocksL_long xs (by omega), cntI_no _ (.inr (by omega))]; rfl
theorem blocksL_at (xs : By) (k : Nat) (h : k < cntI xs.length) : (blocksL xs).getD k [] = partL xs k := by
  by_cases hl : xs.length ≤ 4096
  · rw [blocksL_ok xs hl, blocksTo_at _ _ _ (by rw [cntI_nat _ hl] at h; exact h)]
  · rw [cntI_no _ (.inr (by omega))] at h; omega
set_option maxRecDepth 100000 in
set_option maxHeartbeats 4000000 in
theorem rpart_any (v : Value) (xs : By) (A : Option Addr) (cap bb off : Nat) (i : Int) (w : World) (h : Bytes w v xs A cap bb off) (hp : 0 < w.heap.size) (hmax : xs.length ≤ 100000) :
    Calls Tryd.prog 18 #[v, .int .i64 i] w fun e w' => ∃ u, e = .returned u ∧ Fresh w.heap.size w' u (partI xs i) ∧ Below w.heap.size w w' := by
  have CB := hid (rblocks_any v xs A cap bb off w h hp hmax)
  obtain ⟨c, HC⟩ : ∃ c, Hid ((blocksL xs).length = c) := ⟨_, rfl⟩
  have HCI : Hid (cntI (xs.length : Int) = c) := by show _ = _; rw [← HC.out, blocksL_len]
  clear h hp hmax
  by_cases h1 : i < 0
  · have HV : Hid (partI xs i = []) := by show _ = _; rw [partI, if_pos (.inl h1)]
    go_enter Tryd.func18, Tryd.ntmps18
    go_wp2_with (go_at_call 35; refine CB.out.mono ?_; rintro e1 w1 ⟨v1, rfl, hl1, hb1⟩
                 obtain ⟨A1, c1, hv1⟩ := hl1.form
                 rw [HC.out] at hv1
                 subst hv1)
    go_ret
    exact ⟨_, rfl, by rw [HV.out]; exact fresh_nil _ _, hb1⟩
  · obtain ⟨k, rfl⟩ := Int.eq_ofNat_of_zero_le (a := i) (by omega)
    by_cases h2 : (c : Int) ≤ (k : Int)
    · have HV : Hid (partI xs (k : Int) = []) := by show _ = _; rw [partI, if_pos (.inr (by rw [HCI.out]; exact h2))]
      go_enter Tryd.func18, Tryd.ntmps18
      go_wp2_with (go_at_call 35; refine CB.out.mono ?_; rintro e1 w1 ⟨v1, rfl, hl1, hb1⟩
                   obtain ⟨A1, c1, hv1⟩ := hl1.form
                   rw [HC.out] at hv1
                   subst hv1)
      go_ret
      exact ⟨_, rfl, by rw [HV.out]; exact fresh_nil _ _, hb1⟩
    · have hkc : k < c := by omega
      have hkc2 : (k : Int) < (c : Int) := by omega
      have HV : Hid ((blocksL xs).getD k [] = partI xs (k : Int)) := by
        show _ = _
        rw [partI, if_neg (by rw [HCI.out]; omega), blocksL_at _ _ (by rw [HCI.out]; exact hkc)]; rfl
      go_enter Tryd.func18, Tryd.ntmps18
      go_wp2_with (go_at_call 35; refine CB.out.mono ?_; rintro e1 w1 ⟨v1, rfl, hl1, hb1⟩
                   obtain ⟨g, c1, u, hv1, hcell, hfu⟩ := hl1.at_ k (by rw [HC.out]; exact hkc)
                   rw [HC.out] at hv1
                   subst hv1
                   have HB1 := hid hb1
                   have HFU := hid hfu
                   clear hl1 hb1 hfu)
      go_ret
      exact ⟨_, rfl, by rw [← HV.out]; exact HFU.out, HB1.out⟩
set_option maxRecDepth 100000 in
set_option maxHeartbeats 4000000 in
theorem rlist_long (v : Value) (xs : By) (A : Option Addr) (cap bb off : Nat) (w : World) (h : Bytes w v xs A cap bb off) (hl : 4096 < xs.length) :
    Calls Tryd.prog 16 #[v] w fun e w' => e = .returned (.tuple #[.slice none 0 0, .int .i64 3]) ∧ w = w' := by
  have e0 := h.form
  rw [e0]
  obtain ⟨n, HN⟩ : ∃ n, Hid (xs.length = n) := ⟨_, rfl⟩
  rw [HN.out] at hl ⊢
  have h1 : (4096 : Int) < (n : Int) := by omega
  clear h e0 hl
  go_enter Tryd.func16, Tryd.ntmps16
  go_wp2
  go_ret2
  exact ⟨rfl, rfl⟩
set_option maxRecDepth 100000 in
set_option maxHeartbeats 4000000 in
theorem rlist_any (v : Value) (xs : By) (A : Option Addr) (cap bb off : Nat) (w : World) (h : Bytes w v xs A cap bb off) (hp : 0 < w.heap.size) (hl : xs.length ≤ 4096) :
    Calls Tryd.prog 16 #[v] w fun e w' => ∃ v', e = .returned (.tuple #[v', .int .i64 0]) ∧ Dgs w.heap.size w' v' (hashes xs) ∧ Below w.heap.size w w' := by
  have CB := hid (rblocks_any v xs A cap bb off w h hp (by omega))
  have e0 := h.form
  obtain ⟨n, HN⟩ : ∃ n, Hid (xs.length = n) := ⟨_, rfl⟩
  obtain ⟨c, HC⟩ : ∃ c, Hid (cntL xs.length = c) := ⟨_, rfl⟩
  have hc32 := cntL_le xs.length hl
  rw [HC.out] at hc32
  rw [blocksL_ok xs hl, HC.out] at CB
  have HBL : Hid ((blocksTo xs c).length = c) := blocksTo_len xs c
  have HAT : Hid (∀ k, k < c → (blocksTo xs c).getD k [] = partL xs k) := fun k hk => blocksTo_at xs c k hk
  have HV : Hid (hashes xs = listTo xs c) := by show _ = _; rw [hashes, HC.out]
  have HPOS := hid hp
  have h1 : ¬ (4096 : Int) < (n : Int) := by rw [← HN.out]; omega
  obtain ⟨bs, HBS⟩ : ∃ bs, Hid (blocksTo xs c = bs) := ⟨_, rfl⟩
  rw [HBS.out] at CB HBL HAT
  rw [HN.out] at e0
  rw [e0] at CB ⊢
  clear h e0 hl hp
  go_enter Tryd.func16, Tryd.ntmps16
  go_wp2_with (go_at_call 35; refine CB.out.mono ?_; rintro e1 w1 ⟨v1, rfl, hl1, hb1⟩
               obtain ⟨A1, c1, hv1⟩ := hl1.form
               rw [HBL.out] at hv1
               subst hv1
               have L1 := hid hl1
               have B1 := hid hb1
               clear hl1 hb1)
  go_loopw [5, 6, 7] (fun v5 v6 _ wr => ∃ k : Nat, k ≤ c ∧ v6 = .int .i64 (k : Int) ∧ Hid (Dgs w.heap.size wr v5 (listTo xs k)) ∧ Hid (Below w.heap.size w wr) ∧ Hid (Bls w.heap.size wr (.slice A1 c c1) bs)) (fun _ v6 _ _ => c - (intOf v6).toNat)
  case atStart => exact ⟨0, by omega, rfl, Dgs.nil _ _, B1.out, L1.out⟩
  case round =>
    obtain ⟨k, hk, rfl, J1, J2, J3⟩ := hrel
    by_cases hlt : k < c
    · have hlt2 : (k : Int) < (c : Int) := by omega
      have w1 : IntKind.i64.wrap ((k : Int) + 1) = (k : Int) + 1 := i64in _ (by omega) (by omega)
      obtain ⟨g, c9, u, hv9, hcell, hfu⟩ := J3.out.at_ k (by rw [HBL.out]; exact hlt)
      rw [HBL.out] at hv9
      injection hv9 with hA1 hn1 hc1
      subst hA1
      subst hc1
      clear hn1
      rw [HAT.out k hlt] at hfu
      obtain ⟨A2, c2, b2, hy2, _, _⟩ := hfu.bytes (Nat.lt_of_lt_of_le HPOS.out J2.out.size)
      have hyf := hy2.form
      obtain ⟨m, HM⟩ : ∃ m, Hid ((partL xs k).length = m) := ⟨_, rfl⟩
      rw [HM.out] at hyf
      subst hyf
      have Y2 := hid hy2
      obtain ⟨d, HD⟩ : ∃ d, Hid (dg (partL xs k) = d) := ⟨_, rfl⟩
      have HDL : Hid (d.length = 32) := by show _ = _; rw [← HD.out]; exact dg_len _
      have HNX : Hid (listTo xs (k + 1) = listTo xs k ++ [d]) := by show _ = _; rw [listTo_next, HD.out]
      have HPL := hid (partL_le xs k)
      have HZ1 := hid (size_h d HDL.out)
      have HZ2 := hid (size_z d HDL.out)
      clear hfu hy2
      go_wp2_with (first
        | (go_at_call 21; refine (rsum_any _ _ _ _ _ _ _ Y2.out (Nat.le_trans HPL.out (by omega))).mono ?_; rintro e3 w3 ⟨rfl, hb3⟩
           rw [HD.out]
           have B3 : Hid (Below w.heap.size w w3) := J2.out.trans (hb3.mono J2.out.size)
           have D3 : Hid (Dgs w.heap.size w3 u5 (listTo xs k)) := J1.out.kept hb3 (Nat.le_refl _)
           have L3 : Hid (Bls w.heap.size w3 (.slice (some ⟨g, 0, none⟩) c c1) bs) := J3.out.kept hb3
           clear hb3)
        | (refine wpList_store_row rfl 27 (.tmp 7) (.tmp 23) rfl w3.heap.size (hvec d) rfl rfl 27 (hvec (List.replicate 32 0)) (Has.fresh w3 27 _) HZ1.out HZ2.out (hvec_one _) ?_
           generalize hG : World.setRow _ _ _ = W1
           obtain ⟨W0, hG0, X1, X2⟩ := box_h w3 d HDL.out
           obtain rfl : W0 = W1 := hG0.symm.trans hG
           have BW : Hid (Below w.heap.size w W0) := B3.out.trans (X2.out.mono B3.out.size)
           have DW : Hid (Dgs w.heap.size W0 u5 (listTo xs k)) := D3.out.kept X2.out (Nat.le_refl _)
           have LW : Hid (Bls w.heap.size W0 (.slice (some ⟨g, 0, none⟩) c c1) bs) := L3.out.kept X2.out
           have AP := hid (append_dg (W0.alloc (.cells (hvec d) 27)) w.heap.size u5 (listTo xs k) (DW.out.kept ((Below.refl _ _).alloc (Nat.le_refl _) _) (Nat.le_refl _)) d HDL.out ⟨W0.heap.size, 0, none⟩ (fun j hj => by rw [add_at, Nat.zero_add, (Has.fresh W0 27 (hvec d)).at_ j, hvec, List.getElem?_toArray]; exact get_map (by rw [HDL.out]; exact hj)) (by rw [listTo_len]; omega) (by have := BW.out.size; simp; omega) 28)
           obtain ⟨v5, w5, hr5, hd5, hg5⟩ := AP.out
           have R5 := hid hr5
           have D5 : Hid (Dgs w.heap.size w5 v5 (listTo xs (k + 1))) := by show Dgs _ _ _ _; rw [HNX.out]; exact hd5
           have B5 : Hid (Below w.heap.size w w5) := (BW.out.alloc BW.out.size (.cells (hvec d) 27)).grown hg5 (by have := BW.out.size; simp; omega) (fun g hg => (DW.out.own.lt g hg).1)
           have L5 : Hid (Bls w.heap.size w5 (.slice (some ⟨g, 0, none⟩) c c1) bs) := (LW.out.kept ((Below.refl _ W0).alloc (Nat.le_refl _) (.cells (hvec d) 27))).grown (DW.out.kept ((Below.refl _ W0).alloc (Nat.le_refl _) (.cells (hvec d) 27)) (Nat.le_refl _)).own (by decide) (by decide) hg5
           clear hG hG0 AP hr5 hd5 hg5)
        | (refine wpList_load_row rfl 27 (.tmp 7) rfl w3.heap.size rfl 27 (hvec d) (0, 0) _ X1.out Tryd.underlying27 rfl HZ1.out ?_)
        | (refine wpList_build_dg (by rfl) (.tmp 25) rfl d rfl HDL.out ?_)
        | (refine wpList_append_run rfl (.tmp 24) (.tmp 26) 28 28 rfl ⟨_, _, R5.out, ?_⟩))
      go_roundw
      case rel => exact ⟨k + 1, by omega, by go_num, D5.out, B5.out, L5.out⟩
      case measure => simp [intOf]; omega
    · obtain rfl : k = c := by omega
      go_wp2
      go_ret2
      exact ⟨_, rfl, by rw [HV.out]; exact J1.out, J2.out⟩
set_option maxRecDepth 100000 in
set_option maxHeartbeats 4000000 in
theorem rsame_any (v1 v2 : Value) (hs : List By) (w : World) (h1 : Dgs 0 w v1 hs) (h2 : Dgs 0 w v2 hs) (hl : hs.length ≤ 1000) :
    Calls Tryd.prog 19 #[v1, v2] w fun e w' => e = .returned (.bool true) ∧ Below w.heap.size w w' := by
  obtain ⟨A1, c1, rfl⟩ := h1.form
  obtain ⟨A2, c2, rfl⟩ := h2.form
  obtain ⟨n, HN⟩ : ∃ n, Hid (hs.length = n) := ⟨_, rfl⟩
  have H12 : Hid (L2 (.slice A1 hs.length c1) (.slice A2 hs.length c2) hs hs w) := ⟨h1, h2⟩
  rw [HN.out] at hl H12 ⊢
  clear h1 h2
  go_enter Tryd.func19, Tryd.ntmps19
  go_wp2
  go_loopw [5] (fun v5 wr => ∃ k : Nat, k ≤ n ∧ v5 = .int .i64 (k : Int) ∧ Hid (L2 (.slice A1 n c1) (.slice A2 n c2) hs hs wr) ∧ Hid (Below w.heap.size w wr)) (fun v5 _ => n - (intOf v5).toNat)
  case atStart => exact ⟨0, by omega, rfl, H12.out, Below.refl _ _⟩
  case round =>
    obtain ⟨k, hk, rfl, J1, J2⟩ := hrel
    by_cases hlt : k < n
    · have hlt2 : (k : Int) < (n : Int) := by omega
      have w1 : IntKind.i64.wrap ((k : Int) + 1) = (k : Int) + 1 := i64in _ (by omega) (by omega)
      have HI : k < hs.length := by rw [HN.out]; exact hlt
      obtain ⟨d, HD⟩ : ∃ d, Hid (hs[k] = d) := ⟨_, hid rfl⟩
      have HDL : Hid (d.length = 32) := by show _ = _; rw [← HD.out]; exact J1.out.a.len _ (List.getElem_mem _)
      have HNE : Hid ((!same8 d d) = false) := by show _ = _; rw [same8_refl]; rfl
      obtain ⟨ga, ca, hva, _⟩ := J1.out.a.at_ k HI
      obtain ⟨gb, cb, hvb, _⟩ := J1.out.b.at_ k HI
      rw [HN.out] at hva hvb
      injection hva with ha1 ha2 ha3
      injection hvb with hb1 hb2 hb3
      subst ha1 ha3 hb1 hb3
      clear ha2 hb2
      have J1d : Hid (L2 (.slice (some ⟨ga, 0, none⟩) n c1) (.slice (some ⟨gb, 0, none⟩) n c2) hs hs wr.drew) := hid (J1.out.on (Below.refl _ wr).drew)
      have J2d : Hid (Below w.heap.size w wr.drew) := hid J2.out.drew
      go_wp2
      refine wp_region_noPanic ?_
      refine wp_region_held_drew (S := L2 (.slice (some ⟨ga, 0, none⟩) n c1) (.slice (some ⟨gb, 0, none⟩) n c2) hs hs) (by kernel_rfl) (J1d.out) (fun hS => ?_)
      refine wpAnyH_take (i := 0) (v := ?_) (by simp only [List.getElem?_toArray, List.getElem?_cons_zero]; rfl) (by kernel_rfl) (by kernel_rfl) (by kernel_rfl) (fun _ _ _ h => h) (Or.inl ⟨by rfl, ?_⟩) (by assumption) ?_
      rotate_left 1
      · intro w hSw
        go_simp
        try with_reducible rfl
      simp only [Act.put, List.setIfInBounds_toArray, List.set_cons_zero, List.set_cons_succ]
      refine wpAnyH_take (i := 1) (v := ?_) (by simp only [List.getElem?_toArray, List.getElem?_cons_zero, List.getElem?_cons_succ]; rfl) (by kernel_rfl) (by kernel_rfl) (by kernel_rfl) (fun _ _ _ h => h) (Or.inl ⟨by rfl, ?_⟩) (by assumption) ?_
      rotate_left 1
      · intro w hSw
        go_simp
        try with_reducible rfl
      simp only [Act.put, List.setIfInBounds_toArray, List.set_cons_zero, List.set_cons_succ]
      refine wpAnyH_take (i := 2) (v := ?_) (by simp only [List.getElem?_toArray, List.getElem?_cons_zero, List.getElem?_cons_succ]; rfl) (by kernel_rfl) (by kernel_rfl) (by kernel_rfl) (fun _ _ _ h => h) (Or.inl ⟨by rfl, ?_⟩) (by assumption) ?_
      rotate_left 1
      · intro w hSw
        go_simp
        try with_reducible rfl
      simp only [Act.put, List.setIfInBounds_toArray, List.set_cons_zero, List.set_cons_succ]
      refine' wpAnyH_take (i := 3) (v := _) (by simp only [List.getElem?_toArray, List.getElem?_cons_zero, List.getElem?_cons_succ]; rfl) (by kernel_rfl) (by kernel_rfl) (by kernel_rfl) (fun _ _ _ h => h) (yields_load_h (by rfl) (.tmp 19) rfl ga (k * 32) rfl d (fun w hS => hS.a.ld k HI d HD.out)) (by assumption) ?_
      simp only [Act.put, List.setIfInBounds_toArray, List.set_cons_zero, List.set_cons_succ]
      refine wpAnyH_take (i := 4) (v := ?_) (by simp only [List.getElem?_toArray, List.getElem?_cons_zero, List.getElem?_cons_succ]; rfl) (by kernel_rfl) (by kernel_rfl) (by kernel_rfl) (fun _ _ _ h => h) (Or.inl ⟨by rfl, ?_⟩) (by assumption) ?_
      rotate_left 1
      · intro w hSw
        go_simp
        try with_reducible rfl
      simp only [Act.put, List.setIfInBounds_toArray, List.set_cons_zero, List.set_cons_succ]
      refine wpAnyH_take (i := 5) (v := ?_) (by simp only [List.getElem?_toArray, List.getElem?_cons_zero, List.getElem?_cons_succ]; rfl) (by kernel_rfl) (by kernel_rfl) (by kernel_rfl) (fun _ _ _ h => h) (Or.inl ⟨by rfl, ?_⟩) (by assumption) ?_
      rotate_left 1
      · intro w hSw
        go_simp
        try with_reducible rfl
      simp only [Act.put, List.setIfInBounds_toArray, List.set_cons_zero, List.set_cons_succ]
      refine wpAnyH_take (i := 6) (v := ?_) (by simp only [List.getElem?_toArray, List.getElem?_cons_zero, List.getElem?_cons_succ]; rfl) (by kernel_rfl) (by kernel_rfl) (by kernel_rfl) (fun _ _ _ h => h) (Or.inl ⟨by rfl, ?_⟩) (by assumption) ?_
      rotate_left 1
      · intro w hSw
        go_simp
        try with_reducible rfl
      simp only [Act.put, List.setIfInBounds_toArray, List.set_cons_zero, List.set_cons_succ]
      refine' wpAnyH_take (i := 7) (v := _) (by simp only [List.getElem?_toArray, List.getElem?_cons_zero, List.getElem?_cons_succ]; rfl) (by kernel_rfl) (by kernel_rfl) (by kernel_rfl) (fun _ _ _ h => h) (yields_load_h (by rfl) (.tmp 23) rfl gb (k * 32) rfl d (fun w hS => hS.b.ld k HI d HD.out)) (by assumption) ?_
      simp only [Act.put, List.setIfInBounds_toArray, List.set_cons_zero, List.set_cons_succ]
      refine' wpAnyH_take (i := 8) (v := _) (by simp only [List.getElem?_toArray, List.getElem?_cons_zero, List.getElem?_cons_succ]; rfl) (by kernel_rfl) (by kernel_rfl) (by kernel_rfl) (fun _ _ _ h => h) (yields_neq_h (by rfl) (.tmp 20) (.tmp 24) rfl d d rfl rfl HDL.out HDL.out false HNE.out) (by assumption) ?_
      simp only [Act.put, List.setIfInBounds_toArray, List.set_cons_zero, List.set_cons_succ]
      refine wpAnyH_done (by kernel_rfl) ?_ _
      refine NoPanic.normal ?_
      go_wp2
      go_roundw
      case rel => exact ⟨k + 1, by omega, by go_num, J1d.out, J2d.out⟩
      case measure => simp [intOf]; omega
    · obtain rfl : k = n := by omega
      go_wp2
      go_ret
      exact ⟨rfl, J2.out⟩
end Go.Proofs.YtlcdkponegmcdaaDoor
/- The walk of BlockLists. Conditions: the listed table; bytes in a block of the world. -/
namespace Go.Proofs.YtlcdkponegmcdaaDoor
open Go.RowKit
def hashL (xs : By) : List By := if xs.length ≤ 4096 then hashes xs else []
def errL (xs : By) : Int := if xs.length ≤ 4096 then 0 else 3
theorem hashL_len (xs : By) : (hashL xs).length ≤ 32 := by
  unfold hashL
  split
  · rename_i h; rw [hashes_len]; exact cntL_le _ h
  · exact Nat.zero_le _
theorem list_both (v : Value) (xs : By) (A : Option Addr) (cap bb off : Nat) (w : World) (hT : Sha.Tab w) (h : Bytes w v xs A cap bb off) :
    Calls Tryd.prog 15 #[v] w fun e w' => ∃ v', e = .returned (.tuple #[v', .int .i64 (errL xs)]) ∧ Dgs w.heap.size w' v' (hashL xs) ∧ Below w.heap.size w w' := by
  by_cases hl : xs.length ≤ 4096
  · rw [errL, hashL, if_pos hl, if_pos hl]
    exact list_any v xs A cap bb off w hT h hl
  · rw [errL, hashL, if_neg hl, if_neg hl]
    refine (list_long v xs A cap bb off w h (by omega)).mono ?_
    rintro e w' ⟨rfl, rfl⟩
    exact ⟨_, rfl, Dgs.nil _ _, Below.refl _ _⟩
theorem rlist_both (v : Value) (xs : By) (A : Option Addr) (cap bb off : Nat) (w : World) (hp : 0 < w.heap.size) (h : Bytes w v xs A cap bb off) :
    Calls Tryd.prog 16 #[v] w fun e w' => ∃ v', e = .returned (.tuple #[v', .int .i64 (errL xs)]) ∧ Dgs w.heap.size w' v' (hashL xs) ∧ Below w.heap.size w w' := by
  by_cases hl : xs.length ≤ 4096
  · rw [errL, hashL, if_pos hl, if_pos hl]
    exact rlist_any v xs A cap bb off w h hp hl
  · rw [errL, hashL, if_neg hl, if_neg hl]
    refine (rlist_long v xs A cap bb off w h (by omega)).mono ?_
    rintro e w' ⟨rfl, rfl⟩
    exact ⟨_, rfl, Dgs.nil _ _, Below.refl _ _⟩
/-- What the great region reads. -/
structure S8 (gb : Nat) (d : By) (vp : Value) (ys : By) (A : Option Addr) (cap bb : Nat) (W : World) : Prop where
  box : Has W gb 27 (hvec d)
  p : Bytes W vp ys A cap bb 0
theorem S8.on {gb : Nat} {d : By} {vp : Value} {ys : By} {A : Option Addr} {cap bb : Nat} {W W' : World} (h : S8 gb d vp ys A cap bb W) (hb : Below W.heap.size W W') : S8 gb d vp ys A cap bb W' := ⟨h.box.on hb, h.p.kept hb (Nat.le_refl _)⟩
theorem xor255 (x : UInt8) : bits .xor .u8 (b8 x) 255 = b8 (UInt8.ofNat (255 - x.toNat)) := by
  have h : ∀ i : _root_.Fin 256, bits .xor .u8 ((i.val : Nat) : Int) 255 = ((255 - i.val : Nat) : Int) := by decide +kernel
  have hx := x.toNat_lt
  have := h ⟨x.toNat, by omega⟩
  rw [b8_ofNat]
  have e : (255 - x.toNat) % 256 = 255 - x.toNat := by omega
  rw [e]
  exact this
theorem partI_small (xs : By) (i : Int) : (partI xs i).length ≤ 128 := by
  unfold partI
  split
  · simp
  · exact partL_le _ _
theorem ne_self (b : Bool) : (b != b) = false := by cases b <;> rfl
set_option maxRecDepth 100000 in
set_option maxHeartbeats 4000000 in
theorem lists_big (v : Value) (xs : By) (A : Option Addr) (cap bb off : Nat) (i : Int) (d : By) (w : World) (h : Bytes w v xs A cap bb off) (hT : Sha.Tab w) (hl : 9000 < xs.length) :
    Calls Tryd.prog 4 #[v, .int .i64 i, .agg (hvec d)] w fun e w' => e = .returned (.bool true) ∧ Below w.heap.size w w' := by
  obtain rfl := h.form
  obtain ⟨n, HN⟩ : ∃ n, Hid (xs.length = n) := ⟨_, rfl⟩
  rw [HN.out] at hl ⊢
  have h1 : (9000 : Int) < (n : Int) := by omega
  have hbx : Below w.heap.size w (w.alloc (.cells (hvec d) 27)) := (Below.refl _ _).alloc (Nat.le_refl _) _
  have CA := hid (awake_any (w.alloc (.cells (hvec d) 27)) (hT.kept hbx hT.pos))
  have HBX := hid hbx
  clear h hl hT hbx
  go_enter Tryd.func4, Tryd.ntmps4
  go_wp2_with (go_at_call 14; refine CA.out.mono ?_; rintro e5 w5 ⟨rfl, hb5⟩)
  go_ret
  exact ⟨rfl, HBX.out.trans (hb5.mono HBX.out.size)⟩
set_option maxRecDepth 100000 in
set_option maxHeartbeats 16000000 in
theorem lists_any (v : Value) (xs : By) (A : Option Addr) (cap bb off : Nat) (i : Int) (d : By) (hd : d.length = 32) (w : World) (h : Bytes w v xs A cap bb off) (hT : Sha.Tab w) :
    Calls Tryd.prog 4 #[v, .int .i64 i, .agg (hvec d)] w fun e w' => e = .returned (.bool true) ∧ Below w.heap.size w w' := by
  by_cases hb : 9000 < xs.length
  · exact lists_big v xs A cap bb off i d w h hT hb
  have hl : xs.length ≤ 9000 := by omega
  have e0 := h.form
  obtain ⟨n, HN⟩ : ∃ n, Hid (xs.length = n) := ⟨_, rfl⟩
  have h1 : ¬ (9000 : Int) < (n : Int) := by rw [← HN.out]; omega
  have hbx : Below w.heap.size w (w.alloc (.cells (hvec d) 27)) := (Below.refl _ _).alloc (Nat.le_refl _) _
  have hb0 : Below w.heap.size w ((w.alloc (.cells (hvec d) 27)).alloc (.cells #[] 5)) := hbx.alloc hbx.size _
  have h0 : Fresh w.heap.size ((w.alloc (.cells (hvec d) 27)).alloc (.cells #[] 5)) (.slice (some ⟨w.heap.size + 1, 0, none⟩) 0 0) [] := by
    have := World.ownsRow_made (base := w.heap.size) (w.alloc (.cells (hvec d) 27)) #[] 0 (e := 5) (size := 1) (by simp) (by unfold maxLen; omega) rfl
    unfold Fresh
    simpa using this
  obtain ⟨v1, w1, hr1, hf1, hg1⟩ := fresh_app h0 (h.kept hb0 (Nat.le_refl _)) (by simp; omega) (by simp; omega)
  rw [List.nil_append] at hf1
  have B1 : Below w.heap.size w w1 := hb0.grown hg1 (by simp; omega) (fun g hg => by have hg : w.heap.size + 1 = g := Option.some.inj hg; omega)
  have HBOX1 : Has w1 w.heap.size 27 (hvec d) := ((Has.fresh w 27 (hvec d)).more _).grw (g := w.heap.size + 1) hg1 (by omega)
  obtain ⟨A1, c1, b1, hy1, hb1w, _⟩ := hf1.bytes (Nat.lt_of_lt_of_le hT.pos B1.size)
  have e1 := hy1.form
  rw [HN.out] at e0 e1
  subst e0
  subst e1
  have T1 := hT.kept B1 hT.pos
  have CL1 := hid (list_both _ xs A1 c1 b1 0 w1 T1 hy1)
  have HLL := hid (hashL_len xs)
  obtain ⟨hs, HHS⟩ : ∃ hs, Hid (hashL xs = hs) := ⟨_, rfl⟩
  obtain ⟨z, HZ⟩ : ∃ z, Hid (errL xs = z) := ⟨_, rfl⟩
  rw [HHS.out, HZ.out] at CL1
  rw [HHS.out] at HLL
  obtain ⟨ys, HYS⟩ : ∃ ys, Hid (partI xs i = ys) := ⟨_, rfl⟩
  have HX := hid h
  have HT := hid hT
  have HPOS := hid hT.pos
  have HL := hid hl
  have HY1 := hid hy1
  have HB1 := hid B1
  have HBX := hid HBOX1
  have HR1 := hid hr1
  have HF1 := hid hf1
  have HDL := hid hd
  clear h hT hl hb hbx hb0 h0 hr1 hf1 hg1 hy1 T1 B1 HBOX1 hb1w hd
  go_enter Tryd.func4, Tryd.ntmps4
  go_wp2_with (first
    | (refine wpList_append_run rfl (.tmp 20) (.tmp 21) 25 25 rfl ⟨_, _, HR1.out, ?_⟩)
    | fail)
  refine CL1.out.mono ?_
  rintro e2 w2 ⟨v2, rfl, hd2, hb2⟩
  have D2 : Hid (Dgs 0 w2 v2 hs) := hd2.mono (Nat.zero_le _)
  have B2 : Hid (Below w.heap.size w w2) := HB1.out.trans (hb2.mono HB1.out.size)
  have Y2 : Hid (Bytes w2 (.slice A1 n c1) xs A1 c1 b1 0) := HY1.out.kept hb2 (Nat.le_refl _)
  have X2 : Hid (Has w2 w.heap.size 27 (hvec d)) := HBX.out.on hb2
  have CL2 := hid (rlist_both _ xs _ cap bb off w2 (Nat.lt_of_lt_of_le HPOS.out B2.out.size) (HX.out.kept B2.out (Nat.le_refl _)))
  rw [HHS.out, HZ.out] at CL2
  clear hd2 hb2
  go_wp2_with (fail)
  refine CL2.out.mono ?_
  rintro e3 w3 ⟨v3, rfl, hd3, hb3⟩
  have D3 : Hid (Dgs 0 w3 v3 hs) := hd3.mono (Nat.zero_le _)
  have D2b : Hid (Dgs 0 w3 v2 hs) := D2.out.kept hb3 (Nat.le_refl _)
  have B3 : Hid (Below w.heap.size w w3) := B2.out.trans (hb3.mono B2.out.size)
  have Y3 : Hid (Bytes w3 (.slice A1 n c1) xs A1 c1 b1 0) := Y2.out.kept hb3 (Nat.le_refl _)
  have X3 : Hid (Has w3 w.heap.size 27 (hvec d)) := X2.out.on hb3
  have CP1 := hid (part_any _ xs A1 c1 b1 0 i w3 Y3.out)
  rw [HYS.out] at CP1
  clear hd3 hb3
  go_wp2_with (fail)
  refine CP1.out.mono ?_
  rintro e4 w4 ⟨vp, rfl, hf4, hb4⟩
  have B4 : Hid (Below w.heap.size w w4) := B3.out.trans (hb4.mono B3.out.size)
  have Y4 : Hid (Bytes w4 (.slice A1 n c1) xs A1 c1 b1 0) := Y3.out.kept hb4 (Nat.le_refl _)
  have X4 : Hid (Has w4 w.heap.size 27 (hvec d)) := X3.out.on hb4
  have D4 : Hid (L2 v2 v3 hs hs w4) := ⟨D2b.out.kept hb4 (Nat.le_refl _), D3.out.kept hb4 (Nat.le_refl _)⟩
  have P4 : Hid (Fresh w3.heap.size w4 vp ys) := hf4
  have HB4 : Hid (b1 < w3.heap.size ∧ w3.heap.size ≤ w4.heap.size) := ⟨Y3.out.blk, hb4.size⟩
  have CP2 := hid (part_any _ xs A1 c1 b1 0 i w4 Y4.out)
  rw [HYS.out] at CP2
  clear hf4 hb4
  go_wp2_with (fail)
  refine CP2.out.mono ?_
  rintro e5 w5 ⟨vq, rfl, hf5, hb5⟩
  have B5 : Hid (Below w.heap.size w w5) := B4.out.trans (hb5.mono B4.out.size)
  have Y5 : Hid (Bytes w5 (.slice A1 n c1) xs A1 c1 b1 0) := Y4.out.kept hb5 (Nat.le_refl _)
  have X5 : Hid (Has w5 w.heap.size 27 (hvec d)) := X4.out.on hb5
  have D5 : Hid (L2 v2 v3 hs hs w5) := D4.out.on hb5
  have P5 : Hid (Fresh w3.heap.size w5 vp ys) := fresh_kept P4.out hb5
  have Q5 : Hid (Fresh w4.heap.size w5 vq ys) := hf5
  have HPG : Hid (∀ g, vp.ownBlock = some g → g < w4.heap.size) := fun g hg => (World.ownsRow.lt P4.out g hg).2
  have CP3 := hid (rpart_any _ xs _ cap bb off i w5 (HX.out.kept B5.out (Nat.le_refl _)) (Nat.lt_of_lt_of_le HPOS.out B5.out.size) (by have := HL.out; omega))
  rw [HYS.out] at CP3
  clear hf5 hb5
  go_wp2_with (fail)
  refine CP3.out.mono ?_
  rintro e6 w6 ⟨u6, rfl, hf6, hb6⟩
  have B6 : Hid (Below w.heap.size w w6.drew) := (B5.out.trans (hb6.mono B5.out.size)).drew
  have hb6d : Below w5.heap.size w5 w6.drew := hb6.drew
  have Y6 : Hid (Bytes w6.drew (.slice A1 n c1) xs A1 c1 b1 0) := Y5.out.kept hb6d (Nat.le_refl _)
  have X6 : Hid (Has w6.drew w.heap.size 27 (hvec d)) := X5.out.on hb6d
  have D6 : Hid (L2 v2 v3 hs hs w6.drew) := D5.out.on hb6d
  have P6 : Hid (Fresh w3.heap.size w6.drew vp ys) := fresh_kept P5.out hb6d
  have Q6 : Hid (Fresh w4.heap.size w6.drew vq ys) := fresh_kept Q5.out hb6d
  obtain ⟨Ap, cp, bp, hyp, _, _⟩ := P6.out.bytes (Nat.lt_of_lt_of_le HPOS.out B6.out.size)
  obtain ⟨Aq, cq, bq, hyq, hbq, _⟩ := Q6.out.bytes (Nat.lt_of_lt_of_le HPOS.out B6.out.size)
  obtain ⟨Au, cu, bu, hyu, _, _⟩ := hf6.bytes (Nat.lt_of_lt_of_le HPOS.out (Nat.le_trans B5.out.size hb6.size))
  have hcu := conv_back hyu
  obtain ⟨m, HM⟩ : ∃ m, Hid (ys.length = m) := ⟨_, rfl⟩
  have e7 := hyp.form
  have e8 := hyq.form
  have e9 := hyu.form
  rw [HM.out] at e7 e8 e9
  subst e7 e8 e9
  obtain ⟨Z, HZZ⟩ : ∃ Z, Hid (ba ys = Z) := ⟨_, rfl⟩
  rw [HZZ.out] at hcu
  obtain ⟨A2, c2, hv2⟩ := D6.out.a.form
  obtain ⟨A3, c3, hv3⟩ := D6.out.b.form
  obtain ⟨hn, HHN⟩ : ∃ hn, Hid (hs.length = hn) := ⟨_, rfl⟩
  rw [HHN.out] at hv2 hv3 HLL
  subst hv2 hv3
  have T6 : Hid (Sha.Tab w6.drew) := HT.out.kept B6.out HPOS.out
  have S6 : Hid (S8 w.heap.size d (.slice Ap m cp) ys Ap cp bp w6.drew) := ⟨X6.out, hyp⟩
  have HQ := hid hyq
  have HBQ := hid hbq
  have CS := hid (rsame_any _ _ hs w6.drew D6.out.a D6.out.b (by rw [HHN.out]; have := HLL.out; omega))
  obtain ⟨dx, HDX⟩ : ∃ dx, Hid (dg xs = dx) := ⟨_, rfl⟩
  have HDXL : Hid (dx.length = 32) := by show _ = _; rw [← HDX.out]; exact dg_len _
  obtain ⟨b, HBB⟩ : ∃ b, Hid (same8 dx d = b) := ⟨_, rfl⟩
  have HSS : Hid (same8 dx dx = true) := same8_refl dx
  have HNB := ne_self b
  have HXD : Hid (∀ W, Below w6.drew.heap.size w6.drew W → Bytes W (.slice A n cap) xs A cap bb off ∧ Bytes W (.slice A1 n c1) xs A1 c1 b1 0 ∧ Sha.Tab W) := fun W hW => ⟨HX.out.kept (B6.out.trans (hW.mono B6.out.size)) (Nat.le_refl _), Y6.out.kept hW (Nat.le_refl _), T6.out.kept hW (Nat.lt_of_lt_of_le HPOS.out B6.out.size)⟩
  have hxl : xs.length ≤ 100000 := by have := HL.out; omega
  have HXL := hid hxl
  clear hf6 hb6 hb6d hyu hyp hyq hbq hxl
  go_wp2_with (fail)
  refine wp_region_noPanic ?_
  refine wp_region_held_drew (S := S8 w.heap.size d (.slice Ap m cp) ys Ap cp bp) (by kernel_rfl) (S6.out) (fun hS => ?_)
  refine wpAnyH_take (i := 0) (v := ?_) (by simp only [List.getElem?_toArray, List.getElem?_cons_zero]; rfl) (by kernel_rfl) (by kernel_rfl) (by kernel_rfl) (fun _ _ _ h => h) (Or.inl ⟨by rfl, ?_⟩) (by assumption) ?_
  rotate_left 1
  · intro w hSw
    go_simp
    try with_reducible rfl
  simp only [Act.put, List.setIfInBounds_toArray, List.set_cons_zero, List.set_cons_succ]
  refine wpAnyH_take (i := 1) (v := ?_) (by simp only [List.getElem?_toArray, List.getElem?_cons_zero, List.getElem?_cons_succ]; rfl) (by kernel_rfl) (by kernel_rfl) (by kernel_rfl) (fun _ _ _ h => h) (Or.inl ⟨by rfl, ?_⟩) (by assumption) ?_
  rotate_left 1
  · intro w hSw
    go_simp
    try with_reducible rfl
  simp only [Act.put, List.setIfInBounds_toArray, List.set_cons_zero, List.set_cons_succ]
  refine wpAnyH_ready (rs := [2]) (by kernel_rfl) (by simp) ?_
  refine AllReadyH.cons (by simp only [List.getElem?_toArray, List.getElem?_cons_zero, List.getElem?_cons_succ]; rfl) (fun K hK => ?_) AllReadyH.nil
  go_simp
  refine (CS.out).mono ?_
  rintro e7 w7 ⟨rfl, hb7⟩
  have hz1 := S6.out.on hb7
  refine hK.out _ _ hz1 (fun hS => ?_)
  clear hK K hS
  refine wpAnyH_take (i := 3) (v := ?_) (by simp only [List.getElem?_toArray, List.getElem?_cons_zero, List.getElem?_cons_succ]; rfl) (by kernel_rfl) (by kernel_rfl) (by kernel_rfl) (fun _ _ _ h => h) (Or.inl ⟨by rfl, ?_⟩) (by assumption) ?_
  rotate_left 1
  · intro w hSw
    go_simp
    try with_reducible rfl
  simp only [Act.put, List.setIfInBounds_toArray, List.set_cons_zero, List.set_cons_succ]
  refine wpAnyH_take (i := 4) (v := ?_) (by simp only [List.getElem?_toArray, List.getElem?_cons_zero, List.getElem?_cons_succ]; rfl) (by kernel_rfl) (by kernel_rfl) (by kernel_rfl) (fun _ _ _ h => h) (Or.inl ⟨by rfl, ?_⟩) (by assumption) ?_
  rotate_left 1
  · intro w hSw
    go_simp
    try with_reducible rfl
  simp only [Act.put, List.setIfInBounds_toArray, List.set_cons_zero, List.set_cons_succ]
  refine wpAnyH_take (i := 5) (v := ?_) (by simp only [List.getElem?_toArray, List.getElem?_cons_zero, List.getElem?_cons_succ]; rfl) (by kernel_rfl) (by kernel_rfl) (by kernel_rfl) (fun _ _ _ h => h) (Or.inl ⟨by rfl, ?_⟩) (by assumption) ?_
  rotate_left 1
  · intro w hSw
    go_simp
    try with_reducible rfl
  simp only [Act.put, List.setIfInBounds_toArray, List.set_cons_zero, List.set_cons_succ]
  refine wpAnyH_take (i := 6) (v := ?_) (by simp only [List.getElem?_toArray, List.getElem?_cons_zero, List.getElem?_cons_succ]; rfl) (by kernel_rfl) (by kernel_rfl) (by kernel_rfl) (fun _ _ _ h => h) (Or.inl ⟨by rfl, ?_⟩) (by assumption) ?_
  rotate_left 1
  · intro w hSw
    go_simp
    try with_reducible rfl
  simp only [Act.put, List.setIfInBounds_toArray, List.set_cons_zero, List.set_cons_succ]
  refine wpAnyH_take (i := 7) (v := ?_) (by simp only [List.getElem?_toArray, List.getElem?_cons_zero, List.getElem?_cons_succ]; rfl) (by kernel_rfl) (by kernel_rfl) (by kernel_rfl) (fun _ _ _ h => h) (Or.inl ⟨by rfl, ?_⟩) (by assumption) ?_
  rotate_left 1
  · intro w hSw
    go_simp
    try with_reducible rfl
  simp only [Act.put, List.setIfInBounds_toArray, List.set_cons_zero, List.set_cons_succ]
  refine wpAnyH_take (i := 8) (v := ?_) (by simp only [List.getElem?_toArray, List.getElem?_cons_zero, List.getElem?_cons_succ]; rfl) (by kernel_rfl) (by kernel_rfl) (by kernel_rfl) (fun _ _ _ h => h) (Or.inl ⟨by rfl, ?_⟩) (by assumption) ?_
  rotate_left 1
  · intro w hSw
    go_simp
    try with_reducible rfl
  simp only [Act.put, List.setIfInBounds_toArray, List.set_cons_zero, List.set_cons_succ]
  refine wpAnyH_take (i := 9) (v := ?_) (by simp only [List.getElem?_toArray, List.getElem?_cons_zero, List.getElem?_cons_succ]; rfl) (by kernel_rfl) (by kernel_rfl) (by kernel_rfl) (fun _ _ _ h => h) (Or.inl ⟨by rfl, ?_⟩) (by assumption) ?_
  rotate_left 1
  · intro w hSw
    go_simp
    try with_reducible rfl
  simp only [Act.put, List.setIfInBounds_toArray, List.set_cons_zero, List.set_cons_succ]
  refine wpAnyH_take (i := 10) (v := ?_) (by simp only [List.getElem?_toArray, List.getElem?_cons_zero, List.getElem?_cons_succ]; rfl) (by kernel_rfl) (by kernel_rfl) (by kernel_rfl) (fun _ _ _ h => h) (Or.inl ⟨by rfl, ?_⟩) (by assumption) ?_
  rotate_left 1
  · intro w hSw
    go_simp
    try with_reducible rfl
  simp only [Act.put, List.setIfInBounds_toArray, List.set_cons_zero, List.set_cons_succ]
  refine wpAnyH_take (i := 11) (v := ?_) (by simp only [List.getElem?_toArray, List.getElem?_cons_zero, List.getElem?_cons_succ]; rfl) (by kernel_rfl) (by kernel_rfl) (by kernel_rfl) (fun _ _ _ h => h) (Or.inl ⟨by rfl, ?_⟩) (by assumption) ?_
  rotate_left 1
  · intro w hSw
    have hcp := conv_back hSw.p
    rw [HZZ.out] at hcp
    go_simp
    try with_reducible rfl
  simp only [Act.put, List.setIfInBounds_toArray, List.set_cons_zero, List.set_cons_succ]
  refine wpAnyH_take (i := 12) (v := ?_) (by simp only [List.getElem?_toArray, List.getElem?_cons_zero, List.getElem?_cons_succ]; rfl) (by kernel_rfl) (by kernel_rfl) (by kernel_rfl) (fun _ _ _ h => h) (Or.inl ⟨by rfl, ?_⟩) (by assumption) ?_
  rotate_left 1
  · intro w hSw
    go_simp
    try with_reducible rfl
  simp only [Act.put, List.setIfInBounds_toArray, List.set_cons_zero, List.set_cons_succ]
  refine wpAnyH_take (i := 13) (v := ?_) (by simp only [List.getElem?_toArray, List.getElem?_cons_zero, List.getElem?_cons_succ]; rfl) (by kernel_rfl) (by kernel_rfl) (by kernel_rfl) (fun _ _ _ h => h) (Or.inl ⟨by rfl, ?_⟩) (by assumption) ?_
  rotate_left 1
  · intro w hSw
    go_simp
    try with_reducible rfl
  simp only [Act.put, List.setIfInBounds_toArray, List.set_cons_zero, List.set_cons_succ]
  refine wpAnyH_take (i := 14) (v := ?_) (by simp only [List.getElem?_toArray, List.getElem?_cons_zero, List.getElem?_cons_succ]; rfl) (by kernel_rfl) (by kernel_rfl) (by kernel_rfl) (fun _ _ _ h => h) (Or.inl ⟨by rfl, ?_⟩) (by assumption) ?_
  rotate_left 1
  · intro w hSw
    go_simp
    try with_reducible rfl
  simp only [Act.put, List.setIfInBounds_toArray, List.set_cons_zero, List.set_cons_succ]
  refine wpAnyH_take (i := 15) (v := ?_) (by simp only [List.getElem?_toArray, List.getElem?_cons_zero, List.getElem?_cons_succ]; rfl) (by kernel_rfl) (by kernel_rfl) (by kernel_rfl) (fun _ _ _ h => h) (Or.inl ⟨by rfl, ?_⟩) (by assumption) ?_
  rotate_left 1
  · intro w hSw
    go_simp
    try with_reducible rfl
  simp only [Act.put, List.setIfInBounds_toArray, List.set_cons_zero, List.set_cons_succ]
  refine wpAnyH_take (i := 16) (v := ?_) (by simp only [List.getElem?_toArray, List.getElem?_cons_zero, List.getElem?_cons_succ]; rfl) (by kernel_rfl) (by kernel_rfl) (by kernel_rfl) (fun _ _ _ h => h) (Or.inl ⟨by rfl, ?_⟩) (by assumption) ?_
  rotate_left 1
  · intro w hSw
    go_simp
    try with_reducible rfl
  simp only [Act.put, List.setIfInBounds_toArray, List.set_cons_zero, List.set_cons_succ]
  refine' wpAnyH_take (i := 17) (v := _) (by simp only [List.getElem?_toArray, List.getElem?_cons_zero, List.getElem?_cons_succ]; rfl) (by kernel_rfl) (by kernel_rfl) (by kernel_rfl) (fun _ _ _ h => h) (yields_load_h (by rfl) (.tmp 5) rfl w.heap.size 0 rfl d (fun w hS => load_h hS.box HDL.out)) (by assumption) ?_
  simp only [Act.put, List.setIfInBounds_toArray, List.set_cons_zero, List.set_cons_succ]
  refine wpAnyH_take (i := 19) (v := ?_) (by simp only [List.getElem?_toArray, List.getElem?_cons_zero, List.getElem?_cons_succ]; rfl) (by kernel_rfl) (by kernel_rfl) (by kernel_rfl) (fun _ _ _ h => h) (Or.inl ⟨by rfl, ?_⟩) (by assumption) ?_
  rotate_left 1
  · intro w hSw
    go_simp
    try with_reducible rfl
  simp only [Act.put, List.setIfInBounds_toArray, List.set_cons_zero, List.set_cons_succ]
  refine' wpAnyH_take (i := 21) (v := _) (by simp only [List.getElem?_toArray, List.getElem?_cons_zero, List.getElem?_cons_succ]; rfl) (by kernel_rfl) (by kernel_rfl) (by kernel_rfl) (fun _ _ _ h => h) (yields_load_h (by rfl) (.tmp 5) rfl w.heap.size 0 rfl d (fun w hS => load_h hS.box HDL.out)) (by assumption) ?_
  simp only [Act.put, List.setIfInBounds_toArray, List.set_cons_zero, List.set_cons_succ]
  refine wpAnyH_ready (rs := [18]) (by kernel_rfl) (by simp) ?_
  refine AllReadyH.cons (by simp only [List.getElem?_toArray, List.getElem?_cons_zero, List.getElem?_cons_succ]; rfl) (fun K hK => ?_) AllReadyH.nil
  go_simp
  refine (verify_any _ xs A1 c1 b1 0 d HDL.out w7 (HXD.out w7 hb7).2.2 (HXD.out w7 hb7).2.1 (by have := HXL.out; omega)).mono ?_
  rintro e8 w8 ⟨rfl, hb8⟩
  rw [HDX.out, HBB.out]
  have hc8 := hb7.trans (hb8.mono hb7.size)
  have hz2 := hz1.on hb8
  refine hK.out _ _ hz2 (fun hS => ?_)
  clear hK K hS
  refine wpAnyH_ready (rs := [20]) (by kernel_rfl) (by simp) ?_
  refine AllReadyH.cons (by simp only [List.getElem?_toArray, List.getElem?_cons_zero, List.getElem?_cons_succ]; rfl) (fun K hK => ?_) AllReadyH.nil
  go_simp
  refine (rsum_any _ xs A cap bb off w8 (HXD.out w8 hc8).1 HXL.out).mono ?_
  rintro e9 w9 ⟨rfl, hb9⟩
  rw [HDX.out]
  have hc9 := hc8.trans (hb9.mono hc8.size)
  have hz3 := hz2.on hb9
  refine hK.out _ _ hz3 (fun hS => ?_)
  clear hK K hS
  refine' wpAnyH_take (i := 22) (v := _) (by simp only [List.getElem?_toArray, List.getElem?_cons_zero, List.getElem?_cons_succ]; rfl) (by kernel_rfl) (by kernel_rfl) (by kernel_rfl) (fun _ _ _ h => h) (yields_eql_h (by rfl) (.tmp 63) (.tmp 64) rfl dx d rfl rfl HDXL.out HDL.out b HBB.out) (by assumption) ?_
  simp only [Act.put, List.setIfInBounds_toArray, List.set_cons_zero, List.set_cons_succ]
  refine wpAnyH_take (i := 23) (v := ?_) (by simp only [List.getElem?_toArray, List.getElem?_cons_zero, List.getElem?_cons_succ]; rfl) (by kernel_rfl) (by kernel_rfl) (by kernel_rfl) (fun _ _ _ h => h) (Or.inl ⟨by rfl, ?_⟩) (by assumption) ?_
  rotate_left 1
  · intro w hSw
    go_simp
    try with_reducible rfl
  simp only [Act.put, List.setIfInBounds_toArray, List.set_cons_zero, List.set_cons_succ]
  refine wpAnyH_take (i := 24) (v := ?_) (by simp only [List.getElem?_toArray, List.getElem?_cons_zero, List.getElem?_cons_succ]; rfl) (by kernel_rfl) (by kernel_rfl) (by kernel_rfl) (fun _ _ _ h => h) (Or.inl ⟨by rfl, ?_⟩) (by assumption) ?_
  rotate_left 1
  · intro w hSw
    go_simp
    try with_reducible rfl
  simp only [Act.put, List.setIfInBounds_toArray, List.set_cons_zero, List.set_cons_succ]
  refine wpAnyH_take (i := 25) (v := ?_) (by simp only [List.getElem?_toArray, List.getElem?_cons_zero, List.getElem?_cons_succ]; rfl) (by kernel_rfl) (by kernel_rfl) (by kernel_rfl) (fun _ _ _ h => h) (Or.inl ⟨by rfl, ?_⟩) (by assumption) ?_
  rotate_left 1
  · intro w hSw
    go_simp
    try with_reducible rfl
  simp only [Act.put, List.setIfInBounds_toArray, List.set_cons_zero, List.set_cons_succ]
  refine wpAnyH_take (i := 26) (v := ?_) (by simp only [List.getElem?_toArray, List.getElem?_cons_zero, List.getElem?_cons_succ]; rfl) (by kernel_rfl) (by kernel_rfl) (by kernel_rfl) (fun _ _ _ h => h) (Or.inl ⟨by rfl, ?_⟩) (by assumption) ?_
  rotate_left 1
  · intro w hSw
    go_simp
    try with_reducible rfl
  simp only [Act.put, List.setIfInBounds_toArray, List.set_cons_zero, List.set_cons_succ]
  refine wpAnyH_take (i := 27) (v := ?_) (by simp only [List.getElem?_toArray, List.getElem?_cons_zero, List.getElem?_cons_succ]; rfl) (by kernel_rfl) (by kernel_rfl) (by kernel_rfl) (fun _ _ _ h => h) (Or.inl ⟨by rfl, ?_⟩) (by assumption) ?_
  rotate_left 1
  · intro w hSw
    go_simp
    try with_reducible rfl
  simp only [Act.put, List.setIfInBounds_toArray, List.set_cons_zero, List.set_cons_succ]
  refine wpAnyH_ready (rs := [28]) (by kernel_rfl) (by simp) ?_
  refine AllReadyH.cons (by simp only [List.getElem?_toArray, List.getElem?_cons_zero, List.getElem?_cons_succ]; rfl) (fun K hK => ?_) AllReadyH.nil
  go_simp
  refine (rsum_any _ xs A cap bb off w9 (HXD.out w9 hc9).1 HXL.out).mono ?_
  rintro e10 w10 ⟨rfl, hb10⟩
  rw [HDX.out]
  have hc10 := hc9.trans (hb10.mono hc9.size)
  have hz4 := hz3.on hb10
  refine hK.out _ _ hz4 (fun hS => ?_)
  clear hK K hS
  refine wpAnyH_ready (rs := [29]) (by kernel_rfl) (by simp) ?_
  refine AllReadyH.cons (by simp only [List.getElem?_toArray, List.getElem?_cons_zero, List.getElem?_cons_succ]; rfl) (fun K hK => ?_) AllReadyH.nil
  go_simp
  refine (verify_any _ xs A1 c1 b1 0 dx HDXL.out w10 (HXD.out w10 hc10).2.2 (HXD.out w10 hc10).2.1 (by have := HXL.out; omega)).mono ?_
  rintro e11 w11 ⟨rfl, hb11⟩
  rw [HDX.out, HSS.out]
  have hc11 := hc10.trans (hb11.mono hc10.size)
  have hz5 := hz4.on hb11
  refine hK.out _ _ hz5 (fun hS => ?_)
  clear hK K hS
  refine wpAnyH_take (i := 30) (v := ?_) (by simp only [List.getElem?_toArray, List.getElem?_cons_zero, List.getElem?_cons_succ]; rfl) (by kernel_rfl) (by kernel_rfl) (by kernel_rfl) (fun _ _ _ h => h) (Or.inl ⟨by rfl, ?_⟩) (by assumption) ?_
  rotate_left 1
  · intro w hSw
    go_simp
    try with_reducible rfl
  simp only [Act.put, List.setIfInBounds_toArray, List.set_cons_zero, List.set_cons_succ]
  refine wpAnyH_take (i := 31) (v := ?_) (by simp only [List.getElem?_toArray, List.getElem?_cons_zero, List.getElem?_cons_succ]; rfl) (by kernel_rfl) (by kernel_rfl) (by kernel_rfl) (fun _ _ _ h => h) (Or.inl ⟨by rfl, ?_⟩) (by assumption) ?_
  rotate_left 1
  · intro w hSw
    go_simp
    try with_reducible rfl
  simp only [Act.put, List.setIfInBounds_toArray, List.set_cons_zero, List.set_cons_succ]
  refine wpAnyH_done (by kernel_rfl) ?_ _
  refine NoPanic.normal ?_
  have B11 : Hid (Below w.heap.size w w11) := B6.out.trans (hc11.mono B6.out.size)
  have P11 : Hid (Fresh w3.heap.size w11 (.slice Ap m cp) ys) := fresh_kept P6.out hc11
  have Y11 := hid (HXD.out w11 hc11)
  have Q11 : Hid (Bytes w11 (.slice Aq m cq) ys Aq cq bq 0) := HQ.out.kept hc11 (Nat.le_refl _)
  obtain ⟨S, HSX⟩ : ∃ S, Hid (ba xs = S) := ⟨_, rfl⟩
  have HEND : Hid (∀ W gp, Grw gp w11 W → w3.heap.size ≤ gp → bq ≠ gp → (convert 25 9 (.slice Aq m cq)).run Tryd.prog W = .ok (.string Z) W ∧ (convert 25 9 (.slice A1 n c1)).run Tryd.prog W = .ok (.string S) W ∧ (convert 25 9 (.slice A n cap)).run Tryd.prog W = .ok (.string S) W ∧ Below w.heap.size w W ∧ Sha.Tab W) := fun W gp hg h3 hne => by
    have hb3 := HB4.out
    have hbw := B3.out.size
    have hbx := HX.out.blk
    have k1 := conv_back (Q11.out.grw hg hne)
    have k2 := conv_back (Y11.out.2.1.grw hg (by omega))
    have k3 := conv_back (Y11.out.1.grw hg (by omega))
    rw [HZZ.out] at k1
    rw [HSX.out] at k2 k3
    have hB : Below w.heap.size w W := Grw.below B11.out hg (by omega) B11.out.size
    exact ⟨k1, k2, k3, hB, HT.out.kept hB HPOS.out⟩
  clear hz1 hz2 hz3 hz4 hz5 hb7 hb8 hb9 hb10 hb11 hc8 hc9 hc10 hc11 HNB hcu
  go_wp2
  rcases Nat.eq_zero_or_pos m with hm0 | hm0
  · subst hm0
    have hbq2 : ∃ gp, w3.heap.size ≤ gp ∧ bq ≠ gp := ⟨w3.heap.size + bq + 1, by omega, by omega⟩
    obtain ⟨gp, hg1, hg2⟩ := hbq2
    obtain ⟨k1, k2, k3, HBE, HTE⟩ := HEND.out w11 gp (Grw.refl _ _) hg1 hg2
    have CA := hid (awake_any w11 HTE)
    have HBE := hid HBE
    clear HTE hg1 hg2
    go_loopw [15] (fun v wr => v = .int .i64 0 ∧ wr = w11) (fun _ _ => 0)
    case atStart => exact ⟨rfl, rfl⟩
    case round =>
      obtain ⟨rfl, rfl⟩ := hrel
      go_wp2_with (go_at_call 14; refine CA.out.mono ?_; rintro e12 w12 ⟨rfl, hb12⟩)
      go_ret
      exact ⟨rfl, HBE.out.trans (hb12.mono HBE.out.size)⟩
  · have hform : ∃ gp, Ap = some ⟨gp, 0, none⟩ := by
      rcases P11.out.2 with ⟨_, k2⟩ | ⟨g, _, _, k1, _⟩
      · have := HM.out; omega
      · injection k1 with k1; exact ⟨g, k1⟩
    obtain ⟨gp, rfl⟩ := hform
    have hgp3 : w3.heap.size ≤ gp := (World.ownsRow.lt P11.out gp rfl).1
    have hgp4 : gp < w4.heap.size := HPG.out gp rfl
    have hbqg : bq ≠ gp := by have := HBQ.out (by rw [HM.out]; exact hm0); omega
    have HG3 := hid hgp3
    have HGQ := hid hbqg
    have hm9 : m ≤ 100000 := by rw [← HM.out, ← HYS.out]; have := partI_small xs i; omega
    clear hgp3 hgp4 hbqg
    go_loopw [15] (fun v wr => ∃ k : Nat, k ≤ m ∧ v = .int .i64 (k : Int) ∧ Hid (∃ zs : By, zs.length = m ∧ Fresh w3.heap.size wr (.slice (some ⟨gp, 0, none⟩) m cp) zs) ∧ Hid (Grw gp w11 wr)) (fun v _ => m - (intOf v).toNat)
    case atStart => exact ⟨0, by omega, rfl, ⟨ys, HM.out, P11.out⟩, Grw.refl _ _⟩
    case round =>
      obtain ⟨k, hk, rfl, J1, J2⟩ := hrel
      by_cases hlt : k < m
      · have hlt2 : (k : Int) < (m : Int) := by omega
        have w1' : IntKind.i64.wrap ((k : Int) + 1) = (k : Int) + 1 := i64in _ (by omega) (by omega)
        obtain ⟨zs, hzl, hzf⟩ := J1.out
        have hc0 : wr.cell? ⟨gp, k, none⟩ = some (V8 (at8 zs k)) := by
          have h9 := hzf
          rw [← hzl] at h9
          rw [World.ownsRow.cellAt (g := gp) (cap := cp) h9 k (by omega)]
          exact get_map (by omega)
        have hx := xor255 (at8 zs k)
        obtain ⟨_, hfro, hf9⟩ := fresh_set hzf hzl k (UInt8.ofNat (255 - (at8 zs k).toNat)) hlt
        generalize UInt8.ofNat (255 - (at8 zs k).toNat) = z9 at hx hf9
        unfold V8 at hc0
        generalize b8 (at8 zs k) = z8 at hx hc0
        have HF9 := hid hf9
        obtain ⟨b9, HB9⟩ : ∃ b9, Hid (b8 z9 = b9) := ⟨_, rfl⟩
        rw [HB9.out] at hx HF9
        have HZS : Hid ((zs.set k z9).length = m) := by show _ = _; rw [List.length_set]; exact hzl
        clear hzf hf9 hzl
        go_wp2
        go_roundw
        case rel => exact ⟨k + 1, by omega, by go_num, ⟨_, HZS.out, HF9.out⟩, J2.out.trans (Grw.of_set gp k wr _)⟩
        case measure => simp [intOf]; omega
      · obtain rfl : k = m := by omega
        obtain ⟨k1, k2, k3, HBE, HTE⟩ := HEND.out wr gp J2.out HG3.out HGQ.out
        have CA := hid (awake_any wr HTE)
        have HBE := hid HBE
        clear HTE
        go_wp2_with (go_at_call 14; refine CA.out.mono ?_; rintro e12 w12 ⟨rfl, hb12⟩)
        go_ret
        exact ⟨rfl, HBE.out.trans (hb12.mono HBE.out.size)⟩
end Go.Proofs.YtlcdkponegmcdaaDoor
/- A row of acts as a walk reads it. No conditions. -/
namespace Go.Proofs.YtlcdkponegmcdaaDoor
open Go.RowKit
/-- What is done to a finder: gone, a name, a text, how long. -/
structure ActT where
  gone : Bool
  name : ByteArray
  text : ByteArray
  long : Int
def act0 : ActT := ⟨false, ⟨#[]⟩, ⟨#[]⟩, 0⟩
structure ActOk (x : ActT) : Prop where
  name : x.name.size ≤ maxLen
  text : x.text.size ≤ maxLen
  lo : -9223372036854775808 ≤ x.long
  hi : x.long ≤ 9223372036854775807
def actCells (x : ActT) : Array Value := #[.bool x.gone, .string x.name, .string x.text, .int .i64 x.long]
/-- An act lies there. -/
structure ActAt (w : World) (bb o : Nat) (x : ActT) : Prop where
  c0 : w.cell? ⟨bb, o, none⟩ = some (.bool x.gone)
  c1 : w.cell? ⟨bb, o + 1, none⟩ = some (.string x.name)
  c2 : w.cell? ⟨bb, o + 2, none⟩ = some (.string x.text)
  c3 : w.cell? ⟨bb, o + 3, none⟩ = some (.int .i64 x.long)
theorem ActAt.kept {w w' : World} {bb o B : Nat} {x : ActT} (h : ActAt w bb o x) (hb : Below B w w') (hB : w.heap.size ≤ B) : ActAt w' bb o x := by
  have k : bb < B := Nat.lt_of_lt_of_le (block_lt_of_cell (a := ⟨bb, o, none⟩) h.c0) hB
  exact ⟨(hb.cell (p := ⟨bb, o, none⟩) k).trans h.c0, (hb.cell (p := ⟨bb, o + 1, none⟩) k).trans h.c1, (hb.cell (p := ⟨bb, o + 2, none⟩) k).trans h.c2, (hb.cell (p := ⟨bb, o + 3, none⟩) k).trans h.c3⟩
set_option maxRecDepth 100000 in
theorem ActAt.load {w : World} {bb o : Nat} {x : ActT} (h : ActAt w bb o x) : (loadVar 47 ⟨bb, o, none⟩).run Tryd.prog w = .ok (.agg (actCells x)) w := by
  refine run_loadVar_mid (P := Tryd.prog) w bb o 47 (actCells x).toList _ (fun j u hj => ?_) Tryd.underlying47 rfl (by show _ = some 4; kernel_rfl)
  match j, hj with
  | 0, hj => obtain rfl := Option.some.inj hj; exact h.c0
  | 1, hj => obtain rfl := Option.some.inj hj; exact h.c1
  | 2, hj => obtain rfl := Option.some.inj hj; exact h.c2
  | 3, hj => obtain rfl := Option.some.inj hj; exact h.c3
  | j + 4, hj => simp [actCells] at hj
/-- A row of acts lies there. -/
structure ActsIn (w : World) (A : Option Addr) (n bb off : Nat) (xs : List ActT) : Prop where
  len : xs.length = n
  src : 0 < n → A = some ⟨bb, off, none⟩ ∧ bb < w.heap.size
  at_ : ∀ i, i < n → ActAt w bb (off + i * 4) (xs.getD i act0)
  ok : ∀ x ∈ xs, ActOk x
theorem ActsIn.kept {w w' : World} {A : Option Addr} {n bb off B : Nat} {xs : List ActT} (h : ActsIn w A n bb off xs) (hb : Below B w w') (hB : w.heap.size ≤ B) : ActsIn w' A n bb off xs :=
  ⟨h.len, fun h0 => ⟨(h.src h0).1, Nat.lt_of_lt_of_le (h.src h0).2 hb.size⟩, fun i hi => (h.at_ i hi).kept hb hB, h.ok⟩
end Go.Proofs.YtlcdkponegmcdaaDoor
/- Rows of acts: whose file is the last of its name; what a finder holds behind them, whatever the order. No conditions. -/
namespace Go.Proofs.YtlcdkponegmcdaaDoor
open Go.RowKit
def good (x : ActT) : Bool := decide (x.long ≤ 4096)
/-- An act's file. -/
def dataTo (x : ActT) (k : Nat) : By := (List.range k).map fun i => if x.text.size = 0 then 0 else at8 (tl x.text) (i % x.text.size)
@[irreducible] def dataL (x : ActT) : By := dataTo x (min x.long.toNat 5000)
theorem dataTo_len (x : ActT) (k : Nat) : (dataTo x k).length = k := by simp [dataTo]
theorem dataTo_next (x : ActT) (k : Nat) : dataTo x (k + 1) = dataTo x k ++ [if x.text.size = 0 then 0 else at8 (tl x.text) (k % x.text.size)] := by simp [dataTo, List.range_succ]
theorem dataL_len (x : ActT) : (dataL x).length = min x.long.toNat 5000 := by unfold dataL; exact dataTo_len _ _
theorem dataL_good {x : ActT} (h : good x = true) : (dataL x).length ≤ 4096 := by
  rw [dataL_len]; have := of_decide_eq_true h; omega
theorem dataL_bad {x : ActT} (h : good x = false) : 4096 < (dataL x).length := by
  rw [dataL_len]; have := of_decide_eq_false h; omega
def nm (x : ActT) : By := tl x.name
open Classical in
noncomputable def stepF (F : By → Option By) (x : ActT) : By → Option By := if good x = true then putF F (nm x) (dataL x) else F
noncomputable def FA (xs : List ActT) : By → Option By := xs.foldl stepF (fun _ => none)
theorem FTrydsnoc (xs : List ActT) (x : ActT) : FA (xs ++ [x]) = stepF (FA xs) x := by simp [FA, List.foldl_append]
theorem FTrydtake (xs : List ActT) (k : Nat) (h : k < xs.length) : FA (xs.take (k + 1)) = stepF (FA (xs.take k)) (xs.getD k act0) := by
  rw [List.take_succ_eq_append_getElem h, FTrydsnoc, List.getD, List.getElem?_eq_getElem h]; rfl
/-- Is there a later file of that name? -/
def lat (x : ActT) (r : List ActT) : Bool := r.any fun y => decide (y.name = x.name) && good y
def lastR : List ActT → List ActT
  | [] => []
  | x :: r => if (good x && !lat x r) = true then x :: lastR r else lastR r
open Classical in
noncomputable def lk : List ActT → By → Option By
  | [], _ => none
  | x :: r, n => match lk r n with
    | some D => some D
    | none => if good x = true ∧ nm x = n then some (dataL x) else none
theorem nm_inj {x y : ActT} (h : nm x = nm y) : x.name = y.name := by
  unfold nm tl at h
  have h2 : x.name.data = y.name.data := Array.toList_inj.1 h
  cases hx : x.name; cases hy : y.name
  rw [hx, hy] at h2
  exact congrArg ByteArray.mk h2
open Classical in
theorem foldl_lk (xs : List ActT) : ∀ (F : By → Option By) (n : By), (xs.foldl stepF F) n = match lk xs n with | some D => some D | none => F n := by
  induction xs with
  | nil => intro F n; rfl
  | cons x r ih =>
    intro F n
    rw [List.foldl_cons, ih]
    show _ = match (match lk r n with | some D => some D | none => if good x = true ∧ nm x = n then some (dataL x) else none) with | some D => some D | none => F n
    cases h : lk r n with
    | some D => rfl
    | none =>
      simp only
      unfold stepF
      by_cases hg : good x = true
      · rw [if_pos hg]
        unfold putF
        by_cases hn : nm x = n
        · rw [if_pos hn.symm, if_pos ⟨hg, hn⟩]
        · rw [if_neg (fun e => hn e.symm), if_neg (fun e => hn e.2)]
      · rw [if_neg hg, if_neg (fun e => hg e.1)]
theorem FTrydlk (xs : List ActT) (n : By) : FA xs n = lk xs n := by
  unfold FA
  rw [foldl_lk]
  cases lk xs n <;> rfl
open Classical in
theorem lk_none {xs : List ActT} {n : By} : lk xs n = none ↔ ∀ y ∈ xs, ¬ (good y = true ∧ nm y = n) := by
  induction xs with
  | nil => simp [lk]
  | cons x r ih =>
    show (match lk r n with | some D => some D | none => if good x = true ∧ nm x = n then some (dataL x) else none) = none ↔ _
    constructor
    · intro h
      cases hr : lk r n with
      | some D => rw [hr] at h; cases h
      | none =>
        rw [hr] at h
        simp only at h
        intro y hy
        rcases List.mem_cons.1 hy with rfl | hy
        · intro e; rw [if_pos e] at h; cases h
        · exact ih.1 hr y hy
    · intro h
      have hr : lk r n = none := ih.2 fun y hy => h y (List.mem_cons_of_mem _ hy)
      rw [hr]
      simp only
      exact if_neg (h x (List.mem_cons_self ..))
theorem lat_iff {x : ActT} {r : List ActT} : lat x r = true ↔ ∃ y ∈ r, good y = true ∧ nm y = nm x := by
  unfold lat
  rw [List.any_eq_true]
  constructor
  · rintro ⟨y, hy, h⟩
    rw [Bool.and_eq_true] at h
    exact ⟨y, hy, h.2, by unfold nm; rw [of_decide_eq_true h.1]⟩
  · rintro ⟨y, hy, h1, h2⟩
    exact ⟨y, hy, by rw [Bool.and_eq_true]; exact ⟨decide_eq_true (nm_inj h2), h1⟩⟩
open Classical in
theorem lk_last (xs : List ActT) (n D : By) : lk xs n = some D ↔ ∃ x ∈ lastR xs, nm x = n ∧ dataL x = D := by
  induction xs with
  | nil => simp [lk, lastR]
  | cons x r ih =>
    show (match lk r n with | some D => some D | none => if good x = true ∧ nm x = n then some (dataL x) else none) = some D ↔ _
    rw [lastR]
    by_cases hc : (good x && !lat x r) = true
    · rw [if_pos hc]
      rw [Bool.and_eq_true, Bool.not_eq_true'] at hc
      have hno : nm x = n → lk r n = none := fun e => lk_none.2 fun y hy hh => by
        have : lat x r = true := lat_iff.2 ⟨y, hy, hh.1, by rw [hh.2, e]⟩
        rw [this] at hc; exact absurd hc.2 (by decide)
      constructor
      · intro h
        cases hr : lk r n with
        | some D' =>
          rw [hr] at h
          simp only [Option.some.injEq] at h
          subst h
          obtain ⟨y, hy, h2⟩ := ih.1 hr
          exact ⟨y, List.mem_cons_of_mem _ hy, h2⟩
        | none =>
          rw [hr] at h
          simp only at h
          by_cases e : good x = true ∧ nm x = n
          · rw [if_pos e] at h; injection h with h
            exact ⟨x, List.mem_cons_self .., e.2, h⟩
          · rw [if_neg e] at h; cases h
      · rintro ⟨y, hy, h1, h2⟩
        rcases List.mem_cons.1 hy with rfl | hy
        · rw [hno h1]
          simp only
          rw [if_pos ⟨hc.1, h1⟩, h2]
        · rw [ih.2 ⟨y, hy, h1, h2⟩]
    · rw [if_neg hc, ← ih]
      cases hr : lk r n with
      | some D' => rfl
      | none =>
        simp only
        rw [if_neg]
        rintro ⟨h1, h2⟩
        apply hc
        rw [Bool.and_eq_true, Bool.not_eq_true']
        refine ⟨h1, ?_⟩
        cases hl : lat x r with
        | false => rfl
        | true =>
          obtain ⟨y, hy, h3, h4⟩ := lat_iff.1 hl
          exact absurd ⟨h3, h4.trans h2⟩ (lk_none.1 hr y hy)
theorem last_sub {xs : List ActT} : ∀ y ∈ lastR xs, y ∈ xs ∧ good y = true := by
  induction xs with
  | nil => intro y hy; cases hy
  | cons x r ih =>
    intro y hy
    rw [lastR] at hy
    by_cases hc : (good x && !lat x r) = true
    · rw [if_pos hc] at hy
      rcases List.mem_cons.1 hy with rfl | hy
      · rw [Bool.and_eq_true] at hc; exact ⟨List.mem_cons_self .., hc.1⟩
      · exact ⟨List.mem_cons_of_mem _ (ih y hy).1, (ih y hy).2⟩
    · rw [if_neg hc] at hy
      exact ⟨List.mem_cons_of_mem _ (ih y hy).1, (ih y hy).2⟩
def Apartn (l : List ActT) : Prop := l.Pairwise fun x y => nm x ≠ nm y
theorem last_apart (xs : List ActT) : Apartn (lastR xs) := by
  induction xs with
  | nil => exact List.Pairwise.nil
  | cons x r ih =>
    rw [lastR]
    by_cases hc : (good x && !lat x r) = true
    · rw [if_pos hc]
      refine List.Pairwise.cons (fun y hy e => ?_) ih
      rw [Bool.and_eq_true, Bool.not_eq_true'] at hc
      have : lat x r = true := lat_iff.2 ⟨y, (last_sub y hy).1, (last_sub y hy).2, e.symm⟩
      rw [this] at hc; exact absurd hc.2 (by decide)
    · rw [if_neg hc]; exact ih
open Classical in
theorem lk_apart {l : List ActT} (h : Apartn l) (hg : ∀ x ∈ l, good x = true) (n D : By) : lk l n = some D ↔ ∃ x ∈ l, nm x = n ∧ dataL x = D := by
  induction l with
  | nil => simp [lk]
  | cons x r ih =>
    have ih := ih (List.Pairwise.of_cons h) (fun y hy => hg y (List.mem_cons_of_mem _ hy))
    have hx : ∀ {z}, z ∈ r → nm x ≠ nm z := fun {z} hz => List.rel_of_pairwise_cons h hz
    show (match lk r n with | some D => some D | none => if good x = true ∧ nm x = n then some (dataL x) else none) = some D ↔ _
    constructor
    · intro h
      cases hr : lk r n with
      | some D' =>
        rw [hr] at h
        simp only [Option.some.injEq] at h
        subst h
        obtain ⟨y, hy, h2⟩ := ih.1 hr
        exact ⟨y, List.mem_cons_of_mem _ hy, h2⟩
      | none =>
        rw [hr] at h
        simp only at h
        by_cases e : good x = true ∧ nm x = n
        · rw [if_pos e] at h; injection h with h
          exact ⟨x, List.mem_cons_self .., e.2, h⟩
        · rw [if_neg e] at h; cases h
    · rintro ⟨y, hy, h1, h2⟩
      rcases List.mem_cons.1 hy with rfl | hy
      · have : lk r n = none := lk_none.2 fun z hz hh => hx hz (h1.trans hh.2.symm)
        rw [this]
        simp only
        rw [if_pos ⟨hg y (List.mem_cons_self ..), h1⟩, h2]
      · rw [ih.2 ⟨y, hy, h1, h2⟩]
/-- The last files, put the other way round: the same. -/
theorem FTrydback (xs : List ActT) : FA (lastR xs).reverse = FA xs := by
  have ha : Apartn (lastR xs).reverse := by
    unfold Apartn
    rw [List.pairwise_reverse]
    exact (last_apart xs).imp fun h e => h e.symm
  have hg : ∀ x ∈ (lastR xs).reverse, good x = true := fun x hx => (last_sub x (List.mem_reverse.1 hx)).2
  funext n
  have h : ∀ D, FA (lastR xs).reverse n = some D ↔ FA xs n = some D := fun D => by
    rw [FTrydlk, FTrydlk, lk_apart ha hg, lk_last]
    constructor
    · rintro ⟨x, hx, k⟩; exact ⟨x, List.mem_reverse.1 hx, k⟩
    · rintro ⟨x, hx, k⟩; exact ⟨x, List.mem_reverse.2 hx, k⟩
  cases h1 : FA xs n with
  | some D => exact (h D).2 h1
  | none =>
    cases h2 : FA (lastR xs).reverse n with
    | none => rfl
    | some D => rw [(h D).1 h2] at h1; cases h1
theorem FTrydat (xs : List ActT) (x : ActT) (hx : x ∈ lastR xs) : FA xs (nm x) = some (dataL x) := by
  rw [FTrydlk, lk_last]; exact ⟨x, hx, rfl, rfl⟩
theorem FTrydmem (xs : List ActT) (n D : By) : FA xs n = some D ↔ ∃ x ∈ lastR xs, nm x = n ∧ dataL x = D := by rw [FTrydlk, lk_last]
theorem len_le {l1 : List By} : ∀ {l2 : List By}, l1.Nodup → (∀ n ∈ l1, n ∈ l2) → l1.length ≤ l2.length := by
  induction l1 with
  | nil => intro l2 _ _; exact Nat.zero_le _
  | cons x r ih =>
    intro l2 h hs
    have hx : x ∈ l2 := hs x (List.mem_cons_self ..)
    have h1 := List.nodup_cons.1 h
    have := ih (l2 := l2.erase x) h1.2 (fun n hn => (List.mem_erase_of_ne (fun e => h1.1 (by rw [← e]; exact hn))).2 (hs n (List.mem_cons_of_mem _ hn)))
    rw [List.length_erase_of_mem hx] at this
    have := List.length_pos_of_mem hx
    simp only [List.length_cons]
    omega
/-- As many names as files. -/
theorem keys_len (xs : List ActT) (keys : List By) (h : keys.Nodup) (hk : ∀ n, n ∈ keys ↔ (FA xs n).isSome = true) : keys.length = (lastR xs).length := by
  have hn : ((lastR xs).map nm).Nodup := by
    unfold List.Nodup
    rw [List.pairwise_map]
    exact last_apart xs
  have hm : ∀ n, n ∈ keys ↔ n ∈ (lastR xs).map nm := fun n => by
    rw [hk, Option.isSome_iff_exists]
    constructor
    · rintro ⟨D, hD⟩
      obtain ⟨x, hx, h1, _⟩ := (FTrydmem xs n D).1 hD
      exact List.mem_map.2 ⟨x, hx, h1⟩
    · intro hx
      obtain ⟨x, hx', rfl⟩ := List.mem_map.1 hx
      exact ⟨_, FTrydat xs x hx'⟩
  have h1 := len_le h (fun n hn => (hm n).1 hn)
  have h2 := len_le hn (fun n hn => (hm n).2 hn)
  rw [List.length_map] at h1 h2
  omega
end Go.Proofs.YtlcdkponegmcdaaDoor
/- data: an act's file. Conditions: an act whose numbers and texts fit. -/
namespace Go.Proofs.YtlcdkponegmcdaaDoor
open Go.RowKit
theorem index_at (s : ByteArray) (i : Nat) (h : i < s.size) (w : World) : (Instr.index 9 (.string s) (.int .i64 (i : Int))).run Tryd.prog w = .ok (.int .u8 (b8 (at8 (tl s) i))) w := by
  have hi : i < s.data.toList.length := by simpa using h
  rw [run_index_string (P := Tryd.prog) w 9 s .i64 (i : Int) Tryd.underlying9, dif_pos ⟨by omega, by omega⟩]
  have e : s[(i : Int).toNat]'(by simpa using h) = at8 (tl s) i := by
    rw [at8, List.getD, List.getElem?_eq_getElem hi]
    rfl
  rw [e]; rfl
theorem bytes_one (w : World) (z : UInt8) (fr : Nat × Nat) : Bytes (w.alloc (.cells #[.int .u8 (b8 z)] 5 fr)) (.slice (some ⟨w.heap.size, 0, none⟩) 1 1) [z] (some ⟨w.heap.size, 0, none⟩) 1 w.heap.size 0 := by
  refine ⟨rfl, Nat.le_refl _, (fun h => by cases h), fun a ha j hj => ?_, by simp, fun _ => rfl⟩
  cases ha
  rw [add_at, Nat.zero_add, cell_of_row _ w.heap.size j _ 5 fr (heap_alloc_new w _)]
  have hj : j < 1 := hj
  rcases j with _ | j
  · rfl
  · omega
/-- One byte more, behind what the call owns. -/
theorem append_byte (wr : World) (B : Nat) (v : Value) (xs : By) (h : Fresh B wr v xs) (hl : xs.length ≤ 100000) (hB : B ≤ wr.heap.size) (z : UInt8) :
    ∃ v' w', (Builtin.append_ #[25, 25] 25 #[v, .slice (some ⟨wr.heap.size, 0, none⟩) 1 1]).run Tryd.prog (wr.alloc (.cells #[.int .u8 (b8 z)] 5)) = .ok v' w' ∧ Fresh B w' v' (xs ++ [z]) ∧ Below B wr w' := by
  have hb : Below wr.heap.size wr (wr.alloc (.cells #[.int .u8 (b8 z)] 5)) := (Below.refl _ _).alloc (Nat.le_refl _) _
  obtain ⟨v', w', hr, hf, hg⟩ := fresh_app (fresh_kept h hb) (bytes_one wr z (0, 0)) (by simp; omega) (by simp; omega)
  refine ⟨v', w', hr, hf, ?_⟩
  have h2 : Below B wr (wr.alloc (.cells #[.int .u8 (b8 z)] 5)) := (Below.refl _ _).alloc hB _
  exact h2.grown hg (by simp; omega) (fun g hg => (World.ownsRow.lt h g hg).1)
set_option maxRecDepth 100000 in
set_option maxHeartbeats 8000000 in
theorem data_any (x : ActT) (hx : ActOk x) (w : World) (hp : 0 < w.heap.size) :
    Calls Tryd.prog 25 #[.agg (actCells x)] w fun e w' => ∃ v, e = .returned v ∧ Fresh w.heap.size w' v (dataL x) ∧ Below w.heap.size w w' := by
  obtain ⟨m, HM⟩ : ∃ m, Hid (min x.long.toNat 5000 = m) := ⟨_, rfl⟩
  have HV : Hid (dataL x = dataTo x m) := by show _ = _; unfold dataL; rw [HM.out]
  have HB0 : Hid (Below w.heap.size w (w.alloc (.cells (actCells x) 47))) := (Below.refl _ _).alloc (Nat.le_refl _) _
  have HA0 : Hid (Has (w.alloc (.cells (actCells x) 47)) w.heap.size 47 (actCells x)) := Has.fresh w 47 _
  obtain ⟨L, HL⟩ : ∃ L, Hid (x.long = L) := ⟨_, rfl⟩
  obtain ⟨T, HTX⟩ : ∃ T, Hid (x.text = T) := ⟨_, rfl⟩
  obtain ⟨s, HS⟩ : ∃ s : Nat, Hid (T.size = s) := ⟨_, rfl⟩
  have hmL : m = min L.toNat 5000 := by rw [← HL.out]; exact HM.out.symm
  have HAC : Hid (actCells x = #[.bool x.gone, .string x.name, .string T, .int .i64 L]) := by show _ = _; rw [actCells, HTX.out, HL.out]
  have HSM : Hid ((s : Int) ≤ 9223372036854775807) := by show _ ≤ _; rw [← HS.out, ← HTX.out]; have := hx.text; unfold maxLen at this; omega
  have HNX : Hid (∀ k, dataTo x (k + 1) = dataTo x k ++ [if s = 0 then 0 else at8 (tl T) (k % s)]) := fun k => by rw [dataTo_next, HTX.out, HS.out]
  have HDL : Hid (∀ k, (dataTo x k).length = k) := fun k => dataTo_len x k
  have HIX : Hid (∀ i, i < s → ∀ w, (Instr.index 9 (.string T) (.int .i64 (i : Int))).run Tryd.prog w = .ok (.int .u8 (b8 (at8 (tl T) i))) w) := fun i h w => index_at T i (by rw [HS.out]; exact h) w
  have HPOS := hid hp
  rw [HAC.out] at HB0 HA0 ⊢
  clear hx hp
  go_enter Tryd.func25, Tryd.ntmps25
  go_wp2
  go_loopw [3, 4, 5] (fun v3 v4 _ wr => ∃ k : Nat, k ≤ m ∧ v4 = .int .i64 (k : Int) ∧ Hid (Fresh (w.heap.size + 1) wr v3 (dataTo x k)) ∧ Hid (Has wr w.heap.size 47 #[.bool x.gone, .string x.name, .string T, .int .i64 L]) ∧ Hid (Below w.heap.size w wr)) (fun _ v4 _ _ => m - (intOf v4).toNat)
  case atStart => exact ⟨0, by omega, rfl, fresh_nil _ _, HA0.out, HB0.out⟩
  case round =>
    obtain ⟨k, hk, rfl, J1, J2, J3⟩ := hrel
    have c2 : wr.cell? ⟨w.heap.size, 2, none⟩ = some (.string T) := J2.out.at_ 2
    have c3 : wr.cell? ⟨w.heap.size, 3, none⟩ = some (.int .i64 L) := J2.out.at_ 3
    by_cases hlt : k < m
    · have hkL : (k : Int) < L := by omega
      have hk5 : (k : Int) < 5000 := by omega
      have w1 : IntKind.i64.wrap ((k : Int) + 1) = (k : Int) + 1 := i64in _ (by omega) (by omega)
      have hin := J2.out.inside
      by_cases hs0 : s = 0
      · have hs1 : ¬ (0 : Int) < (s : Int) := by omega
        have hs2 : (T.size : Int) = (s : Int) := by rw [HS.out]
        obtain ⟨v5, w5, hr5, hf5, hb5⟩ := append_byte wr (w.heap.size + 1) u3 (dataTo x k) J1.out (by rw [HDL.out]; omega) (by omega) 0
        have hnx := HNX.out k
        rw [if_pos hs0] at hnx
        rw [← hnx] at hf5
        have R5 := hid hr5
        have F5 := hid hf5
        have B5 := hid hb5
        have hs3 : s = 0 := hs0
        clear hr5 hf5 hb5 hnx
        go_wp2_with (at_builtin; refine wpList_append_run rfl (.tmp 28) (.tmp 30) 25 25 rfl ⟨_, _, R5.out, ?_⟩)
        go_roundw
        case rel => exact ⟨k + 1, by omega, by go_num, F5.out, J2.out.kept B5.out (by omega), J3.out.trans (B5.out.mono (by omega))⟩
        case measure => simp [intOf]; omega
      · have hs1 : (0 : Int) < (s : Int) := by omega
        have hs2 : (T.size : Int) = (s : Int) := by rw [HS.out]
        obtain ⟨j, HJ⟩ : ∃ j, Hid (k % s = j) := ⟨_, rfl⟩
        have hj : j < s := by rw [← HJ.out]; exact Nat.mod_lt _ (by omega)
        obtain ⟨z, HZ⟩ : ∃ z, Hid (at8 (tl T) j = z) := ⟨_, rfl⟩
        obtain ⟨v5, w5, hr5, hf5, hb5⟩ := append_byte wr.drew (w.heap.size + 1) u3 (dataTo x k) (fresh_kept J1.out (Below.refl _ _).drew) (by rw [HDL.out]; omega) (by show _ ≤ wr.heap.size; omega) z
        have hnx := HNX.out k
        rw [if_neg hs0, HJ.out, HZ.out] at hnx
        rw [← hnx] at hf5
        have R5 := hid hr5
        have F5 := hid hf5
        have B5 := hid hb5
        have r2 : (k : Int).tmod (s : Int) = (j : Int) := by rw [← HJ.out]; exact rem_nat k s
        have r3 : ¬ (s : Int) = 0 := by omega
        have hixj := HIX.out j hj
        rw [HZ.out] at hixj
        have J2d : Hid (Has wr.drew w.heap.size 47 #[.bool x.gone, .string x.name, .string T, .int .i64 L]) := J2.out
        obtain ⟨bz, HBZ⟩ : ∃ bz, Hid (b8 z = bz) := ⟨_, rfl⟩
        rw [HBZ.out] at hixj R5
        have r4 : ¬ s = 0 := hs0
        clear hr5 hf5 hb5 hnx
        go_wp2
        refine wp_region_noPanic ?_
        refine wp_region_held_drew (S := fun W => Has W w.heap.size 47 #[.bool x.gone, .string x.name, .string T, .int .i64 L]) (by kernel_rfl) (J2d.out) (fun hS => ?_)
        refine wpAnyH_take (i := 0) (v := ?_) (by simp only [List.getElem?_toArray, List.getElem?_cons_zero]; rfl) (by kernel_rfl) (by kernel_rfl) (by kernel_rfl) (fun _ _ _ h => h) (Or.inl ⟨by rfl, ?_⟩) (by assumption) ?_
        rotate_left 1
        · intro w hSw
          have hc2 : w.cell? _ = some (.string T) := hSw.at_ 2
          go_simp
          try with_reducible rfl
        simp only [Act.put, List.setIfInBounds_toArray, List.set_cons_zero, List.set_cons_succ]
        refine wpAnyH_take (i := 1) (v := ?_) (by simp only [List.getElem?_toArray, List.getElem?_cons_zero, List.getElem?_cons_succ]; rfl) (by kernel_rfl) (by kernel_rfl) (by kernel_rfl) (fun _ _ _ h => h) (Or.inl ⟨by rfl, ?_⟩) (by assumption) ?_
        rotate_left 1
        · intro w hSw
          have hc2 : w.cell? _ = some (.string T) := hSw.at_ 2
          go_simp
          try with_reducible rfl
        simp only [Act.put, List.setIfInBounds_toArray, List.set_cons_zero, List.set_cons_succ]
        refine wpAnyH_take (i := 2) (v := ?_) (by simp only [List.getElem?_toArray, List.getElem?_cons_zero, List.getElem?_cons_succ]; rfl) (by kernel_rfl) (by kernel_rfl) (by kernel_rfl) (fun _ _ _ h => h) (Or.inl ⟨by rfl, ?_⟩) (by assumption) ?_
        rotate_left 1
        · intro w hSw
          have hc2 : w.cell? _ = some (.string T) := hSw.at_ 2
          go_simp
          try with_reducible rfl
        simp only [Act.put, List.setIfInBounds_toArray, List.set_cons_zero, List.set_cons_succ]
        refine wpAnyH_take (i := 3) (v := ?_) (by simp only [List.getElem?_toArray, List.getElem?_cons_zero, List.getElem?_cons_succ]; rfl) (by kernel_rfl) (by kernel_rfl) (by kernel_rfl) (fun _ _ _ h => h) (Or.inl ⟨by rfl, ?_⟩) (by assumption) ?_
        rotate_left 1
        · intro w hSw
          have hc2 : w.cell? _ = some (.string T) := hSw.at_ 2
          go_simp
          try with_reducible rfl
        simp only [Act.put, List.setIfInBounds_toArray, List.set_cons_zero, List.set_cons_succ]
        refine wpAnyH_take (i := 4) (v := ?_) (by simp only [List.getElem?_toArray, List.getElem?_cons_zero, List.getElem?_cons_succ]; rfl) (by kernel_rfl) (by kernel_rfl) (by kernel_rfl) (fun _ _ _ h => h) (Or.inl ⟨by rfl, ?_⟩) (by assumption) ?_
        rotate_left 1
        · intro w hSw
          have hc2 : w.cell? _ = some (.string T) := hSw.at_ 2
          go_simp
          try with_reducible rfl
        simp only [Act.put, List.setIfInBounds_toArray, List.set_cons_zero, List.set_cons_succ]
        refine wpAnyH_take (i := 5) (v := ?_) (by simp only [List.getElem?_toArray, List.getElem?_cons_zero, List.getElem?_cons_succ]; rfl) (by kernel_rfl) (by kernel_rfl) (by kernel_rfl) (fun _ _ _ h => h) (Or.inl ⟨by rfl, ?_⟩) (by assumption) ?_
        rotate_left 1
        · intro w hSw
          have hc2 : w.cell? _ = some (.string T) := hSw.at_ 2
          go_simp
          try with_reducible rfl
        simp only [Act.put, List.setIfInBounds_toArray, List.set_cons_zero, List.set_cons_succ]
        refine wpAnyH_take (i := 6) (v := ?_) (by simp only [List.getElem?_toArray, List.getElem?_cons_zero, List.getElem?_cons_succ]; rfl) (by kernel_rfl) (by kernel_rfl) (by kernel_rfl) (fun _ _ _ h => h) (Or.inl ⟨by rfl, ?_⟩) (by assumption) ?_
        rotate_left 1
        · intro w hSw
          have hc2 : w.cell? _ = some (.string T) := hSw.at_ 2
          go_simp
          try with_reducible rfl
        simp only [Act.put, List.setIfInBounds_toArray, List.set_cons_zero, List.set_cons_succ]
        refine wpAnyH_take (i := 7) (v := ?_) (by simp only [List.getElem?_toArray, List.getElem?_cons_zero, List.getElem?_cons_succ]; rfl) (by kernel_rfl) (by kernel_rfl) (by kernel_rfl) (fun _ _ _ h => h) (Or.inl ⟨by rfl, ?_⟩) (by assumption) ?_
        rotate_left 1
        · intro w hSw
          have hc2 : w.cell? _ = some (.string T) := hSw.at_ 2
          go_simp
          try with_reducible rfl
        simp only [Act.put, List.setIfInBounds_toArray, List.set_cons_zero, List.set_cons_succ]
        refine wpAnyH_take (i := 8) (v := ?_) (by simp only [List.getElem?_toArray, List.getElem?_cons_zero, List.getElem?_cons_succ]; rfl) (by kernel_rfl) (by kernel_rfl) (by kernel_rfl) (fun _ _ _ h => h) (Or.inl ⟨by rfl, ?_⟩) (by assumption) ?_
        rotate_left 1
        · intro w hSw
          have hc2 : w.cell? _ = some (.string T) := hSw.at_ 2
          go_simp
          try with_reducible rfl
        simp only [Act.put, List.setIfInBounds_toArray, List.set_cons_zero, List.set_cons_succ]
        refine wpAnyH_done (by kernel_rfl) ?_ _
        refine NoPanic.normal ?_
        go_wp2_with (at_builtin; refine wpList_append_run rfl (.tmp 28) (.tmp 30) 25 25 rfl ⟨_, _, R5.out, ?_⟩)
        go_roundw
        case rel => exact ⟨k + 1, by omega, by go_num, F5.out, J2d.out.kept B5.out (by omega), J3.out.drew.trans (B5.out.mono (by omega))⟩
        case measure => simp [intOf]; omega
    · obtain rfl : k = m := by omega
      have hend : ¬ (k : Int) < L ∨ (k : Int) < L ∧ ¬ (k : Int) < 5000 ∧ ¬ k < 5000 := by omega
      clear hmL
      rcases hend with h1 | ⟨h0, h1, h2⟩
      · go_wp2
        go_ret
        exact ⟨_, rfl, by rw [HV.out]; exact Fresh.mono J1.out (by omega), J3.out⟩
      · go_wp2
        go_ret
        exact ⟨_, rfl, by rw [HV.out]; exact Fresh.mono J1.out (by omega), J3.out⟩
end Go.Proofs.YtlcdkponegmcdaaDoor
/- Two finders and a row of acts side by side; a finder's names; where a file's block is found. No conditions but the ones said. -/
namespace Go.Proofs.YtlcdkponegmcdaaDoor
open Go.RowKit
theorem srt_ext : ∀ {l l' : List Pl}, Srt l → Srt l' → (∀ q, q ∈ l ↔ q ∈ l') → l = l'
  | [], [], _, _, _ => rfl
  | [], a :: r, _, _, h => by have := (h a).2 (List.mem_cons_self ..); cases this
  | a :: r, [], _, _, h => by have := (h a).1 (List.mem_cons_self ..); cases this
  | a :: r, a' :: r', h1, h2, h => by
    have g1 : ∀ q ∈ r, cb a.1 q.1 < 0 := fun q hq => List.rel_of_pairwise_cons h1 hq
    have g2 : ∀ q ∈ r', cb a'.1 q.1 < 0 := fun q hq => List.rel_of_pairwise_cons h2 hq
    have e : a = a' := by
      rcases List.mem_cons.1 ((h a).1 (List.mem_cons_self ..)) with e | e
      · exact e
      · rcases List.mem_cons.1 ((h a').2 (List.mem_cons_self ..)) with e2 | e2
        · exact e2.symm
        · have k1 := g2 a e
          have k2 := g1 a' e2
          rw [cb_swap] at k1
          omega
    subst e
    have hne : ∀ q, (q ∈ r ∨ q ∈ r') → q ≠ a := by
      rintro q (hq | hq) e
      · have := g1 q hq; rw [e, cb_self] at this; omega
      · have := g2 q hq; rw [e, cb_self] at this; omega
    rw [srt_ext (List.Pairwise.of_cons h1) (List.Pairwise.of_cons h2) (fun q => ⟨fun hq => by
      rcases List.mem_cons.1 ((h q).1 (List.mem_cons_of_mem _ hq)) with e | e
      · exact absurd e (hne q (.inl hq))
      · exact e, fun hq => by
      rcases List.mem_cons.1 ((h q).2 (List.mem_cons_of_mem _ hq)) with e | e
      · exact absurd e (hne q (.inr hq))
      · exact e⟩)]
theorem rep_uniq {F : By → Option By} {P P' : By → List Pl} (h : Rep F P) (h' : Rep F P') : P = P' := by
  funext d
  refine srt_ext (h.srt d) (h'.srt d) fun q => ?_
  obtain ⟨n, i⟩ := q
  rw [h.mem, h'.mem]
/-- Where a file's block is found. -/
theorem find_file {F : By → Option By} {P : By → List Pl} (hR : Rep F P) (hl : ∀ n xs, F n = some xs → n.length ≤ maxLen ∧ xs.length ≤ 4096) (n xs : By) (hF : F n = some xs) (k : Nat) (hk : k < cntL xs.length) :
    ∃ q ps xs', P (dg (partL xs k)) = q :: ps ∧ F q.1 = some xs' ∧ dg (partI xs' (q.2 : Int)) = dg (partL xs k) ∧ (q.1 = n ∨ cb q.1 n < 0) ∧ q.1.length ≤ maxLen := by
  have hk2 : k < (hashes xs).length := by rw [hashes_len]; exact hk
  have hd : (hashes xs).getD k [] = dg (partL xs k) := by rw [List.getD, List.getElem?_eq_getElem hk2, Option.getD_some, hashes_at xs k hk]
  obtain ⟨i, _, hf⟩ := isFirst_ex k hk2 hd
  have hm := (hR.mem _ n i).2 ⟨xs, hF, hf⟩
  cases hP : P (dg (partL xs k)) with
  | nil => rw [hP] at hm; cases hm
  | cons q ps =>
    have hq : q ∈ P (dg (partL xs k)) := by rw [hP]; exact List.mem_cons_self ..
    obtain ⟨t, j⟩ := q
    obtain ⟨xs', h1, h2⟩ := (hR.mem _ t j).1 hq
    have hj : j < cntL xs'.length := by have := h2.1; rwa [hashes_len] at this
    refine ⟨(t, j), ps, xs', rfl, h1, ?_, ?_, (hl t xs' h1).1⟩
    · rw [partI_nat xs' j hj (hl t xs' h1).2, ← hashes_at xs' j hj]
      have := h2.2.1
      rw [List.getD, List.getElem?_eq_getElem h2.1, Option.getD_some] at this
      exact this
    · rw [hP] at hm
      rcases List.mem_cons.1 hm with e | e
      · injection e with e _; exact .inl e.symm
      · have := hR.srt (dg (partL xs k))
        rw [hP] at this
        exact .inr (List.rel_of_pairwise_cons this e)
/-- A finder, its names counted. -/
def FK (own : Nat → Prop) (w : World) (p : Nat) (F : By → Option By) (b : Nat) : Prop :=
  ∃ P cf N, ∃ keys : List By, Fin own w p F P cf N ∧ Rep F P ∧ N ≤ b ∧ keys.Nodup ∧ keys.length = cf ∧ (∀ n, n ∈ keys ↔ (F n).isSome = true) ∧ ∀ n xs, F n = some xs → n.length ≤ maxLen ∧ xs.length ≤ 4096
def FKP (own : Nat → Prop) (w : World) (p : Nat) (F : By → Option By) (b : Nat) (w' : World) : Prop :=
  ∃ own', FK own' w' p F b ∧ Turn own w w' ∧ (∀ g, own g → own' g) ∧ ∀ g, own' g → own g ∨ w.heap.size ≤ g
theorem FK.kept {own : Nat → Prop} {w w' : World} {p : Nat} {F : By → Option By} {b : Nat} (h : FK own w p F b) (hs : w.heap.size ≤ w'.heap.size) (hb : ∀ g, own g → w'.heap[g]? = w.heap[g]?) : FK own w' p F b := by
  obtain ⟨P, cf, N, keys, h1, h2⟩ := h
  exact ⟨P, cf, N, keys, h1.kept hs hb, h2⟩
theorem FK.low {own : Nat → Prop} {w : World} {p : Nat} {F : By → Option By} {b : Nat} (h : FK own w p F b) : ∀ g, own g → g < w.heap.size := by
  obtain ⟨P, cf, N, keys, h1, h2⟩ := h
  exact h1.low
theorem FK.on {own : Nat → Prop} {w w' : World} {p : Nat} {F : By → Option By} {b : Nat} (h : FK own w p F b) (hb : Below w.heap.size w w') : FK own w' p F b :=
  h.kept hb.size fun g hg => hb.block g (h.low g hg)
theorem FK.turn {own own2 : Nat → Prop} {w w' : World} {p : Nat} {F : By → Option By} {b : Nat} (h : FK own w p F b) (hb : Turn own2 w w') (hg : ∀ g, own g → ¬ own2 g) : FK own w' p F b :=
  h.kept hb.size fun g ho => hb.block g (h.low g ho) (hg g ho)
theorem nm_len {x : ActT} (hx : ActOk x) : (nm x).length ≤ maxLen := by unfold nm; rw [tl_length]; exact hx.name
theorem newk_any (w : World) : Calls Tryd.prog 22 #[] w fun e w' => ∃ own p, e = .returned (.pointer (some ⟨p, 0, none⟩)) ∧ FK own w' p (fun _ => none) 0 ∧ (∀ g, own g → w.heap.size ≤ g) ∧ Below w.heap.size w w' := by
  refine (new_any w).mono ?_
  rintro e w' ⟨own, p, rfl, hf, ho, hb⟩
  exact ⟨own, p, rfl, ⟨_, 0, 0, [], hf, rep_none, Nat.le_refl _, List.nodup_nil, rfl, fun n => by simp, fun n xs h => by cases h⟩, ho, hb⟩
open Classical in
theorem addk_any {own : Nat → Prop} {w : World} {p : Nat} {F : By → Option By} {b : Nat} (h : FK own w p F b) (hT : Sha.Tab w) (h0 : ¬ own 0) (x : ActT) (hx : ActOk x) (v : Value) (A : Option Addr) (cap bb off : Nat) (hy : Bytes w v (dataL x) A cap bb off) (hbb : ¬ own bb) (hb : b ≤ 700000) :
    Calls Tryd.prog 26 #[.pointer (some ⟨p, 0, none⟩), .string x.name, v] w fun e w' => (∃ z, e = .returned (.int .i64 z)) ∧ FKP own w p (stepF F x) (b + 80) w' := by
  obtain ⟨P, cf, N, keys, h1, h2, h3, h4, h5, h6, h7⟩ := h
  have e : x.name = ba (nm x) := (ba_tl x.name).symm
  rw [e]
  by_cases hg : good x = true
  · refine (add_any h1 hT h0 (nm x) (nm_len hx) v (dataL x) A cap bb off hy hbb (dataL_good hg) (by omega)).mono ?_
    rintro e w' ⟨rfl, own', k1, k2, k3, k4⟩
    refine ⟨⟨_, rfl⟩, own', ?_, k2, k3, k4⟩
    have hs : stepF F x = putF F (nm x) (dataL x) := by unfold stepF; rw [if_pos hg]
    rw [hs]
    have hl : ∀ n xs, putF F (nm x) (dataL x) n = some xs → n.length ≤ maxLen ∧ xs.length ≤ 4096 := fun n xs hh => by
      unfold putF at hh
      by_cases en : n = nm x
      · rw [if_pos en] at hh; injection hh with hh; subst hh; rw [en]; exact ⟨nm_len hx, dataL_good hg⟩
      · rw [if_neg en] at hh; exact h7 n xs hh
    cases hF : F (nm x) with
    | none =>
      refine ⟨_, _, _, nm x :: keys, k1, rep_put h2 _ _, by omega, ?_, ?_, ?_, hl⟩
      · refine List.nodup_cons.2 ⟨fun hc => ?_, h4⟩
        have := (h6 _).1 hc
        rw [hF] at this; cases this
      · unfold fgc; rw [hF]; simp [h5]
      · intro n
        rw [List.mem_cons]
        unfold putF
        by_cases en : n = nm x
        · simp [en]
        · rw [if_neg en, h6]; simp [en]
    | some ys =>
      have hin : nm x ∈ keys := (h6 _).2 (by rw [hF]; rfl)
      refine ⟨_, _, _, keys, k1, rep_put h2 _ _, by omega, h4, ?_, ?_, hl⟩
      · unfold fgc; rw [hF]
        have := List.length_pos_of_mem hin
        simp only; omega
      · intro n
        unfold putF
        by_cases en : n = nm x
        · rw [if_pos en, en]; simp [hin]
        · rw [if_neg en, h6]
  · have hg2 : good x = false := by simpa using hg
    refine (add_long h1 (nm x) v (dataL x) A cap bb off hy (dataL_bad hg2)).mono ?_
    rintro e w' ⟨rfl, rfl⟩
    have hs : stepF F x = F := by unfold stepF; rw [if_neg hg]
    rw [hs]
    exact ⟨⟨_, rfl⟩, own, ⟨P, cf, N, keys, h1, h2, by omega, h4, h5, h6, h7⟩, Turn.refl _ _, fun _ h => h, fun _ h => .inl h⟩
/-- Acts in a row of the call's own. -/
def acells (ls : List ActT) : List Value := ls.flatMap fun x => (actCells x).toList
def ARow (B : Nat) (w : World) (v : Value) (ls : List ActT) : Prop := w.ownsRow B 47 4 v ls.length (acells ls)
theorem acells_snoc (ls : List ActT) (x : ActT) : acells (ls ++ [x]) = acells ls ++ (actCells x).toList := by simp [acells]
theorem acells_at (ls : List ActT) (k : Nat) (hk : k < ls.length) (j : Nat) (hj : j < 4) : (acells ls)[k * 4 + j]? = (actCells (ls.getD k act0)).toList[j]? := by
  induction ls generalizing k with
  | nil => simp at hk
  | cons x r ih =>
    show ((actCells x).toList ++ acells r)[k * 4 + j]? = _
    cases k with
    | zero =>
      rw [List.getElem?_append_left (by show 0 * 4 + j < 4; omega)]
      simp [List.getD]
    | succ k =>
      rw [List.getElem?_append_right (by show 4 ≤ (k + 1) * 4 + j; omega)]
      rw [show (k + 1) * 4 + j - (actCells x).toList.length = k * 4 + j by show (k + 1) * 4 + j - 4 = _; omega]
      rw [ih k (by simpa using hk)]
      simp [List.getD]
theorem ARow.form {B : Nat} {w : World} {v : Value} {ls : List ActT} (h : ARow B w v ls) : ∃ A c, v = .slice A ls.length c := by
  rcases h.2 with ⟨h1, h2⟩ | ⟨g, c, cur, h1, _⟩
  · exact ⟨none, 0, by rw [h1, h2]⟩
  · exact ⟨some ⟨g, 0, none⟩, c, h1⟩
theorem ARow.at_ {B : Nat} {w : World} {v : Value} {ls : List ActT} (h : ARow B w v ls) (k : Nat) (hk : k < ls.length) : ∃ g c, v = .slice (some ⟨g, 0, none⟩) ls.length c ∧ ActAt w g (k * 4) (ls.getD k act0) := by
  rcases h.2 with ⟨_, h3⟩ | ⟨g, c, cur, h3, hB, h4, h5⟩
  · omega
  · refine ⟨g, c, h3, ?_⟩
    subst h3
    have hc : ∀ j, j < 4 → ∀ u, (actCells (ls.getD k act0)).toList[j]? = some u → w.cell? ⟨g, k * 4 + j, none⟩ = some u := fun j hj u hu => by
      have := World.ownsRow.cells (g := g) h rfl (k * 4 + j) u (by rw [acells_at ls k hk j hj]; exact hu)
      rwa [add_at, Nat.zero_add] at this
    exact ⟨hc 0 (by omega) _ rfl, hc 1 (by omega) _ rfl, hc 2 (by omega) _ rfl, hc 3 (by omega) _ rfl⟩
theorem infoAct : (Tryd.prog.info? 47).map (fun i => (i.zero, i.size, i.bytes)) = some (some (.agg #[.bool false, .string ⟨#[]⟩, .string ⟨#[]⟩, .int .i64 0]), 4, 48) := by kernel_rfl
theorem append_act (w : World) (B : Nat) (v : Value) (ls : List ActT) (h : ARow B w v ls) (x : ActT) (g : Nat) (hg : Has w g 47 (actCells x)) (hn : ls.length ≤ 1000) (hB : B ≤ w.heap.size) (ty : TypeId) :
    ∃ v' w', (Builtin.append_ #[39, 39] ty #[v, .slice (some ⟨g, 0, none⟩) 1 1]).run Tryd.prog w = .ok v' w' ∧ ARow B w' v' (ls ++ [x]) ∧ w.grownBy w' v.ownBlock ∧ (v'.ownBlock = v.ownBlock ∨ v'.ownBlock = some w.heap.size) := by
  obtain ⟨i0, hi, hz0, hz1, hz2⟩ := info_parts infoAct
  obtain ⟨v', w', hr, ho, hg', _, hv⟩ := run_append_own_at (P := Tryd.prog) w B 39 ty 47 i0 _ 4 48 Tryd.underlying39 hi hz0 hz1 hz2 (by simp [Value.cells]) (by omega) v ls.length (acells ls) h ⟨g, 0, none⟩ 1 1 (actCells x).toList rfl
    (fun j u hj => by
      rw [add_at, Nat.zero_add, hg.at_ j]
      rw [← Array.getElem?_toList]; exact hj) (fun u hu => by
      simp only [actCells, List.mem_cons, List.not_mem_nil, or_false] at hu
      rcases hu with rfl | rfl | rfl | rfl <;> rfl) (by unfold maxLen; omega) (by omega) hB
  refine ⟨v', w', hr, ?_, hg', hv⟩
  unfold ARow
  rw [acells_snoc, List.length_append]; exact ho
theorem run_build_act (w : World) (x : ActT) :
    (Instr.buildSlice 39 1 #[(0, Value.agg (actCells x))]).run Tryd.prog w = .ok (.slice (some ⟨w.heap.size, 0, none⟩) 1 1) (w.alloc (.cells (actCells x) 47)) := by
  have hI : (Tryd.prog.info? 47).map (fun i => (i.size, i.zero)) = some (4, some (.agg #[.bool false, .string ⟨#[]⟩, .string ⟨#[]⟩, .int .i64 0])) := by kernel_rfl
  cases hie : Tryd.prog.info? 47 with
  | none => rw [hie] at hI; cases hI
  | some ie =>
    rw [hie] at hI
    simp only [Option.map_some, Option.some.injEq, Prod.mk.injEq] at hI
    refine run_buildSlice (P := Tryd.prog) w 39 47 1 _ _ ie _ Tryd.underlying39 hie hI.2 (by rw [hI.1]; omega) (by rw [hI.1]; omega) ?_
    rw [hI.1]
    refine (Great.fill_whole (s := 4) (by omega) [Value.agg (actCells x)] _ (fun v hv => ?_) (by simp)).trans (by simp [Value.cells])
    simp only [List.mem_singleton] at hv
    subst hv
    rfl
theorem wpList_build_act {ops : Array Oper} {Q : Exit → Act → World → Prop} {a : Act} {w : World} {rest : List Oper} {o : Oper} (hw : Region.wanted o (yielded ops a.tmps) = true)
    (x : Operand) (ho : o.op = .buildSlice 39 1 #[(0, x)]) (d : ActT) (hx : a.eval x = .agg (actCells d))
    (h : wpList Tryd.prog ops Q rest (a.put o.dst (.slice (some ⟨w.heap.size, 0, none⟩) 1 1)) (w.alloc (.cells (actCells d) 47))) : wpList Tryd.prog ops Q (o :: rest) a w :=
  wpList_wanted hw fun _ hK => by
    unfold Oper.wp execOp
    simp only [ho, Sem.run_bind, List.map_toArray, List.map_cons, List.map_nil, hx, run_build_act w d, Result.andThen_ok]
    exact hK _ _ h
/-- Two finders and a row of acts, apart from one another. -/
structure OStI (B : Nat) (w wr : World) (ownf owng : Nat → Prop) (pf pg : Nat) (Ff Fg : By → Option By) (bf bg : Nat) (v : Value) (ls : List ActT) : Prop where
  f : FK ownf wr pf Ff bf
  g : FK owng wr pg Fg bg
  lf : ∀ k, ownf k → B ≤ k
  lg : ∀ k, owng k → B ≤ k
  ap : ∀ k, ownf k → ¬ owng k
  row : ARow B wr v ls
  rf : ∀ k, v.ownBlock = some k → ¬ ownf k
  rg : ∀ k, v.ownBlock = some k → ¬ owng k
  b : Below B w wr
  le : B ≤ wr.heap.size
def OSt (B : Nat) (w wr : World) (pf pg : Nat) (Ff Fg : By → Option By) (bf bg : Nat) (v : Value) (ls : List ActT) : Prop := ∃ ownf owng, OStI B w wr ownf owng pf pg Ff Fg bf bg v ls
section
variable {B : Nat} {w wr w' : World} {ownf owng : Nat → Prop} {pf pg : Nat} {Ff Fg : By → Option By} {bf bg : Nat} {v : Value} {ls : List ActT}
theorem OStI.on (h : OStI B w wr ownf owng pf pg Ff Fg bf bg v ls) (hb : Below wr.heap.size wr w') : OStI B w w' ownf owng pf pg Ff Fg bf bg v ls where
  f := h.f.on hb
  g := h.g.on hb
  lf := h.lf
  lg := h.lg
  ap := h.ap
  row := row_of h.row fun g hg => hb.block g (World.ownsRow.lt h.row g hg).2
  rf := h.rf
  rg := h.rg
  b := h.b.trans (hb.mono h.le)
  le := Nat.le_trans h.le hb.size
theorem OSt.on (h : OSt B w wr pf pg Ff Fg bf bg v ls) (hb : Below wr.heap.size wr w') : OSt B w w' pf pg Ff Fg bf bg v ls := by
  obtain ⟨o1, o2, h⟩ := h
  exact ⟨o1, o2, h.on hb⟩
theorem OSt.below (h : OSt B w wr pf pg Ff Fg bf bg v ls) : Below B w wr ∧ B ≤ wr.heap.size := by
  obtain ⟨o1, o2, h⟩ := h
  exact ⟨h.b, h.le⟩
theorem OStI.addf (h : OStI B w wr ownf owng pf pg Ff Fg bf bg v ls) {F' : By → Option By} {b' : Nat} (hp : FKP ownf wr pf F' b' w') : OSt B w w' pf pg F' Fg b' bg v ls := by
  obtain ⟨own', k1, k2, k3, k4⟩ := hp
  refine ⟨own', owng, k1, h.g.turn k2 (fun g hg hf => h.ap g hf hg), fun g hg => ?_, h.lg, fun g hg hh => ?_, ?_, fun g hg hh => ?_, h.rg, ?_, Nat.le_trans h.le k2.size⟩
  · rcases k4 g hg with x | x
    · exact h.lf g x
    · exact Nat.le_trans h.le x
  · rcases k4 g hg with x | x
    · exact h.ap g x hh
    · have := h.g.low g hh; omega
  · exact row_of h.row fun g hg => k2.block g (World.ownsRow.lt h.row g hg).2 (h.rf g hg)
  · rcases k4 g hh with x | x
    · exact h.rf g hg x
    · have := (World.ownsRow.lt h.row g hg).2; omega
  · exact h.b.trans (k2.below h.lf h.le)
theorem OStI.addg (h : OStI B w wr ownf owng pf pg Ff Fg bf bg v ls) {F' : By → Option By} {b' : Nat} (hp : FKP owng wr pg F' b' w') : OSt B w w' pf pg Ff F' bf b' v ls := by
  obtain ⟨own', k1, k2, k3, k4⟩ := hp
  refine ⟨ownf, own', h.f.turn k2 (fun g hg hf => h.ap g hg hf), k1, h.lf, fun g hg => ?_, fun g hg hh => ?_, ?_, h.rf, fun g hg hh => ?_, ?_, Nat.le_trans h.le k2.size⟩
  · rcases k4 g hg with x | x
    · exact h.lg g x
    · exact Nat.le_trans h.le x
  · rcases k4 g hh with x | x
    · exact h.ap g hg x
    · have := h.f.low g hg; omega
  · exact row_of h.row fun g hg => k2.block g (World.ownsRow.lt h.row g hg).2 (h.rg g hg)
  · rcases k4 g hh with x | x
    · exact h.rg g hg x
    · have := (World.ownsRow.lt h.row g hg).2; omega
  · exact h.b.trans (k2.below h.lg h.le)
theorem OSt.app (h : OSt B w wr pf pg Ff Fg bf bg v ls) (x : ActT) (hn : ls.length ≤ 1000) :
    ∃ v' w', (Builtin.append_ #[39, 39] 39 #[v, .slice (some ⟨wr.heap.size, 0, none⟩) 1 1]).run Tryd.prog (wr.alloc (.cells (actCells x) 47)) = .ok v' w' ∧ OSt B w w' pf pg Ff Fg bf bg v' (ls ++ [x]) := by
  obtain ⟨ownf, owng, h⟩ := h
  have hb : Below wr.heap.size wr (wr.alloc (.cells (actCells x) 47)) := (Below.refl _ _).alloc (Nat.le_refl _) _
  have h2 := h.on hb
  obtain ⟨v', w', hr, ha, hg, hv⟩ := append_act _ B v ls h2.row x wr.heap.size (Has.fresh wr 47 _) hn h2.le 39
  have hsz := hg.size
  have hvn : ∀ k, v'.ownBlock = some k → (v.ownBlock = some k ∨ wr.heap.size < k) := fun k hk => by
    rcases hv with e | e
    · exact .inl (e ▸ hk)
    · rw [e] at hk; injection hk with hk; simp at hk; exact .inr (by omega)
  refine ⟨v', w', hr, ownf, owng, ?_, ?_, h.lf, h.lg, h.ap, ha, fun k hk hh => ?_, fun k hk hh => ?_, ?_, Nat.le_trans h2.le hsz⟩
  · exact h2.f.kept hsz fun g ho => hg.block g (h2.f.low g ho) (fun e => h.rf g e.symm ho)
  · exact h2.g.kept hsz fun g ho => hg.block g (h2.g.low g ho) (fun e => h.rg g e.symm ho)
  · rcases hvn k hk with e | e
    · exact h.rf k e hh
    · have := h.f.low k hh; omega
  · rcases hvn k hk with e | e
    · exact h.rg k e hh
    · have := h.g.low k hh; omega
  · exact h2.b.grown hg h2.le (fun g hg => (World.ownsRow.lt h2.row g hg).1)
end
end Go.Proofs.YtlcdkponegmcdaaDoor
/- What the calls on two finders do, side by side. Conditions: the listed table. -/
namespace Go.Proofs.YtlcdkponegmcdaaDoor
open Go.RowKit
theorem partI_le (xs : By) (i : Int) : (partI xs i).length ≤ 128 := by
  unfold partI
  split
  · simp
  · exact partL_le _ _
theorem less_cb : ∀ (a b : By), cb a b < 0 → Op.bytesLess a b = true
  | [], [], h => by rw [cb_self] at h; omega
  | [], y :: b, _ => rfl
  | x :: a, [], h => by
    have : cb (x :: a) [] = 1 := rfl
    omega
  | x :: a, y :: b, h => by
    have e : cb (x :: a) (y :: b) = if x < y then -1 else if y < x then 1 else cb a b := rfl
    rw [e] at h
    show (decide (x < y) || (x == y && Op.bytesLess a b)) = true
    by_cases h1 : x < y
    · simp [h1]
    · rw [if_neg h1] at h
      by_cases h2 : y < x
      · rw [if_pos h2] at h; omega
      · rw [if_neg h2] at h
        have : x = y := by
          have h3 : ¬ x.toNat < y.toNat := h1
          have h4 : ¬ y.toNat < x.toNat := h2
          exact UInt8.toNat_inj.1 (by omega)
        subst this
        rw [less_cb a b h]; simp
theorem not_gtr (a : By) (s : ByteArray) (h : a = tl s ∨ cb a (tl s) < 0) : (Op.bytesLess (ba a).toList s.toList || (ba a).toList == s.toList) = true := by
  rw [ByteArray.toList_eq, ByteArray.toList_eq]
  rcases h with h | h
  · have : (ba a).data.toList = s.data.toList := h
    rw [this]; simp
  · have := less_cb a (tl s) h
    have e : (ba a).data.toList = a := rfl
    rw [e, this]; rfl
section
variable {w w0 wr : World} {pf pg : Nat} {Ff Fg : By → Option By} {bf bg : Nat} {v : Value} {ls : List ActT}
theorem fresh_out {B : Nat} {w : World} {v : Value} {xs : By} (h : Fresh B w v xs) (hw : 0 < w.heap.size) {own : Nat → Prop} (hl : ∀ g, own g → g < B) (h0 : ¬ own 0) : ∃ A cap bb, Bytes w v xs A cap bb 0 ∧ ¬ own bb := by
  obtain ⟨A, cap, bb, hy, _, hb⟩ := h.bytes hw
  refine ⟨A, cap, bb, hy, fun ho => ?_⟩
  rcases hb with e | ⟨_, e⟩
  · have := (World.ownsRow.lt h bb e).1
    have := hl bb ho
    omega
  · rw [e] at ho; exact h0 ho
theorem OSt.add_f (h : OSt w.heap.size w w0 pf pg Ff Fg bf bg v ls) (hT : Sha.Tab w) (hb : Below w0.heap.size w0 wr) (x : ActT) (hx : ActOk x) (vd : Value) (hd : Fresh w0.heap.size wr vd (dataL x)) (hbf : bf ≤ 700000) :
    Calls Tryd.prog 26 #[.pointer (some ⟨pf, 0, none⟩), .string x.name, vd] wr fun e w' => (∃ z, e = .returned (.int .i64 z)) ∧ OSt w.heap.size w w' pf pg (stepF Ff x) Fg (bf + 80) bg v ls := by
  obtain ⟨ownf, owng, h⟩ := h
  have h2 := h.on hb
  have hp := hT.pos
  have h0 : ¬ ownf 0 := fun e => by have := h.lf 0 e; omega
  obtain ⟨A, cap, bb, hy, hbb⟩ := fresh_out hd (Nat.lt_of_lt_of_le hp h2.le) h.f.low h0
  refine (addk_any h2.f (hT.kept h2.b hp) h0 x hx vd A cap bb 0 hy hbb hbf).mono ?_
  rintro e w' ⟨hz, hp'⟩
  exact ⟨hz, h2.addf hp'⟩
theorem OSt.add_g (h : OSt w.heap.size w w0 pf pg Ff Fg bf bg v ls) (hT : Sha.Tab w) (hb : Below w0.heap.size w0 wr) (x : ActT) (hx : ActOk x) (vd : Value) (hd : Fresh w0.heap.size wr vd (dataL x)) (hbg : bg ≤ 700000) :
    Calls Tryd.prog 26 #[.pointer (some ⟨pg, 0, none⟩), .string x.name, vd] wr fun e w' => (∃ z, e = .returned (.int .i64 z)) ∧ OSt w.heap.size w w' pf pg Ff (stepF Fg x) bf (bg + 80) v ls := by
  obtain ⟨ownf, owng, h⟩ := h
  have h2 := h.on hb
  have hp := hT.pos
  have h0 : ¬ owng 0 := fun e => by have := h.lg 0 e; omega
  obtain ⟨A, cap, bb, hy, hbb⟩ := fresh_out hd (Nat.lt_of_lt_of_le hp h2.le) h.g.low h0
  refine (addk_any h2.g (hT.kept h2.b hp) h0 x hx vd A cap bb 0 hy hbb hbg).mono ?_
  rintro e w' ⟨hz, hp'⟩
  exact ⟨hz, h2.addg hp'⟩
/-- What both finders answer of a block of a file that both have. -/
theorem OSt.find (h : OSt w.heap.size w wr pf pg Ff Ff bf bg v ls) (n xs : By) (hF : Ff n = some xs) (k : Nat) (hk : k < cntL xs.length) :
    ∃ (q : Pl) (ys : By), dg ys = dg (partL xs k) ∧ (q.1 = n ∨ cb q.1 n < 0) ∧ ys.length ≤ 128 ∧ ∀ W, Below wr.heap.size wr W →
      Calls Tryd.prog 29 #[.pointer (some ⟨pf, 0, none⟩), .agg (hvec (dg (partL xs k)))] W (fun e w' => FindPost W ys q true e w') ∧ Calls Tryd.prog 29 #[.pointer (some ⟨pg, 0, none⟩), .agg (hvec (dg (partL xs k)))] W (fun e w' => FindPost W ys q true e w') := by
  obtain ⟨ownf, owng, h⟩ := h
  obtain ⟨P, cf, N, keys, a1, a2, a3, a4, a5, a6, a7⟩ := h.f
  obtain ⟨P', cf', N', keys', b1, b2, b3, b4, b5, b6, b7⟩ := h.g
  obtain rfl := rep_uniq a2 b2
  obtain ⟨q, ps, xs', h1, h2, h3, h4, h5⟩ := find_file a2 a7 n xs hF k hk
  exact ⟨q, partI xs' (q.2 : Int), h3, h4, partI_le _ _, fun W hW => ⟨find_some (a1.on hW (Nat.le_refl _)) _ (dg_len _) q ps xs' h1 h2 h5, find_some (b1.on hW (Nat.le_refl _)) _ (dg_len _) q ps xs' h1 h2 h5⟩⟩
theorem OSt.len_f {zs : List ActT} (h : OSt w.heap.size w wr pf pg (FA zs) Fg bf bg v ls) : Calls Tryd.prog 28 #[.pointer (some ⟨pf, 0, none⟩)] wr fun e w' => e = .returned (.int .i64 ((lastR zs).length : Int)) ∧ wr = w' := by
  obtain ⟨ownf, owng, h⟩ := h
  obtain ⟨P, cf, N, keys, a1, a2, a3, a4, a5, a6, a7⟩ := h.f
  have e := keys_len zs keys a4 a6
  rw [← e, a5]
  exact len_any a1
theorem OSt.len_g {zs : List ActT} (h : OSt w.heap.size w wr pf pg Ff (FA zs) bf bg v ls) : Calls Tryd.prog 28 #[.pointer (some ⟨pg, 0, none⟩)] wr fun e w' => e = .returned (.int .i64 ((lastR zs).length : Int)) ∧ wr = w' := by
  obtain ⟨ownf, owng, h⟩ := h
  obtain ⟨P, cf, N, keys, a1, a2, a3, a4, a5, a6, a7⟩ := h.g
  have e := keys_len zs keys a4 a6
  rw [← e, a5]
  exact len_any a1
theorem OSt.act (h : OSt w.heap.size w wr pf pg Ff Fg bf bg v ls) (k : Nat) (hk : k < ls.length) : ∃ g c, v = .slice (some ⟨g, 0, none⟩) ls.length c ∧ ActAt wr g (k * 4) (ls.getD k act0) := by
  obtain ⟨ownf, owng, h⟩ := h
  exact h.row.at_ k hk
theorem OSt.form (h : OSt w.heap.size w wr pf pg Ff Fg bf bg v ls) : ∃ A c, v = .slice A ls.length c := by
  obtain ⟨ownf, owng, h⟩ := h
  exact h.row.form
end
section
variable {ops : Array Oper} {S : World → Prop} {o : Oper} {a : Act}
theorem yields_load_act (hw : Region.wanted o (yielded ops a.tmps) = true) (x : Operand) (ho : o.op = .load 47 x) (g off : Nat) (hx : a.eval x = .pointer (some ⟨g, off, none⟩)) (d : ActT)
    (hS : ∀ w, S w → ActAt w g off d) : YieldsIf Tryd.prog ops S o (.agg (actCells d)) a :=
  .inl ⟨hw, fun w hw' => by
    unfold execOp
    simp only [ho, hx, Instr.loadAt, Instr.sureAddr, Sem.run_bind, Sem.run_pure, Result.andThen_ok, (hS w hw').load]⟩
theorem pl_neq_same (q : Pl) (w : World) : (binOp .neq 54 (.agg (pcell q).toArray) (.agg (pcell q).toArray)).run Tryd.prog w = .ok (.bool false) w := by
  rw [run_neq_struct, run_equalIn_struct (P := Tryd.prog) w 9999 54 _ _ (by kernel_rfl) (by kernel_rfl)]
  have hf : (Tryd.prog.fieldsOf 54).toList.map (fun f => (f.type, f.offset, f.name == "_")) = [(9, 0, false), (3, 1, false)] := by kernel_rfl
  have hs9 : ∀ w, (isAgg 9).run Tryd.prog w = .ok false w := fun w => by kernel_rfl
  have hs3 : ∀ w, (isAgg 3).run Tryd.prog w = .ok false w := fun w => by kernel_rfl
  have he9 := fun (w : World) => run_equalIn_string (P := Tryd.prog) w 9998 9 (ba q.1) (ba q.1) Tryd.underlying9
  have he3 := fun (w : World) => run_equalIn_int (P := Tryd.prog) w 9998 3 .i64 .i64 (q.2 : Int) (q.2 : Int) Tryd.underlying3
  generalize (Tryd.prog.fieldsOf 54).toList = fs at hf ⊢
  rcases fs with _ | ⟨f1, _ | ⟨f2, _ | ⟨f3, fs⟩⟩⟩ <;> simp at hf
  obtain ⟨⟨h1, h2, h3⟩, h4, h5, h6⟩ := hf
  simp [Op.eqFields, h1, h2, h3, h4, h5, h6, part, hs9, hs3, he9, he3, pcell, Result.andThen]
theorem yields_neq_pl (hw : Region.wanted o (yielded ops a.tmps) = true) (x y : Operand) (ho : o.op = .binOp .neq 54 x y 54) (q : Pl) (hx : a.eval x = .agg (pcell q).toArray) (hy : a.eval y = .agg (pcell q).toArray) : YieldsIf Tryd.prog ops S o (.bool false) a :=
  .inl ⟨hw, fun w _ => by
    unfold execOp
    simp only [ho, hx, hy, Sem.run_bind, run_eqGuard_agg w .neq 54 x y _ _ eqGP, pl_neq_same q w, Result.andThen_ok, Sem.run_pure]⟩
theorem yields_gtr (hw : Region.wanted o (yielded ops a.tmps) = true) (x y : Operand) (ty : TypeId) (ho : o.op = .binOp .gtr 9 x y ty) (s t : ByteArray) (hx : a.eval x = .string s) (hy : a.eval y = .string t) (h : (Op.bytesLess s.toList t.toList || s.toList == t.toList) = true) : YieldsIf Tryd.prog ops S o (.bool false) a :=
  .inl ⟨hw, fun w _ => by
    unfold execOp
    simp only [ho, hx, hy, binOp_string_gtr, h, Bool.not_true, Sem.run_bind, Sem.run_pure]
    try rfl⟩
/-- What the last great region reads. -/
structure S31 (b1 b2 : Nat) (q : Pl) (v1 v2 : Value) (ys : By) (A1 A2 : Option Addr) (c1 c2 k1 k2 : Nat) (vl : Value) (hs : List By) (gl o : Nat) (x : ActT) (W : World) : Prop where
  box1 : Has W b1 54 (pcell q).toArray
  box2 : Has W b2 54 (pcell q).toArray
  y1 : Bytes W v1 ys A1 c1 k1 0
  y2 : Bytes W v2 ys A2 c2 k2 0
  l : Dgs 0 W vl hs
  act : ActAt W gl o x
theorem S31.on {b1 b2 : Nat} {q : Pl} {v1 v2 : Value} {ys : By} {A1 A2 : Option Addr} {c1 c2 k1 k2 : Nat} {vl : Value} {hs : List By} {gl o : Nat} {x : ActT} {W W' : World} (h : S31 b1 b2 q v1 v2 ys A1 A2 c1 c2 k1 k2 vl hs gl o x W) (hb : Below W.heap.size W W') : S31 b1 b2 q v1 v2 ys A1 A2 c1 c2 k1 k2 vl hs gl o x W' :=
  ⟨h.box1.on hb, h.box2.on hb, h.y1.kept hb (Nat.le_refl _), h.y2.kept hb (Nat.le_refl _), h.l.kept hb (Nat.le_refl _), h.act.kept hb (Nat.le_refl _)⟩
end
end Go.Proofs.YtlcdkponegmcdaaDoor
