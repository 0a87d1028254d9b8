/- Rows of slices over bytes; the document's Blocks, Part: what each call does. Conditions: bytes in a block of the world. -/
import Derived.Test.YtlcdkponegmcdaaDoorEE
import Derived.Test.YtlcdkponegmcdaaDoorEC
import Derived.Test.YtlcdkponegmcdaaDoorZX2
namespace Go.Proofs.YtlcdkponegmcdaaDoor
open Go.RowKit
theorem rsum_any (v : Value) (xs : By) (A : Option Addr) (cap bb off : Nat) (w : World) (h : Bytes w v xs A cap bb off) (hl : xs.length ≤ 100000) :
    Calls Tryd.prog 21 #[v] w fun e w' => e = .returned (.agg (hvec (dg xs))) ∧ Below w.heap.size w w' := by
  have e0 := h.form
  rw [e0]
  refine (Sha.refSum_any xs A xs.length cap bb off w rfl hl ⟨rfl, h.le, h.zero, h.at_, h.blk, h.src⟩).mono ?_
  rintro e w' ⟨rfl, hb⟩
  refine ⟨?_, hb⟩
  unfold dg
  rfl
theorem infoB : (Tryd.prog.info? 25).map (fun i => (i.zero, i.size, i.bytes)) = some (some (.slice none 0 0), 1, 24) := by kernel_rfl
/-- Slices over bytes of the call's own, in a row of the call's own. -/
def Bls (B : Nat) (w : World) (v : Value) (xss : List By) : Prop :=
  ∃ vs : List Value, w.ownsRow B 25 1 v xss.length vs ∧ ∀ i, i < xss.length → ∃ u, vs[i]? = some u ∧ Fresh B w u (xss.getD i [])
theorem Bls.nil (B : Nat) (w : World) : Bls B w (.slice none 0 0) [] := ⟨[], World.ownsRow_nil _ _ _ _, fun i h => by cases h⟩
theorem Bls.mono {B B' : Nat} {w : World} {v : Value} {xss : List By} (h : Bls B w v xss) (hb : B' ≤ B) : Bls B' w v xss := by
  obtain ⟨vs, ho, hf⟩ := h
  refine ⟨vs, ⟨ho.1, ?_⟩, fun i hi => ?_⟩
  · rcases ho.2 with h1 | ⟨g, c, cur, h1, h2, h3⟩
    · exact .inl h1
    · exact .inr ⟨g, c, cur, h1, by omega, h3⟩
  · obtain ⟨u, h1, h2⟩ := hf i hi
    exact ⟨u, h1, h2.mono hb⟩
theorem Bls.kept {B : Nat} {w w' : World} {v : Value} {xss : List By} (h : Bls B w v xss) (hb : Below w.heap.size w w') : Bls B w' v xss := by
  obtain ⟨vs, ho, hf⟩ := h
  refine ⟨vs, row_of ho (fun g hg => hb.block g (World.ownsRow.lt ho g hg).2), fun i hi => ?_⟩
  obtain ⟨u, h1, h2⟩ := hf i hi
  exact ⟨u, h1, fresh_kept h2 hb⟩
theorem Bls.grown {B B2 : Nat} {w w' : World} {v v2 : Value} {xss : List By} {e2 : TypeId} {s2 n2 : Nat} {x2 : List Value} (h : Bls B w v xss) (h2 : w.ownsRow B2 e2 s2 v2 n2 x2) (h3 : 25 ≠ e2) (h4 : 5 ≠ e2) (hg : w.grownBy w' v2.ownBlock) : Bls B w' v xss := by
  obtain ⟨vs, ho, hf⟩ := h
  refine ⟨vs, World.ownsRow.kept ho hg (rows_apart ho h2 h3), fun i hi => ?_⟩
  obtain ⟨u, k1, k2⟩ := hf i hi
  exact ⟨u, k1, World.ownsRow.kept k2 hg (rows_apart k2 h2 h4)⟩
theorem Bls.form {B : Nat} {w : World} {v : Value} {xss : List By} (h : Bls B w v xss) : ∃ A c, v = .slice A xss.length c := by
  obtain ⟨vs, ho, _⟩ := h
  rcases ho.2 with ⟨h1, h2⟩ | ⟨g, c, cur, h1, _⟩
  · exact ⟨none, 0, by rw [h1, h2]⟩
  · exact ⟨some ⟨g, 0, none⟩, c, h1⟩
theorem Bls.at_ {B : Nat} {w : World} {v : Value} {xss : List By} (h : Bls B w v xss) (k : Nat) (hk : k < xss.length) :
    ∃ g c u, v = .slice (some ⟨g, 0, none⟩) xss.length c ∧ w.cell? ⟨g, k, none⟩ = some u ∧ Fresh B w u (xss.getD k []) := by
  obtain ⟨vs, ho, hf⟩ := h
  obtain ⟨u, h1, h2⟩ := hf k hk
  rcases ho.2 with ⟨_, h3⟩ | ⟨g, c, cur, h3, hB, h4, h5⟩
  · omega
  · refine ⟨g, c, u, h3, ?_, h2⟩
    subst h3
    have := World.ownsRow.cells (g := g) ho rfl k u h1
    rwa [add_at, Nat.zero_add] at this
theorem fresh_one {B : Nat} {w : World} {u : Value} {ys : By} (h : Fresh B w u ys) : u.oneCell' = true := by
  rcases h.2 with ⟨rfl, _⟩ | ⟨g, c, cur, rfl, _⟩ <;> rfl
theorem append_bl (w : World) (B : Nat) (v : Value) (xss : List By) (h : Bls B w v xss) (u : Value) (ys : By) (hu : Fresh B w u ys) (a : Addr) (ha : w.cell? (a.add 0) = some u) (hn : xss.length ≤ 100000) (hB : B ≤ w.heap.size) (ty : TypeId) :
    ∃ v' w', (Builtin.append_ #[71, 71] ty #[v, .slice (some a) 1 1]).run Tryd.prog w = .ok v' w' ∧ Bls B w' v' (xss ++ [ys]) ∧ w.grownBy w' v.ownBlock := by
  obtain ⟨vs, ho, hf⟩ := h
  obtain ⟨i0, hi, hz0, hz1, hz2⟩ := info_parts infoB
  obtain ⟨v', w', hr, ho', hg, _, _⟩ := run_append_own_at (P := Tryd.prog) w B 71 ty 25 i0 (.slice none 0 0) 1 24 Tryd.underlying71 hi hz0 hz1 hz2 rfl (by omega) v xss.length vs ho a 1 1 [u] rfl (fun j u' hj => by
      match j, hj with
      | 0, hj => obtain rfl := Option.some.inj hj; exact ha
      | j + 1, hj => simp at hj) (fun x hx => by simp only [List.mem_singleton] at hx; subst hx; exact fresh_one hu) (by unfold maxLen; omega) (by omega) hB
  have hl : vs.length = xss.length := by have := ho.1; omega
  have hk : ∀ {u ys}, Fresh B w u ys → Fresh B w' u ys := fun hu => World.ownsRow.kept hu hg (rows_apart hu ho (by decide))
  refine ⟨v', w', hr, ⟨vs ++ [u], by rw [List.length_append]; exact ho', fun i hi => ?_⟩, hg⟩
  rw [List.length_append, List.length_singleton] at hi
  by_cases hlt : i < xss.length
  · obtain ⟨u', h1, h2⟩ := hf i hlt
    refine ⟨u', by rw [List.getElem?_append_left (by omega)]; exact h1, ?_⟩
    have : (xss ++ [ys]).getD i [] = xss.getD i [] := by simp only [List.getD, List.getElem?_append_left hlt]
    rw [this]; exact hk h2
  · obtain rfl : i = xss.length := by omega
    refine ⟨u, by rw [List.getElem?_append_right (by omega), hl]; simp, ?_⟩
    have : (xss ++ [ys]).getD xss.length [] = ys := by simp [List.getD]
    rw [this]; exact hk hu
/-- A file's blocks. -/
def blocksTo (xs : By) (k : Nat) : List By := (List.range k).map (partL xs)
def blocksL (xs : By) : List By := if xs.length ≤ 4096 then blocksTo xs (cntL xs.length) else []
theorem blocksTo_len (xs : By) (k : Nat) : (blocksTo xs k).length = k := by simp [blocksTo]
theorem blocksTo_next (xs : By) (k : Nat) : blocksTo xs (k + 1) = blocksTo xs k ++ [partL xs k] := by simp [blocksTo, List.range_succ]
theorem blocksTo_at (xs : By) (k i : Nat) (h : i < k) : (blocksTo xs k).getD i [] = partL xs i := by simp [blocksTo, List.getD, h]
theorem blocksL_long (xs : By) (h : 4096 < xs.length) : blocksL xs = [] := by rw [blocksL, if_neg (by omega)]
theorem blocksL_ok (xs : By) (h : xs.length ≤ 4096) : blocksL xs = blocksTo xs (cntL xs.length) := by rw [blocksL, if_pos h]
set_option maxRecDepth 100000 in
set_option maxHeartbeats 4000000 in
theorem rblocks_any (v : Value) (xs : By) (A : Option Addr) (cap bb off : Nat) (w : World) (h : Bytes w v xs A cap bb off) (hp : 0 < w.heap.size) (hmax : xs.length ≤ 100000) :
    Calls Tryd.prog 35 #[v] w fun e w' => ∃ v', e = .returned v' ∧ Bls w.heap.size w' v' (blocksL xs) ∧ Below w.heap.size w w' := by
  have e0 := h.form
  obtain ⟨n, HN⟩ : ∃ n, Hid (xs.length = n) := ⟨_, rfl⟩
  by_cases hl : 4096 < xs.length
  · have HV : Hid (blocksL xs = []) := blocksL_long xs hl
    rw [HN.out] at e0 hl
    have C1 := hid (rsize_any (n : Int) w)
    rw [sizeI_no (n : Int) (.inr (by omega))] at C1
    rw [e0]
    clear h e0 hl hmax
    go_enter Tryd.func35, Tryd.ntmps35
    go_wp2_with (go_at_call 11; refine C1.out.mono ?_; rintro e1 w1 ⟨rfl, hb1⟩)
    go_loopw [4, 5, 6] (fun v4 v5 _ wr => v4 = .slice none 0 0 ∧ v5 = .int .i64 0 ∧ wr = w1) (fun _ _ _ _ => 0)
    case atStart => exact ⟨rfl, rfl, rfl⟩
    case round =>
      obtain ⟨rfl, rfl, rfl⟩ := hrel
      go_wp2
      go_ret
      exact ⟨_, rfl, by rw [HV.out]; exact Bls.nil _ _, hb1⟩
  · have hl : xs.length ≤ 4096 := by omega
    have HV : Hid (blocksL xs = blocksTo xs (cntL xs.length)) := blocksL_ok xs hl
    have C1 := hid (rsize_any (n : Int) w)
    rw [sizeI_nat n (by rw [← HN.out]; exact hl)] at C1
    have HK := hid (fun k => cnt_iff xs.length k)
    obtain ⟨s, HS⟩ : ∃ s, Hid (szL xs.length = s) := ⟨_, rfl⟩
    obtain ⟨c, HC⟩ : ∃ c, Hid (cntL xs.length = c) := ⟨_, rfl⟩
    have hc32 : c ≤ 32 := by rw [← HC.out]; exact cntL_le _ hl
    have hs := szL_cases xs.length
    rw [HS.out] at hs
    rw [show szL n = s by rw [← HN.out, HS.out]] at C1
    have HKK : Hid (∀ k : Nat, k * s < n ↔ k < c) := fun k => by
      have := HK.out k
      rw [HS.out, HC.out, HN.out] at this
      exact this
    clear HK
    have HBY := hid h
    have hle := h.le
    rw [HN.out] at hle e0
    have hn : n ≤ 4096 := by rw [← HN.out]; exact hl
    have hncap : (n : Int) ≤ (cap : Int) := by omega
    rw [HC.out] at HV
    have hs0 : (0 : Int) < (s : Int) := by omega
    have hs8 : s ≤ 128 := by omega
    have HPOS := hid hp
    rw [e0] at HBY ⊢
    clear h e0 hl hmax hle hs hp
    go_enter Tryd.func35, Tryd.ntmps35
    go_wp2_with (go_at_call 11; refine C1.out.mono ?_; rintro e1 w1 ⟨rfl, hb1⟩)
    have HB1 := hid hb1
    clear hb1
    go_loopw [4, 5, 6] (fun v4 v5 _ wr => ∃ k m : Nat, k ≤ c ∧ k * s = m ∧ v5 = .int .i64 (m : Int) ∧ Hid (Bls w.heap.size wr v4 (blocksTo xs k)) ∧ Hid (Below w.heap.size w wr)) (fun _ v5 _ _ => 5000 - (intOf v5).toNat)
    case atStart => exact ⟨0, 0, by omega, by omega, rfl, Bls.nil _ _, HB1.out⟩
    case round =>
      obtain ⟨k, m, hk, hkm, rfl, J1, J2⟩ := hrel
      have hK := HKK.out k
      rw [hkm] at hK
      by_cases hlt : m < n
      · have hlt2 : (m : Int) < (n : Int) := by omega
        have HKC : Hid (k < c) := hK.1 hlt
        obtain ⟨q, hq⟩ : ∃ q : Nat, m + s = q := ⟨_, rfl⟩
        have hkq : (k + 1) * s = q := by rw [Nat.add_mul, hkm]; omega
        have w1 : IntKind.i64.wrap ((m : Int) + (s : Int)) = (q : Int) := by rw [← hq]; exact i64in _ (by omega) (by omega)
        obtain ⟨p, HP⟩ : ∃ p, Hid (min s (n - m) = p) := ⟨_, rfl⟩
        have hp := HP.out
        have hBk := HBY.out.kept J2.out (Nat.le_refl _)
        have hsrc := hBk.src (by rw [HN.out]; omega)
        subst hsrc
        have hcm : ¬ cap = m := by omega
        have hmn : (m : Int) ≤ (n : Int) := by omega
        have HMID := (hBk.mid m p (by rw [HN.out]; omega) (by omega)).2
        have HVS : Hid ((xs.drop m).take p = partL xs k) := by
          show _ = _
          rw [partL, HS.out, hkm, ← HP.out]
          have hl : (xs.drop m).length = n - m := by rw [List.length_drop, HN.out]
          rw [Nat.min_comm, ← hl, ← List.take_take]
          exact List.take_of_length_le (by rw [List.length_take]; omega)
        rw [HVS.out] at HMID
        obtain ⟨v5, w5, hr5, hf5, hg5⟩ := fresh_app (fresh_nil w.heap.size wr) HMID (by have := partL_le xs k; simp; omega) J2.out.size
        rw [List.nil_append] at hf5
        obtain ⟨A5, c5, b5, hy5, _, _⟩ := hf5.bytes (Nat.lt_of_lt_of_le HPOS.out (Nat.le_trans J2.out.size hg5.size))
        have e5 := hy5.form
        generalize (partL xs k).length = m5 at e5
        subst e5
        clear hy5
        have B5 : Below wr.heap.size wr w5 := (Below.refl _ _).grown hg5 (Nat.le_refl _) (fun _ e => by cases e)
        have B5w : Below w.heap.size w w5 := J2.out.trans (B5.mono J2.out.size)
        have L5 : Bls w.heap.size w5 u4 (blocksTo xs k) := J1.out.kept B5
        have BA : Below w5.heap.size w5 (w5.alloc (.cells #[.slice A5 m5 c5] 25)) := (Below.refl _ _).alloc (Nat.le_refl _) _
        obtain ⟨v6, w6, hr6, hl6, hg6⟩ := append_bl (w5.alloc (.cells #[.slice A5 m5 c5] 25)) w.heap.size u4 (blocksTo xs k) (L5.kept BA) (.slice A5 m5 c5) (partL xs k) (fresh_kept hf5 BA) ⟨w5.heap.size, 0, none⟩ (by rw [add_at]; exact (Has.fresh w5 25 #[.slice A5 m5 c5]).at_ 0) (by rw [blocksTo_len]; omega) (by have := B5w.size; simp; omega) 71
        rw [← blocksTo_next] at hl6
        have B6 : Hid (Below w.heap.size w w6) := (B5w.alloc B5w.size (.cells #[.slice A5 m5 c5] 25)).grown hg6 (by have := B5w.size; simp; omega) (fun g hg => by
          obtain ⟨vs, ho, _⟩ := L5
          exact (World.ownsRow.lt ho g hg).1)
        have R5 := hid hr5
        have R6 := hid hr6
        have L6 := hid hl6
        clear hf5 hg5 hr5 B5 B5w L5 BA hr6 hl6 hg6 HMID HVS hBk hK
        rcases Nat.lt_or_ge n q with hqn | hqn
        · have hp2 : p = n - m := by omega
          have h5 : (n : Int) < (q : Int) := by omega
          have h6 : ¬ (q : Int) ≤ (n : Int) := by omega
          have h8 : min (q : Int) (n : Int) = (n : Int) := by omega
          rw [hp2] at R5
          clear hp hp2 HP
          go_wp2_with (first
            | (at_builtin; refine wpList_append_run rfl (.tmp 21) (.tmp 30) 25 25 rfl ⟨_, _, R5.out, ?_⟩)
            | (at_builtin; refine wpList_append_run rfl (.tmp 32) (.tmp 34) 71 71 rfl ⟨_, _, R6.out, ?_⟩))
          go_roundw
          case rel => exact ⟨k + 1, q, HKC.out, hkq, by go_num, L6.out, B6.out⟩
          case measure => simp [intOf]; omega
        · have hp2 : p = q - m := by omega
          have h5 : (q : Int) ≤ (n : Int) := by omega
          have h6 : (m : Int) ≤ (q : Int) := by omega
          have h7 : (q : Int) ≤ (cap : Int) := by omega
          have h8 : min (q : Int) (n : Int) = (q : Int) := by omega
          rw [hp2] at R5
          clear hp hp2 HP
          go_wp2_with (first
            | (at_builtin; refine wpList_append_run rfl (.tmp 21) (.tmp 30) 25 25 rfl ⟨_, _, R5.out, ?_⟩)
            | (at_builtin; refine wpList_append_run rfl (.tmp 32) (.tmp 34) 71 71 rfl ⟨_, _, R6.out, ?_⟩))
          go_roundw
          case rel => exact ⟨k + 1, q, HKC.out, hkq, by go_num, L6.out, B6.out⟩
          case measure => simp [intOf]; omega
      · have hlt2 : ¬ (m : Int) < (n : Int) := by omega
        have HE : Hid (k = c) := by show _ = _; have : ¬ k < c := fun e => hlt (hK.2 e); omega
        clear hK
        go_wp2
        go_ret
        exact ⟨_, rfl, by rw [HV.out, ← HE.out]; exact J1.out, J2.out⟩
end Go.Proofs.YtlcdkponegmcdaaDoor
