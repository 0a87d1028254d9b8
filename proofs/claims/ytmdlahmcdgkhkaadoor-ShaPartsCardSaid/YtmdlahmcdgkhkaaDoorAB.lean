/- The law ShaParts: what its call does. Conditions: the listed table; parts of at most 2 to the 47 bytes each. -/
import Derived.Test.YtmdlahmcdgkhkaaDoorAA
namespace Go.Proofs.YtmdlahmcdgkhkaaDoor
open Go.RowKit
def prt (ps : List (List UInt8)) (i : Nat) : List UInt8 := ps.getD i []
def flat (ps : List (List UInt8)) (i : Nat) : List UInt8 := (ps.take i).flatten
theorem flat_zero (ps : List (List UInt8)) : flat ps 0 = [] := by simp [flat]
theorem flat_next (ps : List (List UInt8)) (i : Nat) (h : i < ps.length) : flat ps (i + 1) = flat ps i ++ prt ps i := by
  rw [flat, List.take_succ_eq_append_getElem h, List.flatten_append, prt, List.getD, List.getElem?_eq_getElem h]
  simp [flat]
theorem flat_grow (ps : List (List UInt8)) (i : Nat) : (flat ps i).length ≤ (flat ps (i + 1)).length := by
  rcases Nat.lt_or_ge i ps.length with h | h
  · rw [flat_next ps i h]; simp
  · simp [flat, List.take_of_length_le h, List.take_of_length_le (Nat.le_succ_of_le h)]
theorem flat_le (ps : List (List UInt8)) (i d : Nat) : (flat ps i).length ≤ (flat ps (i + d)).length := by
  induction d with
  | zero => exact Nat.le_refl _
  | succ d ih => exact Nat.le_trans ih (flat_grow ps (i + d))
/-- The parts as they come in. -/
structure Came (w : World) (pb po len : Nat) (A0 : Option Addr) (ps : List (List UInt8)) : Prop where
  num : ps.length = len
  src : 0 < len → A0 = some ⟨pb, po, none⟩
  row : ∀ i, i < len → ∃ v A c bb off, w.cell? ⟨pb, po + i, none⟩ = some v ∧ Bytes w v (prt ps i) A c bb off
  max : ∀ i, i < len → (prt ps i).length ≤ 140737488351232
theorem Came.flat_max {w : World} {pb po len : Nat} {A0 : Option Addr} {ps : List (List UInt8)} (h : Came w pb po len A0 ps) (k : Nat) (hk : k ≤ len) : (flat ps k).length ≤ k * 140737488351232 := by
  induction k with
  | zero => rw [flat_zero]; simp
  | succ k ih =>
    rw [flat_next ps k (by rw [h.num]; omega), List.length_append]
    have := h.max k (by omega)
    have := ih (by omega)
    omega
theorem run_hash_neq (xs : List UInt8) (hx : xs.length = 32) (w : World) : (binOp .neq 25 (.agg (bvec xs)) (.agg (bvec xs))).run Tryd.prog w = .ok (.bool false) w := by
  have h := run_hash_eql xs xs hx hx w
  rw [sameL_refl, run_eql_struct] at h
  rw [run_neq_struct]
  cases hr : (Op.equalIn 10000 25 (.agg (bvec xs)) (.agg (bvec xs))).run Tryd.prog w with
  | ok b w1 =>
    rw [hr] at h
    simp only [Result.andThen_ok, Result.ok.injEq, Value.bool.injEq] at h ⊢
    exact ⟨by rw [h.1]; rfl, h.2⟩
  | _ => rw [hr] at h; cases h
theorem own_app {w wr : World} {src : Value} {ys : List UInt8} {A : Option Addr} {c bb off L : Nat} (BW : Hid (Bytes w src ys A c bb off)) (hb : Below w.heap.size w wr) (HL : Hid (ys.length = L)) (hn : Hid (L ≤ 20000)) :
    ∃ g c9 w9, (Builtin.append_ #[22, 22] 22 #[.slice (some ⟨wr.heap.size, 0, none⟩) 0 0, src]).run Tryd.prog (wr.alloc (.cells #[] 5)) = .ok (.slice (some ⟨g, 0, none⟩) L c9) w9 ∧
      Hid (w9.ownsRow wr.heap.size 5 1 (.slice (some ⟨g, 0, none⟩) L c9) L (ys.map V8)) ∧ Below wr.heap.size wr w9 ∧ Hid (wr.heap.size ≤ g) := by
  obtain ⟨g, c9, w9, h1, h2, h3, h4, _⟩ := own_append wr (BW.out.kept hb (Nat.le_refl _)) (by have := HL.out; have := hn.out; omega)
  rw [HL.out] at h1 h2
  exact ⟨g, c9, w9, h1, h2, h3, h4⟩
@[irreducible] def SumIs (xs D : List UInt8) : Prop := shaL xs = D
theorem SumIs.mk (xs : List UInt8) : SumIs xs (shaL xs) := by unfold SumIs; rfl
theorem SumIs.eq {xs D : List UInt8} (h : SumIs xs D) : shaL xs = D := by unfold SumIs at h; exact h
section
variable {w wr w' : World} {B g1 g2 : Nat} {ys1 ys2 xs : List UInt8} {v : Value}
theorem own_mono {B2 g n c : Nat} {zs : List Value} (h : Hid (w.ownsRow B2 5 1 (.slice (some ⟨g, 0, none⟩) n c) n zs)) (hB : B ≤ B2) : Hid (w.ownsRow B 5 1 (.slice (some ⟨g, 0, none⟩) n c) n zs) := by
  refine ⟨h.out.1, ?_⟩
  rcases h.out.2 with h1 | ⟨g', cap, cur, h1, h2, rest⟩
  · exact .inl h1
  · exact .inr ⟨g', cap, cur, h1, Nat.le_trans hB h2, rest⟩
theorem own_kept {g n c h1 : Nat} {zs : List Value} (h : Hid (w.ownsRow B 5 1 (.slice (some ⟨g, 0, none⟩) n c) n zs)) (hg : Grw h1 w w') (hh : h1 < B) : Hid (w'.ownsRow B 5 1 (.slice (some ⟨g, 0, none⟩) n c) n zs) :=
  h.out.kept hg (.inr fun e => by
    have := h.out.lt g rfl
    simp [Value.ownBlock] at e
    omega)
theorem all_app {src : Value} {ys : List UInt8} {A : Option Addr} {c bb off N : Nat} (BW : Hid (Bytes w src ys A c bb off)) (h : Hid (PI w wr B g1 g2 ys1 ys2 xs v)) (hN : Hid ((xs ++ ys).length = N)) (hn : Hid (N ≤ 20000)) :
    ∃ A' c' w', (Builtin.append_ #[22, 22] 22 #[v, src]).run Tryd.prog wr = .ok (.slice A' N c') w' ∧ Hid (PI w w' B g1 g2 ys1 ys2 (xs ++ ys) (.slice A' N c')) := by
  have h1 := hN.out
  have h2 := hn.out
  rw [List.length_append] at h1
  obtain ⟨v', w', hr, ho, hg, _, _⟩ := append_bytes wr B v xs.length _ h.out.own (BW.out.kept h.out.below (Nat.le_refl _)) (by omega) h.out.size
  have P := PI.more h ho hg
  obtain ⟨A', c', e⟩ := PI.vform P
  rw [hN.out] at e
  subst e
  exact ⟨A', c', w', hr, P⟩
theorem PI.ssum1D {D : List UInt8} (h : Hid (PI w wr B g1 g2 ys1 ys2 xs v)) (hT : Hid (Tab w)) (hn : Hid (ys1.length ≤ 20000)) (hD : Hid (SumIs ys1 D)) : Calls Tryd.prog 19 #[.pointer (some ⟨g1, 0, none⟩)] wr fun e w' => e = .returned (.agg (bvec D)) ∧ Below wr.heap.size wr w' := by
  rw [← hD.out.eq]; exact PI.ssum1 h hT (Nat.le_trans hn.out (by omega))
theorem PI.ssum2D {D : List UInt8} (h : Hid (PI w wr B g1 g2 ys1 ys2 xs v)) (hT : Hid (Tab w)) (hn : Hid (ys2.length ≤ 20000)) (hD : Hid (SumIs ys2 D)) : Calls Tryd.prog 19 #[.pointer (some ⟨g2, 0, none⟩)] wr fun e w' => e = .returned (.agg (bvec D)) ∧ Below wr.heap.size wr w' := by
  rw [← hD.out.eq]; exact PI.ssum2 h hT (Nat.le_trans hn.out (by omega))
theorem PI.sumD {D : List UInt8} (h : Hid (PI w wr B g1 g2 ys1 ys2 xs v)) (hT : Hid (Tab w)) (hn : Hid (xs.length ≤ 20000)) (hD : Hid (SumIs xs D)) : Calls Tryd.prog 9 #[v] wr fun e w' => e = .returned (.agg (bvec D)) ∧ Below wr.heap.size wr w' := by
  rw [← hD.out.eq]; exact PI.sum h hT (Nat.le_trans hn.out (by omega))
theorem own_cell {g n c : Nat} {zs : List Int} (h : Hid (w.ownsRow B 5 1 (.slice (some ⟨g, 0, none⟩) n c) n (zs.map (Value.int .u8)))) (q : Nat) (hq : q < n) :
    ∃ z, w.cell? ⟨g, q, none⟩ = some (.int .u8 z) ∧ w.frozen? ⟨g, q, none⟩ = false := by
  have hl : zs.length = n := by have := h.out.1; simpa using this
  refine ⟨zs[q], ?_, h.out.frozenAt q⟩
  rw [h.out.cellAt q (by omega), List.getElem?_map, List.getElem?_eq_getElem (by omega)]; rfl
theorem own_put {g n c : Nat} {zs : List Int} (h : Hid (w.ownsRow B 5 1 (.slice (some ⟨g, 0, none⟩) n c) n (zs.map (Value.int .u8)))) (q : Nat) (z : Int) :
    ∃ zs2 : List Int, Hid ((w.setCell ⟨g, q, none⟩ (.int .u8 z)).ownsRow B 5 1 (.slice (some ⟨g, 0, none⟩) n c) n (zs2.map (Value.int .u8))) :=
  ⟨zs.set q z, by rw [List.map_set]; exact (h.out.stored q _).1⟩
end
theorem PI.vne {w wr : World} {B g1 g2 g : Nat} {ys1 ys2 xs : List UInt8} {v : Value} (h : Hid (PI w wr B g1 g2 ys1 ys2 xs v)) (hg : Hid (wr.heap.size ≤ g)) : Hid (v.ownBlock ≠ some g) := by
  intro e
  have := h.out.own.lt g e
  have := hg.out
  omega
theorem own_ints {w : World} {B g n c : Nat} {ys : List UInt8} (h : Hid (w.ownsRow B 5 1 (.slice (some ⟨g, 0, none⟩) n c) n (ys.map V8))) : ∃ zs : List Int, Hid (w.ownsRow B 5 1 (.slice (some ⟨g, 0, none⟩) n c) n (zs.map (Value.int .u8))) :=
  ⟨ys.map b8, by rw [List.map_map]; exact h.out⟩
theorem parts_start (w w1 w2 : World) (g1 g2 B : Nat) (HP : Hid (0 < w.heap.size)) (HB : Hid (w2.heap.size = B)) (hlo1 : w.heap.size ≤ g1) (hs1 : Sta w1 g1 newS) (hb1 : Below w.heap.size w w1) (hlo2 : w1.heap.size ≤ g2) (hs2 : Sta w2 g2 newS)
    (hb2 : Below w1.heap.size w1 w2) : Hid (PI w w2 B g1 g2 [] [] [] (.slice none 0 0)) := by
  have h1 := hs1.inside
  have h2 := hs2.inside
  have h3 := hb2.size
  have hB := HB.out
  exact ⟨hb1.trans (hb2.mono hb1.size), by omega, hlo1, Nat.le_trans hb1.size hlo2, by omega, by omega, by omega, HP.out, hs1.kept hb2 h1, hs2, World.ownsRow_nil _ _ _ _⟩
set_option maxRecDepth 100000 in
set_option maxHeartbeats 1000000 in
theorem parts_any (A0 : Option Addr) (pb po len cap : Nat) (ps : List (List UInt8)) (w : World) (hT : Tab w) (hin : Came w pb po len A0 ps) (hl63 : len ≤ 140737488351232) :
    Calls Tryd.prog 6 #[.slice A0 len cap] w fun e w' => e = .returned (.bool true) ∧ Below w.heap.size w w' := by
  have HT := hid hT
  have HP := hid hT.pos
  have HC := hid hin
  clear hT hin
  go_enter Tryd.func6, Tryd.ntmps6
  go_wp2
  go_loopw [3, 4] (fun n i wr => ∃ (k : Nat) (t : Int), k ≤ len ∧ i = .int .i64 (k : Int) ∧ n = .int .i64 t ∧ w = wr ∧ Hid (len ≤ 200 → t = ((flat ps k).length : Int)))
    (fun _ i _ => len - (intOf i).toNat)
  case atStart => exact ⟨0, 0, by omega, rfl, rfl, rfl, fun _ => by rw [flat_zero]; rfl⟩
  case round =>
    obtain ⟨k, t, hk, rfl, rfl, rfl, J1⟩ := hrel
    by_cases hlt : k < len
    · obtain rfl : A0 = some ⟨pb, po, none⟩ := HC.out.src (by omega)
      obtain ⟨v, A, c, bb, off, hc, hb⟩ := HC.out.row k hlt
      have HF := hb.form
      subst HF
      obtain ⟨L, HL⟩ : ∃ L, Hid ((prt ps k).length = L) := ⟨_, rfl⟩
      rw [HL.out] at hc
      clear hb
      go_wp2
      go_roundw
      case rel =>
        refine ⟨k + 1, _, by omega, by simp, rfl, trivial, fun h200 => ?_⟩
        have h1 := J1.out h200
        have h4 := HC.out.flat_max k hk
        have h5 := HC.out.max k hlt
        have h6 : k * 140737488351232 ≤ 200 * 140737488351232 := Nat.mul_le_mul_right _ (by omega)
        rw [flat_next ps k (by rw [HC.out.num]; exact hlt), List.length_append, HL.out, h1]
        rw [HL.out] at h5
        unfold wrap64
        omega
      case measure => simp [intOf]; omega
    · obtain rfl : k = len := by omega
      by_cases h2 : 200 < k
      · have h2' : (200 : Int) < (k : Int) := by omega
        go_wp2_with (go_at_call 8; refine (awake_any _ HT.out).mono ?_; rintro e1 w1 ⟨rfl, hb1⟩)
        go_ret
        exact ⟨rfl, hb1⟩
      · have h2' : ¬ (200 : Int) < (k : Int) := by omega
        obtain rfl := J1.out (by omega)
        obtain ⟨N, HN⟩ : ∃ N, Hid ((flat ps k).length = N) := ⟨_, rfl⟩
        rw [HN.out]
        by_cases h3 : 20000 < N
        · have h3' : (20000 : Int) < (N : Int) := by omega
          go_wp2_with (go_at_call 8; refine (awake_any _ HT.out).mono ?_; rintro e1 w1 ⟨rfl, hb1⟩)
          go_ret
          exact ⟨rfl, hb1⟩
        · have h3' : ¬ (20000 : Int) < (N : Int) := by omega
          go_wp2_with (first
            | (go_at_call 16; ((with_reducible refine (new_any w).mono ?_); rintro e1 w1 ⟨g1, hlo1, rfl, hs1, hb1⟩))
            | (go_at_call 16; ((with_reducible refine (new_any w1).mono ?_); rintro e2 w2 ⟨g2, hlo2, rfl, hs2, hb2⟩)))
          obtain ⟨B, HB⟩ : ∃ B, Hid (w2.heap.size = B) := ⟨_, rfl⟩
          have P0 := parts_start w w1 w2 g1 g2 B HP HB hlo1 hs1 hb1 hlo2 hs2 hb2
          clear hlo1 hs1 hb1 hlo2 hs2 hb2
          go_loopw [7, 8] (fun v i wr => ∃ k2 : Nat, k2 ≤ k ∧ i = .int .i64 (k2 : Int) ∧ Hid (PI w wr B g1 g2 (flat ps k2) (flat ps k2) (flat ps k2) v))
            (fun _ i _ => k - (intOf i).toNat)
          case atStart => exact ⟨0, by omega, rfl, by rw [flat_zero]; exact P0⟩
          case round =>
            obtain ⟨k2, hk2, rfl, J⟩ := hrel
            by_cases hlt2 : k2 < k
            · obtain rfl : A0 = some ⟨pb, po, none⟩ := HC.out.src (by omega)
              obtain ⟨v, A, c, bb, off, hc, hb⟩ := HC.out.row k2 hlt2
              obtain ⟨ys, HY⟩ : ∃ ys, Hid (prt ps k2 = ys) := ⟨_, rfl⟩
              have BW := hid hb
              have hM := HC.out.max k2 hlt2
              rw [HY.out] at BW hM
              obtain ⟨L, HL⟩ : ∃ L, Hid (ys.length = L) := ⟨_, rfl⟩
              obtain rfl : v = .slice A L c := by have := BW.out.form; rwa [HL.out] at this
              have FN : Hid (flat ps (k2 + 1) = flat ps k2 ++ ys) := by show _ = _; rw [← HY.out]; exact flat_next ps k2 (by rw [HC.out.num]; exact hlt2)
              obtain ⟨M, HM⟩ : ∃ M, Hid ((flat ps k2 ++ ys).length = M) := ⟨_, rfl⟩
              have HMN : Hid (M ≤ 20000) := by
                have h1 := flat_le ps (k2 + 1) (k - (k2 + 1))
                rw [show k2 + 1 + (k - (k2 + 1)) = k by omega, HN.out, FN.out, HM.out] at h1
                show _ ≤ _; omega
              have HMD : Hid ((flat ps k2 ++ ys).length ≤ 20000) := by rw [HM.out]; exact HMN.out
              have HLN : Hid (L ≤ 20000) := by
                have h1 := HM.out
                have h2 := HMN.out
                have h3 := HL.out
                rw [List.length_append] at h1
                show _ ≤ _; omega
              have HFL : Hid ((flat ps k2).length + L ≤ 100000) := by
                have h1 := HM.out
                have h2 := HMN.out
                have h3 := HL.out
                rw [List.length_append] at h1
                show _ ≤ _; omega
              have hcr : wr.cell? ⟨pb, po + k2, none⟩ = some (.slice A L c) := (J.out.below.cell (p := ⟨pb, po + k2, none⟩) (block_lt_of_cell hc)).trans hc
              have HCC := hid hc
              have hca : (wr.alloc (.cells #[] 5)).cell? ⟨pb, po + k2, none⟩ = some (.slice A L c) := (World.cell?_alloc_lt wr _ ⟨pb, po + k2, none⟩ (block_lt_of_cell hcr)).trans hcr
              obtain ⟨D, HD⟩ : ∃ D, Hid (SumIs (flat ps k2 ++ ys) D) := ⟨_, SumIs.mk _⟩
              have HDL : Hid (D.length = 32) := by show D.length = 32; rw [← HD.out.eq]; exact shaL_len _
              have hneq := run_hash_neq D HDL.out
              clear hb hM hc
              go_wp2_with (first
                | (refine wpList_append_run rfl (.tmp 46) (.tmp 50) 22 rfl ?_
                   obtain ⟨g, c9, w9, hr9, O9a, B9, HG⟩ := own_app BW J.out.below HL HLN
                   refine ⟨_, w9, hr9, ?_⟩
                   have P9 := PI.step J B9
                   have O9 := own_mono O9a J.out.size
                   have HVG := PI.vne J HG
                   clear hr9 O9a B9)
                | (go_at_call 17; ((with_reducible refine (PI.w1 P9 HT O9 HFL HL).mono ?_); rintro e10 w10 ⟨rfl, P10, G10⟩)
                   have O10 := own_kept O9 G10 P9.out.hi1
                   clear G10)
                | (go_at_call 17; ((with_reducible refine (PI.w2 P10 HT O10 HFL HL).mono ?_); rintro e11 w11 ⟨rfl, P11, G11⟩)
                   have O11 := own_kept O10 G11 P9.out.hi2
                   clear G11))
              obtain ⟨zs0, OZ⟩ := own_ints O11
              clear O9 O10 O11 P9 P10 hca
              go_loopw [10] (fun j wz => ∃ (q : Nat) (zs : List Int), q ≤ L ∧ j = .int .i64 (q : Int) ∧ Hid (PI w wz B g1 g2 (flat ps k2 ++ ys) (flat ps k2 ++ ys) (flat ps k2) u7) ∧ Hid (wz.ownsRow B 5 1 (.slice (some ⟨g, 0, none⟩) L c9) L (zs.map (Value.int .u8))))
                (fun j _ => L - (intOf j).toNat)
              case atStart => exact ⟨0, zs0, by omega, rfl, P11, OZ⟩
              case round =>
                obtain ⟨q, zs, hq, rfl, K1, K2⟩ := hrel
                by_cases hlq : q < L
                · obtain ⟨z, hz, hfz⟩ := own_cell K2 q hlq
                  have hqb : (q : Int) < 20000 := by have := HLN.out; omega
                  go_wp2
                  go_roundw
                  case rel =>
                    obtain ⟨zs2, K3⟩ := own_put K2 q (bits .xor .u8 z 255)
                    exact ⟨q + 1, zs2, by omega, by go_num, PI.far K1 (Grw.of_set g q _ _) (Nat.le_trans J.out.size HG.out) HVG, K3⟩
                  case measure => simp [intOf]; omega
                · obtain rfl : q = L := by omega
                  have hcz : wr.cell? ⟨pb, po + k2, none⟩ = some (.slice A q c) := (K1.out.below.cell (p := ⟨pb, po + k2, none⟩) (block_lt_of_cell HCC.out)).trans HCC.out
                  by_cases h40 : k ≤ 40
                  · have h40' : (k : Int) ≤ 40 := by omega
                    go_wp2_with (first
                      | (refine wpList_append_run rfl (.tmp 76) (.tmp 80) 22 rfl ?_
                         obtain ⟨A', c', w12, hr12, P12⟩ := all_app BW K1 HM HMN
                         refine ⟨_, w12, hr12, ?_⟩
                         clear hr12)
                      | (go_at_call 19; ((with_reducible refine (PI.ssum1D P12 HT HMD HD).mono ?_); rintro e13 w13 ⟨rfl, hb13⟩)
                         have P13 := PI.step P12 hb13
                         clear hb13)
                      | (go_at_call 9; ((with_reducible refine (PI.sumD P13 HT HMD HD).mono ?_); rintro e14 w14 ⟨rfl, hb14⟩)
                         have P14 := PI.step P13 hb14
                         clear hb14)
                      | (go_at_call 18; ((with_reducible refine (PI.len1 P14 M HM.out).mono ?_); rintro e15 w15 ⟨rfl, rfl⟩)))
                    go_roundw
                    case rel => exact ⟨k2 + 1, by omega, by simp, by rw [FN.out]; exact P14⟩
                    case measure => simp [intOf]; omega
                  · have h40' : ¬ (k : Int) ≤ 40 := by omega
                    go_wp2_with (first
                      | (refine wpList_append_run rfl (.tmp 76) (.tmp 80) 22 rfl ?_
                         obtain ⟨A', c', w12, hr12, P12⟩ := all_app BW K1 HM HMN
                         refine ⟨_, w12, hr12, ?_⟩
                         clear hr12))
                    go_roundw
                    case rel => exact ⟨k2 + 1, by omega, by simp, by rw [FN.out]; exact P12⟩
                    case measure => simp [intOf]; omega
            · obtain rfl : k2 = k := by omega
              obtain ⟨D, HD⟩ : ∃ D, Hid (SumIs (flat ps k2) D) := ⟨_, SumIs.mk _⟩
              have HDL : Hid (D.length = 32) := by show D.length = 32; rw [← HD.out.eq]; exact shaL_len _
              have hequ : ∀ w, (binOp .eql 25 (.agg (bvec D)) (.agg (bvec D))).run Tryd.prog w = .ok (.bool true) w := fun w => by
                rw [run_hash_eql D D HDL.out HDL.out w, sameL_refl]
              have HND : Hid ((flat ps k2).length ≤ 20000) := by rw [HN.out]; show _ ≤ _; omega
              go_wp2_with (first
                | (go_at_call 19; ((with_reducible refine (PI.ssum1D J HT HND HD).mono ?_); rintro e13 w13 ⟨rfl, hb13⟩)
                   have P13 := PI.step J hb13
                   clear hb13)
                | (go_at_call 9; ((with_reducible refine (PI.sumD P13 HT HND HD).mono ?_); rintro e14 w14 ⟨rfl, hb14⟩)
                   have P14 := PI.step P13 hb14
                   clear hb14)
                | (go_at_call 19; ((with_reducible refine (PI.ssum2D P14 HT HND HD).mono ?_); rintro e15 w15 ⟨rfl, hb15⟩)
                   have P15 := PI.step P14 hb15
                   clear hb15)
                | (go_at_call 19; ((with_reducible refine (PI.ssum1D P15 HT HND HD).mono ?_); rintro e16 w16 ⟨rfl, hb16⟩)
                   have P16 := PI.step P15 hb16
                   clear hb16)
                | (go_at_call 18; ((with_reducible refine (PI.len2 P16 N HN.out).mono ?_); rintro e17 w17 ⟨rfl, rfl⟩)
                   have T16 : Hid (Tab w16) := PI.tab P16 HT)
                | (go_at_call 8; refine (awake_any _ T16.out).mono ?_; rintro e18 w18 ⟨rfl, hb18⟩
                   have P18 := PI.step P16 hb18
                   clear hb18))
              go_ret
              exact ⟨rfl, P18.out.below⟩
end Go.Proofs.YtmdlahmcdgkhkaaDoor
