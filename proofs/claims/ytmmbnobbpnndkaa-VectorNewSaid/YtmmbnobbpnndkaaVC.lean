/- Versions: vector.Merge: what the call does. Conditions: rows of sixteen counters each. -/
import Derived.Test.YtmmbnobbpnndkaaVB
namespace Go.Proofs.Ytmmbnobbpnndkaa
open Go.RowKit
def maxW (x y : BitVec 32) : BitVec 32 := if x.toNat < y.toNat then y else x
theorem max_u (x y : BitVec 32) : (if u x < u y then u y else u x) = u (maxW x y) := by
  unfold maxW u
  by_cases h : x.toNat < y.toNat
  · rw [if_pos h, if_pos (by omega)]
  · rw [if_neg h, if_neg (by omega)]
/-- a, the first i counters raised to b's. -/
def mergeTo (a b : List (BitVec 32)) : Nat → List (BitVec 32)
  | 0 => a
  | i + 1 => (mergeTo a b i).set i (maxW (at32 (mergeTo a b i) i) (at32 b i))
def merge2 (a b : List (BitVec 32)) : List (BitVec 32) := mergeTo a b 16
def mergeAll (ls : List (List (BitVec 32))) (k : Nat) : List (BitVec 32) := (ls.take k).foldl merge2 zero16
theorem mergeTo_len (a b : List (BitVec 32)) (i : Nat) : (mergeTo a b i).length = a.length := by
  induction i with
  | zero => rfl
  | succ i ih => rw [mergeTo, List.length_set, ih]
theorem mergeTo_at (a b : List (BitVec 32)) (ha : a.length = 16) (i j : Nat) (hi : i ≤ 16) : at32 (mergeTo a b i) j = if j < i then maxW (at32 a j) (at32 b j) else at32 a j := by
  induction i with
  | zero => simp [mergeTo]
  | succ i ih =>
    have ih := ih (by omega)
    rw [mergeTo]
    by_cases h : j = i
    · subst h
      rw [at32_set_same _ _ _ (by rw [mergeTo_len]; omega), ih, if_neg (by omega), if_pos (by omega)]
    · rw [at32_set_other _ _ _ _ (fun e => h e.symm), ih]
      by_cases h2 : j < i
      · rw [if_pos h2, if_pos (by omega)]
      · rw [if_neg h2, if_neg (by omega)]
theorem merge2_len {a b : List (BitVec 32)} (ha : a.length = 16) : (merge2 a b).length = 16 := by rw [merge2, mergeTo_len, ha]
theorem merge2_at {a b : List (BitVec 32)} (ha : a.length = 16) (j : Nat) (hj : j < 16) : at32 (merge2 a b) j = maxW (at32 a j) (at32 b j) := by
  rw [merge2, mergeTo_at a b ha 16 j (by omega), if_pos hj]
def rowAt (ls : List (List (BitVec 32))) (k : Nat) : List (BitVec 32) := ls.getD k []
theorem mergeAll_zero (ls : List (List (BitVec 32))) : mergeAll ls 0 = zero16 := by simp [mergeAll]
theorem mergeAll_next (ls : List (List (BitVec 32))) (k : Nat) (h : k < ls.length) : mergeAll ls (k + 1) = merge2 (mergeAll ls k) (rowAt ls k) := by
  rw [mergeAll, List.take_succ_eq_append_getElem h, List.foldl_append, mergeAll, rowAt, List.getD, List.getElem?_eq_getElem h]
  rfl
theorem mergeAll_len (ls : List (List (BitVec 32))) (k : Nat) : (mergeAll ls k).length = 16 := by
  induction k with
  | zero => rw [mergeAll_zero]; exact zero_len
  | succ k ih =>
    by_cases h : k < ls.length
    · rw [mergeAll_next ls k h]; exact merge2_len ih
    · have e : mergeAll ls (k + 1) = mergeAll ls k := by rw [mergeAll, mergeAll, List.take_of_length_le (by omega), List.take_of_length_le (by omega)]
      rw [e]; exact ih
/-- Rows that lie one behind the other. -/
structure VRows (w : World) (A : Option Addr) (ls : List (List (BitVec 32))) (gb off : Nat) : Prop where
  src : 0 < ls.length → A = some ⟨gb, off, none⟩
  row : ∀ k, k < ls.length → w.rangeAt gb (off + k * 16) ((rowAt ls k).map V32)
  len : ∀ k, k < ls.length → (rowAt ls k).length = 16
  low : 0 < ls.length → gb < w.heap.size
theorem VRows.kept {w w' : World} {A : Option Addr} {ls : List (List (BitVec 32))} {gb off B : Nat} (h : VRows w A ls gb off) (hb : Below B w w') (hg : w.heap.size ≤ B) : VRows w' A ls gb off :=
  ⟨h.src, fun k hk => range_keep (h.row k hk) (by have := h.low (by omega); omega) hb, h.len, fun h0 => Nat.lt_of_lt_of_le (h.low h0) hb.size⟩
theorem load_row {w : World} {g o : Nat} {l : List (BitVec 32)} (k : w.rangeAt g o (l.map V32)) (hl : l.length = 16) : (loadVar 24 ⟨g, o, none⟩).run Try.prog w = .ok (.agg (vec l)) w :=
  run_loadVar_mid (P := Try.prog) w g o 24 (l.map V32) _ k Try.underlying24 rfl (by rw [List.length_map, hl]; exact iVec)
theorem merge_start (w : World) : ∃ W1, ((w.alloc (.cells zeroA 24)).alloc (.cells zeroA 24)).setRow (w.heap.size + 1) zeroA = W1 ∧
    Hid (Has W1 (w.heap.size + 1) 24 (vec zero16)) ∧ Hid (Has W1 w.heap.size 24 zeroA) ∧ Hid (Below w.heap.size w W1) := by
  refine ⟨_, rfl, ?_, ?_, ?_⟩
  · exact Has.row (Has.fresh' (w.alloc _) 24 zeroA (by simp))
  · exact ((Has.fresh w 24 zeroA).more _).rowOther (by omega)
  · exact (((Below.refl _ _).alloc (Nat.le_refl _) _).alloc (by simp) _).rowK (by omega) _
theorem merge_row (w wr : World) (B : Nat) (cur b : List (BitVec 32)) (h1 : Hid (Has wr (B + 1) 24 (vec cur))) (h2 : Hid (Has wr B 24 zeroA)) (h3 : Hid (Below B w wr)) :
    ∃ W1, (wr.alloc (.cells zeroA 24)).setRow wr.heap.size (vec b) = W1 ∧
    Hid (Has W1 wr.heap.size 24 (vec b)) ∧ Hid (Has W1 (B + 1) 24 (vec cur)) ∧ Hid (Has W1 B 24 zeroA) ∧ Hid (Below B w W1) := by
  have i1 := Has.inside h1.out
  have i2 := Has.inside h2.out
  refine ⟨_, rfl, ?_, ?_, ?_, ?_⟩
  · exact Has.row (Has.fresh wr 24 zeroA)
  · exact (Has.more h1.out _).rowOther (by omega)
  · exact (Has.more h2.out _).rowOther (by omega)
  · exact (h3.out.alloc (by omega) _).rowK (by omega) _
set_option maxRecDepth 100000 in
set_option maxHeartbeats 400000 in
theorem merge_any (ls : List (List (BitVec 32))) (A : Option Addr) (n cap gb off : Nat) (w : World) (hn : ls.length = n) (hm : n ≤ 1000000) (hs : VRows w A ls gb off) :
    Calls Try.prog 12 #[.slice A n cap] w fun e w' => e = .returned (.agg (vec (mergeAll ls n))) ∧ Below w.heap.size w w' := by
  have HS := hid hs
  have HN := hid hn
  clear hs hn
  go_enter Try.func12, Try.ntmps12
  go_wp2_with (refine wpList_store_row rfl 24 _ _ rfl (w.heap.size + 1) zeroA rfl rfl 24 zeroA (Has.fresh' (w.alloc _) 24 zeroA (by simp)) iVec rfl zeroTryone.out ?_)
  generalize hG : World.setRow _ _ _ = W1
  obtain ⟨W0, hG0, S1, S2, S3⟩ := merge_start w
  obtain rfl : W0 = W1 := hG0.symm.trans hG
  clear hG0 hG
  go_loopw [10] (fun i wr => ∃ k : Nat, k ≤ n ∧ i = .int .i64 (k : Int) ∧ Hid (Has wr (w.heap.size + 1) 24 (vec (mergeAll ls k))) ∧ Hid (Has wr w.heap.size 24 zeroA) ∧ Hid (Below w.heap.size w wr))
    (fun i _ => n - (intOf i).toNat)
  case atStart => exact ⟨0, by omega, rfl, by rw [mergeAll_zero]; exact S1, S2, S3⟩
  case round =>
    obtain ⟨k, hk, rfl, J1, J2, J3⟩ := hrel
    by_cases hlt : k < n
    · have hA := HS.out.src (by rw [HN.out]; omega)
      subst hA
      have HR : Hid ((rowAt ls k).length = 16) := HS.out.len k (by rw [HN.out]; exact hlt)
      have HL := hid (load_row ((HS.out.kept J3.out (Nat.le_refl _)).row k (by rw [HN.out]; exact hlt)) HR.out)
      have Y1 := size_vec _ HR.out
      have Y2 := size_zero _ HR.out
      go_wp2_with (first
        | (refine wpList_load_g (by rfl) 24 (.tmp 12) rfl gb (off + k * 16) rfl (vec (rowAt ls k)) HL.out ?_)
        | (refine wpList_store_row rfl 24 (.tmp 5) (.tmp 13) rfl wr.heap.size (vec (rowAt ls k)) rfl rfl 24 zeroA (Has.fresh wr 24 zeroA) Y1.out Y2.out (vec_one _) ?_))
      generalize hG : World.setRow _ _ _ = W1
      obtain ⟨V0, hG0, T1, T2, T3, T4⟩ := merge_row w wr _ _ _ J1 J2 J3
      obtain rfl : V0 = W1 := hG0.symm.trans hG
      clear hG0 hG HL Y1 Y2
      obtain ⟨N, HNN⟩ : ∃ N, Hid (N = wr.heap.size) := ⟨_, rfl⟩
      rw [← HNN.out] at T1 ⊢
      obtain ⟨cur, HC⟩ : ∃ cur, Hid (mergeAll ls k = cur) := ⟨_, rfl⟩
      rw [HC.out] at T2
      obtain ⟨b, HB⟩ : ∃ b, Hid (rowAt ls k = b) := ⟨_, rfl⟩
      rw [HB.out] at T1 HR ⊢
      have HCL : Hid (cur.length = 16) := by show _ = _; rw [← HC.out]; exact mergeAll_len ls k
      have HNE : Hid (w.heap.size + 1 < N) := by show _ < _; rw [HNN.out]; exact Has.inside J1.out
      have hne : w.heap.size + 1 ≠ N := by have := HNE.out; omega
      go_loopw [14] (fun i wi => ∃ q : Nat, q ≤ 16 ∧ i = .int .i64 (q : Int) ∧ Hid (Has wi (w.heap.size + 1) 24 (vec (mergeTo cur b q))) ∧ Hid (Has wi N 24 (vec b)) ∧ Hid (Has wi w.heap.size 24 zeroA) ∧ Hid (Below w.heap.size w wi))
        (fun i _ => 16 - (intOf i).toNat)
      case atStart => exact ⟨0, by omega, rfl, T2, T1, T3, T4⟩
      case round =>
        obtain ⟨q, hq, rfl, K1, K2, K3, K4⟩ := hrel
        by_cases hlt2 : q < 16
        · have c1 := (K1.out.at_ q).trans (vec_get _ q (by rw [mergeTo_len, HCL.out]; omega))
          have c2 := (K2.out.at_ q).trans (vec_get _ q (by rw [HR.out]; omega))
          have f1 := K1.out.free q
          go_wp2
          go_region
          rw [max_u]
          have M1 : Hid (Has (wr.setCell ⟨w.heap.size + 1, q, none⟩ (.int .u32 (u (maxW (at32 (mergeTo cur b q) q) (at32 b q))))).drew (w.heap.size + 1) 24 (vec (mergeTo cur b (q + 1)))) := by
            have := (K1.out.put q (.int .u32 (u (maxW (at32 (mergeTo cur b q) q) (at32 b q))))).drawn 1
            rw [vec_set] at this; exact this
          have M2 : Hid (Has (wr.setCell ⟨w.heap.size + 1, q, none⟩ (.int .u32 (u (maxW (at32 (mergeTo cur b q) q) (at32 b q))))).drew N 24 (vec b)) := (K2.out.other (p := ⟨w.heap.size + 1, q, none⟩) (fun e => hne e.symm) _).drawn 1
          have M3 : Hid (Has (wr.setCell ⟨w.heap.size + 1, q, none⟩ (.int .u32 (u (maxW (at32 (mergeTo cur b q) q) (at32 b q))))).drew w.heap.size 24 zeroA) := (K3.out.other (p := ⟨w.heap.size + 1, q, none⟩) (by simp) _).drawn 1
          have M4 : Hid (Below w.heap.size w (wr.setCell ⟨w.heap.size + 1, q, none⟩ (.int .u32 (u (maxW (at32 (mergeTo cur b q) q) (at32 b q))))).drew) := (K4.out.setCell (p := ⟨w.heap.size + 1, q, none⟩) (Nat.le_succ _) _).drew
          clear c1 c2 f1
          go_wp2
          go_roundw
          case rel => exact ⟨q + 1, by omega, by go_num, M1, M2, M3, M4⟩
          case measure => simp [intOf]; omega
        · obtain rfl : q = 16 := by omega
          go_wp2
          go_roundw
          case rel =>
            refine ⟨k + 1, by omega, by go_num, ?_, K3, K4⟩
            rw [mergeAll_next ls k (by rw [HN.out]; exact hlt), HC.out, HB.out]
            exact K1
          case measure => simp [intOf]; omega
    · obtain rfl : k = n := by omega
      have Y1 := size_vec _ (mergeAll_len ls k)
      have Y2 := size_zero _ (mergeAll_len ls k)
      go_wp2_with (first
        | (refine wpList_load_row rfl 24 (.tmp 3) rfl (w.heap.size + 1) rfl 24 (vec (mergeAll ls k)) (0, 0) _ J1.out Try.underlying24 rfl Y1.out ?_)
        | (refine wpList_store_row rfl 24 (.tmp 2) (.tmp 28) rfl w.heap.size (vec (mergeAll ls k)) rfl rfl 24 zeroA J2.out Y1.out Y2.out (vec_one _) ?_))
      exact bodyPost_ret (results_cell_row rfl _ _ w.heap.size 24 (vec (mergeAll ls k)) (0, 0) _ rfl J2.out.row Try.underlying24 rfl Y1.out) rfl ⟨rfl, J3.out.rowK (Nat.le_refl _) _⟩
end Go.Proofs.Ytmmbnobbpnndkaa
