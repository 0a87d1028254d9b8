/- Versions: Merge, the document's: what the call does. Conditions: rows of sixteen counters each. -/
import Derived.Test.YtmmbnobbpnndkaaVF
namespace Go.Proofs.Ytmmbnobbpnndkaa
open Go.RowKit
def colsTo (m : List (BitVec 32)) : Nat → List (BitVec 32)
  | 0 => zero16
  | i + 1 => (colsTo m i).set i (at32 m i)
theorem colsTo_len (m : List (BitVec 32)) (i : Nat) : (colsTo m i).length = 16 := by
  induction i with
  | zero => exact zero_len
  | succ i ih => rw [colsTo, List.length_set, ih]
theorem zero_at (j : Nat) : at32 zero16 j = 0 := by
  unfold at32 zero16
  rw [List.getD, List.getElem?_replicate]
  split <;> rfl
theorem colsTo_at (m : List (BitVec 32)) (i j : Nat) (hi : i ≤ 16) : at32 (colsTo m i) j = if j < i then at32 m j else 0 := by
  induction i with
  | zero => simp [colsTo, zero_at]
  | succ i ih =>
    have ih := ih (by omega)
    rw [colsTo]
    by_cases h : j = i
    · subst h
      rw [at32_set_same _ _ _ (by rw [colsTo_len]; omega), if_pos (by omega)]
    · rw [at32_set_other _ _ _ _ (fun e => h e.symm), ih]
      by_cases h2 : j < i
      · rw [if_pos h2, if_pos (by omega)]
      · rw [if_neg h2, if_neg (by omega)]
theorem colsTo_all {m : List (BitVec 32)} (hm : m.length = 16) : colsTo m 16 = m :=
  ext16 (colsTo_len m 16) hm fun i hi => by rw [colsTo_at m 16 i (by omega), if_pos hi]
theorem mergeAll_at (ls : List (List (BitVec 32))) (k : Nat) (h : k < ls.length) (j : Nat) (hj : j < 16) : at32 (mergeAll ls (k + 1)) j = maxW (at32 (mergeAll ls k) j) (at32 (rowAt ls k) j) := by
  rw [mergeAll_next ls k h, merge2_at (mergeAll_len ls k) j hj]
/-- Column i, the first k rows of it. -/
def colIn (ls : List (List (BitVec 32))) (m : List (BitVec 32)) (i k : Nat) : List (BitVec 32) := (colsTo m i).set i (at32 (mergeAll ls k) i)
theorem colIn_len (ls : List (List (BitVec 32))) (m : List (BitVec 32)) (i k : Nat) : (colIn ls m i k).length = 16 := by rw [colIn, List.length_set, colsTo_len]
theorem colIn_zero (ls : List (List (BitVec 32))) (m : List (BitVec 32)) (i : Nat) (hi : i < 16) : colIn ls m i 0 = colsTo m i := by
  refine ext16 (colIn_len _ _ _ _) (colsTo_len _ _) fun j hj => ?_
  rw [colIn]
  by_cases h : j = i
  · subst h
    rw [at32_set_same _ _ _ (by rw [colsTo_len]; omega), mergeAll_zero, zero_at, colsTo_at m j j (by omega), if_neg (by omega)]
  · rw [at32_set_other _ _ _ _ (fun e => h e.symm)]
theorem colIn_here (ls : List (List (BitVec 32))) (m : List (BitVec 32)) (i k : Nat) (hi : i < 16) : at32 (colIn ls m i k) i = at32 (mergeAll ls k) i := by
  rw [colIn, at32_set_same _ _ _ (by rw [colsTo_len]; omega)]
theorem colIn_keep (ls : List (List (BitVec 32))) (m : List (BitVec 32)) (i k : Nat) (hk : k < ls.length) (hi : i < 16) (h : ¬ u (at32 (mergeAll ls k) i) < u (at32 (rowAt ls k) i)) : colIn ls m i (k + 1) = colIn ls m i k := by
  rw [colIn, colIn, mergeAll_at ls k hk i hi, maxW, if_neg (by unfold u at h; omega)]
theorem colIn_put (ls : List (List (BitVec 32))) (m : List (BitVec 32)) (i k : Nat) (hk : k < ls.length) (hi : i < 16) (h : u (at32 (mergeAll ls k) i) < u (at32 (rowAt ls k) i)) :
    (colIn ls m i k).set i (at32 (rowAt ls k) i) = colIn ls m i (k + 1) := by
  rw [colIn, colIn, mergeAll_at ls k hk i hi, maxW, if_pos (by unfold u at h; omega), List.set_set]
theorem rmerge_start (w : World) : ∃ W1, (w.alloc (.cells zeroA 24)).alloc (.cells zeroA 24) = W1 ∧
    Hid (Has W1 (w.heap.size + 1) 24 (vec zero16)) ∧ Hid (Has W1 w.heap.size 24 zeroA) ∧ Hid (Below w.heap.size w W1) := by
  refine ⟨_, rfl, ?_, ?_, ?_⟩
  · exact Has.fresh' (w.alloc _) 24 zeroA (by simp)
  · exact (Has.fresh w 24 zeroA).more _
  · exact ((Below.refl _ _).alloc (Nat.le_refl _) _).alloc (by simp) _
theorem row_cell {w : World} {g o i : Nat} {l : List (BitVec 32)} (h : w.rangeAt g o (l.map V32)) (hl : l.length = 16) (hi : i < 16) : w.cell? ⟨g, o + i, none⟩ = some (.int .u32 (u (at32 l i))) := by
  refine h i _ ?_
  rw [List.getElem?_map, List.getElem?_eq_getElem (by omega)]
  simp [V32, at32, List.getD, List.getElem?_eq_getElem (show i < l.length by omega)]
set_option maxRecDepth 100000 in
set_option maxHeartbeats 400000 in
theorem rmerge_any (ls : List (List (BitVec 32))) (A : Option Addr) (n cap gb off : Nat) (w : World) (hn : ls.length = n) (hm : n ≤ 1000000) (hs : VRows w A ls gb off) :
    Calls Try.prog 17 #[.slice A n cap] w fun e w' => e = .returned (.agg (vec (mergeAll ls n))) ∧ Below w.heap.size w w' := by
  have HS := hid hs
  have HN := hid hn
  obtain ⟨m, HM⟩ : ∃ m, Hid (mergeAll ls n = m) := ⟨_, rfl⟩
  have HML : Hid (m.length = 16) := by show _ = _; rw [← HM.out]; exact mergeAll_len ls n
  rw [HM.out]
  clear hs hn
  go_enter Try.func17, Try.ntmps17
  go_wp2
  generalize hG : World.alloc (World.alloc w _) _ = W1
  obtain ⟨W0, hG0, S1, S2, S3⟩ := rmerge_start w
  obtain rfl : W0 = W1 := hG0.symm.trans hG
  clear hG0 hG
  go_loopw [4] (fun i wr => ∃ q : Nat, q ≤ 16 ∧ i = .int .i64 (q : Int) ∧ Hid (Has wr (w.heap.size + 1) 24 (vec (colsTo m q))) ∧ Hid (Has wr w.heap.size 24 zeroA) ∧ Hid (Below w.heap.size w wr))
    (fun i _ => 16 - (intOf i).toNat)
  case atStart => exact ⟨0, by omega, rfl, S1, S2, S3⟩
  case round =>
    obtain ⟨q, hq, rfl, J1, J2, J3⟩ := hrel
    by_cases hlt : q < 16
    · have J0 : Hid (Has wr (w.heap.size + 1) 24 (vec (colIn ls m q 0))) := by rw [colIn_zero ls m q hlt]; exact J1
      go_wp2
      rw [decide_eq_true (show (q : Int) < 16 by omega)]
      go_loopw [5] (fun i wi => ∃ k : Nat, k ≤ n ∧ i = .int .i64 (k : Int) ∧ Hid (Has wi (w.heap.size + 1) 24 (vec (colIn ls m q k))) ∧ Hid (Has wi w.heap.size 24 zeroA) ∧ Hid (Below w.heap.size w wi))
        (fun i _ => n - (intOf i).toNat)
      case atStart => exact ⟨0, by omega, rfl, J0, J2, J3⟩
      case round =>
        obtain ⟨k, hk, rfl, K1, K2, K3⟩ := hrel
        by_cases hltk : k < n
        · have hA := HS.out.src (by rw [HN.out]; omega)
          subst hA
          have c1 := row_cell ((HS.out.kept K3.out (Nat.le_refl _)).row k (by rw [HN.out]; exact hltk)) (HS.out.len k (by rw [HN.out]; exact hltk)) hlt
          have c2 := (K1.out.at_ q).trans (vec_get _ q (by rw [colIn_len]; exact hlt))
          rw [colIn_here ls m q k hlt] at c2
          have f1 := K1.out.free q
          by_cases hb : u (at32 (mergeAll ls k) q) < u (at32 (rowAt ls k) q)
          · have HP := hid (colIn_put ls m q k (by rw [HN.out]; exact hltk) hlt hb)
            go_wp2
            go_region
            go_wp2
            go_roundw
            case rel =>
              refine ⟨k + 1, by omega, by go_num, ?_, (K2.out.other (p := ⟨w.heap.size + 1, q, none⟩) (by simp) _).drawn 1, (K3.out.setCell (p := ⟨w.heap.size + 1, q, none⟩) (Nat.le_succ _) _).drew⟩
              have := (K1.out.put q (.int .u32 (u (at32 (rowAt ls k) q)))).drawn 1
              rw [vec_set, HP.out] at this
              exact this
            case measure => simp [intOf]; omega
          · have HP := hid (colIn_keep ls m q k (by rw [HN.out]; exact hltk) hlt hb)
            go_wp2
            go_region
            go_wp2
            go_roundw
            case rel =>
              refine ⟨k + 1, by omega, by go_num, ?_, K2.out.drawn 1, K3.out.drew⟩
              rw [HP.out]
              exact K1.out.drawn 1
            case measure => simp [intOf]; omega
        · obtain rfl : k = n := by omega
          have J4 : Hid (Has wr (w.heap.size + 1) 24 (vec (colsTo m (q + 1)))) := by have := K1; rw [colIn, HM.out] at this; exact this
          go_wp2
          go_roundw
          case rel => exact ⟨q + 1, by omega, by go_num, J4, K2, K3⟩
          case measure => simp [intOf]; omega
    · obtain rfl : q = 16 := by omega
      have J4 : Hid (Has wr (w.heap.size + 1) 24 (vec m)) := by have := J1; rw [colsTo_all HML.out] at this; exact this
      have Y1 := size_vec _ HML.out
      have Y2 := size_zero _ HML.out
      clear J1
      go_wp2_with (first
        | (refine wpList_load_row rfl 24 (.tmp 3) rfl (w.heap.size + 1) rfl 24 (vec m) (0, 0) _ J4.out Try.underlying24 rfl Y1.out ?_)
        | (refine wpList_store_row rfl 24 (.tmp 2) (.tmp 34) rfl w.heap.size (vec m) rfl rfl 24 zeroA J2.out Y1.out Y2.out (vec_one _) ?_))
      exact bodyPost_ret (results_cell_row rfl _ _ w.heap.size 24 (vec m) (0, 0) _ rfl J2.out.row Try.underlying24 rfl Y1.out) rfl ⟨rfl, J3.out.rowK (Nat.le_refl _) _⟩
end Go.Proofs.Ytmmbnobbpnndkaa
