/- The document's IsConflict (caravanref02). Conditions: at most 4000 bytes. -/
import Derived.Test.YtoeomghebgbniaaDoorRA
namespace Go.Proofs.YtoeomghebgbniaaDoor
open Go.RowKit
theorem take_at {m q : List UInt8} (h : q.length ≤ m.length) : m.take q.length = q ↔ ∀ j, j < q.length → at8 m j = at8 q j := by
  constructor
  · intro e j hj
    have : at8 (m.take q.length) j = at8 q j := by rw [e]
    rw [← this]; simp [at8, List.getD, hj]
  · intro h2
    apply List.ext_getElem
    · simp; omega
    · intro j h3 h4
      have := h2 j h4
      rw [List.getElem_take]
      simp only [at8, List.getD, List.getElem?_eq_getElem h4, List.getElem?_eq_getElem (show j < m.length by omega), Option.getD_some] at this
      exact this
/-- Do a mark's last thirteen bytes fit? -/
def digOk (c : UInt8) : Bool := decide (48 ≤ b8 c) && decide (b8 c ≤ 57)
def restTo (r : List UInt8) (k : Nat) : Bool := decide (at8 r 10 = 45) && (List.range k).all fun j => decide (j = 10) || digOk (at8 r j)
theorem restTo_zero (r : List UInt8) : restTo r 0 = decide (at8 r 10 = 45) := by simp [restTo]
theorem restTo_next (r : List UInt8) (k : Nat) : restTo r (k + 1) = (restTo r k && (decide (k = 10) || digOk (at8 r k))) := by
  simp [restTo, List.range_succ, Bool.and_assoc]
theorem shape_mark : ∀ j, j < 15 → at8 shapeL j = at8 markL j ∧ at8 markL j ≠ 35 := by decide
theorem shape_rest : ∀ j, j < 13 → at8 shapeL (15 + j) = if j = 10 then 45 else 35 := by decide
theorem upTo_all {l : List UInt8} {i m : Nat} : upTo l i m = true ↔ ∀ j, j < m → fitsB (at8 l (i + j)) (at8 shapeL j) = true := by
  simp [upTo, List.all_eq_true]
theorem shape_split {l : List UInt8} {i : Nat} (hi : i + 28 ≤ l.length) : upTo l i 28 = true ↔ (l.drop i).take 15 = markL ∧ restTo (l.drop (i + 15)) 13 = true := by
  have ht := take_at (m := l.drop i) (q := markL) (by rw [List.length_drop]; show 15 ≤ _; omega)
  rw [show markL.length = 15 from rfl] at ht
  rw [upTo_all, ht, restTo, Bool.and_eq_true, decide_eq_true_eq, List.all_eq_true]
  constructor
  · intro h
    refine ⟨fun j hj => ?_, ?_, fun j hj => ?_⟩
    · have := h j (by omega)
      rw [(shape_mark j hj).1, fitsB, if_neg (shape_mark j hj).2, decide_eq_true_eq] at this
      rw [at8_drop, this]
    · have := h 25 (by omega)
      rw [show (25 : Nat) = 15 + 10 from rfl, shape_rest 10 (by omega), if_pos rfl, fitsB, if_neg (by decide), decide_eq_true_eq] at this
      rw [at8_drop, Nat.add_assoc, this]
    · have hj := List.mem_range.1 hj
      by_cases h10 : j = 10
      · simp [h10]
      · have := h (15 + j) (by omega)
        rw [shape_rest j hj, if_neg h10, fitsB, if_pos rfl] at this
        rw [at8_drop, Nat.add_assoc, digOk, this, Bool.or_true]
  · rintro ⟨h1, h2, h3⟩ j hj
    by_cases hj15 : j < 15
    · rw [(shape_mark j hj15).1, fitsB, if_neg (shape_mark j hj15).2, decide_eq_true_eq, ← at8_drop, h1 j hj15]
    · obtain ⟨q, rfl⟩ : ∃ q, j = 15 + q := ⟨j - 15, by omega⟩
      rw [shape_rest q (by omega)]
      by_cases h10 : q = 10
      · subst h10
        rw [if_pos rfl, fitsB, if_neg (by decide), decide_eq_true_eq, ← Nat.add_assoc, ← at8_drop, h2]
      · have := h3 q (List.mem_range.2 (by omega))
        rw [at8_drop] at this
        rw [if_neg h10, fitsB, if_pos rfl, ← Nat.add_assoc]
        simpa [h10, digOk] using this
set_option maxRecDepth 100000 in
set_option maxHeartbeats 1000000 in
theorem risConflict_any (s : ByteArray) (w : World) (hs : s.size ≤ 4000) :
    Calls Tryd.prog 12 #[.string s] w fun e w' => e = .returned (.bool (isConfB (tl s))) ∧ Below w.heap.size w w' := by
  obtain ⟨r, HR⟩ : ∃ r, Hid (ba (lastP (tl s)) = r) := ⟨_, rfl⟩
  have HC : Hid (∀ W, Calls Tryd.prog 20 #[.string s] W fun e w' => e = .returned (.string r) ∧ Below W.heap.size W w') := by intro W; rw [← HR.out]; exact rlast_any s W hs
  have hr : r.size ≤ 4000 := by rw [← HR.out, ba_size]; have := lastP_len (tl s); rw [tl_length] at this; omega
  have HV : Hid (isConfB (tl s) = markB (tl r)) := by show _ = _; rw [isConfB, ← HR.out, tl_ba]
  have HL : Hid ((tl r).length = r.size) := tl_length r
  go_enter Tryd.func12, Tryd.ntmps12
  go_wp2_with fail
  refine (HC.out _).mono ?_; rintro e1 w1 ⟨rfl, hb⟩
  have B1 := hid hb
  clear hb
  go_wp2
  go_loopw [5] (fun i wr => ∃ k : Nat, k ≤ r.size ∧ i = .int .i64 (k : Int) ∧ Hid (∀ i, i < k → upTo (tl r) i 28 = false) ∧ w1 = wr)
    (fun i _ => r.size - (intOf i).toNat)
  case atStart => exact ⟨0, by omega, rfl, fun i hi => by omega, rfl⟩
  case round =>
    obtain ⟨k, hk, rfl, HK, rfl⟩ := hrel
    by_cases hlt : k + 28 ≤ r.size
    · have g1 : (k : Int) + 15 + 13 ≤ (r.size : Int) := by omega
      have g2 : (k : Int) + 15 ≤ (r.size : Int) := by omega
      have g3 : (k : Int) ≤ (k : Int) + 15 := by omega
      obtain ⟨k15, e15, E15⟩ : ∃ a : Nat, (k : Int) + 15 = (a : Int) ∧ Hid (k + 15 = a) := ⟨k + 15, by omega, rfl⟩
      have g4 : (k15 : Int) ≤ (r.size : Int) := by omega
      have g13 : (k15 : Int) + 13 ≤ (r.size : Int) := by omega
      have HS := hid (shape_split (l := tl r) (i := k) (by rw [HL.out]; exact hlt))
      obtain ⟨x, HX⟩ : ∃ x, Hid (r.extract k k15 = x) := ⟨_, rfl⟩
      obtain ⟨y, HY⟩ : ∃ y, Hid (r.extract k15 r.size = y) := ⟨_, rfl⟩
      have x1 := HX.out
      have y1 := HY.out
      have HXL : Hid (tl x = ((tl r).drop k).take 15) := by
        show _ = _
        rw [← HX.out]
        have := E15.out
        apply List.ext_getElem?
        intro j
        simp only [tl, ByteArray.data_extract, Array.toList_extract, List.extract]
        rw [show k15 - k = 15 by omega]
      have HYL : Hid (tl y = (tl r).drop (k + 15)) := by
        show _ = _
        rw [← HY.out, ba_drop, tl_ba, E15.out]
      have HYS : Hid (13 ≤ y.size) := by show _ ≤ _; rw [← tl_length, HYL.out, List.length_drop, HL.out]; omega
      have hys : (y.size : Int) ≤ 4000 := by have : y.size ≤ 4000 := by rw [← tl_length, HYL.out, List.length_drop, HL.out]; omega
                                             omega
      by_cases hm : tl x = markL
      · have t1 : (x.toList == [46, 115, 121, 110, 99, 45, 99, 111, 110, 102, 108, 105, 99, 116, 45]) = true := by rw [toList_tl, hm]; rfl
        have HM := hid hm
        have g10 : (10 : Int) < (y.size : Int) := by have := HYS.out; omega
        have i10 : ∀ w, (Instr.index 9 (.string y) (.int .i64 10)).run Tryd.prog w = .ok (.int .u8 (b8 (at8 (tl y) 10))) w := fun w => index_str y 10 (by have := HYS.out; omega) w
        have HZ : Hid (Value.bool (b8 (at8 (tl y) 10) == 45) = .bool (restTo (tl y) 0)) := by
          show _ = _
          rw [restTo_zero]; congr 1; rw [Bool.eq_iff_iff, beq_iff_eq, decide_eq_true_eq]
          exact ⟨fun h => b8_inj h, fun h => by rw [h]; rfl⟩
        clear hm
        go_wp2
        go_loopw [7, 8] (fun bv j wr => ∃ q : Nat, q ≤ 13 ∧ j = .int .i64 (q : Int) ∧ bv = .bool (restTo (tl y) q) ∧ w1 = wr)
          (fun _ j _ => 13 - (intOf j).toNat)
        case atStart => exact ⟨0, by omega, rfl, HZ.out, rfl⟩
        case round =>
          obtain ⟨q, hq, rfl, rfl, rfl⟩ := hrel
          by_cases hq13 : q < 13
          · have HN := hid (restTo_next (tl y) q)
            have hqy : (q : Int) < (y.size : Int) := by have := HYS.out; omega
            have iq := index_str y q (by have := HYS.out; omega)
            have HD := hid (fun W => rpdigit_any (at8 (tl y) q) W)
            have HDD : Hid ((decide (48 ≤ b8 (at8 (tl y) q)) && decide (b8 (at8 (tl y) q) ≤ 57)) = digOk (at8 (tl y) q)) := rfl
            rw [HDD.out] at HD
            clear HDD
            generalize at8 (tl y) q = c at iq HN HD
            by_cases h10 : q = 10
            · have hi10 : (q : Int) = 10 := by omega
              have HN2 : Hid (restTo (tl y) (q + 1) = restTo (tl y) q) := by show _ = _; rw [HN.out, h10]; simp
              clear h10 HD HN
              go_wp2
              go_roundw
              case rel => exact ⟨q + 1, by omega, by go_num, by rw [HN2.out], trivial⟩
              case measure => simp [intOf]; omega
            · have hi10 : ¬ (q : Int) = 10 := by omega
              cases hd : digOk c with
              | true =>
                rw [hd] at HD
                have HN2 : Hid (restTo (tl y) (q + 1) = restTo (tl y) q) := by show _ = _; rw [HN.out, hd]; simp
                clear h10 HN hd
                go_wp2_with (go_at_call 33; refine (HD.out _).mono ?_; rintro e1 w1 ⟨rfl, rfl⟩)
                go_roundw
                case rel => exact ⟨q + 1, by omega, by go_num, by rw [HN2.out], trivial⟩
                case measure => simp [intOf]; omega
              | false =>
                rw [hd] at HD
                have HN2 : Hid (restTo (tl y) (q + 1) = false) := by show _ = _; rw [HN.out, hd, decide_eq_false h10]; simp
                clear h10 HN hd
                go_wp2_with (go_at_call 33; refine (HD.out _).mono ?_; rintro e1 w1 ⟨rfl, rfl⟩)
                go_roundw
                case rel => exact ⟨q + 1, by omega, by go_num, by rw [HN2.out], trivial⟩
                case measure => simp [intOf]; omega
          · obtain rfl : q = 13 := by omega
            cases hv : restTo (tl y) 13 with
            | true =>
              have HT : Hid (markB (tl r) = true) := markB_yes (i := k) (by rw [HL.out]; omega) (HS.out.2 ⟨by rw [← HXL.out]; exact HM.out, by rw [← HYL.out]; exact hv⟩)
              clear hv
              go_wp2
              go_ret
              exact ⟨ret_bool (by rw [HV.out, HT.out]), B1.out⟩
            | false =>
              have HNo : Hid (upTo (tl r) k 28 = false) := by
                show _ = _
                rw [← Bool.not_eq_true, HS.out, ← HYL.out, hv]; exact fun h => Bool.noConfusion h.2
              clear hv
              go_wp2
              go_roundw
              case rel => exact ⟨k + 1, by omega, by go_num, fun i hi => by
                    rcases Nat.lt_or_ge i k with h | h
                    · exact HK.out i h
                    · obtain rfl : i = k := by omega
                      exact HNo.out, trivial⟩
              case measure => simp [intOf]; omega
      · have t1 : (x.toList == [46, 115, 121, 110, 99, 45, 99, 111, 110, 102, 108, 105, 99, 116, 45]) = false := by rw [toList_tl]; simpa [markL] using hm
        have HNo : Hid (upTo (tl r) k 28 = false) := by
          show _ = _
          rw [← Bool.not_eq_true, HS.out, ← HXL.out]; exact fun h => hm h.1
        clear hm
        go_wp2
        go_roundw
        case rel => exact ⟨k + 1, by omega, by go_num, fun i hi => by
              rcases Nat.lt_or_ge i k with h | h
              · exact HK.out i h
              · obtain rfl : i = k := by omega
                exact HNo.out, trivial⟩
        case measure => simp [intOf]; omega
    · have g1 : ¬ (k : Int) + 15 + 13 ≤ (r.size : Int) := by omega
      go_wp2
      go_ret
      refine ⟨ret_bool ?_, B1.out⟩
      rw [HV.out, markB_no]
      intro i hi
      rw [HL.out] at hi
      exact HK.out i (by omega)
end Go.Proofs.YtoeomghebgbniaaDoor
