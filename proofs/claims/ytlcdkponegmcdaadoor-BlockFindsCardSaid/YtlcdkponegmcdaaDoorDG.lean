/- slices.BinarySearchFunc with placeOf's closure, placeOf: what each call answers. Conditions: places in a row of the call's own, in the order of their names, fewer than 2 to the 40. -/
import Derived.Test.YtlcdkponegmcdaaDoorDF
namespace Go.Proofs.YtlcdkponegmcdaaDoor
open Go.RowKit
theorem ret_two {a b : Int} {x y : Bool} (h : a = b) (k : x = y) : Ending.returned (.tuple #[.int .i64 a, .bool x]) = .returned (.tuple #[.int .i64 b, .bool y]) := by rw [h, k]
set_option maxRecDepth 100000 in
set_option maxHeartbeats 4000000 in
theorem search_any (B : Nat) (v : Value) (ps : List Pl) (hs : Srt ps) (t : List UInt8) (w : World) (h : Pls B w v ps) (hn : ps.length ≤ 1099511627776) :
    Calls Tryd.prog 69 #[v, .string (ba t), .func (.func 70) #[] #[]] w fun e w' => e = .returned (.tuple #[.int .i64 (posOf ps t : Int), .bool (hasN ps t)]) ∧ Below w.heap.size w w' := by
  obtain ⟨A, c, e0⟩ := h.form
  obtain ⟨n, HN⟩ : ∃ n, Hid (ps.length = n) := ⟨_, rfl⟩
  have HP := hid h
  have HS := hid hs
  have HHN := hid (hasYtlcdkponegmcdaaDoorat ps hs t)
  have hn2 : n ≤ 1099511627776 := by rw [← HN.out]; exact hn
  have HC := hid (fun (nm : List UInt8) (i : Int) (w : World) => placeC_any nm t i w)
  rw [HN.out] at e0
  rw [e0] at HP ⊢
  have HL : Hid (∀ (W : World), Below w.heap.size w W → ∀ k, k < n → ∃ g, A = some ⟨g, 0, none⟩ ∧ (loadVar 54 ⟨g, k * 2, none⟩).run Tryd.prog W = .ok (.agg #[.string (ba (nameAt ps k)), .int .i64 ((ps.getD k ([], 0)).2 : Int)]) W) := by
    intro W hW k hk
    obtain ⟨g, c', h1, _, _, h4⟩ := (HP.out.kept hW (Nat.le_refl _)).at_ k (by rw [HN.out]; exact hk)
    injection h1 with h1
    exact ⟨g, h1, h4⟩
  clear h hs hn e0
  go_enter Tryd.func69, Tryd.ntmps69
  go_wp2
  go_loopw [9, 10] (fun a b wr => ∃ lo hi : Nat, a = .int .i64 (lo : Int) ∧ b = .int .i64 (hi : Int) ∧ lo ≤ hi ∧ hi ≤ n ∧ Hid (∀ k, k < lo → cb (nameAt ps k) t < 0) ∧ Hid (hi < n → 0 ≤ cb (nameAt ps hi) t) ∧ Hid (Below w.heap.size w wr))
    (fun a b _ => (intOf b).toNat - (intOf a).toNat)
  case atStart => exact ⟨0, n, rfl, rfl, by omega, by omega, (fun k hk => by omega : ∀ k, k < 0 → _), (fun h => by omega : n < n → _), Below.refl _ _⟩
  case round =>
    obtain ⟨lo, hi, rfl, rfl, h1, h2, J1, J2, J3⟩ := hrel
    by_cases hlt : lo < hi
    · have hlt2 : (lo : Int) < (hi : Int) := by omega
      obtain ⟨m, HM⟩ : ∃ m, Hid ((lo + hi) / 2 = m) := ⟨_, rfl⟩
      have hm := HM.out
      have hm1 : lo ≤ m := by omega
      have hm2 : m < hi := by omega
      have q1 : IntKind.i64.wrap ((lo : Int) + (hi : Int)) = (lo : Int) + hi := i64in _ (by omega) (by omega)
      have q2 : IntKind.u64.wrap ((lo : Int) + (hi : Int)) = (lo : Int) + hi := by simp [IntKind.wrap, IntKind.signed, IntKind.bits]; omega
      have q3 : ((lo : Int) + (hi : Int)) / 2 = (m : Int) := by omega
      have q4 : IntKind.u64.wrap (m : Int) = (m : Int) := by simp [IntKind.wrap, IntKind.signed, IntKind.bits]; omega
      have q5 : IntKind.i64.wrap (m : Int) = (m : Int) := i64in _ (by omega) (by omega)
      have q6 : IntKind.i64.wrap ((m : Int) + 1) = (m : Int) + 1 := i64in _ (by omega) (by omega)
      have q7 : (m : Int) < (n : Int) := by omega
      obtain ⟨g, hA, hL⟩ := HL.out wr J3.out m (by omega)
      obtain rfl := hA
      obtain ⟨nm, HNM⟩ : ∃ nm, Hid (nameAt ps m = nm) := ⟨_, rfl⟩
      obtain ⟨ix, HIX⟩ : ∃ ix, Hid (((ps.getD m ([], 0)).2 : Int) = ix) := ⟨_, rfl⟩
      rw [HNM.out, HIX.out] at hL
      have HLO := hid hL
      clear hL
      obtain ⟨z, HZ⟩ : ∃ z, Hid (cb nm t = z) := ⟨_, rfl⟩
      have HCC : Hid (Calls Tryd.prog 70 #[.agg #[.string (ba nm), .int .i64 ix], .string (ba t)] wr fun e w' => e = .returned (.int .i64 z) ∧ Below wr.heap.size wr w') := by
        rw [← HZ.out]; exact HC.out nm ix wr
      by_cases hz : z < 0
      · go_wp2_with (first
          | (refine wpList_load_g (by rfl) 54 (.tmp 27) rfl g (m * 2) rfl #[.string (ba nm), .int .i64 ix] HLO.out ?_)
          | (go_at_call 70; refine HCC.out.mono ?_; rintro e1 w1 ⟨rfl, hb1⟩
             have B1 : Hid (Below w.heap.size w w1) := J3.out.trans (hb1.mono J3.out.size)
             clear hb1))
        go_roundw
        case rel =>
          refine ⟨m + 1, hi, by rw [Int.natCast_add]; rfl, rfl, by omega, h2, ?_, J2, B1⟩
          intro k hk
          exact srt_mono HS.out (a := k) (b := m) (by omega) (by rw [HN.out]; omega) (by rw [HNM.out, HZ.out]; exact hz)
        case measure => simp [intOf]; omega
      · go_wp2_with (first
          | (refine wpList_load_g (by rfl) 54 (.tmp 27) rfl g (m * 2) rfl #[.string (ba nm), .int .i64 ix] HLO.out ?_)
          | (go_at_call 70; refine HCC.out.mono ?_; rintro e1 w1 ⟨rfl, hb1⟩
             have B1 : Hid (Below w.heap.size w w1) := J3.out.trans (hb1.mono J3.out.size)
             clear hb1))
        go_roundw
        case rel =>
          refine ⟨lo, m, rfl, rfl, by omega, by omega, J1, ?_, B1⟩
          intro _
          rw [HNM.out, HZ.out]; omega
        case measure => simp [intOf]; omega
    · obtain rfl : lo = hi := by omega
      have HPO : Hid (posOf ps t = lo) := posOf_is ps t lo (by rw [HN.out]; omega) J1.out (fun h => by rw [HN.out] at h; have := J2.out h; omega)
      by_cases hln : lo < n
      · have hl2 : (lo : Int) < (n : Int) := by omega
        obtain ⟨g, hA, hL⟩ := HL.out wr J3.out lo hln
        obtain rfl := hA
        obtain ⟨nm, HNM⟩ : ∃ nm, Hid (nameAt ps lo = nm) := ⟨_, rfl⟩
        obtain ⟨ix, HIX⟩ : ∃ ix, Hid (((ps.getD lo ([], 0)).2 : Int) = ix) := ⟨_, rfl⟩
        rw [HNM.out, HIX.out] at hL
        have HLO := hid hL
        clear hL
        obtain ⟨z, HZ⟩ : ∃ z, Hid (cb nm t = z) := ⟨_, rfl⟩
        have HCC : Hid (Calls Tryd.prog 70 #[.agg #[.string (ba nm), .int .i64 ix], .string (ba t)] wr fun e w' => e = .returned (.int .i64 z) ∧ Below wr.heap.size wr w') := by
          rw [← HZ.out]; exact HC.out nm ix wr
        have HV : Hid (hasN ps t = (z == 0)) := by
          show _ = _
          rw [HHN.out, HPO.out, HN.out, HNM.out, HZ.out]
          simp only [hln, decide_true, Bool.true_and]
          rfl
        go_wp2_with (first
          | (refine wpList_load_g (by rfl) 54 (.tmp 43) rfl g (lo * 2) rfl #[.string (ba nm), .int .i64 ix] HLO.out ?_)
          | (go_at_call 70; refine HCC.out.mono ?_; rintro e1 w1 ⟨rfl, hb1⟩
             have B1 : Hid (Below w.heap.size w w1) := J3.out.trans (hb1.mono J3.out.size)
             clear hb1))
        go_ret2
        exact ⟨ret_two (by rw [HPO.out]) (by rw [HV.out]), B1.out⟩
      · have hl2 : ¬ (lo : Int) < (n : Int) := by omega
        have HV : Hid (hasN ps t = false) := by
          show _ = _
          rw [HHN.out, HPO.out, HN.out]
          simp [hln]
        go_wp2
        go_ret2
        exact ⟨ret_two (by rw [HPO.out]) HV.out.symm, J3.out⟩
set_option maxRecDepth 100000 in
set_option maxHeartbeats 4000000 in
theorem placeOf_any (B : Nat) (v : Value) (ps : List Pl) (hs : Srt ps) (t : List UInt8) (w : World) (h : Pls B w v ps) (hn : ps.length ≤ 1099511627776) :
    Calls Tryd.prog 58 #[v, .string (ba t)] w fun e w' => e = .returned (.tuple #[.int .i64 (posOf ps t : Int), .bool (hasN ps t)]) ∧ Below w.heap.size w w' := by
  have HC := hid (search_any B v ps hs t w h hn)
  clear hs h hn
  go_enter Tryd.func58, Tryd.ntmps58
  go_wp2_with (go_at_call 69; refine HC.out.mono ?_; rintro e1 w1 ⟨rfl, hb1⟩)
  go_ret2
  exact ⟨rfl, hb1⟩
end Go.Proofs.YtlcdkponegmcdaaDoor
