/- path.Name: what it answers of any text. Conditions: at most 2^47 bytes. -/
import Derived.Test.YtlbeemlnbpchgaaGreatPB
namespace Go.Proofs.YtlbeemlnbpchgaaGreat
open Go.RowKit
theorem toList_tl (s : ByteArray) : s.toList = tl s := ByteArray.toList_eq s
theorem okB_at (l : List UInt8) (k : Nat) (h : k < l.length) (ha : (l.take k).all okB = true) (hk : okB (at8 l k) = true) : (l.take (k + 1)).all okB = true := by
  have e : at8 l k = l[k] := by simp [at8, List.getD, List.getElem?_eq_getElem h]
  rw [e] at hk
  rw [List.take_succ_eq_append_getElem h, List.all_append, ha]; simp [hk]
theorem okB_no (l : List UInt8) (k : Nat) (h : k < l.length) (hk : okB (at8 l k) = false) : nameB l = false := by
  have e : at8 l k = l[k] := by simp [at8, List.getD, List.getElem?_eq_getElem h]
  rw [e] at hk
  have : l.all okB = false := by rw [List.all_eq_false]; exact ⟨_, List.getElem_mem h, by simp [hk]⟩
  simp [nameB, this]
theorem ret_bool {a b : Bool} (h : a = b) : Ending.returned (.bool a) = .returned (.bool b) := by rw [h]
set_option maxRecDepth 100000 in
set_option maxHeartbeats 1000000 in
theorem name_any (s : ByteArray) (w : World) (hs : s.size ≤ 140737488355328) :
    Calls Tryz.prog 128 #[.string s] w fun e w' => e = .returned (.bool (nameB (tl s))) ∧ w = w' := by
  have hc : Hid (s.toList = tl s) := toList_tl s
  have hz : Hid (s.size = (tl s).length) := (tl_length s).symm
  have hcase : (s.toList = []) ∨ (s.toList ≠ [] ∧ 48 < s.size) ∨ (s.toList ≠ [] ∧ s.size ≤ 48 ∧ s.toList = [46]) ∨ (s.toList ≠ [] ∧ s.size ≤ 48 ∧ s.toList ≠ [46] ∧ s.toList = [46, 46]) ∨ (s.toList ≠ [] ∧ s.size ≤ 48 ∧ s.toList ≠ [46] ∧ s.toList ≠ [46, 46]) := by
    by_cases h1 : s.toList = []
    · exact .inl h1
    · by_cases h2 : s.size ≤ 48
      · by_cases h3 : s.toList = [46]
        · exact .inr (.inr (.inl ⟨h1, h2, h3⟩))
        · by_cases h4 : s.toList = [46, 46]
          · exact .inr (.inr (.inr (.inl ⟨h1, h2, h3, h4⟩)))
          · exact .inr (.inr (.inr (.inr ⟨h1, h2, h3, h4⟩)))
      · exact .inr (.inl ⟨h1, by omega⟩)
  rcases hcase with h1 | ⟨h1, h2⟩ | ⟨h1, h2, h3⟩ | ⟨h1, h2, h3, h4⟩ | ⟨h1, h2, h3, h4⟩
  · have hn : Hid (nameB (tl s) = false) := by show _ = _; simp [nameB, headB, ← hc.out, h1]
    go_enter Tryz.func128, Tryz.ntmps128
    go_wp2
    go_step3
    go_wp2
    go_step3
    go_wp2
    go_loopw [3, 23] (fun v i wr => ∃ k : Nat, k ≤ s.size ∧ i = .int .i64 (k : Int) ∧ v = .bool false ∧ w = wr)
      (fun _ i _ => s.size - (intOf i).toNat)
    case atStart => exact ⟨0, by omega, rfl, rfl, rfl⟩
    case round =>
      obtain ⟨k, hk, rfl, rfl, rfl⟩ := hrel
      by_cases hlt : k < s.size
      · have i1 := index_str s k hlt
        generalize at8 (tl s) k = x at i1
        have b1 := b8_nonneg x
        have b2 := b8_lt x
        by_cases c1 : b8 x < 32
        · have HO : Hid (okB x = false) := by show _ = _; simp [okB, c1]
          have t1 : decide (b8 x < 32) = true := by simp [c1]
          clear c1
          go_wp2
          rw [Exit.noGoto_ret]
          go_ret
          exact ⟨ret_bool hn.out.symm, rfl⟩
        · have t1 : decide (b8 x < 32) = false := by simp [c1]
          by_cases c2 : b8 x = 127
          · have HO : Hid (okB x = false) := by show _ = _; simp [okB, c2]
            have t2 : (b8 x == 127) = true := by simp [c2]
            clear c1 c2
            go_wp2
            rw [Exit.noGoto_ret]
            go_ret
            exact ⟨ret_bool hn.out.symm, rfl⟩
          · have t2 : (b8 x == 127) = false := by simp [c2]
            by_cases c3 : b8 x = 47
            · have HO : Hid (okB x = false) := by show _ = _; simp [okB, c3]
              have t3 : (b8 x == 47) = true := by simp [c3]
              clear c1 c2 c3
              go_wp2
              rw [Exit.noGoto_ret]
              go_ret
              exact ⟨ret_bool hn.out.symm, rfl⟩
            · have t3 : (b8 x == 47) = false := by simp [c3]
              have HO : Hid (okB x = true) := by show _ = _; simp [okB, c1, c2, c3]
              clear c1 c2 c3
              go_wp2
              go_roundw
              case rel => exact ⟨k + 1, by omega, by go_num, rfl, trivial⟩
              case measure => simp [intOf]; omega
      · have HK : Hid (k = s.size) := by show _ = _; omega
        go_wp2
        try rw [Exit.noGoto_ret]
        go_ret
        exact ⟨ret_bool hn.out.symm, rfl⟩
  · have g1 : (!s.toList.isEmpty) = true := by simp [h1]
    have g2 : ¬ ((s.size : Int) ≤ 48) := by omega
    have hn : Hid (nameB (tl s) = false) := by show _ = _; simp [nameB, headB, ← hz.out]; omega
    clear h1 h2
    go_enter Tryz.func128, Tryz.ntmps128
    go_wp2
    go_step3
    go_wp2
    go_step3
    go_wp2
    go_loopw [3, 23] (fun v i wr => ∃ k : Nat, k ≤ s.size ∧ i = .int .i64 (k : Int) ∧ v = .bool false ∧ w = wr)
      (fun _ i _ => s.size - (intOf i).toNat)
    case atStart => exact ⟨0, by omega, rfl, rfl, rfl⟩
    case round =>
      obtain ⟨k, hk, rfl, rfl, rfl⟩ := hrel
      by_cases hlt : k < s.size
      · have i1 := index_str s k hlt
        generalize at8 (tl s) k = x at i1
        have b1 := b8_nonneg x
        have b2 := b8_lt x
        by_cases c1 : b8 x < 32
        · have HO : Hid (okB x = false) := by show _ = _; simp [okB, c1]
          have t1 : decide (b8 x < 32) = true := by simp [c1]
          clear c1
          go_wp2
          rw [Exit.noGoto_ret]
          go_ret
          exact ⟨ret_bool hn.out.symm, rfl⟩
        · have t1 : decide (b8 x < 32) = false := by simp [c1]
          by_cases c2 : b8 x = 127
          · have HO : Hid (okB x = false) := by show _ = _; simp [okB, c2]
            have t2 : (b8 x == 127) = true := by simp [c2]
            clear c1 c2
            go_wp2
            rw [Exit.noGoto_ret]
            go_ret
            exact ⟨ret_bool hn.out.symm, rfl⟩
          · have t2 : (b8 x == 127) = false := by simp [c2]
            by_cases c3 : b8 x = 47
            · have HO : Hid (okB x = false) := by show _ = _; simp [okB, c3]
              have t3 : (b8 x == 47) = true := by simp [c3]
              clear c1 c2 c3
              go_wp2
              rw [Exit.noGoto_ret]
              go_ret
              exact ⟨ret_bool hn.out.symm, rfl⟩
            · have t3 : (b8 x == 47) = false := by simp [c3]
              have HO : Hid (okB x = true) := by show _ = _; simp [okB, c1, c2, c3]
              clear c1 c2 c3
              go_wp2
              go_roundw
              case rel => exact ⟨k + 1, by omega, by go_num, rfl, trivial⟩
              case measure => simp [intOf]; omega
      · have HK : Hid (k = s.size) := by show _ = _; omega
        go_wp2
        try rw [Exit.noGoto_ret]
        go_ret
        exact ⟨ret_bool hn.out.symm, rfl⟩
  · have g1 : (!s.toList.isEmpty) = true := by simp [h1]
    have g2 : ((s.size : Int) ≤ 48) := by omega
    have g3 : (!s.toList == [46]) = false := by simp [h3]
    have hn : Hid (nameB (tl s) = false) := by show _ = _; simp [nameB, headB, ← hc.out, h3]
    clear h1 h2 h3
    go_enter Tryz.func128, Tryz.ntmps128
    go_wp2
    go_step3
    go_wp2
    go_step3
    go_wp2
    go_loopw [3, 23] (fun v i wr => ∃ k : Nat, k ≤ s.size ∧ i = .int .i64 (k : Int) ∧ v = .bool false ∧ w = wr)
      (fun _ i _ => s.size - (intOf i).toNat)
    case atStart => exact ⟨0, by omega, rfl, rfl, rfl⟩
    case round =>
      obtain ⟨k, hk, rfl, rfl, rfl⟩ := hrel
      by_cases hlt : k < s.size
      · have i1 := index_str s k hlt
        generalize at8 (tl s) k = x at i1
        have b1 := b8_nonneg x
        have b2 := b8_lt x
        by_cases c1 : b8 x < 32
        · have HO : Hid (okB x = false) := by show _ = _; simp [okB, c1]
          have t1 : decide (b8 x < 32) = true := by simp [c1]
          clear c1
          go_wp2
          rw [Exit.noGoto_ret]
          go_ret
          exact ⟨ret_bool hn.out.symm, rfl⟩
        · have t1 : decide (b8 x < 32) = false := by simp [c1]
          by_cases c2 : b8 x = 127
          · have HO : Hid (okB x = false) := by show _ = _; simp [okB, c2]
            have t2 : (b8 x == 127) = true := by simp [c2]
            clear c1 c2
            go_wp2
            rw [Exit.noGoto_ret]
            go_ret
            exact ⟨ret_bool hn.out.symm, rfl⟩
          · have t2 : (b8 x == 127) = false := by simp [c2]
            by_cases c3 : b8 x = 47
            · have HO : Hid (okB x = false) := by show _ = _; simp [okB, c3]
              have t3 : (b8 x == 47) = true := by simp [c3]
              clear c1 c2 c3
              go_wp2
              rw [Exit.noGoto_ret]
              go_ret
              exact ⟨ret_bool hn.out.symm, rfl⟩
            · have t3 : (b8 x == 47) = false := by simp [c3]
              have HO : Hid (okB x = true) := by show _ = _; simp [okB, c1, c2, c3]
              clear c1 c2 c3
              go_wp2
              go_roundw
              case rel => exact ⟨k + 1, by omega, by go_num, rfl, trivial⟩
              case measure => simp [intOf]; omega
      · have HK : Hid (k = s.size) := by show _ = _; omega
        go_wp2
        try rw [Exit.noGoto_ret]
        go_ret
        exact ⟨ret_bool hn.out.symm, rfl⟩
  · have g1 : (!s.toList.isEmpty) = true := by simp [h1]
    have g2 : ((s.size : Int) ≤ 48) := by omega
    have g3 : (!s.toList == [46]) = true := by simp [h3]
    have g4 : (!s.toList == [46, 46]) = false := by simp [h4]
    have hn : Hid (nameB (tl s) = false) := by show _ = _; simp [nameB, headB, ← hc.out, h4]
    clear h1 h2 h3 h4
    go_enter Tryz.func128, Tryz.ntmps128
    go_wp2
    go_step3
    go_wp2
    go_step3
    go_wp2
    go_loopw [3, 23] (fun v i wr => ∃ k : Nat, k ≤ s.size ∧ i = .int .i64 (k : Int) ∧ v = .bool false ∧ w = wr)
      (fun _ i _ => s.size - (intOf i).toNat)
    case atStart => exact ⟨0, by omega, rfl, rfl, rfl⟩
    case round =>
      obtain ⟨k, hk, rfl, rfl, rfl⟩ := hrel
      by_cases hlt : k < s.size
      · have i1 := index_str s k hlt
        generalize at8 (tl s) k = x at i1
        have b1 := b8_nonneg x
        have b2 := b8_lt x
        by_cases c1 : b8 x < 32
        · have HO : Hid (okB x = false) := by show _ = _; simp [okB, c1]
          have t1 : decide (b8 x < 32) = true := by simp [c1]
          clear c1
          go_wp2
          rw [Exit.noGoto_ret]
          go_ret
          exact ⟨ret_bool hn.out.symm, rfl⟩
        · have t1 : decide (b8 x < 32) = false := by simp [c1]
          by_cases c2 : b8 x = 127
          · have HO : Hid (okB x = false) := by show _ = _; simp [okB, c2]
            have t2 : (b8 x == 127) = true := by simp [c2]
            clear c1 c2
            go_wp2
            rw [Exit.noGoto_ret]
            go_ret
            exact ⟨ret_bool hn.out.symm, rfl⟩
          · have t2 : (b8 x == 127) = false := by simp [c2]
            by_cases c3 : b8 x = 47
            · have HO : Hid (okB x = false) := by show _ = _; simp [okB, c3]
              have t3 : (b8 x == 47) = true := by simp [c3]
              clear c1 c2 c3
              go_wp2
              rw [Exit.noGoto_ret]
              go_ret
              exact ⟨ret_bool hn.out.symm, rfl⟩
            · have t3 : (b8 x == 47) = false := by simp [c3]
              have HO : Hid (okB x = true) := by show _ = _; simp [okB, c1, c2, c3]
              clear c1 c2 c3
              go_wp2
              go_roundw
              case rel => exact ⟨k + 1, by omega, by go_num, rfl, trivial⟩
              case measure => simp [intOf]; omega
      · have HK : Hid (k = s.size) := by show _ = _; omega
        go_wp2
        try rw [Exit.noGoto_ret]
        go_ret
        exact ⟨ret_bool hn.out.symm, rfl⟩
  · have g1 : (!s.toList.isEmpty) = true := by simp [h1]
    have g2 : ((s.size : Int) ≤ 48) := by omega
    have g3 : (!s.toList == [46]) = true := by simp [h3]
    have g4 : (!s.toList == [46, 46]) = true := by simp [h4]
    have hn : Hid (headB (tl s) = true) := by show _ = _; simp [headB, ← hc.out, h1, h3, h4]; rw [hc.out, ← hz.out]; exact h2
    clear h1 h2 h3 h4
    go_enter Tryz.func128, Tryz.ntmps128
    go_wp2
    go_step3
    go_wp2
    go_step3
    go_wp2
    go_loopw [3, 23] (fun v i wr => ∃ k : Nat, k ≤ s.size ∧ i = .int .i64 (k : Int) ∧ v = .bool true ∧ Hid (((tl s).take k).all okB = true) ∧ w = wr)
      (fun _ i _ => s.size - (intOf i).toNat)
    case atStart => exact ⟨0, by omega, rfl, rfl, rfl, rfl⟩
    case round =>
      obtain ⟨k, hk, rfl, rfl, HA, rfl⟩ := hrel
      by_cases hlt : k < s.size
      · have i1 := index_str s k hlt
        have HY := hid (okB_at (tl s) k (by rw [tl_length]; exact hlt) HA.out)
        have HN := hid (okB_no (tl s) k (by rw [tl_length]; exact hlt))
        generalize at8 (tl s) k = x at i1 HY HN
        have b1 := b8_nonneg x
        have b2 := b8_lt x
        by_cases c1 : b8 x < 32
        · have HO : Hid (okB x = false) := by show _ = _; simp [okB, c1]
          have t1 : decide (b8 x < 32) = true := by simp [c1]
          clear c1
          go_wp2
          rw [Exit.noGoto_ret]
          go_ret
          exact ⟨ret_bool (HN.out HO.out).symm, rfl⟩
        · have t1 : decide (b8 x < 32) = false := by simp [c1]
          by_cases c2 : b8 x = 127
          · have HO : Hid (okB x = false) := by show _ = _; simp [okB, c2]
            have t2 : (b8 x == 127) = true := by simp [c2]
            clear c1 c2
            go_wp2
            rw [Exit.noGoto_ret]
            go_ret
            exact ⟨ret_bool (HN.out HO.out).symm, rfl⟩
          · have t2 : (b8 x == 127) = false := by simp [c2]
            by_cases c3 : b8 x = 47
            · have HO : Hid (okB x = false) := by show _ = _; simp [okB, c3]
              have t3 : (b8 x == 47) = true := by simp [c3]
              clear c1 c2 c3
              go_wp2
              rw [Exit.noGoto_ret]
              go_ret
              exact ⟨ret_bool (HN.out HO.out).symm, rfl⟩
            · have t3 : (b8 x == 47) = false := by simp [c3]
              have HO : Hid (okB x = true) := by show _ = _; simp [okB, c1, c2, c3]
              clear c1 c2 c3
              go_wp2
              go_roundw
              case rel => exact ⟨k + 1, by omega, by go_num, rfl, HY.out HO.out, trivial⟩
              case measure => simp [intOf]; omega
      · have HK : Hid (k = s.size) := by show _ = _; omega
        go_wp2
        try rw [Exit.noGoto_ret]
        go_ret
        refine ⟨ret_bool ?_, rfl⟩
        have ha := HA.out
        rw [List.take_of_length_le (by rw [tl_length, HK.out]; exact Nat.le_refl _)] at ha
        simp [nameB, hn.out, ha]
end Go.Proofs.YtlbeemlnbpchgaaGreat
