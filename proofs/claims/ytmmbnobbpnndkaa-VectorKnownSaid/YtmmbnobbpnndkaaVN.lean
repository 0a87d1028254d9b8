/- The law VectorKnown: what its call does. No conditions. -/
import Derived.Test.YtmmbnobbpnndkaaVL
namespace Go.Proofs.Ytmmbnobbpnndkaa
open Go.RowKit
theorem none_rows (w : World) : VRows w none [] 0 0 :=
  ⟨fun h => absurd h (by simp), fun k hk => absurd hk (by simp), fun k hk => absurd hk (by simp), fun h => absurd h (by simp)⟩
theorem merge_none (w : World) : Calls Try.prog 12 #[.slice none 0 0] w fun e w' => e = .returned (.agg (vec zero16)) ∧ Below w.heap.size w w' :=
  (merge_any [] none 0 0 0 0 w rfl (by omega) (none_rows w)).mono fun _ _ ⟨h1, h2⟩ => ⟨by rw [h1]; rfl, h2⟩
theorem most_cell : #[Value.int .u32 4294967295] = ([4294967295#32].map V32).toArray := by simp [V32, u]
set_option maxRecDepth 100000 in
set_option maxHeartbeats 4000000 in
theorem knownLaw_any (w : World) : Calls Try.prog 6 #[] w fun e w' => e = .returned (.bool true) ∧ Below w.heap.size w w' := by
  obtain ⟨v05, Hv05⟩ : ∃ r, Hid (ofTo [0, 5] 2 = r) := ⟨_, rfl⟩
  have Lv05 : Hid (v05.length = 16) := by rw [← Hv05.out]; exact ofTo_len _ _
  obtain ⟨v09, Hv09⟩ : ∃ r, Hid (ofTo [0, 9] 2 = r) := ⟨_, rfl⟩
  have Lv09 : Hid (v09.length = 16) := by rw [← Hv09.out]; exact ofTo_len _ _
  obtain ⟨v15, Hv15⟩ : ∃ r, Hid (ofTo [1, 5] 2 = r) := ⟨_, rfl⟩
  have Lv15 : Hid (v15.length = 16) := by rw [← Hv15.out]; exact ofTo_len _ _
  obtain ⟨v1, Hv1⟩ : ∃ r, Hid (ofTo [1] 1 = r) := ⟨_, rfl⟩
  have Lv1 : Hid (v1.length = 16) := by rw [← Hv1.out]; exact ofTo_len _ _
  obtain ⟨vm, Hvm⟩ : ∃ r, Hid (ofTo [4294967295#32] 1 = r) := ⟨_, rfl⟩
  have Lvm : Hid (vm.length = 16) := by rw [← Hvm.out]; exact ofTo_len _ _
  obtain ⟨v12, Hv12⟩ : ∃ r, Hid (ofTo [1, 2] 2 = r) := ⟨_, rfl⟩
  have Lv12 : Hid (v12.length = 16) := by rw [← Hv12.out]; exact ofTo_len _ _
  obtain ⟨v11, Hv11⟩ : ∃ r, Hid (ofTo [1, 1] 2 = r) := ⟨_, rfl⟩
  have Lv11 : Hid (v11.length = 16) := by rw [← Hv11.out]; exact ofTo_len _ _
  obtain ⟨v01, Hv01⟩ : ∃ r, Hid (ofTo [0, 1] 2 = r) := ⟨_, rfl⟩
  have Lv01 : Hid (v01.length = 16) := by rw [← Hv01.out]; exact ofTo_len _ _
  have E1 : Hid (bumpV v05 2 9 = (v09, 0)) := by show _ = _; rw [← Hv05.out, ← Hv09.out]; decide +kernel
  have E2 : Hid (bumpV v05 1 0 = (v15, 0)) := by show _ = _; rw [← Hv05.out, ← Hv15.out]; decide +kernel
  have E3 : Hid (bumpV v1 0 1 = (zero16, 2)) := by show _ = _; rw [← Hv1.out]; decide +kernel
  have E4 : Hid (bumpV v1 17 1 = (zero16, 2)) := by show _ = _; rw [← Hv1.out]; decide +kernel
  have E5 : Hid (bumpV v1 1 (-1) = (zero16, 2)) := by show _ = _; rw [← Hv1.out]; decide +kernel
  have E6 : Hid (bumpV vm 1 1 = (zero16, 13)) := by show _ = _; rw [← Hvm.out]; decide +kernel
  have E7 : Hid (bumpV zero16 1 4294967296 = (zero16, 13)) := by show _ = _; decide +kernel
  have E8 : Hid (bumpV zero16 1 4294967295 = (vm, 0)) := by show _ = _; rw [← Hvm.out]; decide +kernel
  have F1 : Hid (cmpV v12 v12 = 0) := by show _ = _; rw [← Hv12.out]; decide +kernel
  have F2 : Hid (cmpV v12 v11 = 1) := by show _ = _; rw [← Hv12.out, ← Hv11.out]; decide +kernel
  have F3 : Hid (cmpV zero16 v01 = -1) := by show _ = _; rw [← Hv01.out]; decide +kernel
  have G1 : Hid (leastN v05 16 0 = .tuple #[.int .i64 2, .bool true]) := by show _ = _; rw [← Hv05.out]; kernel_rfl
  have G2 : Hid (leastN zero16 16 0 = .tuple #[.int .i64 0, .bool false]) := by show _ = _; kernel_rfl
  have SZ := hid (sameV_refl zero16)
  go_enter Try.func6, Try.ntmps6
  go_wp2_with fail
  refine (awake_any _).mono ?_; rintro ee w1 ⟨rfl, hb⟩; have B1 := hid hb; clear hb
  go_wp2_with fail
  refine (of_lit [0, 5] 2 w1.heap.size _ v05 _ rfl (by omega) rfl Hv05.out rfl).mono ?_; rintro ee w2 ⟨rfl, hb⟩; have B2 := two_le B1 hb; clear B1; clear hb
  go_wp2_with fail
  refine (of_lit [0, 9] 2 w2.heap.size _ v09 _ rfl (by omega) rfl Hv09.out rfl).mono ?_; rintro ee w3 ⟨rfl, hb⟩; have B3 := two_le B2 hb; clear B2; clear hb
  go_wp2_with fail
  refine (bumps_yes v05 v09 Lv05.out Lv09.out 2 9 E1.out _).mono ?_; rintro ee w4 ⟨rfl, hb⟩; have B4 := two_le B3 hb; clear B3; clear hb
  go_wp2_with fail
  refine (of_lit [0, 5] 2 w4.heap.size _ v05 _ rfl (by omega) rfl Hv05.out rfl).mono ?_; rintro ee w5 ⟨rfl, hb⟩; have B5 := two_le B4 hb; clear B4; clear hb
  go_wp2_with fail
  refine (of_lit [1, 5] 2 w5.heap.size _ v15 _ rfl (by omega) rfl Hv15.out rfl).mono ?_; rintro ee w6 ⟨rfl, hb⟩; have B6 := two_le B5 hb; clear B5; clear hb
  go_wp2_with fail
  refine (bumps_yes v05 v15 Lv05.out Lv15.out 1 0 E2.out _).mono ?_; rintro ee w7 ⟨rfl, hb⟩; have B7 := two_le B6 hb; clear B6; clear hb
  go_wp2_with fail
  refine (of_lit [1] 1 w7.heap.size _ v1 _ rfl (by omega) rfl Hv1.out rfl).mono ?_; rintro ee w8 ⟨rfl, hb⟩; have B8 := two_le B7 hb; clear B7; clear hb
  go_wp2_with fail
  refine (no_yes v1 Lv1.out 0 1 2 E3.out _).mono ?_; rintro ee w9 ⟨rfl, hb⟩; have B9 := two_le B8 hb; clear B8; clear hb
  go_wp2_with fail
  refine (of_lit [1] 1 w9.heap.size _ v1 _ rfl (by omega) rfl Hv1.out rfl).mono ?_; rintro ee w10 ⟨rfl, hb⟩; have B10 := two_le B9 hb; clear B9; clear hb
  go_wp2_with fail
  refine (no_yes v1 Lv1.out 17 1 2 E4.out _).mono ?_; rintro ee w11 ⟨rfl, hb⟩; have B11 := two_le B10 hb; clear B10; clear hb
  go_wp2_with fail
  refine (of_lit [1] 1 w11.heap.size _ v1 _ rfl (by omega) rfl Hv1.out rfl).mono ?_; rintro ee w12 ⟨rfl, hb⟩; have B12 := two_le B11 hb; clear B11; clear hb
  go_wp2_with fail
  refine (no_yes v1 Lv1.out 1 (-1) 2 E5.out _).mono ?_; rintro ee w13 ⟨rfl, hb⟩; have B13 := two_le B12 hb; clear B12; clear hb
  go_wp2_with fail
  refine (of_lit [4294967295#32] 1 w13.heap.size _ vm _ rfl (by omega) most_cell Hvm.out rfl).mono ?_; rintro ee w14 ⟨rfl, hb⟩; have B14 := two_le B13 hb; clear B13; clear hb
  go_wp2_with fail
  refine (no_yes vm Lvm.out 1 1 13 E6.out _).mono ?_; rintro ee w15 ⟨rfl, hb⟩; have B15 := two_le B14 hb; clear B14; clear hb
  go_wp2_with fail
  refine (of_none _).mono ?_; rintro ee w16 ⟨rfl, hb⟩; have B16 := two_le B15 hb; clear B15; clear hb
  go_wp2_with fail
  refine (no_yes zero16 zero_len 1 4294967296 13 E7.out _).mono ?_; rintro ee w17 ⟨rfl, hb⟩; have B17 := two_le B16 hb; clear B16; clear hb
  go_wp2_with fail
  refine (of_none _).mono ?_; rintro ee w18 ⟨rfl, hb⟩; have B18 := two_le B17 hb; clear B17; clear hb
  go_wp2_with fail
  refine (of_lit [4294967295#32] 1 w18.heap.size _ vm _ rfl (by omega) most_cell Hvm.out rfl).mono ?_; rintro ee w19 ⟨rfl, hb⟩; have B19 := two_le B18 hb; clear B18; clear hb
  go_wp2_with fail
  refine (bumps_yes zero16 vm zero_len Lvm.out 1 4294967295 E8.out _).mono ?_; rintro ee w20 ⟨rfl, hb⟩; have B20 := two_le B19 hb; clear B19; clear hb
  go_wp2_with fail
  refine (of_lit [0, 5] 2 w20.heap.size _ v05 _ rfl (by omega) rfl Hv05.out rfl).mono ?_; rintro ee w21 ⟨rfl, hb⟩; have B21 := two_le B20 hb; clear B20; clear hb
  go_wp2_with fail
  refine (least_any v05 Lv05.out _).mono ?_; rintro ee w22 ⟨rfl, hb⟩; have B22 := two_le B21 hb; clear B21; clear hb
  rw [G1.out]
  go_wp2_with fail
  refine (of_none _).mono ?_; rintro ee w23 ⟨rfl, hb⟩; have B23 := two_le B22 hb; clear B22; clear hb
  go_wp2_with fail
  refine (least_any zero16 zero_len _).mono ?_; rintro ee w24 ⟨rfl, hb⟩; have B24 := two_le B23 hb; clear B23; clear hb
  rw [G2.out]
  go_wp2_with fail
  refine (of_lit [1, 2] 2 w24.heap.size _ v12 _ rfl (by omega) rfl Hv12.out rfl).mono ?_; rintro ee w25 ⟨rfl, hb⟩; have B25 := two_le B24 hb; clear B24; clear hb
  go_wp2_with fail
  refine (of_lit [1, 2] 2 w25.heap.size _ v12 _ rfl (by omega) rfl Hv12.out rfl).mono ?_; rintro ee w26 ⟨rfl, hb⟩; have B26 := two_le B25 hb; clear B25; clear hb
  go_wp2_with fail
  refine (cmp_any v12 v12 Lv12.out Lv12.out _).mono ?_; rintro ee w27 ⟨rfl, hb⟩; have B27 := two_le B26 hb; clear B26; clear hb
  rw [F1.out]
  go_wp2_with fail
  refine (of_lit [1, 2] 2 w27.heap.size _ v12 _ rfl (by omega) rfl Hv12.out rfl).mono ?_; rintro ee w28 ⟨rfl, hb⟩; have B28 := two_le B27 hb; clear B27; clear hb
  go_wp2_with fail
  refine (of_lit [1, 1] 2 w28.heap.size _ v11 _ rfl (by omega) rfl Hv11.out rfl).mono ?_; rintro ee w29 ⟨rfl, hb⟩; have B29 := two_le B28 hb; clear B28; clear hb
  go_wp2_with fail
  refine (cmp_any v12 v11 Lv12.out Lv11.out _).mono ?_; rintro ee w30 ⟨rfl, hb⟩; have B30 := two_le B29 hb; clear B29; clear hb
  rw [F2.out]
  go_wp2_with fail
  refine (of_none _).mono ?_; rintro ee w31 ⟨rfl, hb⟩; have B31 := two_le B30 hb; clear B30; clear hb
  go_wp2_with fail
  refine (of_lit [0, 1] 2 w31.heap.size _ v01 _ rfl (by omega) rfl Hv01.out rfl).mono ?_; rintro ee w32 ⟨rfl, hb⟩; have B32 := two_le B31 hb; clear B31; clear hb
  go_wp2_with fail
  refine (cmp_any zero16 v01 zero_len Lv01.out _).mono ?_; rintro ee w33 ⟨rfl, hb⟩; have B33 := two_le B32 hb; clear B32; clear hb
  rw [F3.out]
  go_wp2_with fail
  refine (merge_none _).mono ?_; rintro ee w34 ⟨rfl, hb⟩; have B34 := two_le B33 hb; clear B33; clear hb
  go_wp2_with fail
  refine (of_none _).mono ?_; rintro ee w35 ⟨rfl, hb⟩; have B35 := two_le B34 hb; clear B34; clear hb
  go_wp2_with (refine wpList_eql_vec (by rfl) (.tmp 90) (.tmp 91) rfl zero16 zero16 rfl rfl zero_len zero_len _ SZ.out ?_)
  go_ret
  exact ⟨rfl, B35.out⟩
end Go.Proofs.Ytmmbnobbpnndkaa
