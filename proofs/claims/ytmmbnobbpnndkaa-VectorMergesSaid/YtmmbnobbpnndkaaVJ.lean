/- Versions: the laws' helpers no and awake. No conditions. -/
import Derived.Test.YtmmbnobbpnndkaaVI
namespace Go.Proofs.Ytmmbnobbpnndkaa
open Go.RowKit
theorem no_lay (w w1 : World) (A : Array Value) (l : List (BitVec 32)) (hb : Below (w.alloc (.cells A 24)).heap.size (w.alloc (.cells A 24)) w1) :
    ∃ W2, (w1.alloc (.cells zeroA 24)).setRow w1.heap.size (vec l) = W2 ∧ Hid (Has W2 w1.heap.size 24 (vec l)) ∧ Hid (Below w.heap.size w W2) := by
  have hs := hb.size
  simp at hs
  refine ⟨_, rfl, ?_, ?_⟩
  · exact Has.row (Has.fresh w1 24 zeroA)
  · exact ((((Below.refl _ _).alloc (Nat.le_refl _) _).trans (hb.mono (by simp))).alloc (by omega) _).rowK (by omega) _
set_option maxRecDepth 100000 in
set_option maxHeartbeats 400000 in
theorem no_yes (v : List (BitVec 32)) (hv : v.length = 16) (dev time err : Int) (h : bumpV v dev time = (zero16, err)) (w : World) :
    Calls Try.prog 22 #[.agg (vec v), .int .i64 dev, .int .i64 time, .int .i64 err] w fun e w' => e = .returned (.bool true) ∧ Below w.heap.size w w' := by
  have CB : Hid (∀ w, Calls Try.prog 9 #[.agg (vec v), .int .i64 dev, .int .i64 time] w fun e w' => e = .returned (.tuple #[.agg (vec zero16), .int .i64 err]) ∧ Below w.heap.size w w') := fun w => by
    have := bump_any v hv dev time w
    rw [h] at this; exact this
  have L0 := hid (load_vec (Has.fresh w 24 (vec v)) hv)
  have Y1 := size_vec _ zero_len
  have Y2 := size_zero _ zero_len
  have HSM := hid (sameV_refl zero16)
  clear h hv
  go_enter Try.func22, Try.ntmps22
  go_wp2_with (first
    | (refine wpList_load_g (by rfl) 24 (.tmp 4) rfl w.heap.size 0 rfl (vec v) L0.out ?_)
    | (go_at_call 9; refine (CB.out _).mono ?_; rintro ee w1 ⟨rfl, hb1⟩)
    | (refine wpList_store_row rfl 24 (.tmp 9) (.tmp 16) rfl w1.heap.size (vec zero16) rfl rfl 24 zeroA (Has.fresh w1 24 zeroA) Y1.out Y2.out (vec_one _) ?_
       generalize hG : World.setRow _ _ _ = W3
       obtain ⟨V0, hG0, B2, B3⟩ := no_lay w w1 (vec v) zero16 hb1
       obtain rfl : V0 = W3 := hG0.symm.trans hG
       have LN := hid (load_vec B2.out zero_len)
       clear hG hG0 hb1 L0)
    | (refine wpList_load_g (by rfl) 24 (.tmp 9) rfl w1.heap.size 0 rfl (vec zero16) LN.out ?_)
    | (refine wpList_eql_vec (by rfl) (.tmp 22) (.tmp 23) rfl zero16 zero16 rfl rfl zero_len zero_len _ HSM.out ?_))
  go_ret
  exact ⟨rfl, B3.out⟩
theorem two_le {w w1 : World} (h : Hid (Below w.heap.size w w1)) {w2 : World} (h2 : Below w1.heap.size w1 w2) : Hid (Below w.heap.size w w2) := h.out.trans (h2.mono h.out.size)
theorem ofTwo_len (x y : BitVec 32) : Hid ((ofTo [x, y] 2).length = 16) := ofTo_len _ _
set_option maxRecDepth 100000 in
set_option maxHeartbeats 1000000 in
theorem awake_any (w : World) : Calls Try.prog 11 #[] w fun e w' => e = .returned (.bool true) ∧ Below w.heap.size w w' := by
  obtain ⟨a05, H05⟩ : ∃ r, Hid (ofTo [0, 5] 2 = r) := ⟨_, rfl⟩
  obtain ⟨a06, H06⟩ : ∃ r, Hid (ofTo [0, 6] 2 = r) := ⟨_, rfl⟩
  obtain ⟨a10, H10⟩ : ∃ r, Hid (ofTo [1, 0] 2 = r) := ⟨_, rfl⟩
  obtain ⟨a01, H01⟩ : ∃ r, Hid (ofTo [0, 1] 2 = r) := ⟨_, rfl⟩
  obtain ⟨a15, H15⟩ : ∃ r, Hid (ofTo [1, 5] 2 = r) := ⟨_, rfl⟩
  obtain ⟨a32, H32⟩ : ∃ r, Hid (ofTo [3, 2] 2 = r) := ⟨_, rfl⟩
  obtain ⟨a35, H35⟩ : ∃ r, Hid (ofTo [3, 5] 2 = r) := ⟨_, rfl⟩
  have L05 : Hid (a05.length = 16) := by rw [← H05.out]; exact ofTwo_len _ _
  have L06 : Hid (a06.length = 16) := by rw [← H06.out]; exact ofTwo_len _ _
  have L10 : Hid (a10.length = 16) := by rw [← H10.out]; exact ofTwo_len _ _
  have L01 : Hid (a01.length = 16) := by rw [← H01.out]; exact ofTwo_len _ _
  have L15 : Hid (a15.length = 16) := by rw [← H15.out]; exact ofTwo_len _ _
  have L32 : Hid (a32.length = 16) := by rw [← H32.out]; exact ofTwo_len _ _
  have L35 : Hid (a35.length = 16) := by rw [← H35.out]; exact ofTwo_len _ _
  have E1 : Hid (bumpV a05 2 3 = (a06, 0)) := by show _ = _; rw [← H05.out, ← H06.out]; decide +kernel
  have E2 : Hid (cmpV a10 a01 = 2) := by show _ = _; rw [← H10.out, ← H01.out]; decide +kernel
  have E3 : Hid (mergeAll [a15, a32] 2 = a35) := by show _ = _; rw [← H15.out, ← H32.out, ← H35.out]; decide +kernel
  have E4 : Hid (sumN a15 16 = 6) := by show _ = _; rw [← H15.out]; decide +kernel
  have S1 := hid (sameV_refl a35)
  go_enter Try.func11, Try.ntmps11
  go_wp2_with fail
  refine (of_lit [0, 5] 2 w.heap.size _ a05 w rfl (by omega) rfl H05.out rfl).mono ?_; rintro e1 w1 ⟨rfl, hb1⟩; have B1 := hid hb1; clear hb1
  go_wp2_with fail
  refine (of_lit [0, 6] 2 w1.heap.size _ a06 w1 rfl (by omega) rfl H06.out rfl).mono ?_; rintro e1 w2 ⟨rfl, hb1⟩; have B2 := two_le B1 hb1; clear hb1
  go_wp2_with fail
  refine (bumps_yes a05 a06 L05.out L06.out 2 3 E1.out _).mono ?_; rintro e1 w3 ⟨rfl, hb1⟩; have B3 := two_le B2 hb1; clear hb1
  go_wp2_with fail
  refine (of_lit [1, 0] 2 w3.heap.size _ a10 w3 rfl (by omega) rfl H10.out rfl).mono ?_; rintro e1 w4 ⟨rfl, hb1⟩; have B4 := two_le B3 hb1; clear hb1
  go_wp2_with fail
  refine (of_lit [0, 1] 2 w4.heap.size _ a01 w4 rfl (by omega) rfl H01.out rfl).mono ?_; rintro e1 w5 ⟨rfl, hb1⟩; have B5 := two_le B4 hb1; clear hb1
  go_wp2_with fail
  refine (cmp_any a10 a01 L10.out L01.out _).mono ?_; rintro e1 w6 ⟨rfl, hb1⟩; have B6 := two_le B5 hb1; clear hb1
  rw [E2.out]
  go_wp2_with fail
  refine (of_lit [1, 5] 2 w6.heap.size _ a15 w6 rfl (by omega) rfl H15.out rfl).mono ?_; rintro e1 w7 ⟨rfl, hb1⟩; have B7 := two_le B6 hb1; clear hb1
  go_wp2_with fail
  refine (of_lit [3, 2] 2 w7.heap.size _ a32 w7 rfl (by omega) rfl H32.out rfl).mono ?_; rintro e1 w8 ⟨rfl, hb1⟩; have B8 := two_le B7 hb1; clear hb1
  have L2 := hid (two16 L15.out L32.out)
  have R8 := hid (vrows_fresh w8 [a15, a32] L2.out)
  go_wp2_with (refine wpList_build_vecs (by rfl) [a15, a32] 2 _ rfl rfl (by omega) (by omega) L2.out rfl ?_)
  refine (merge_lit [a15, a32] 2 w8.heap.size rfl (by omega) a35 E3.out _ R8.out).mono ?_; rintro e1 w9 ⟨rfl, hb1⟩
  have B9 : Hid (Below w.heap.size w w9) := (B8.out.alloc B8.out.size _).trans (hb1.mono (by have := B8.out.size; simp; omega)); clear hb1
  go_wp2_with fail
  refine (of_lit [3, 5] 2 w9.heap.size _ a35 w9 rfl (by omega) rfl H35.out rfl).mono ?_; rintro e1 w10 ⟨rfl, hb1⟩; have B10 := two_le B9 hb1; clear hb1
  go_wp2_with (refine wpList_eql_vec (by rfl) (.tmp 20) (.tmp 22) rfl a35 a35 rfl rfl L35.out L35.out _ S1.out ?_)
  refine (of_lit [1, 5] 2 w10.heap.size _ a15 w10 rfl (by omega) rfl H15.out rfl).mono ?_; rintro e1 w11 ⟨rfl, hb1⟩; have B11 := two_le B10 hb1; clear hb1
  go_wp2_with fail
  refine (sum_any a15 L15.out _).mono ?_; rintro e1 w12 ⟨rfl, hb1⟩; have B12 := two_le B11 hb1; clear hb1
  rw [E4.out]
  go_wp2
  go_ret
  exact ⟨rfl, B12.out⟩
end Go.Proofs.Ytmmbnobbpnndkaa
