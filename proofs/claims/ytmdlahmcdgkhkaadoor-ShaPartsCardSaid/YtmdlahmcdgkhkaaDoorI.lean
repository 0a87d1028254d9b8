/- sha.firstWords, sha.New, (*sha.State).Len, (*sha.State).Write. Conditions: those of take. -/
import Derived.Test.YtmdlahmcdgkhkaaDoorG
namespace Go.Proofs.YtmdlahmcdgkhkaaDoor
open Go.RowKit
def hList : List (BitVec 32) := [0x6a09e667, 0xbb67ae85, 0x3c6ef372, 0xa54ff53a, 0x510e527f, 0x9b05688c, 0x1f83d9ab, 0x5be0cd19]
def h0Arr : Array Value := #[.int .u32 1779033703, .int .u32 3144134277, .int .u32 1013904242, .int .u32 2773480762, .int .u32 1359893119, .int .u32 2600822924, .int .u32 528734635, .int .u32 1541459225]
theorem h0_vec : h0Arr = vec hList := rfl
def newS : SS := ⟨hList, List.replicate 64 0, 0⟩
theorem newS_ok : newS.Ok := ⟨rfl, rfl⟩
set_option maxHeartbeats 400000 in
theorem fw_any (w : World) : Calls Tryd.prog 29 #[] w fun e w' => e = .returned (.agg h0Arr) ∧ Below w.heap.size w w' := by
  go_enter Tryd.func29, Tryd.ntmps29
  go_wp2
  refine bodyPost_ret (results_cell_row rfl _ _ w.heap.size 34 h0Arr (0, 0) _ rfl (heap_alloc_new w _) Tryd.underlying34 rfl i34) rfl ⟨rfl, ?_⟩
  exact (Below.refl _ _).alloc (Nat.le_refl _) _
set_option maxRecDepth 100000 in
set_option maxHeartbeats 400000 in
theorem new_any (w : World) : Calls Tryd.prog 16 #[] w fun e w' => ∃ g, w.heap.size ≤ g ∧ e = .returned (.pointer (some ⟨g, 0, none⟩)) ∧ Sta w' g newS ∧ Below w.heap.size w w' := by
  go_enter Tryd.func16, Tryd.ntmps16
  go_wp2_with (first
    | (go_at_call 29; refine (fw_any _).mono ?_; rintro e1 w1 ⟨rfl, hb1⟩)
    | (refine wpList_build rfl 37 _ rfl (by kernel_rfl) ?_))
  have hB : (Tryd.prog.built 37 [(0, Value.bool true), (1, Value.agg h0Arr)]).getD #[] = newS.cells.toArray := by kernel_rfl
  go_ret
  refine ⟨w1.heap.size, hb1.size, rfl, ?_, hb1.alloc hb1.size _⟩
  show Has _ _ 37 _
  rw [hB]
  exact Has.fresh w1 37 _
set_option maxHeartbeats 400000 in
theorem len_any (g : Nat) (s : SS) (hok : s.Ok) (w : World) (h : Sta w g s) : Calls Tryd.prog 18 #[.pointer (some ⟨g, 0, none⟩)] w fun e w' => e = .returned (.int .i64 (s.n : Int)) ∧ w = w' := by
  have c0 : w.cell? ⟨g, 0, none⟩ = some (.bool true) := (Has.at_ h 0).trans rfl
  have c1 : w.cell? ⟨g, 73, none⟩ = some (.int .i64 (s.n : Int)) := (Has.at_ h 73).trans (cells_get_count s hok)
  clear h
  go_enter Tryd.func18, Tryd.ntmps18
  go_wp2
  go_ret
  exact ⟨rfl, rfl⟩
set_option maxHeartbeats 400000 in
theorem len_zero (g : Nat) (w : World) (c0 : w.cell? ⟨g, 0, none⟩ = some (.bool false)) : Calls Tryd.prog 18 #[.pointer (some ⟨g, 0, none⟩)] w fun e w' => e = .returned (.int .i64 0) ∧ w = w' := by
  go_enter Tryd.func18, Tryd.ntmps18
  go_wp2
  go_ret
  exact ⟨rfl, rfl⟩
set_option maxHeartbeats 400000 in
theorem len_nil (w : World) : Calls Tryd.prog 18 #[.pointer none] w fun e w' => e = .returned (.int .i64 0) ∧ w = w' := by
  go_enter Tryd.func18, Tryd.ntmps18
  go_wp2
  go_ret
  exact ⟨rfl, rfl⟩
set_option maxHeartbeats 400000 in
theorem write_any (g : Nat) (s : SS) (bb off len cap : Nat) (A : Option Addr) (xs : List UInt8) (w : World) (hok : s.Ok) (hst : Sta w g s) (hg0 : g ≠ 0) (hT : Tab w)
    (hxl : xs.length = len) (hcap : len ≤ cap) (hbig : s.n + len ≤ 4611686018427387904) (hsrc : ∀ j, j < len → w.cell? ⟨bb, off + j, none⟩ = some (.int .u8 (b8 (at8 xs j))))
    (hne : bb ≠ g) (hA : 0 < len → A = some ⟨bb, off, none⟩) :
    Calls Tryd.prog 17 #[.pointer (some ⟨g, 0, none⟩), .slice A len cap] w fun e w' => e = .returned (.int .i64 0) ∧ Sta w' g (feed s xs) ∧ Grw g w w' := by
  have c0 : w.cell? ⟨g, 0, none⟩ = some (.bool true) := (Has.at_ hst 0).trans rfl
  have H := hid (take_any g s bb off len cap A xs w hok hst hg0 hT hxl hcap hbig hsrc hne hA)
  clear hok hst hT hxl hsrc hA
  go_enter Tryd.func17, Tryd.ntmps17
  go_wp2_with (go_at_call 20; refine H.out.mono ?_; rintro e1 w1 ⟨rfl, H1, H2⟩)
  go_ret
  exact ⟨rfl, H1, H2⟩
set_option maxHeartbeats 400000 in
theorem write_zero (g : Nat) (v : Value) (w : World) (c0 : w.cell? ⟨g, 0, none⟩ = some (.bool false)) : Calls Tryd.prog 17 #[.pointer (some ⟨g, 0, none⟩), v] w fun e w' => e = .returned (.int .i64 1) ∧ w = w' := by
  go_enter Tryd.func17, Tryd.ntmps17
  go_wp2
  go_ret
  exact ⟨rfl, rfl⟩
set_option maxHeartbeats 400000 in
theorem write_nil (v : Value) (w : World) : Calls Tryd.prog 17 #[.pointer none, v] w fun e w' => e = .returned (.int .i64 1) ∧ w = w' := by
  go_enter Tryd.func17, Tryd.ntmps17
  go_wp2
  go_ret
  exact ⟨rfl, rfl⟩
end Go.Proofs.YtmdlahmcdgkhkaaDoor
