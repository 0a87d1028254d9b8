/- sha.firstWords, sha.New, (*sha.State).Len, (*sha.State).Write. Conditions: those of take. -/
import Derived.Test.YtoeomghebgbniaaDoorSG
namespace Go.Proofs.YtoeomghebgbniaaDoor.Sha
open Go.RowKit
def hList : List (BitVec 32) := [0x6a09e667, 0xbb67ae85, 0x3c6ef372, 0xa54ff53a, 0x510e527f, 0x9b05688c, 0x1f83d9ab, 0x5be0cd19]
def h0Arr : Array Value := #[.int .u32 1779033703, .int .u32 3144134277, .int .u32 1013904242, .int .u32 2773480762, .int .u32 1359893119, .int .u32 2600822924, .int .u32 528734635, .int .u32 1541459225]
theorem h0_vec : h0Arr = vec hList := rfl
def newS : SS := ⟨hList, List.replicate 64 0, 0⟩
theorem newS_ok : newS.Ok := ⟨rfl, rfl⟩
set_option maxHeartbeats 400000 in
theorem fw_any (w : World) : Calls Tryd.prog 56 #[] w fun e w' => e = .returned (.agg h0Arr) ∧ Below w.heap.size w w' := by
  go_enter Tryd.func56, Tryd.ntmps56
  go_wp2
  refine bodyPost_ret (results_cell_row rfl _ _ w.heap.size 59 h0Arr (0, 0) _ rfl (heap_alloc_new w _) Tryd.underlying59 rfl i34) rfl ⟨rfl, ?_⟩
  exact (Below.refl _ _).alloc (Nat.le_refl _) _
set_option maxRecDepth 100000 in
set_option maxHeartbeats 400000 in
theorem new_any (w : World) : Calls Tryd.prog 38 #[] w fun e w' => ∃ g, w.heap.size ≤ g ∧ e = .returned (.pointer (some ⟨g, 0, none⟩)) ∧ Sta w' g newS ∧ Below w.heap.size w w' := by
  go_enter Tryd.func38, Tryd.ntmps38
  go_wp2_with (first
    | (go_at_call 56; refine (fw_any _).mono ?_; rintro e1 w1 ⟨rfl, hb1⟩)
    | (refine wpList_build rfl 68 _ rfl (by kernel_rfl) ?_))
  have hB : (Tryd.prog.built 68 [(0, Value.bool true), (1, Value.agg h0Arr)]).getD #[] = newS.cells.toArray := by kernel_rfl
  go_ret
  refine ⟨w1.heap.size, hb1.size, rfl, ?_, hb1.alloc hb1.size _⟩
  show Has _ _ 68 _
  rw [hB]
  exact Has.fresh w1 68 _
end Go.Proofs.YtoeomghebgbniaaDoor.Sha
