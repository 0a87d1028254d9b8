/- The document's digest: turned (caravanref01), a word turned to the right. Conditions: from 1 to 31. -/
import Derived.Test.YtoeomghebgbniaaDoorSH
namespace Go.Proofs.YtoeomghebgbniaaDoor.Sha
open Go.RowKit
set_option maxRecDepth 100000 in
set_option maxHeartbeats 400000 in
theorem turned_any (x : BitVec 32) (n : Nat) (h1 : 1 ≤ n) (h2 : n ≤ 31) (w : World) :
    Calls Tryd.prog 48 #[.int .u32 (u x), .int .i64 (n : Int)] w fun e w' => e = .returned (.int .u32 (u (rotR x n))) ∧ w = w' := by
  obtain ⟨m, HM⟩ : ∃ m, Hid (32 - n = m) := ⟨_, rfl⟩
  have w1 : (32 : Int) - (n : Int) = (m : Int) := by have := HM.out; omega
  have hm0 : (0 : Int) ≤ (m : Int) := by omega
  have hm : (m : Int) ≤ 31 := by have := HM.out; omega
  have hn : (n : Int) ≤ 31 := by omega
  go_enter Tryd.func48, Tryd.ntmps48
  go_wp2
  go_ret
  refine ⟨?_, rfl⟩
  show Ending.returned (.int .u32 (bits .or .u32 (u x / 2 ^ n) (u x * 2 ^ m % 4294967296))) = _
  rw [shl32, shr32, or32, ← rot32 x n h2, HM.out, BitVec.or_comm]
end Go.Proofs.YtoeomghebgbniaaDoor.Sha
