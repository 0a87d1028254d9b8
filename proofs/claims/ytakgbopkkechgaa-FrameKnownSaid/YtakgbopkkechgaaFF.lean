/- (*Reader).Next's deferred literal: what its call does. Conditions: the boxes that it captures. -/
import Derived.Test.YtakgbopkkechgaaFE
import Derived.Tactics2
import Derived.Defers
import Derived.Recover
import Derived.Laws.Pointers
namespace Go.Proofs.Ytakgbopkkechgaa
open Go.RowKit
theorem Grw.drew' {g : Nat} {a b : World} (h : Grw g a b) : Grw g a b.drew := ⟨h.os, h.tape, h.output, h.size, h.block⟩
set_option maxRecDepth 100000 in
set_option maxHeartbeats 1000000 in
/-- Nothing was given out, and nothing broke. -/
theorem tail_idle (be br bo bb p : Nat) (bv : Value) (w : World) (he : Has w be 23 #[.int .i64 0]) (ho : Has w bo 4 #[.bool false]) :
    CallsD Try.prog 26 #[.pointer (some ⟨be, 0, none⟩), .pointer (some ⟨br, 0, none⟩), .pointer (some ⟨bo, 0, none⟩), .pointer (some ⟨bb, 0, none⟩)] .returning w fun e u' w' => u' = .returning ∧ e = .returned (.tuple #[]) ∧ w' = w := by
  have c1 := he.at_ 0
  have c2 := ho.at_ 0
  simp at c1 c2
  clear he ho
  go_enter_d Try.func26, Try.ntmps26
  go_wp2
  go_end0
  exact ⟨rfl, rfl⟩
set_option maxRecDepth 100000 in
set_option maxHeartbeats 1000000 in
/-- It broke. -/
theorem tail_bad (be br bo bb p : Nat) (A : Option Addr) (n c : Nat) (w : World) (he : Has w be 23 #[.int .i64 4]) (hr : Has w br 33 #[.pointer (some ⟨p, 0, none⟩)])
    (hp : Has w p 61 #[.bool true, .slice A n c, .int .i64 0]) :
    CallsD Try.prog 26 #[.pointer (some ⟨be, 0, none⟩), .pointer (some ⟨br, 0, none⟩), .pointer (some ⟨bo, 0, none⟩), .pointer (some ⟨bb, 0, none⟩)] .returning w fun e u' w' => u' = .returning ∧ e = .returned (.tuple #[]) ∧
      Has w' p 61 #[.bool true, .slice none 0 0, .int .i64 (n : Int)] ∧ Grw p w w' := by
  have c1 := he.at_ 0
  have c2 := hr.at_ 0
  have c3 := hp.at_ 1
  have c4 := hp.at_ 2
  have f3 := hp.free 1
  have f4 := hp.free 2
  have HP := hid hp
  simp at c1 c2 c3 c4
  clear he hr hp
  go_enter_d Try.func26, Try.ntmps26
  go_wp2
  go_region
  all_goals
    go_wp2
    go_end0
    exact ⟨rfl, (HP.out.put 2 (.int .i64 (n : Int))).put 1 (.slice none 0 0), ((Grw.of_set p 2 w (.int .i64 (n : Int))).trans (Grw.of_set p 1 _ (.slice none 0 0))).drew'⟩
set_option maxRecDepth 100000 in
set_option maxHeartbeats 1000000 in
/-- A frame was given out. -/
theorem tail_one (be br bo bb p : Nat) (A Ab A2 : Option Addr) (n c nb cb n2 c2 : Nat) (w : World) (he : Has w be 23 #[.int .i64 0]) (ho : Has w bo 4 #[.bool true]) (hr : Has w br 33 #[.pointer (some ⟨p, 0, none⟩)])
    (hb : Has w bb 22 #[.slice Ab nb cb]) (hn : nb ≤ 100000)
    (hp : Has w p 61 #[.bool true, .slice A n c, .int .i64 0]) (hs : ∀ w, (Instr.slice 22 (.slice A n c) (some (.int .i64 (5 + (nb : Int)))) none none).run Try.prog w = .ok (.slice A2 n2 c2) w) :
    CallsD Try.prog 26 #[.pointer (some ⟨be, 0, none⟩), .pointer (some ⟨br, 0, none⟩), .pointer (some ⟨bo, 0, none⟩), .pointer (some ⟨bb, 0, none⟩)] .returning w fun e u' w' => u' = .returning ∧ e = .returned (.tuple #[]) ∧
      Has w' p 61 #[.bool true, .slice A2 n2 c2, .int .i64 0] ∧ Grw p w w' := by
  have d1 := he.at_ 0
  have d5 := ho.at_ 0
  have d2 := hr.at_ 0
  have d6 := hb.at_ 0
  have d3 := hp.at_ 1
  have f3 := hp.free 1
  have HP := hid hp
  have wn : wrap64 (5 + (nb : Int)) = 5 + (nb : Int) := by simp [wrap64]; omega
  have wm : IntKind.i64.wrap (5 + (nb : Int)) = 5 + (nb : Int) := i64in _ (by omega) (by omega)
  simp at d1 d2 d3 d5 d6
  clear he hr hp ho hb
  go_enter_d Try.func26, Try.ntmps26
  go_wp2
  go_region
  all_goals
    go_wp2
    go_end0
    exact ⟨rfl, HP.out.put 1 (.slice A2 n2 c2), (Grw.of_set p 1 w (.slice A2 n2 c2)).drew'⟩
end Go.Proofs.Ytakgbopkkechgaa
