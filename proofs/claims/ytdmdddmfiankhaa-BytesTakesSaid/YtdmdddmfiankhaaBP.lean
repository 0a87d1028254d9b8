/- caravanlaw04.kind, number: what each call does; loads of a whole thing. No conditions. -/
import Derived.Test.YtdmdddmfiankhaaBTB
import Derived.Deep.MidRow
import Derived.Deep.RegionHeld3
namespace Go.Proofs.Ytdmdddmfiankhaa
open Go.RowKit
/-- Which one a thing is. -/
def kd (x : Int) : Nat := if x.tmod 5 < 0 then 4 else (x.tmod 5).toNat
theorem kd_le (x : Int) : kd x ≤ 4 := by
  unfold kd
  split
  · omega
  · have : x.tmod 5 < 5 := Int.tmod_lt_of_pos x (by omega)
    omega
def numT (x : Int) (n : Nat) : Nat := if kd x = 0 then n % 256 else if kd x = 1 then n % 65536 else if kd x = 2 then n % 4294967296 else n
abbrev thing (x : Int) (n : Nat) (s : ByteArray) : Array Value := #[.int .i64 x, .int .u64 (n : Int), .string s]
set_option maxRecDepth 100000 in
set_option maxHeartbeats 400000 in
theorem kind_any (x : Int) (n : Nat) (s : ByteArray) (k : Nat) (hk : kd x = k) (w : World) :
    Calls Try.prog 54 #[.agg (thing x n s)] w fun e w' => e = .returned (.int .i64 (k : Int)) ∧ Below w.heap.size w w' := by
  subst hk
  by_cases h0 : x.tmod 5 < 0
  · have hk : Hid (kd x = 4) := by show _ = _; rw [kd, if_pos h0]
    rw [hk.out]
    go_enter Try.func54, Try.ntmps54
    go_wp2
    go_ret
    exact ⟨rfl, (Below.refl _ _).alloc (Nat.le_refl _) _⟩
  · have hk : Hid (((kd x : Nat) : Int) = x.tmod 5) := by show _ = _; rw [kd, if_neg h0]; omega
    go_enter Try.func54, Try.ntmps54
    go_wp2
    go_ret
    exact ⟨by rw [hk.out]; rfl, (Below.refl _ _).alloc (Nat.le_refl _) _⟩
theorem load_thing {w : World} {g : Nat} {x : Int} {n : Nat} {s : ByteArray} (h : Has w g 62 (thing x n s)) : (loadVar 62 ⟨g, 0, none⟩).run Try.prog w = .ok (.agg (thing x n s)) w :=
  run_loadVar_row (P := Try.prog) w g 62 62 (thing x n s) (0, 0) _ h Try.underlying62 rfl (by kernel_rfl)
theorem load_thing_at {w : World} {bb o : Nat} {x : Int × Nat × ByteArray} (h : ThingAt w bb o x) : (loadVar 62 ⟨bb, o, none⟩).run Try.prog w = .ok (.agg (thing x.1 x.2.1 x.2.2)) w := by
  refine run_loadVar_mid (P := Try.prog) w bb o 62 [.int .i64 x.1, .int .u64 (x.2.1 : Int), .string x.2.2] _ ?_ Try.underlying62 rfl (by kernel_rfl)
  intro j v hj
  match j, hj with
  | 0, hj => simp at hj; subst hj; exact h.1
  | 1, hj => simp at hj; subst hj; exact h.2.1
  | 2, hj => simp at hj; subst hj; exact h.2.2.1
theorem wpList_wanted {P : Program} {ops : Array Oper} {Q : Exit → Act → World → Prop} {a : Act} {w : World} {rest : List Oper} {o : Oper} (hw : Region.wanted o (yielded ops a.tmps) = true)
    (h : ∀ K : Act → World → Prop, (∀ a w, wpList P ops Q rest a w → K a w) → o.wp P a w K Q) : wpList P ops Q (o :: rest) a w :=
  wpList_step fun K hK => by rw [if_pos hw]; exact h K hK
theorem wpList_load_g {P : Program} {ops : Array Oper} {rest : List Oper} {o : Oper} {a : Act} {w : World} {Q : Exit → Act → World → Prop} (hw : Region.wanted o (yielded ops a.tmps) = true) (ty : TypeId) (x : Operand) (ho : o.op = .load ty x)
    (g off : Nat) (hx : a.eval x = .pointer (some ⟨g, off, none⟩)) (cs : Array Value) (hl : (loadVar ty ⟨g, off, none⟩).run P w = .ok (.agg cs) w)
    (h : wpList P ops Q rest (a.put o.dst (.agg cs)) w) : wpList P ops Q (o :: rest) a w :=
  wpList_wanted hw fun _ hK => by
    unfold Oper.wp execOp
    simp only [ho, hx, Instr.loadAt, Instr.sureAddr, Sem.run_bind, Sem.run_pure, Result.andThen_ok, hl]
    exact hK _ _ h
theorem yields_load {ops : Array Oper} {S : World → Prop} {o : Oper} {a : Act} (hw : Region.wanted o (yielded ops a.tmps) = true) (ty : TypeId) (x : Operand) (ho : o.op = .load ty x) (g off : Nat) (hx : a.eval x = .pointer (some ⟨g, off, none⟩)) (cs : Array Value)
    (hS : ∀ w, S w → (loadVar ty ⟨g, off, none⟩).run Try.prog w = .ok (.agg cs) w) : YieldsIf Try.prog ops S o (.agg cs) a :=
  .inl ⟨hw, fun w hw' => by
    unfold execOp
    simp only [ho, hx, Instr.loadAt, Instr.sureAddr, Sem.run_bind, Sem.run_pure, Result.andThen_ok, hS w hw']⟩
theorem rem_nat (n m : Nat) : (n : Int).tmod (m : Int) = ((n % m : Nat) : Int) := by
  rw [Int.tmod_eq_emod_of_nonneg (by omega)]; norm_cast
set_option maxRecDepth 100000 in
set_option maxHeartbeats 1000000 in
theorem number4_any (x : Int) (n : Nat) (s : ByteArray) (k : Nat) (hk : kd x = k) (h4 : k < 4) (w : World) :
    Calls Try.prog 55 #[.agg (thing x n s)] w fun e w' => e = .returned (.int .u64 (numT x n : Int)) ∧ Below w.heap.size w w' := by
  have CK : Hid (∀ w, Calls Try.prog 54 #[.agg (thing x n s)] w fun e w' => e = .returned (.int .i64 (k : Int)) ∧ Below w.heap.size w w') := fun w => kind_any x n s k hk w
  have HH : Hid (Has (w.alloc (.cells (thing x n s) 62)) w.heap.size 62 (thing x n s)) := Has.fresh w 62 _
  have HL := hid (load_thing HH.out)
  have HB : Hid (Below w.heap.size w (w.alloc (.cells (thing x n s) 62))) := (Below.refl _ _).alloc (Nat.le_refl _) _
  have r1 : (n : Int).tmod 256 = ((n % 256 : Nat) : Int) := rem_nat n 256
  have r2 : (n : Int).tmod 65536 = ((n % 65536 : Nat) : Int) := rem_nat n 65536
  have r3 : (n : Int).tmod 4294967296 = ((n % 4294967296 : Nat) : Int) := rem_nat n 4294967296
  have HN : Hid (numT x n = if k = 0 then n % 256 else if k = 1 then n % 65536 else if k = 2 then n % 4294967296 else n) := by show _ = _; rw [numT, hk]
  rw [HN.out]
  clear hk
  obtain rfl | rfl | rfl | rfl : k = 0 ∨ k = 1 ∨ k = 2 ∨ k = 3 := by omega
  all_goals
    go_enter Try.func55, Try.ntmps55
    go_wp2_with (first
      | (refine wpList_load_g (by rfl) 62 (.tmp 1) rfl w.heap.size 0 rfl (thing x n s) HL.out ?_)
      | (go_at_call 54; refine (CK.out _).mono ?_; rintro e1 w1 ⟨rfl, hb1⟩
         have B1 : Hid (Below w.heap.size w w1) := HB.out.trans (hb1.mono HB.out.size)
         have H1 : Hid (Has w1 w.heap.size 62 (thing x n s)) := HH.out.kept hb1 HH.out.inside
         have c1 : w1.cell? ⟨w.heap.size, 1, none⟩ = some (.int .u64 (n : Int)) := H1.out.at_ 1
         clear hb1))
    go_ret
    exact ⟨rfl, B1.out⟩
end Go.Proofs.Ytdmdddmfiankhaa
