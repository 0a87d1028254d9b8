/- bytes.takeOne, putOne over the laws' functions: what each call does. Conditions: a tape that NewTape made; at most 20000 bytes ahead. -/
import Derived.Test.YtdmdddmfiankhaaCC
namespace Go.Proofs.Ytdmdddmfiankhaa
open Go.RowKit
theorem hmf : ∀ (fn : Fn) (first cap : Array Value) (w : World), (Instr.makeFunc fn first cap).run Try.prog w = .ok (.func fn first cap) w := fun _ _ _ _ => rfl
set_option maxRecDepth 100000 in
set_option maxHeartbeats 400000 in
theorem rowsC_any (g gx : Nat) (s : St) (most width : Int) (w : World) (ht : Tp w g s) (hx : Has w gx 38 #[.int .i64 most, .int .i64 width]) :
    Calls Try.prog 22 #[.pointer (some ⟨g, 0, none⟩), .pointer (some ⟨gx, 0, none⟩)] w fun e w' => e = .returned (.int .u64 ((numS s width).1 : Nat)) ∧ Tp w' g (numS s width).2 ∧ Grw g w w' := by
  have CN := hid (num_any g s width w ht)
  have c1 : w.cell? ⟨gx, 1, none⟩ = some (.int .i64 width) := hx.at_ 1
  clear ht hx
  go_enter Try.func22, Try.ntmps22
  go_wp2_with (go_at_call 23; refine CN.out.mono ?_; rintro e1 w1 ⟨rfl, ht, hg⟩)
  go_ret
  exact ⟨rfl, ht, hg⟩
set_option maxRecDepth 100000 in
set_option maxHeartbeats 400000 in
theorem knownC_any (g : Nat) (s : St) (w : World) (ht : Tp w g s) :
    Calls Try.prog 39 #[.pointer (some ⟨g, 0, none⟩)] w fun e w' => e = .returned (.int .u64 ((numS s 1).1 : Nat)) ∧ Tp w' g (numS s 1).2 ∧ Grw g w w' := by
  have CN := hid (num_any g s 1 w ht)
  clear ht
  go_enter Try.func39, Try.ntmps39
  go_wp2_with (go_at_call 23; refine CN.out.mono ?_; rintro e1 w1 ⟨rfl, ht, hg⟩)
  go_ret
  exact ⟨rfl, ht, hg⟩
set_option maxRecDepth 100000 in
set_option maxHeartbeats 400000 in
theorem takeRows_any (g gx : Nat) (s : St) (most width : Int) (w : World) (ht : Tp w g s) (hx : Has w gx 38 #[.int .i64 most, .int .i64 width]) :
    Calls Try.prog 47 #[.pointer (some ⟨g, 0, none⟩), .func (.func 22) #[] #[.pointer (some ⟨gx, 0, none⟩)]] w fun e w' => e = .returned (.int .u64 ((numS s width).1 : Nat)) ∧ Tp w' g (numS s width).2 ∧ Grw g w w' := by
  have hb : Below w.heap.size w (w.alloc (.cells #[.pointer (some ⟨g, 0, none⟩)] 41)) := (Below.refl _ _).alloc (Nat.le_refl _) _
  have CN := hid (rowsC_any g gx s most width _ (ht.kept hb) (hx.kept hb hx.inside))
  have HB := hid hb
  have hf := hmf
  clear ht hx hb
  go_enter_defers Try.func47, Try.ntmps47
  go_wp2_with (go_at_call 22; refine CN.out.mono ?_; rintro e1 w1 ⟨rfl, ht, hg⟩)
  refine leaves_cons (f := 62) (args := #[.pointer (some ⟨w.heap.size, 0, none⟩)]) (by simp) (by simp [go_sem]) ?_
  refine (idle_take _ _).mono ?_
  rintro e u' w'' ⟨rfl, rfl, rfl⟩
  simp [Leaves, settle, results, Try.results47, go_sem]
  exact ⟨ht, (Grw.of_below HB.out).trans hg⟩
set_option maxRecDepth 100000 in
set_option maxHeartbeats 400000 in
theorem takeKnown_any (g : Nat) (s : St) (w : World) (ht : Tp w g s) :
    Calls Try.prog 47 #[.pointer (some ⟨g, 0, none⟩), .func (.func 39) #[] #[]] w fun e w' => e = .returned (.int .u64 ((numS s 1).1 : Nat)) ∧ Tp w' g (numS s 1).2 ∧ Grw g w w' := by
  have hb : Below w.heap.size w (w.alloc (.cells #[.pointer (some ⟨g, 0, none⟩)] 41)) := (Below.refl _ _).alloc (Nat.le_refl _) _
  have CN := hid (knownC_any g s _ (ht.kept hb))
  have HB := hid hb
  have hf := hmf
  clear ht hb
  go_enter_defers Try.func47, Try.ntmps47
  go_wp2_with (go_at_call 39; refine CN.out.mono ?_; rintro e1 w1 ⟨rfl, ht, hg⟩)
  refine leaves_cons (f := 62) (args := #[.pointer (some ⟨w.heap.size, 0, none⟩)]) (by simp) (by simp [go_sem]) ?_
  refine (idle_take _ _).mono ?_
  rintro e u' w'' ⟨rfl, rfl, rfl⟩
  simp [Leaves, settle, results, Try.results47, go_sem]
  exact ⟨ht, (Grw.of_below HB.out).trans hg⟩
set_option maxRecDepth 100000 in
set_option maxHeartbeats 400000 in
theorem put4_bad (v : Value) (w : World) : Calls Try.prog 19 #[v, .int .u32 99] w fun e w' => ∃ A n c, e = .returned (.tuple #[.slice A n c, .int .i64 2]) ∧ Below w.heap.size w w' := by
  go_enter Try.func19, Try.ntmps19
  go_wp2
  go_ret2
  exact ⟨_, _, _, rfl, (Below.refl _ _).alloc (Nat.le_refl _) _⟩
set_option maxRecDepth 100000 in
set_option maxHeartbeats 400000 in
theorem put4_good (v : Value) (xs : List UInt8) (A : Option Addr) (cap bb off : Nat) (n : Nat) (h99 : n ≠ 99) (hn : n < 4294967296) (hl : xs.length ≤ 90000) (w : World) (h : Bytes w v xs A cap bb off) :
    Calls Try.prog 19 #[v, .int .u32 (n : Int)] w fun e w' => ∃ v', e = .returned (.tuple #[v', .int .i64 0]) ∧ Fresh w.heap.size w' v' (xs ++ numL 4 n) ∧ Below w.heap.size w w' := by
  have CP := hid (put_any v xs A cap bb off 4 n (by omega) hl w h)
  have h9 : ((n : Int) == 99) = false := by simp; omega
  have w1 : IntKind.u64.wrap (n : Int) = n := u64in _ (by omega)
  clear h h99 hn
  go_enter Try.func19, Try.ntmps19
  go_wp2_with (go_at_call 13; refine CP.out.mono ?_; rintro e1 w1 ⟨v1, rfl, ho, hb⟩)
  go_ret2
  exact ⟨_, rfl, ho, hb⟩
end Go.Proofs.Ytdmdddmfiankhaa
