/- bytes.putOne over the law's put: what each call does. Conditions: at most 90000 bytes ahead. -/
import Derived.Test.YtdmdddmfiankhaaCD
namespace Go.Proofs.Ytdmdddmfiankhaa
open Go.RowKit
theorem two_boxes (w : World) : ∃ W1, (w.alloc (.cells #[.slice none 0 0] 24)).alloc (.cells #[.int .i64 0] 26) = W1 ∧ Hid (Has W1 w.heap.size 24 #[.slice none 0 0]) ∧ Hid (Has W1 (w.heap.size + 1) 26 #[.int .i64 0]) ∧ Hid (Below w.heap.size w W1) := by
  refine ⟨_, rfl, ?_, ?_, ?_⟩
  · exact (Has.fresh w 24 _).more _
  · exact Has.fresh' (w.alloc _) 26 _ (by simp)
  · exact ((Below.refl _ _).alloc (Nat.le_refl _) _).alloc (by simp) _
theorem two_laid {w1 : World} {b6 b7 : Nat} {v : Value} {e : Int} {x : Value} {y : Value} (h6 : Has w1 b6 24 #[x]) (h7 : Has w1 b7 26 #[y]) (hne : b7 ≠ b6) :
    (w1.setCell ⟨b6, 0, none⟩ v).cell? ⟨b6, 0, none⟩ = some v ∧ ((w1.setCell ⟨b6, 0, none⟩ v).setCell ⟨b7, 0, none⟩ (.int .i64 e)).cell? ⟨b7, 0, none⟩ = some (.int .i64 e) :=
  ⟨(h6.put 0 v).at_ 0, ((h7.other (p := ⟨b6, 0, none⟩) hne v).put 0 (.int .i64 e)).at_ 0⟩
theorem fresh_put {B g : Nat} {w w' : World} {v : Value} {xs : List UInt8} (h : Fresh B w v xs) (hg : Grw g w w') (hB : g < B) : Fresh B w' v xs := by
  refine World.ownsRow.kept h hg ?_
  rcases ho : v.ownBlock with _ | k
  · exact .inl rfl
  · refine .inr fun e => ?_
    have := (World.ownsRow.lt h k ho).1
    cases e; omega
set_option maxRecDepth 100000 in
set_option maxHeartbeats 1000000 in
theorem putOne_good (v : Value) (xs : List UInt8) (A : Option Addr) (cap bb off : Nat) (n : Nat) (h99 : n ≠ 99) (hn : n < 4294967296) (hl : xs.length ≤ 90000) (w : World) (h : Bytes w v xs A cap bb off) :
    Calls Try.prog 45 #[v, .int .u32 (n : Int), .func (.func 19) #[] #[]] w fun e w' => ∃ v', e = .returned (.tuple #[v', .int .i64 0]) ∧ Fresh w.heap.size w' v' (xs ++ numL 4 n) ∧ Below w.heap.size w w' := by
  obtain ⟨W1, hW, H6, H7, HB⟩ := two_boxes w
  have HP : Hid (0 < W1.heap.size) := Nat.lt_of_lt_of_le (Nat.lt_of_le_of_lt (Nat.zero_le _) h.blk) HB.out.size
  have CP := hid (put4_good v xs A cap bb off n h99 hn hl W1 (h.kept HB.out (Nat.le_refl _)))
  have HS : Hid (w.heap.size + 1 < W1.heap.size) := H7.out.inside
  obtain ⟨L, HLEN⟩ : ∃ L, Hid ((xs ++ numL 4 n).length = L) := ⟨_, rfl⟩
  have hf := hmf
  clear h h99 hn hl
  go_enter_defers Try.func45, Try.ntmps45
  go_wp2_with (first
    | (go_at_call 19; refine CP.out.mono ?_; rintro e1 w1 ⟨v1, rfl, ho, hb⟩
       obtain ⟨A1, c1, b1, y1, hy2, hy3⟩ := ho.bytes (Nat.lt_of_lt_of_le HP.out hb.size)
       have O1 := hid ho
       have B1 := hid hb
       have K6 := hid (H6.out.kept hb H6.out.inside)
       have K7 := hid (H7.out.kept hb H7.out.inside)
       obtain rfl := y1.formL HLEN.out
       have k6 : w1.cell? ⟨w.heap.size, 0, none⟩ = some (.slice none 0 0) := K6.out.at_ 0
       have f6 := K6.out.free 0
       have j7 : w1.cell? ⟨w.heap.size + 1, 0, none⟩ = some (.int .i64 0) := K7.out.at_ 0
       have g7 := K7.out.free 0
       clear ho hb y1 hy2 hy3))
  refine leaves_cons (f := 61) (args := #[.pointer (some ⟨w.heap.size, 0, none⟩), .pointer (some ⟨w.heap.size + 1, 0, none⟩)]) (by simp) (by simp [go_sem]) ?_
  refine (idle_put _ _ _).mono ?_
  rintro e u' w'' ⟨rfl, rfl, rfl⟩
  have ⟨r6, r7⟩ := two_laid (v := .slice A1 L c1) (e := 0) K6.out K7.out (Nat.succ_ne_self _)
  simp [Leaves, settle, results, Try.results45, go_sem, r6, r7]
  have hs := HS.out
  exact ⟨Fresh.mono (B := W1.heap.size) (fresh_put (fresh_put O1.out (Grw.of_set w.heap.size 0 w1 _) (by omega)) (Grw.of_set (w.heap.size + 1) 0 _ _) (by omega)) (by omega), ((HB.out.trans (B1.out.mono HB.out.size)).setCell (p := ⟨w.heap.size, 0, none⟩) (Nat.le_refl _) _).setCell (p := ⟨w.heap.size + 1, 0, none⟩) (Nat.le_succ _) _⟩
set_option maxRecDepth 100000 in
set_option maxHeartbeats 1000000 in
theorem putOne_bad (v : Value) (w : World) :
    Calls Try.prog 45 #[v, .int .u32 99, .func (.func 19) #[] #[]] w fun e w' => ∃ A n c, e = .returned (.tuple #[.slice A n c, .int .i64 2]) ∧ Below w.heap.size w w' := by
  obtain ⟨W1, hW, H6, H7, HB⟩ := two_boxes w
  have CP := hid (put4_bad v W1)
  have hf := hmf
  go_enter_defers Try.func45, Try.ntmps45
  go_wp2_with (first
    | (go_at_call 19; refine CP.out.mono ?_; rintro e1 w1 ⟨A1, n1, c1, rfl, hb⟩
       have B1 := hid hb
       have K6 := hid (H6.out.kept hb H6.out.inside)
       have K7 := hid (H7.out.kept hb H7.out.inside)
       have k6 : w1.cell? ⟨w.heap.size, 0, none⟩ = some (.slice none 0 0) := K6.out.at_ 0
       have f6 := K6.out.free 0
       have j7 : w1.cell? ⟨w.heap.size + 1, 0, none⟩ = some (.int .i64 0) := K7.out.at_ 0
       have g7 := K7.out.free 0
       clear hb))
  refine leaves_cons (f := 61) (args := #[.pointer (some ⟨w.heap.size, 0, none⟩), .pointer (some ⟨w.heap.size + 1, 0, none⟩)]) (by simp) (by simp [go_sem]) ?_
  refine (idle_put _ _ _).mono ?_
  rintro e u' w'' ⟨rfl, rfl, rfl⟩
  have ⟨r6, r7⟩ := two_laid (v := .slice A1 n1 c1) (e := 2) K6.out K7.out (Nat.succ_ne_self _)
  simp [Leaves, settle, results, Try.results45, go_sem, r6, r7]
  exact ((HB.out.trans (B1.out.mono HB.out.size)).setCell (p := ⟨w.heap.size, 0, none⟩) (Nat.le_refl _) _).setCell (p := ⟨w.heap.size + 1, 0, none⟩) (Nat.le_succ _) _
end Go.Proofs.Ytdmdddmfiankhaa
