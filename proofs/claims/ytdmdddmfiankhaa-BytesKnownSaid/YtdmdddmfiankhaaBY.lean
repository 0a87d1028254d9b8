/- The document's tape: Bytes, End, Num: what each call does. Conditions: a tape that lies there. -/
import Derived.Test.YtdmdddmfiankhaaBX
namespace Go.Proofs.Ytdmdddmfiankhaa
open Go.RowKit
set_option maxRecDepth 100000 in
set_option maxHeartbeats 400000 in
theorem qBytes_any (g : Nat) (s : St) (n : Int) (w : World) (h : Tq w g s) :
    Calls Try.prog 52 #[.pointer (some ⟨g, 0, none⟩), .int .i64 n] w fun e w' => ∃ v A cap bb, e = .returned v ∧ Bytes w' v (bytesS s n).1 A cap bb 0 ∧ Apart w.heap.size bb ∧ Tq w' g (bytesS s n).2 ∧ Grw g w w' := by
  have CS := hid (qstep_any g s n w h)
  clear h
  go_enter Try.func52, Try.ntmps52
  go_wp2_with (go_at_call 63; refine CS.out.mono ?_; rintro e w' ⟨v, A', cap', bb', rfl, hy, hap, ht, hg⟩)
  go_ret
  first | exact ⟨_, rfl, A', cap', bb', hy, hap, ht, hg⟩ | exact ⟨_, A', cap', bb', rfl, hy, hap, ht, hg⟩
set_option maxRecDepth 100000 in
set_option maxHeartbeats 400000 in
theorem qEnd_any (g : Nat) (s : St) (w : World) (h : Tq w g s) :
    Calls Try.prog 53 #[.pointer (some ⟨g, 0, none⟩)] w fun e w' => e = .returned (.int .i64 (errS (endS s))) ∧ Tq w' g (endS s) ∧ Grw g w w' := by
  have HT := hid (tearq_at h)
  have CE : Hid (∀ w' s', Tq w' g s' → Calls Try.prog 28 #[.pointer (some ⟨g, 0, none⟩)] w' fun e w2 => e = .returned (.int .i64 (errS s')) ∧ w' = w2) := fun w' s' h' => qErr_any g _ w' h'
  have HH := hid h
  have ⟨A, cap, bb, off, h1, _⟩ := h
  have c0 : w.cell? ⟨g, 0, none⟩ = some (.slice A s.2.length cap) := h1.at_ 0
  have c1 : w.cell? ⟨g, 1, none⟩ = some (.bool s.1) := h1.at_ 1
  have f1 := h1.free 1
  clear h1 h
  by_cases h0 : s.2.length = 0
  · have e : endS s = s := by rw [endS, if_pos h0]
    rw [e]
    rw [h0] at c0
    clear e h0
    go_enter Try.func53, Try.ntmps53
    go_wp2_with (go_at_call 28; refine (CE.out _ _ HH.out).mono ?_; rintro e w' ⟨rfl, rfl⟩)
    go_ret
    exact ⟨rfl, HH.out, Grw.refl _ _⟩
  · have e : endS s = tear s := by rw [endS, if_neg h0]
    rw [e]
    have hp : (0 : Int) < (s.2.length : Int) := by omega
    clear e h0
    go_enter Try.func53, Try.ntmps53
    go_wp2_with (go_at_call 28; refine (CE.out _ _ HT.out.1).mono ?_; rintro e w' ⟨rfl, rfl⟩)
    go_ret
    exact ⟨rfl, HT.out.1, HT.out.2⟩
theorem mul_next (a : Nat) (x : UInt8) (h : a < 72057594037927936) : IntKind.u64.wrap (256 * (a : Int)) = 256 * (a : Int) ∧ IntKind.u64.wrap (256 * (a : Int) + b8 x) = ((256 * a + x.toNat : Nat) : Int) := by
  have hx := x.toNat_lt
  refine ⟨?_, ?_⟩
  · have := u64in (256 * a) (by omega)
    rw [Int.natCast_mul] at this; exact this
  · have := u64in (256 * a + x.toNat) (by omega)
    rw [← this]; unfold b8; congr 1
/-- The loop that reads the bytes that were taken. -/
def ownK (k : Int) : Int := if wid k then k else -1
theorem num_bytes (s : St) (k : Int) : numS s k = (valL (bytesS s (ownK k)).1, (bytesS s (ownK k)).2) ∧ (bytesS s (ownK k)).1.length ≤ 8 := by
  unfold numS nxt bytesS ownK
  by_cases hw : wid k = true
  · have h8 := wid_cases hw
    rw [if_pos hw]
    by_cases hc : s.1 = false ∧ k ≤ (s.2.length : Int)
    · rw [if_pos ⟨hc.1, hw, hc.2⟩, if_pos ⟨hc.1, by omega, hc.2⟩]
      exact ⟨rfl, by rw [List.length_take]; omega⟩
    · rw [if_neg (fun h => hc ⟨h.1, h.2.2⟩), if_neg (fun h => hc ⟨h.1, h.2.2⟩)]
      exact ⟨rfl, Nat.zero_le _⟩
  · rw [if_neg hw, if_neg (fun h => hw h.2.1), if_neg (fun h => by have := h.2.1; omega)]
    exact ⟨rfl, Nat.zero_le _⟩
set_option maxRecDepth 100000 in
set_option maxHeartbeats 1000000 in
theorem qNum_any (g : Nat) (s : St) (k : Int) (w : World) (h : Tq w g s) :
    Calls Try.prog 50 #[.pointer (some ⟨g, 0, none⟩), .int .i64 k] w fun e w' => e = .returned (.int .u64 ((numS s k).1 : Nat)) ∧ Tq w' g (numS s k).2 ∧ Grw g w w' := by
  obtain ⟨he, hl8⟩ := num_bytes s k
  rw [he]
  have CS := hid (qstep_any g s (ownK k) w h)
  have CM := hid (may_any k w)
  generalize bytesS s (ownK k) = q at CS hl8 ⊢
  obtain ⟨ys, s2⟩ := q
  simp only at CS hl8 ⊢
  have H8 := hid hl8
  have fin : ∀ (v : Value) (A : Option Addr) (cap bb : Nat) (w' : World), Bytes w' v ys A cap bb 0 → ∃ L, v = .slice A L cap ∧ Hid (ys.length = L) ∧ Hid (∀ j, j < L → A = some ⟨bb, 0, none⟩ ∧ w'.cell? ⟨bb, j, none⟩ = some (.int .u8 (b8 (at8 ys j)))) := fun v A cap bb w' hy =>
    ⟨_, hy.form, rfl, fun j hj => ⟨hy.src (by omega), by have := hy.cells j hj; rw [Nat.zero_add] at this; exact this⟩⟩
  have FIN := hid fin
  clear h he hl8 fin
  rcases hw : wid k with _ | _
  all_goals
    rw [hw] at CM
    unfold ownK at CS
    rw [hw] at CS
    simp only [Bool.false_eq_true, if_true, if_false] at CS
    clear hw
    go_enter Try.func50, Try.ntmps50
    go_wp2_with (first
      | (go_at_call 44; refine CM.out.mono ?_; rintro e w' ⟨rfl, rfl⟩)
      | (go_at_call 63; refine CS.out.mono ?_; rintro e w1 ⟨v, A', cap', bb', rfl, hy, hap, ht, hg⟩
         obtain ⟨L, rfl, HL, HC⟩ := FIN.out _ _ _ _ _ hy
         have HT := hid ht
         have HG := hid hg
         clear hy hap ht hg))
    go_loopw [6, 7] (fun n i wr => ∃ (j y : Nat), j ≤ L ∧ i = .int .i64 (j : Int) ∧ n = .int .u64 (y : Int) ∧ Hid (y = valL (ys.take j)) ∧ w1 = wr) (fun _ i _ => L - (intOf i).toNat)
    case atStart => exact ⟨0, 0, by omega, rfl, rfl, rfl, rfl⟩
    case round =>
      obtain ⟨j, y, hj, rfl, rfl, HY, rfl⟩ := hrel
      by_cases hlt : j < L
      · obtain ⟨hA, c1⟩ := HC.out j hlt
        subst hA
        have hb0 := b8_nonneg (at8 ys j)
        have hb1 := b8_lt (at8 ys j)
        have HYB : Hid (y < 72057594037927936) := by
          show _ < _
          rw [HY.out]
          refine Nat.lt_of_lt_of_le (valL_lt _) ?_
          have : (ys.take j).length ≤ 7 := by rw [List.length_take]; have h1 := H8.out; have h2 := HL.out; omega
          exact Nat.le_trans (Nat.pow_le_pow_right (by omega) this) (by decide)
        obtain ⟨hm1, hm2⟩ := mul_next y (at8 ys j) HYB.out
        have HN : Hid (256 * y + (at8 ys j).toNat = valL (ys.take (j + 1))) := by
          show _ = _
          rw [take_snoc _ _ (by have := HL.out; omega), valL_snoc, HY.out]
        have hL8 : L ≤ 8 := by have h1 := H8.out; have h2 := HL.out; omega
        go_wp2
        go_roundw
        case rel => exact ⟨j + 1, 256 * y + (at8 ys j).toNat, by omega, by go_num, by first | rfl | (push_cast; rfl), HN, trivial⟩
        case measure => simp [intOf]; omega
      · obtain rfl : j = L := by omega
        have e : ys.take j = ys := List.take_of_length_le (Nat.le_of_eq HL.out)
        rw [e] at HY
        go_wp2
        go_ret
        exact ⟨by rw [HY.out]; rfl, HT.out, HG.out⟩
end Go.Proofs.Ytdmdddmfiankhaa
