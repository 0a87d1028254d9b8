/- slices.Clone of a stream, Copy: what each call does. Conditions: a link, or one that is none. -/
import Derived.Test.YtcfmjebnjjpajaaNF
namespace Go.Proofs.Ytcfmjebnjjpajaa
open Go.RowKit
theorem Fresh.que {B : Nat} {w : World} {v : Value} {xs : List UInt8} (h : Fresh B w v xs) : Que w v xs v.ownBlock (0, 0) ∧ (v.ownBlock = none ∨ ∃ g, v.ownBlock = some g ∧ B ≤ g) := by
  rcases h.2 with ⟨rfl, h0⟩ | ⟨g, c, cur, rfl, h1, h2, h3, _, h5, h6⟩
  · exact ⟨.inl ⟨rfl, List.eq_nil_of_length_eq_zero h0, rfl⟩, .inl rfl⟩
  · refine ⟨.inr ⟨g, 0, c, cur, rfl, rfl, h2, h3, by omega, fun _ _ => Nat.zero_le _, fun j hj => ?_⟩, .inr ⟨g, rfl, h1⟩⟩
    have := get_map hj
    rw [← h6, List.getElem?_take, if_pos (by omega), Array.getElem?_toList] at this
    rw [Nat.zero_add]; exact this
set_option maxRecDepth 100000 in
set_option maxHeartbeats 400000 in
theorem sclone_any (v : Value) (xs : List UInt8) (A : Option Addr) (cap bb off : Nat) (hn : xs.length ≤ 900000) (w : World) (h : Bytes w v xs A cap bb off) :
    Calls Try.prog 27 #[v] w fun e w' => ∃ v', e = .returned v' ∧ Fresh w.heap.size w' v' xs ∧ Below w.heap.size w w' := by
  have e0 := h.form
  have hu : Try.prog.underlying 46 = some (.slice 5) := by kernel_rfl
  have q22 : ∀ (w : World) (a : Option Addr) (n c n' c' : Nat), (binOp .eql 46 (.slice a n c) (.slice none n' c')).run Try.prog w = .ok (.bool a.isNone) w := fun w a n c n' c' => Lib.run_eql_slice_nil w _ _ a n c n' c' hu
  cases A with
  | none =>
    have hc := h.zero rfl
    have hl := h.le
    obtain rfl : xs = [] := List.eq_nil_of_length_eq_zero (by omega)
    rw [e0, hc]
    clear e0 h hn
    go_enter Try.func27, Try.ntmps27
    go_wp2
    go_ret
    exact ⟨_, rfl, World.ownsRow_nil _ _ _ _, Below.refl _ _⟩
  | some a =>
    rw [e0]
    have hb0 : Below w.heap.size w (w.alloc (.cells #[] 5)) := (Below.refl _ _).alloc (Nat.le_refl _) _
    have h0 : (w.alloc (.cells #[] 5)).ownsRow w.heap.size 5 1 (.slice (some ⟨w.heap.size, 0, none⟩) 0 0) 0 [] := World.ownsRow_made w #[] 0 (Nat.le_refl _) (by unfold maxLen; omega) rfl
    have h1 := h.kept hb0 (Nat.le_refl _)
    rw [e0] at h1
    obtain ⟨v', w', hr, ho, hg, _, _⟩ := append_bytes _ _ _ _ _ h0 h1 (by omega) (by simp)
    have HRR := hid hr
    have HO : Hid (Fresh w.heap.size w' v' xs) := by
      rw [Nat.zero_add, List.nil_append] at ho; exact ho
    have HB : Hid (Below w.heap.size w w') := hb0.grown hg (by simp) (fun k hk => by simp [Value.ownBlock] at hk; omega)
    clear hr ho hg hb0 h0 h1 h hn e0
    go_enter Try.func27, Try.ntmps27
    go_wp2_with (refine wpList_append_run rfl (.tmp 5) (.tmp 6) 46 46 rfl ⟨v', w', (append_streams _ _ _).trans HRR.out, ?_⟩)
    go_ret
    exact ⟨_, rfl, HO.out, HB.out⟩
set_option maxRecDepth 100000 in
set_option maxHeartbeats 400000 in
theorem copy_none (v : Value) (w : World) (h : NoLk w v) : Calls Try.prog 18 #[v] w fun e w' => e = .returned (.pointer none) ∧ w = w' := by
  have C := hid (isMade_none v w h)
  clear h
  go_enter Try.func18, Try.ntmps18
  go_wp2_with (go_at_call 25; refine C.out.mono ?_; rintro e w' ⟨rfl, rfl⟩)
  go_ret
  exact ⟨rfl, rfl⟩
/-- The copy in block c, of which the streams ahead of j are its own. -/
def Cop (w wr : World) (c : Nat) (xs : Nat → List UInt8) (e : Nat) (v : Nat → Value) (j : Nat) (V : Nat → Value) (O : Nat → Option Nat) : Prop :=
  Has wr c 49 #[.bool true, .int .i64 (e : Int), V 0, V 1] ∧ Below w.heap.size w wr ∧ (∀ k, k < j → Que wr (V k) (xs k) (O k) (0, 0) ∧ O k ≠ some c ∧ (O k = none ∨ ∃ g, O k = some g ∧ w.heap.size ≤ g)) ∧ (∀ k, j ≤ k → V k = v k) ∧ (j = 2 → ∀ g, O 0 = some g → O 1 ≠ some g)
theorem Cop.step {w wr w1 : World} {c : Nat} {xs : Nat → List UInt8} {e : Nat} {v : Nat → Value} {j : Nat} {V : Nat → Value} {O : Nat → Option Nat} (h : Cop w wr c xs e v j V O) (hj : j < 2) (hc : w.heap.size ≤ c) {v' : Value} (hf : Fresh wr.heap.size w1 v' (xs j)) (hb : Below wr.heap.size wr w1) :
    Cop w (w1.setCell ⟨c, 2 + j, none⟩ v') c xs e v (j + 1) (upd V j v') (upd O j v'.ownBlock) := by
  obtain ⟨h1, h2, h3, h4, h5⟩ := h
  obtain ⟨q1, q2⟩ := hf.que
  have hcin := h1.inside
  have hnc : v'.ownBlock ≠ some c := by
    rcases q2 with e | ⟨g, e, hg⟩
    · rw [e]; intro e; cases e
    · rw [e]; intro e; cases e; omega
  have k1 := (h1.kept hb hcin).put (2 + j) v'
  refine ⟨?_, (h2.trans (hb.mono h2.size)).setCell (p := ⟨c, 2 + j, none⟩) hc _, fun k hk => ?_, fun k hk => by rw [upd_ne _ _ (by omega)]; exact h4 k (by omega), fun hj2 g h0 => ?_⟩
  · rcases two_cases hj with rfl | rfl
    · exact k1
    · exact k1
  · by_cases hkj : k = j
    · subst hkj
      rw [upd_at, upd_at]
      refine ⟨q1.same (fun g hg => Below.heap_setCell w1 ⟨c, 2 + k, none⟩ v' g (fun e => hnc (by rw [hg]; exact congrArg some e))), hnc, ?_⟩
      rcases q2 with e | ⟨g, e, hg⟩
      · exact .inl e
      · exact .inr ⟨g, e, Nat.le_trans h2.size hg⟩
    · rw [upd_ne _ _ hkj, upd_ne _ _ hkj]
      obtain ⟨r1, r2, r3⟩ := h3 k (by omega)
      refine ⟨r1.same (fun g hg => ?_), r2, r3⟩
      exact (Below.heap_setCell w1 ⟨c, 2 + j, none⟩ v' g (fun e => r2 (by rw [hg]; exact congrArg some e))).trans (hb.block g (r1.inside hg))
  · obtain rfl : j = 1 := by omega
    rw [upd_ne _ _ (by decide)] at h0
    rw [upd_at]
    have hg := (h3 0 (by omega)).1.inside h0
    rcases q2 with e | ⟨g', e, hg'⟩
    · rw [e]; intro e; cases e
    · rw [e]; intro e; cases e; omega
set_option maxRecDepth 100000 in
set_option maxHeartbeats 2000000 in
theorem copy_any (p : Nat) (xs : Nat → List UInt8) (m : Nat) (o : Nat → Option Nat) (x : Nat × Nat) (w : World) (h : Lk w p xs m o x) : Calls Try.prog 18 #[.pointer (some ⟨p, 0, none⟩)] w fun e w' =>
    e = .returned (.pointer (some ⟨w.heap.size, 0, none⟩)) ∧ ∃ o', Lk w' w.heap.size xs m o' (0, 0) ∧ (∀ k, k < 2 → o' k = none ∨ ∃ g, o' k = some g ∧ w.heap.size ≤ g) ∧ Below w.heap.size w w' := by
  have C := hid (isMade_any p w h.made)
  have HL := hid h
  obtain ⟨v, h1, h2, h3, h4⟩ := h
  have HQ : Hid (∀ k, k < 2 → Que w (v k) (xs k) (o k) x ∧ (xs k).length ≤ 262144) := fun k hk => ⟨(h3 k hk).1, (h3 k hk).2.2⟩
  obtain ⟨A0, c0, e0⟩ := (h3 0 (by omega)).1.form
  obtain ⟨A1, c1, e1⟩ := (h3 1 (by omega)).1.form
  have H1 := hid h1
  have d0 : w.cell? ⟨p, 0, none⟩ = some (.bool true) := h1.at_ 0
  have d1 : w.cell? ⟨p, 1, none⟩ = some (.int .i64 (m : Int)) := h1.at_ 1
  have d2 : w.cell? ⟨p, 2, none⟩ = some (v 0) := h1.at_ 2
  have d3 : w.cell? ⟨p, 3, none⟩ = some (v 1) := h1.at_ 3
  rw [e0] at d2
  rw [e1] at d3
  have HE0 := hid e0
  have HE1 := hid e1
  clear h1 h3 h4 e0 e1
  go_enter Try.func18, Try.ntmps18
  go_wp2_with (go_at_call 25; refine C.out.mono ?_; rintro e w' ⟨rfl, rfl⟩)
  go_loopw [4, 11] (fun _ i wr => ∃ (j : Nat) (V : Nat → Value) (O : Nat → Option Nat), j ≤ 2 ∧ i = .int .i64 (j : Int) ∧ Hid (Cop w wr w.heap.size xs m v j V O)) (fun _ i _ => 2 - (intOf i).toNat)
  case atStart =>
    refine ⟨0, v, fun _ => none, by omega, rfl, ?_, (Below.refl _ _).alloc (Nat.le_refl _) _, fun k hk => by omega, fun k _ => rfl, fun h => by omega⟩
    rw [HE0.out, HE1.out]
    exact Has.fresh w 49 _
  case round =>
    obtain ⟨j, V, O, hj, rfl, HC⟩ := hrel
    obtain ⟨wo, hwo⟩ : ∃ wo, wo = wr := ⟨_, rfl⟩
    subst hwo
    by_cases hlt : j < 2
    · have HJ := hid hlt
      have HBY : Hid (∃ A c bb off, Bytes wo (v j) (xs j) A c bb off) := by
        obtain ⟨q1, _⟩ := HQ.out j hlt
        obtain ⟨A, c, bb, off, hy, _⟩ := (q1.same (fun g hg => HC.out.2.1.block g (q1.inside hg))).bytes (Nat.lt_of_lt_of_le (Nat.lt_of_le_of_lt (Nat.zero_le _) H1.out.inside) HC.out.2.1.size)
        exact ⟨A, c, bb, off, hy⟩
      obtain ⟨A, c, bb, off, hy⟩ := HBY.out
      have HCL := hid (sclone_any (v j) (xs j) A c bb off (by have := (HQ.out j hlt).2; omega) wo hy)
      have HV : Hid (w.heap.size < wo.heap.size) := HC.out.1.inside
      have HD : Hid (Has wo p 49 #[.bool true, .int .i64 (m : Int), v 0, v 1]) := H1.out.kept HC.out.2.1 H1.out.inside
      have HT : Hid (∀ w1, Below wo.heap.size wo w1 → w1.cell? ⟨w.heap.size, 2 + j, none⟩ = some (V j) ∧ w1.frozen? ⟨w.heap.size, 2 + j, none⟩ = false) := fun w1 hb => by
        have k1 := HC.out.1.kept hb HV.out
        refine ⟨?_, k1.free _⟩
        rcases two_cases HJ.out with rfl | rfl
        · exact k1.at_ 2
        · exact k1.at_ 3
      obtain ⟨A4, c4, ef⟩ := (HQ.out j hlt).1.form
      have HVJ : Hid (V j = .slice A4 (xs j).length c4) := (HC.out.2.2.2.1 j (Nat.le_refl _)).trans ef
      rw [HVJ.out] at HT
      clear hy hlt hj ef
      rcases two_cases HJ.out with rfl | rfl
      · have k2 : wo.cell? ⟨p, 2, none⟩ = some (v 0) := HD.out.at_ 2
        go_wp2_with (fail)
        refine HCL.out.mono ?_
        rintro e1 w1 ⟨v1, rfl, hf1, hb1⟩
        have HS := hid (HC.out.step (by omega) (Nat.le_refl _) hf1 hb1)
        obtain ⟨k3, f3⟩ := HT.out w1 hb1
        obtain ⟨A3, c3, ev⟩ := hf1.que.1.form
        subst ev
        clear hf1 hb1 HCL
        obtain ⟨old, k3⟩ : ∃ old, w1.cell? ⟨w.heap.size, 2, none⟩ = some old := ⟨_, k3⟩
        have f3 : w1.frozen? ⟨w.heap.size, 2, none⟩ = false := f3
        go_wp2
        go_roundw
        case rel => exact ⟨1, _, _, by omega, by go_num, HS⟩
        case measure => simp [intOf]
      · have k2 : wo.cell? ⟨p, 3, none⟩ = some (v 1) := HD.out.at_ 3
        go_wp2_with (fail)
        refine HCL.out.mono ?_
        rintro e1 w1 ⟨v1, rfl, hf1, hb1⟩
        have HS := hid (HC.out.step (by omega) (Nat.le_refl _) hf1 hb1)
        obtain ⟨k3, f3⟩ := HT.out w1 hb1
        obtain ⟨A3, c3, ev⟩ := hf1.que.1.form
        subst ev
        clear hf1 hb1 HCL
        obtain ⟨old, k3⟩ : ∃ old, w1.cell? ⟨w.heap.size, 3, none⟩ = some old := ⟨_, k3⟩
        have f3 : w1.frozen? ⟨w.heap.size, 3, none⟩ = false := f3
        go_wp2
        go_roundw
        case rel => exact ⟨2, _, _, by omega, by go_num, HS⟩
        case measure => simp [intOf]
    · obtain rfl : j = 2 := by omega
      have g2 : ¬ ((2 : Nat) : Int) < 2 := by omega
      clear hlt hj
      go_wp2
      go_ret
      obtain ⟨z1, z2, z3, _, z5⟩ := HC.out
      exact ⟨rfl, O, ⟨V, z1, Nat.lt_of_lt_of_le (Nat.lt_of_le_of_lt (Nat.zero_le _) H1.out.inside) (Nat.le_refl _), fun k hk => ⟨(z3 k hk).1, (z3 k hk).2.1, (HQ.out k hk).2⟩, z5 rfl⟩, fun k hk => (z3 k hk).2.2, z2⟩
end Go.Proofs.Ytcfmjebnjjpajaa
