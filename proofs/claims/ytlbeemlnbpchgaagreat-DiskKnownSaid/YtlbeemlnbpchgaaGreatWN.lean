/- Disk.Sync, Fuse: each as the plain model says. Conditions: as at the disk. -/
import Derived.Test.YtlbeemlnbpchgaaGreatWM
namespace Go.Proofs.YtlbeemlnbpchgaaGreat
open Go.RowKit Go.Maps
/-- A disk whose maps are others, with no effects since. -/
theorem DPost.swap {own : Nat → Prop} {w w1 w3 : World} {p a1 a2 : Nat} {M : Mo} (hT : Turn own w w1) (op : own p) (x1 : MapT w1 a1 M.now) (x2 : MapT w1 a2 M.last) (hne : a1 ≠ a2) (n1 : a1 ≠ p) (n2 : a2 ≠ p)
    (o1 : own a1 ∨ w.heap.size ≤ a1) (o2 : own a2 ∨ w.heap.size ≤ a2) (u3 : Turn (One p) w1 w3) (h3 : Has w3 p 62 (cellsD a1 a2 (.slice none 0 0) M)) (hs : M.since = []) (hg : Good M) (r0 : 1024 ≤ M.room) (r1 : M.room ≤ 1048576) : DPost own w p M w3 := by
  have k1 : MapT w3 a1 M.now := x1.kept (u3.block a1 x1.inside (fun k => n1 k))
  have k2 : MapT w3 a2 M.last := x2.kept (u3.block a2 x2.inside (fun k => n2 k))
  refine ⟨fun g => g = p ∨ g = a1 ∨ g = a2, ⟨a1, a2, .slice none 0 0, [], ?_⟩, hT.then (u3.mono (fun g k => by rw [k]; exact op)), ?_⟩
  · refine ⟨?_, ?_, h3, .inl rfl, .inr (.inl rfl), .inr (.inr rfl), k1, k2, hne, World.ownsRow_nil _ _ _ _, fun b hb => (by cases hb), ⟨by rw [hs]; rfl, fun i h => (by simp at h)⟩, hg, r0, r1, by rw [hs]; simp⟩
    · rintro g (e | e | e) <;> rw [e]
      · exact h3.inside
      · exact k1.inside
      · exact k2.inside
    · rintro g (e | e | e) <;> rw [e]
      · exact h3.loose (by decide)
      · exact k1.loose
      · exact k2.loose
  · rintro g (e | e | e) <;> rw [e]
    · exact .inl op
    · exact o1
    · exact o2
theorem Has.there {w : World} {g : Nat} {t : TypeId} {cs : Array Value} (h : Has w g t cs) (o n : Nat) (hn : o + n ≤ cs.size) : w.there g o n := fun j hj => by
  refine ⟨?_, h.free _⟩
  rw [h.at_, Array.getElem?_eq_getElem (by omega)]; rfl
theorem Has.put3 {w : World} {g : Nat} {t : TypeId} {cs : Array Value} (h : Has w g t cs) (o : Nat) (a b c : Value) : Has (w.setCells g o [a, b, c]) g t (((cs.setIfInBounds o a).setIfInBounds (o + 1) b).setIfInBounds (o + 2) c) :=
  ((h.put o a).put (o + 1) b).put (o + 1 + 1) c
theorem Turn.set3 (w : World) (p o : Nat) (a b c : Value) : Turn (One p) w (w.setCells p o [a, b, c]) :=
  ((Turn.set (own := One p) w p o a rfl).then (Turn.set _ p (o + 1) b rfl)).then (Turn.set _ p (o + 1 + 1) c rfl)
set_option maxRecDepth 100000 in
set_option maxHeartbeats 4000000 in
theorem dFuse_any {own : Nat → Prop} {w : World} {p : Nat} {M : Mo} (h : Dsk own w p M) (n : Int) (hn : n ≤ 9223372036854775807) :
    Calls Tryz.prog 36 #[.pointer (some ⟨p, 0, none⟩), .int .i64 n] w fun e w' => e = .returned (.int .i64 (fuseM M n).1) ∧ DPost own w p (fuseM M n).2 w' := by
  obtain ⟨m1, m2, sv, vs, h⟩ := h
  have C1 := hid h.ready
  have H := hid h
  have HNN := hid hn
  by_cases h0 : n < 0
  · have d0 : decide (n < 0) = true := by simpa using h0
    have HD : Hid (fuseM M n = (2, M)) := by show _ = _; unfold fuseM; rw [if_pos h0]
    have hr : readyE M.fuse = 20 ∨ readyE M.fuse = 0 := by unfold readyE; split <;> simp
    clear h h0 hn
    rcases hr with hr | hr
    all_goals
      rw [hr] at C1
      clear hr
      go_enter Tryz.func36, Tryz.ntmps36
      go_wp2_with (go_at_call 78; refine C1.out.mono ?_; rintro e1 w1 ⟨rfl, rfl⟩)
      go_ret
      rw [HD.out]
      exact ⟨rfl, DPost.refl ⟨_, _, _, _, H.out⟩ (Below.refl _ _)⟩
  · have d0 : decide (n < 0) = false := by simpa using h0
    by_cases hf : M.fuse = 0
    · have HR : Hid (readyE M.fuse = 20) := readyE_off hf
      have HD : Hid (fuseM M n = (20, M)) := by show _ = _; unfold fuseM; rw [if_neg h0, if_pos hf]
      rw [HR.out] at C1
      clear h hf h0 hn
      go_enter Tryz.func36, Tryz.ntmps36
      go_wp2_with (go_at_call 78; refine C1.out.mono ?_; rintro e1 w1 ⟨rfl, rfl⟩)
      go_ret
      rw [HD.out]
      exact ⟨rfl, DPost.refl ⟨_, _, _, _, H.out⟩ (Below.refl _ _)⟩
    · have HR : Hid (readyE M.fuse = 0) := readyE_on hf
      have HD : Hid (fuseM M n = (0, ⟨M.now, M.last, M.since, n, M.room⟩)) := by show _ = _; unfold fuseM; rw [if_neg h0, if_neg hf]
      have HGD : Hid (Good ⟨M.now, M.last, M.since, n, M.room⟩) := by have := h.good.fuse hn; rw [HD.out] at this; exact this
      rw [HR.out] at C1
      have c7 : w.cell? ⟨p, 7, none⟩ = some (.int .i64 M.fuse) := h.has.at_ 7
      have f7 := h.has.free 7
      clear h hf h0 hn
      go_enter Tryz.func36, Tryz.ntmps36
      go_wp2_with (go_at_call 78; refine C1.out.mono ?_; rintro e1 w1 ⟨rfl, rfl⟩)
      go_ret
      rw [HD.out]
      have hu : Turn (One p) w (w.setCell ⟨p, 7, none⟩ (.int .i64 n)) := Turn.set w p 7 _ rfl
      have hh : Has (w.setCell ⟨p, 7, none⟩ (.int .i64 n)) p 62 (cellsD m1 m2 sv ⟨M.now, M.last, M.since, n, M.room⟩) := H.out.has.put 7 _
      have hu2 : Turn own w (w.setCell ⟨p, 7, none⟩ (.int .i64 n)) := hu.mono (fun g k => by rw [k]; exact H.out.op)
      have hsv : ∀ b, sv.ownBlock = some b → b ≠ p := by
        intro b hb e
        obtain ⟨cur, hc⟩ := row_kind H.out.row hb
        have := H.out.has
        unfold Has at this
        rw [← e, hc] at this
        injection this with this; injection this with _ this; revert this; decide
      refine ⟨rfl, own, ⟨m1, m2, sv, vs, ⟨fun g hg => Nat.lt_of_lt_of_le (H.out.low g hg) hu.size, fun g hg => ?_, hh, H.out.op, H.out.o1, H.out.o2, H.out.t1.kept (hu.block m1 H.out.t1.inside (fun k => H.out.pne1 k)), H.out.t2.kept (hu.block m2 H.out.t2.inside (fun k => H.out.pne2 k)), H.out.ne,
        row_of H.out.row (fun b hb => hu.block b (H.out.low b (H.out.osv b hb)) (fun k => hsv b hb k)), H.out.osv, H.out.effs.gx (Gx.of_turn hu2 H.out.loose), HGD.out, H.out.r0, H.out.r1, H.out.len⟩⟩, hu2, fun _ k => .inl k⟩
      by_cases e : g = p
      · rw [e]; exact hh.loose (by decide)
      · intro cs t q ho
        exact H.out.loose g hg cs t q ((hu.block g (H.out.low g hg) e).symm.trans ho)
set_option maxRecDepth 100000 in
set_option maxHeartbeats 4000000 in
theorem dSync_any {own : Nat → Prop} {w : World} {p : Nat} {M : Mo} (h : Dsk own w p M) :
    Calls Tryz.prog 29 #[.pointer (some ⟨p, 0, none⟩)] w fun e w' => e = .returned (.int .i64 (syncM M).1) ∧ DPost own w p (syncM M).2 w' := by
  obtain ⟨m1, m2, sv, vs, h⟩ := h
  have C1 := hid h.ready
  have H := hid h
  by_cases hf : M.fuse = 0
  · have HR : Hid (readyE M.fuse = 20) := readyE_off hf
    have HD : Hid (syncM M = (20, M)) := by show _ = _; unfold syncM; rw [if_pos hf]
    rw [HR.out] at C1
    clear h hf
    go_enter Tryz.func29, Tryz.ntmps29
    go_wp2_with (go_at_call 78; refine C1.out.mono ?_; rintro e1 w1 ⟨rfl, rfl⟩)
    go_ret
    rw [HD.out]
    exact ⟨rfl, DPost.refl ⟨_, _, _, _, H.out⟩ (Below.refl _ _)⟩
  · have HR : Hid (readyE M.fuse = 0) := readyE_on hf
    have HD : Hid (syncM M = (0, ⟨M.now, M.now, [], burnF M.fuse, M.room⟩)) := by show _ = _; unfold syncM; rw [if_neg hf]
    have HGD : Hid (Good ⟨M.now, M.now, [], burnF M.fuse, M.room⟩) := by have := h.good.sync; rw [HD.out] at this; exact this
    rw [HR.out] at C1
    have CC := hid (tcopy_any h.tr1)
    clear h hf
    go_enter Tryz.func29, Tryz.ntmps29
    go_wp2_with fail
    refine C1.out.mono ?_; rintro e1 w1 ⟨rfl, rfl⟩
    go_wp2_with fail
    refine CC.out.mono ?_; rintro e2 w2 ⟨m', rfl, hm', hl', hb2⟩
    have M2 := hid hm'
    have L2 := hid hl'
    have B2 := hid hb2
    have P2 : Hid (Has w2 p 62 (cellsD m1 m2 sv M)) := H.out.has.kept hb2 (H.out.low p H.out.op)
    clear hm' hl' hb2
    obtain ⟨w3, HW3⟩ : ∃ w3, Hid (w2.setCells p 3 [.map (some m'), .int .i64 ((usedL M.now : Nat) : Int), .int .i64 (M.room : Int)] = w3) := ⟨_, rfl⟩
    have P3 : Hid (Has w3 p 62 (cellsD m1 m' sv ⟨M.now, M.now, M.since, M.fuse, M.room⟩)) := by rw [← HW3.out]; exact P2.out.put3 3 _ _ _
    have U3 : Hid (Turn (One p) w2 w3) := by rw [← HW3.out]; exact Turn.set3 _ _ _ _ _ _
    have c6 := P3.out.at_ 6
    have f6 := P3.out.free 6
    have TH := hid (P2.out.there 3 3 (by show 3 + 3 ≤ 8; omega))
    go_wp2_with (refine wpList_store_mid rfl 59 (.tmp 16) (.tmp 14) rfl p 3 #[.map (some m'), .int .i64 ((usedL M.now : Nat) : Int), .int .i64 (M.room : Int)] rfl rfl TH.out (by kernel_rfl) (by simp [Value.oneCell']) ?_; change wpList _ _ _ _ _ (World.setCells w2 p 3 [.map (some m'), .int .i64 ((usedL M.now : Nat) : Int), .int .i64 (M.room : Int)]); rw [HW3.out])
    have P4 : Hid (Has (w3.setCell ⟨p, 6, none⟩ (.slice none 0 0)) p 62 (cellsD m1 m' (.slice none 0 0) ⟨M.now, M.now, [], M.fuse, M.room⟩)) := P3.out.put 6 _
    have CB := hid (dburn_any P4.out (f := M.fuse) rfl H.out.good.f0 H.out.good.f1)
    refine CB.out.mono ?_; rintro e4 w4 ⟨rfl, hu4, h4⟩
    have U4 := hid ((U3.out.then (Turn.set w3 p 6 (.slice none 0 0) rfl)).then hu4)
    have H4 : Hid (Has w4 p 62 (cellsD m1 m' (.slice none 0 0) ⟨M.now, M.now, [], burnF M.fuse, M.room⟩)) := h4
    clear hu4 h4
    go_wp2
    go_ret
    rw [HD.out]
    have hw := H.out.t1.inside
    have hpw := H.out.low p H.out.op
    exact ⟨rfl, DPost.swap (Turn.of_below B2.out) H.out.op (H.out.t1.kept (B2.out.block m1 hw)) M2.out (by have := L2.out; omega) H.out.pne1 (by have := L2.out; omega) (.inl H.out.o1) (.inr L2.out) U4.out H4.out rfl HGD.out H.out.r0 H.out.r1⟩
end Go.Proofs.YtlbeemlnbpchgaaGreat
