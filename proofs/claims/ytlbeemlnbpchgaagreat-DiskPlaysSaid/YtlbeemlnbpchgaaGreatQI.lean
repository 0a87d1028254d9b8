/- Several texts in one: WK, WL. Conditions: those said at each. -/
import Derived.Test.YtlbeemlnbpchgaaGreatQH
/- Disk.do: an effect done, kept, counted. Conditions: as at the disk. -/
namespace Go.Proofs.YtlbeemlnbpchgaaGreat
open Go.RowKit Go.Maps
theorem DskI.ready {own : Nat → Prop} {w : World} {p m1 m2 : Nat} {sv : Value} {vs : List Value} {M : Mo} (h : DskI own w p m1 m2 sv vs M) :
    Calls Tryz.prog 78 #[.pointer (some ⟨p, 0, none⟩)] w fun e w' => e = .returned (.int .i64 (readyE M.fuse)) ∧ w = w' :=
  dready_any (h.has.at_ 0) (h.has.at_ 7)
theorem row_form {w : World} {B n : Nat} {e : TypeId} {v : Value} {xs : List Value} (h : w.ownsRow B e 1 v n xs) : ∃ A c, v = .slice A n c := by
  rcases h.2 with ⟨k1, k2⟩ | ⟨g', c, cur, k1, _⟩
  · exact ⟨_, _, by rw [k2]; exact k1⟩
  · exact ⟨_, _, k1⟩
/-- Behind an effect that was none. -/
theorem DskI.err {own : Nat → Prop} {w w2 : World} {p m1 m2 : Nat} {sv : Value} {vs : List Value} {M : Mo} (h : DskI own w p m1 m2 sv vs M) (hu : Turn (Two p m1) w w2) (hT : TreeS w2 p 0 m1 62 (cellsD m1 m2 sv M) M.now (usedL M.now) M.room) : DskI own w2 p m1 m2 sv vs M := by
  have hsv : ∀ b, sv.ownBlock = some b → ¬ Two p m1 b := by
    intro b hb
    obtain ⟨cur, hc⟩ := row_kind h.row hb
    rintro (e | e)
    · have := h.has
      unfold Has at this
      rw [← e, hc] at this
      injection this with this; injection this with _ this; revert this; decide
    · obtain ⟨es, ck, hh, _⟩ := h.t1
      rw [← e, hc] at hh; cases hh
  have hT2 : Turn own w w2 := hu.mono (fun g k => by rcases k with e | e <;> rw [e]; exact h.op; exact h.o1)
  refine ⟨fun g hg => Nat.lt_of_lt_of_le (h.low g hg) hu.size, fun g hg => ?_, hT.has, h.op, h.o1, h.o2, hT.mp, h.t2.kept (hu.block m2 h.t2.inside (fun k => by rcases k with k | k; exact h.pne2 k; exact h.ne k.symm)), h.ne,
    row_of h.row (fun b hb => hu.block b (h.low b (h.osv b hb)) (hsv b hb)), h.osv, h.effs.gx (Gx.of_turn hT2 h.loose), h.good, h.r0, h.r1, h.len⟩
  by_cases k : Two p m1 g
  · rcases k with e | e <;> rw [e]
    · exact hT.has.loose (by decide)
    · exact hT.mp.loose
  · intro cs t q ho
    exact h.loose g hg cs t q ((hu.block g (h.low g hg) k).symm.trans ho)
/-- Behind an effect that was done, its function value put to the others. -/
theorem DskI.done {own : Nat → Prop} {w w1 w2 w3 w4 : World} {p m1 m2 : Nat} {sv v' : Value} {vs : List Value} {M : Mo} (h : DskI own w p m1 m2 sv vs M) {v : Value} {x : Eff} (hv : IsEff w v x) {L' : Tr}
    (hn0 : M.fuse ≠ 0) (hs : stepE M.room M.now x = (0, L')) (u1 : Turn (Two p m1) w w1) (t1 : TreeS w1 p 0 m1 62 ((cellsD m1 m2 sv M).setIfInBounds 1 (.int .i64 ((usedL L' : Nat) : Int))) L' (usedL L') M.room)
    (b1 : Below w1.heap.size w1 w2) (hb2 : w1.heap.size < w2.heap.size) (hrow : w3.ownsRow 0 97 1 v' (vs.length + 1) (vs ++ [v])) (hg : w2.grownBy w3 sv.ownBlock) (hloc : v'.ownBlock = sv.ownBlock ∨ v'.ownBlock = some w2.heap.size)
    (u4 : Turn (One p) (w3.setCell ⟨p, 6, none⟩ v') w4) (h4 : Has w4 p 62 ((((cellsD m1 m2 sv M).setIfInBounds 1 (.int .i64 ((usedL L' : Nat) : Int))).setIfInBounds 6 v').setIfInBounds 7 (.int .i64 (burnF M.fuse)))) (hlen : M.since.length + 1 ≤ 100000) :
    DPost own w p (doM M x).2 w4 := by
  have hM : (doM M x).2 = ⟨L', M.last, M.since ++ [x], burnF M.fuse, M.room⟩ := by unfold doM; rw [if_neg hn0, hs, if_pos rfl]
  have hgood := h.good.do x
  rw [hM] at hgood ⊢
  -- the row of effects is no map and no disk
  have hsv : ∀ b, sv.ownBlock = some b → b ≠ p ∧ b ≠ m1 ∧ b ≠ m2 := by
    intro b hb
    obtain ⟨cur, hc⟩ := row_kind h.row hb
    refine ⟨fun e => ?_, fun e => ?_, fun e => ?_⟩
    · have := h.has
      unfold Has at this
      rw [← e, hc] at this
      injection this with this; injection this with _ this; revert this; decide
    · obtain ⟨es, ck, hh, _⟩ := h.t1
      rw [← e, hc] at hh; cases hh
    · obtain ⟨es, ck, hh, _⟩ := h.t2
      rw [← e, hc] at hh; cases hh
  have hpw1 : p < w1.heap.size := t1.has.inside
  have hm1w1 : m1 < w1.heap.size := t1.mp.inside
  have hm2w : m2 < w.heap.size := h.t2.inside
  have hm2w1 : m2 < w1.heap.size := Nat.lt_of_lt_of_le hm2w u1.size
  have s2 := b1.size
  have s3 := hg.size
  have hp3 : Has w3 p 62 ((cellsD m1 m2 sv M).setIfInBounds 1 (.int .i64 ((usedL L' : Nat) : Int))) :=
    ((hg.block p (by omega) (fun e => (hsv p e.symm).1 rfl)).trans (b1.block p hpw1)).trans t1.has
  have hv'3 : ∀ b, v'.ownBlock = some b → b ≠ p ∧ b ≠ m1 ∧ b ≠ m2 ∧ b < w3.heap.size := by
    intro b hb
    obtain ⟨cur, hc⟩ := row_kind hrow hb
    refine ⟨fun e => ?_, ?_, ?_, (Array.getElem?_eq_some_iff.1 hc).1⟩
    · have := hp3
      unfold Has at this
      rw [← e, hc] at this
      injection this with this; injection this with _ this; revert this; decide
    · rcases hloc with k | k
      · exact (hsv b (k ▸ hb)).2.1
      · rw [hb] at k; injection k with k; omega
    · rcases hloc with k | k
      · exact (hsv b (k ▸ hb)).2.2
      · rw [hb] at k; injection k with k; omega
  have hT : Turn own w w4 := by
    have a1 : Turn own w w1 := u1.mono (fun g k => by rcases k with e | e <;> rw [e]; exact h.op; exact h.o1)
    have a2 : Turn own w1 w2 := Turn.of_below b1
    have a3 : Turn own w2 w3 := Turn.of_grown hg (fun g k => h.osv g k)
    have a4 : Turn own w3 (w3.setCell ⟨p, 6, none⟩ v') := Turn.set w3 p 6 v' h.op
    have a5 : Turn own (w3.setCell ⟨p, 6, none⟩ v') w4 := u4.mono (fun g k => by rw [k]; exact h.op)
    exact (((a1.then a2).then a3).then a4).then a5
  have h34 : ∀ g, g < w3.heap.size → g ≠ p → w4.heap[g]? = w3.heap[g]? := fun g hg3 hne =>
    (u4.block g (by simpa using hg3) (fun k => hne k)).trans (Below.heap_setCell w3 ⟨p, 6, none⟩ v' g hne)
  have s4 : w3.heap.size ≤ w4.heap.size := by have := u4.size; simpa using this
  have t1' : MapT w4 m1 L' := t1.mp.kept (((h34 m1 (by omega) h.pne1).trans (hg.block m1 (by omega) (fun e => (hsv m1 e.symm).2.1 rfl))).trans (b1.block m1 hm1w1))
  have t2' : MapT w4 m2 M.last := h.t2.kept ((((h34 m2 (by omega) h.pne2).trans (hg.block m2 (by omega) (fun e => (hsv m2 e.symm).2.2 rfl))).trans (b1.block m2 hm2w1)).trans (u1.block m2 hm2w (fun k => by rcases k with k | k; exact h.pne2 k; exact h.ne k.symm)))
  have hcs : (((cellsD m1 m2 sv M).setIfInBounds 1 (.int .i64 ((usedL L' : Nat) : Int))).setIfInBounds 6 v').setIfInBounds 7 (.int .i64 (burnF M.fuse)) = cellsD m1 m2 v' ⟨L', M.last, M.since ++ [x], burnF M.fuse, M.room⟩ := rfl
  rw [hcs] at h4
  refine ⟨fun g => g = p ∨ g = m1 ∨ g = m2 ∨ v'.ownBlock = some g, ⟨m1, m2, v', vs ++ [v], ?_⟩, hT, ?_⟩
  · refine ⟨?_, ?_, h4, .inl rfl, .inr (.inl rfl), .inr (.inr (.inl rfl)), t1', t2', h.ne, ?_, fun b hb => .inr (.inr (.inr hb)), ?_, hgood, h.r0, h.r1, by simp; omega⟩
    · rintro g (e | e | e | e)
      · rw [e]; exact h4.inside
      · rw [e]; exact t1'.inside
      · rw [e]; exact t2'.inside
      · have := (hv'3 g e).2.2.2; omega
    · rintro g (e | e | e | e)
      · rw [e]; exact h4.loose (by decide)
      · rw [e]; exact t1'.loose
      · rw [e]; exact t2'.loose
      · obtain ⟨cur, hc⟩ := row_kind hrow e
        have hb := hv'3 g e
        have hc4 : Has w4 g 97 cur := (h34 g hb.2.2.2 hb.1).trans hc
        exact hc4.loose (by decide)
    · rw [List.length_append, List.length_singleton]
      exact row_of hrow (fun g hb => h34 g (hv'3 g hb).2.2.2 (hv'3 g hb).1)
    · exact (h.effs.gx (Gx.of_turn hT h.loose)).snoc (hv.gx (Gx.of_turn hT h.loose))
  · rintro g (e | e | e | e)
    · rw [e]; exact .inl h.op
    · rw [e]; exact .inl h.o1
    · rw [e]; exact .inl h.o2
    · rcases hloc with k | k
      · exact .inl (h.osv g (k ▸ e))
      · rw [e] at k; injection k with k
        have := u1.size
        exact .inr (by omega)
set_option maxRecDepth 100000 in
set_option maxHeartbeats 8000000 in
theorem ddo_any {own : Nat → Prop} {w : World} {p : Nat} {M : Mo} (h : Dsk own w p M) (hG : Gd w) (v : Value) (x : Eff) (hv : IsEff w v x) (hlen : M.since.length + 1 ≤ 100000) :
    Calls Tryz.prog 60 #[.pointer (some ⟨p, 0, none⟩), v] w fun e w' => e = .returned (.int .i64 (doM M x).1) ∧ DPost own w p (doM M x).2 w' := by
  obtain ⟨m1, m2, sv, vs, h⟩ := h
  have C1 := hid h.ready
  have H := hid h
  have HV := hid hv
  have HL := hid hlen
  by_cases hf : M.fuse = 0
  · have HR : Hid (readyE M.fuse = 20) := readyE_off hf
    have HD : Hid (doM M x = (20, M)) := by show _ = _; unfold doM; rw [if_pos hf]
    rw [HR.out] at C1
    clear h hv hf hG hlen
    go_enter Tryz.func60, Tryz.ntmps60
    go_wp2_with (go_at_call 78; refine C1.out.mono ?_; rintro e1 w1 ⟨rfl, rfl⟩)
    go_ret
    rw [HD.out]
    exact ⟨rfl, DPost.refl ⟨_, _, _, _, H.out⟩ (Below.refl _ _)⟩
  · have HR : Hid (readyE M.fuse = 0) := readyE_on hf
    obtain ⟨hd, k, lb, rfl, ek, hk⟩ := hv
    have CK := hid (hk w p 0 m1 _ M.now M.room 9223372036854775807 (Gx.refl _) h.tr1 h.good.w1 h.r1 hG (by omega))
    rw [cutE_all x _ (by omega)] at CK
    obtain ⟨⟨c, L'⟩, HS⟩ : ∃ r, Hid (stepE M.room M.now x = r) := ⟨_, rfl⟩
    rw [HS.out] at CK
    rw [HR.out] at C1
    by_cases hc : c = 0
    · subst hc
      have HD : Hid ((doM M x).1 = 0) := by show _ = _; unfold doM; rw [if_neg hf, HS.out, if_pos rfl]
      have HF := hid hf
      have HSV : Hid (∀ b, sv.ownBlock = some b → b ≠ p) := fun b hb => by
        obtain ⟨cur, hc⟩ := row_kind h.row hb
        intro e
        have := h.has
        unfold Has at this
        rw [← e, hc] at this
        injection this with this; injection this with _ this; revert this; decide
      obtain ⟨i0, hi, hz0, hz1, hz2⟩ := info_parts infoEff
      have HONE := hid HV.out.one
      have hvl : vs.length + 1 ≤ 100000 := by rw [h.effs.1]; exact hlen
      have F0 := hid h.good.f0
      have F1 := hid h.good.f1
      obtain ⟨n, HN⟩ : ∃ n, Hid (vs.length = n) := ⟨_, rfl⟩
      have hrow0 := h.row
      rw [HN.out] at hvl
      have N2 : Hid (n + 1 ≤ maxLen) := by show _ ≤ _; unfold maxLen; omega
      have N3 : Hid ((n + 1) * 8 ≤ 140737488355328) := by show _ ≤ _; omega
      have HR0 := hid hrow0
      clear h hf hG hlen hk hrow0 hvl hd
      go_enter Tryz.func60, Tryz.ntmps60
      go_wp2_with fail
      refine C1.out.mono ?_; rintro e1 w1 ⟨rfl, rfl⟩
      go_wp2_with fail
      refine CK.out.mono ?_; rintro e2 w2 ⟨rfl, hu2, ht2⟩
      have U2 := hid hu2
      have T2 := hid ht2
      have hc6 : w2.cell? ⟨p, 6, none⟩ = some sv := (T2.out.has.at_ 6).trans rfl
      have R2 : Hid (w2.ownsRow 0 97 1 sv n vs) := by
        have hr := HR0.out
        rw [HN.out] at hr
        exact row_of hr (fun b hb => U2.out.block b (H.out.low b (H.out.osv b hb)) (fun k => by
          rcases k with k | k
          · exact HSV.out b hb k
          · obtain ⟨cur, hc⟩ := row_kind HR0.out hb
            obtain ⟨es, ck, hh, _⟩ := H.out.t1
            rw [← k, hc] at hh; cases hh))
      have HP3 : Hid (∀ w3, (w2.alloc (.cells #[Value.func (.func k) #[] lb] 97)).grownBy w3 sv.ownBlock → Has w3 p 62 ((cellsD m1 m2 sv M).setIfInBounds 1 (.int .i64 ((usedL L' : Nat) : Int)))) := fun w3 hg =>
        ((hg.block p (by simp; have := T2.out.has.inside; omega) (fun e => HSV.out p e.symm rfl)).trans (Below.heap_alloc w2 _ p T2.out.has.inside)).trans T2.out.has
      clear hu2 ht2
      go_wp2_with (first
        | (at_builtin; refine wpList_append_own_at _ rfl _ _ 60 rfl 0 97 i0 .nilFunc 1 8 Tryz.underlying60 hi hz0 hz1 hz2 rfl (by decide) _ _ _ rfl (R2.out.alloc _) ⟨w2.heap.size, 0, none⟩ 1 1 [Value.func (.func k) #[] lb] rfl rfl (cell_one_new _ _ _) (fun u hu => by rw [List.mem_singleton] at hu; rw [hu]; exact HONE.out) N2.out N3.out (Nat.zero_le _) ?_; intro v' w3 hown' hg3 hnil3 hloc3; obtain ⟨A3, c3, rfl⟩ := row_form hown'; have HO3 := hid hown'; have HG3 : Hid ((w2.alloc (.cells #[Value.func (.func k) #[] lb] 97)).grownBy w3 sv.ownBlock) := hg3; have HL3 : Hid ((Value.slice A3 (n + 1) c3).ownBlock = sv.ownBlock ∨ (Value.slice A3 (n + 1) c3).ownBlock = some (w2.alloc (.cells #[Value.func (.func k) #[] lb] 97)).heap.size) := hloc3; have P3 := hid (HP3.out w3 hg3); have hc63 := P3.out.at_ 6; have hf63 := P3.out.free 6; clear hown' hg3 hnil3 hloc3)
        | fail)
      have CB := hid (dburn_any (P3.out.put 6 (.slice A3 (n + 1) c3)) (f := M.fuse) rfl F0.out F1.out)
      refine CB.out.mono ?_; rintro e4 w4 ⟨rfl, hu4, h4⟩
      have U4 := hid hu4
      have H4 := hid h4
      clear hu4 h4
      go_wp2
      go_ret
      have hD := H.out.done HV.out HF.out HS.out U2.out T2.out ((Below.refl _ _).alloc (Nat.le_refl _) _) (by simp) (by rw [HN.out]; exact HO3.out) HG3.out HL3.out U4.out H4.out HL.out
      exact ⟨by rw [HD.out]; rfl, hD⟩
    · have q1 : (c == 0) = false := by simpa using hc
      have q2 : (c != 0) = true := by simpa using hc
      have HD : Hid (doM M x = (c, M)) := by show _ = _; unfold doM; rw [if_neg hf, HS.out, if_neg hc]
      have HLE : Hid (L' = M.now) := by show _ = _; have := step_err (room := M.room) (L := M.now) x (by rw [HS.out]; exact hc); rw [HS.out] at this; exact this
      clear h hf hG hlen hc hk
      go_enter Tryz.func60, Tryz.ntmps60
      go_wp2_with fail
      refine C1.out.mono ?_; rintro e1 w1 ⟨rfl, rfl⟩
      go_wp2_with fail
      refine CK.out.mono ?_; rintro e2 w2 ⟨rfl, hu2, ht2⟩
      have U2 := hid hu2
      have T2 := hid ht2
      clear hu2 ht2
      go_wp2
      go_ret
      rw [HD.out]
      have hT := T2.out
      rw [HLE.out] at hT
      have hu : Turn own w w2 := U2.out.mono (fun g k => by rcases k with e | e <;> rw [e]; exact H.out.op; exact H.out.o1)
      have hcs : (cellsD m1 m2 sv M).setIfInBounds (0 + 1) (.int .i64 ((usedL M.now : Nat) : Int)) = cellsD m1 m2 sv M := rfl
      rw [hcs] at hT
      have hD : DskI own w2 p m1 m2 sv vs M := H.out.err U2.out hT
      exact ⟨rfl, own, ⟨_, _, _, _, hD⟩, hu, fun _ k => .inl k⟩
end Go.Proofs.YtlbeemlnbpchgaaGreat
/- Disk.Write, Append, Mkdir, Link, Rename, Remove: each as the plain model says. Conditions: paths of at most 4000 bytes, data of at most a million. -/
namespace Go.Proofs.YtlbeemlnbpchgaaGreat
open Go.RowKit Go.Maps
set_option maxRecDepth 100000 in
set_option maxHeartbeats 2000000 in
theorem strClone_any (s : By) (w : World) (hs : s.length ≤ 1000000) : Calls Tryz.prog 59 #[kS s] w fun e w' => e = .returned (kS s) ∧ Below w.heap.size w w' := by
  have C := hid (Tryz.stringslite_Clone (ba s) w (by rw [ba_size]; omega))
  go_enter Tryz.func59, Tryz.ntmps59
  go_wp2_with (go_at_call 105; refine C.out.mono ?_; rintro e1 w1 ⟨rfl, hb1⟩)
  go_ret
  exact ⟨rfl, hb1⟩
theorem Has.again {w : World} {g : Nat} {t : TypeId} {v : Value} (h : Has w g t #[v]) : Has (w.setCell ⟨g, 0, none⟩ v) g t #[v] := h.put 0 v
theorem Has.again2 {w : World} {g k : Nat} {t t2 : TypeId} {v u : Value} (h : Has w g t #[v]) (hk : Has w k t2 #[u]) : Has (w.setCell ⟨k, 0, none⟩ u) g t #[v] := by
  by_cases e : g = k
  · subst e
    unfold Has at h hk
    rw [h] at hk
    injection hk with hk
    injection hk with h1 h2
    injection h1 with h1
    injection h1 with h1 _
    subst h1
    exact Has.again h
  · exact h.other e u
/-- Two boxes, and what is new. -/
structure CL (w : World) (b1 b2 : Nat) (p d : By) (W : World) : Prop where
  bx : BxA b1 b2 p d W
  bl : Below w.heap.size w W
theorem CL.drew {w W : World} {b1 b2 : Nat} {p d : By} (h : CL w b1 b2 p d W) : CL w b1 b2 p d W.drew := ⟨h.bx.drew, h.bl.drew⟩
theorem CL.on {w W W' : World} {b1 b2 : Nat} {p d : By} (h : CL w b1 b2 p d W) (hb : Below W.heap.size W W') : CL w b1 b2 p d W' := ⟨h.bx.gx (Gx.of_below hb), h.bl.trans (hb.mono h.bl.size)⟩
theorem CL.set1 {w W : World} {b1 b2 : Nat} {p d : By} (h : CL w b1 b2 p d W) (h1 : w.heap.size ≤ b1) : CL w b1 b2 p d (W.setCell ⟨b1, 0, none⟩ (kS p)) := ⟨⟨h.bx.x1.again, h.bx.x2.again2 h.bx.x1⟩, h.bl.setCell h1 _⟩
theorem CL.set2 {w W : World} {b1 b2 : Nat} {p d : By} (h : CL w b1 b2 p d W) (h2 : w.heap.size ≤ b2) : CL w b1 b2 p d (W.setCell ⟨b2, 0, none⟩ (kS d)) := ⟨⟨h.bx.x1.again2 h.bx.x2, h.bx.x2.again⟩, h.bl.setCell h2 _⟩
set_option maxRecDepth 100000 in
set_option maxHeartbeats 8000000 in
theorem dWrite_any {own : Nat → Prop} {w : World} {q : Nat} {M : Mo} (h : Dsk own w q M) (hG : Gd w) (p d : By) (tm : Int) (hp : p.length ≤ 4000) (hd : d.length ≤ 1000000) (hlen : M.since.length + 1 ≤ 100000) :
    Calls Tryz.prog 22 #[.pointer (some ⟨q, 0, none⟩), kS p, kS d, .int .i64 tm] w fun e w' => e = .returned (.int .i64 (doM M (.write p d tm)).1) ∧ DPost own w q (doM M (.write p d tm)).2 w' := by
  have H := hid h
  have HG := hid hG
  have HL := hid hlen
  have P0 : Hid (CL w w.heap.size (w.heap.size + 1) p d ((((w.alloc (.cells #[kS p] 9)).alloc (.cells #[kS d] 9)).alloc (.cells #[.int .i64 tm] 2)))) := by
    refine ⟨⟨?_, ?_⟩, ?_⟩
    · exact ((Has.fresh w _ _).more _).more _
    · exact (Has.fresh' (w.alloc _) _ _ (by simp)).more _
    · exact (((Below.refl _ _).alloc (Nat.le_refl _) _).alloc (by simp) _).alloc (by simp; omega) _
  have X3 : Hid (Has ((((w.alloc (.cells #[kS p] 9)).alloc (.cells #[kS d] 9)).alloc (.cells #[.int .i64 tm] 2))).drew (w.heap.size + 2) 2 #[.int .i64 tm]) := Has.fresh' _ _ _ (by simp)
  have C1 := hid (fun W => strClone_any p W (by omega))
  have C2 := hid (fun W => strClone_any d W (by omega))
  clear h hG hlen
  go_enter Tryz.func22, Tryz.ntmps22
  go_wp2
  refine wp_region_noPanic ?_
  refine wp_region_held_drew (S := CL w w.heap.size (w.heap.size + 1) p d) (by kernel_rfl) (P0.out.drew) (fun hS => ?_)
  refine wpAnyH_take (i := 0) (v := ?_) (by simp only [List.getElem?_toArray, List.getElem?_cons_zero]; rfl) (by kernel_rfl) (by kernel_rfl) (by kernel_rfl) (fun _ _ _ h => h) (Or.inl ⟨by rfl, ?_⟩) (by assumption) ?_
  rotate_left 1
  · intro w hSw
    have hc := hSw.bx.x1.at_ 0
    go_simp
    with_reducible rfl
  simp only [Act.put, List.setIfInBounds_toArray, List.set_cons_zero, List.set_cons_succ]
  refine wpAnyH_take (i := 2) (v := ?_) (by simp only [List.getElem?_toArray, List.getElem?_cons_zero, List.getElem?_cons_succ]; rfl) (by kernel_rfl) (by kernel_rfl) (by kernel_rfl) (fun _ _ _ h => h) (Or.inl ⟨by rfl, ?_⟩) (by assumption) ?_
  rotate_left 1
  · intro w hSw
    have hc := hSw.bx.x2.at_ 0
    go_simp
    with_reducible rfl
  simp only [Act.put, List.setIfInBounds_toArray, List.set_cons_zero, List.set_cons_succ]
  refine wpAnyH_ready (rs := [1]) (by kernel_rfl) (by simp) ?_
  refine AllReadyH.cons (by simp only [List.getElem?_toArray, List.getElem?_cons_zero, List.getElem?_cons_succ]; rfl) (fun K hK => ?_) AllReadyH.nil
  go_simp
  refine (C1.out _).mono ?_
  rintro e1 w1 ⟨rfl, hb1⟩
  have hz1 := P0.out.drew.on hb1
  refine hK.out _ _ hz1 (fun hS => ?_)
  clear hK K hS
  refine wpAnyH_ready (rs := [3]) (by kernel_rfl) (by simp) ?_
  refine AllReadyH.cons (by simp only [List.getElem?_toArray, List.getElem?_cons_zero, List.getElem?_cons_succ]; rfl) (fun K hK => ?_) AllReadyH.nil
  go_simp
  refine (C2.out _).mono ?_
  rintro e2 w2 ⟨rfl, hb2⟩
  have hz2 := hz1.on hb2
  refine hK.out _ _ hz2 (fun hS => ?_)
  clear hK K hS
  have X3b : Hid (Has w2 (w.heap.size + 2) 2 #[.int .i64 tm]) := (X3.out.gx (.inr rfl) (Gx.of_below hb1)).gx (.inr rfl) (Gx.of_below hb2)
  have P2 := hid hz2
  clear hz1 hz2 hb1 hb2
  have hc1 := P2.out.bx.x1.at_ 0
  have hf1 := P2.out.bx.x1.free 0
  refine wpAnyH_ready (rs := [4]) (by kernel_rfl) (by simp) ?_
  refine AllReadyH.cons (by simp only [List.getElem?_toArray, List.getElem?_cons_zero, List.getElem?_cons_succ]; rfl) (fun K hK => ?_) AllReadyH.nil
  go_simp
  refine hK.out _ _ (P2.out.set1 (Nat.le_refl _)) (fun hS => ?_)
  clear hK K hS
  have P3 := hid (P2.out.set1 (Nat.le_refl _))
  have hc2 := P3.out.bx.x2.at_ 0
  have hf2 := P3.out.bx.x2.free 0
  refine wpAnyH_ready (rs := [5]) (by kernel_rfl) (by simp) ?_
  refine AllReadyH.cons (by simp only [List.getElem?_toArray, List.getElem?_cons_zero, List.getElem?_cons_succ]; rfl) (fun K hK => ?_) AllReadyH.nil
  go_simp
  refine hK.out _ _ (P3.out.set2 (Nat.le_succ _)) (fun hS => ?_)
  clear hK K hS
  refine wpAnyH_done (by kernel_rfl) ?_ _
  refine NoPanic.normal ?_
  have P4 := hid (P3.out.set2 (Nat.le_succ _))
  have X4 : Hid (Has ((w2.setCell ⟨w.heap.size, 0, none⟩ (kS p)).setCell ⟨w.heap.size + 1, 0, none⟩ (kS d)) (w.heap.size + 2) 2 #[.int .i64 tm]) := (X3b.out.other (p := ⟨w.heap.size, 0, none⟩) (by show _ ≠ w.heap.size; omega) _).other (p := ⟨w.heap.size + 1, 0, none⟩) (by show _ ≠ w.heap.size + 1; omega) _
  clear hc1 hf1 hc2 hf2
  have CD := hid (ddo_any (H.out.on P4.out.bl) (HG.out.kept P4.out.bl) _ (.write p d tm) (eff_write ⟨P4.out.bx.x1, P4.out.bx.x2, X4.out⟩ hp hd) HL.out)
  go_wp2_with fail
  refine CD.out.mono ?_; rintro e3 w3 ⟨rfl, h3⟩
  have H3 := hid h3
  clear h3
  go_wp2
  go_ret
  exact ⟨rfl, DPost.ahead P4.out.bl H3.out⟩
set_option maxRecDepth 100000 in
set_option maxHeartbeats 8000000 in
theorem dAppend_any {own : Nat → Prop} {w : World} {q : Nat} {M : Mo} (h : Dsk own w q M) (hG : Gd w) (p d : By) (hp : p.length ≤ 4000) (hd : d.length ≤ 1000000) (hlen : M.since.length + 1 ≤ 100000) :
    Calls Tryz.prog 23 #[.pointer (some ⟨q, 0, none⟩), kS p, kS d] w fun e w' => e = .returned (.int .i64 (doM M (.append p d)).1) ∧ DPost own w q (doM M (.append p d)).2 w' := by
  have H := hid h
  have HG := hid hG
  have HL := hid hlen
  have P0 : Hid (CL w w.heap.size (w.heap.size + 1) p d ((w.alloc (.cells #[kS p] 9)).alloc (.cells #[kS d] 9))) := by
    refine ⟨⟨?_, ?_⟩, ?_⟩
    · exact (Has.fresh w _ _).more _
    · exact Has.fresh' (w.alloc _) _ _ (by simp)
    · exact ((Below.refl _ _).alloc (Nat.le_refl _) _).alloc (by simp) _
  have C1 := hid (fun W => strClone_any p W (by omega))
  have C2 := hid (fun W => strClone_any d W (by omega))
  clear h hG hlen
  go_enter Tryz.func23, Tryz.ntmps23
  go_wp2
  refine wp_region_noPanic ?_
  refine wp_region_held_drew (S := CL w w.heap.size (w.heap.size + 1) p d) (by kernel_rfl) (P0.out.drew) (fun hS => ?_)
  refine wpAnyH_take (i := 0) (v := ?_) (by simp only [List.getElem?_toArray, List.getElem?_cons_zero]; rfl) (by kernel_rfl) (by kernel_rfl) (by kernel_rfl) (fun _ _ _ h => h) (Or.inl ⟨by rfl, ?_⟩) (by assumption) ?_
  rotate_left 1
  · intro w hSw
    have hc := hSw.bx.x1.at_ 0
    go_simp
    with_reducible rfl
  simp only [Act.put, List.setIfInBounds_toArray, List.set_cons_zero, List.set_cons_succ]
  refine wpAnyH_take (i := 2) (v := ?_) (by simp only [List.getElem?_toArray, List.getElem?_cons_zero, List.getElem?_cons_succ]; rfl) (by kernel_rfl) (by kernel_rfl) (by kernel_rfl) (fun _ _ _ h => h) (Or.inl ⟨by rfl, ?_⟩) (by assumption) ?_
  rotate_left 1
  · intro w hSw
    have hc := hSw.bx.x2.at_ 0
    go_simp
    with_reducible rfl
  simp only [Act.put, List.setIfInBounds_toArray, List.set_cons_zero, List.set_cons_succ]
  refine wpAnyH_ready (rs := [1]) (by kernel_rfl) (by simp) ?_
  refine AllReadyH.cons (by simp only [List.getElem?_toArray, List.getElem?_cons_zero, List.getElem?_cons_succ]; rfl) (fun K hK => ?_) AllReadyH.nil
  go_simp
  refine (C1.out _).mono ?_
  rintro e1 w1 ⟨rfl, hb1⟩
  have hz1 := P0.out.drew.on hb1
  refine hK.out _ _ hz1 (fun hS => ?_)
  clear hK K hS
  refine wpAnyH_ready (rs := [3]) (by kernel_rfl) (by simp) ?_
  refine AllReadyH.cons (by simp only [List.getElem?_toArray, List.getElem?_cons_zero, List.getElem?_cons_succ]; rfl) (fun K hK => ?_) AllReadyH.nil
  go_simp
  refine (C2.out _).mono ?_
  rintro e2 w2 ⟨rfl, hb2⟩
  have hz2 := hz1.on hb2
  refine hK.out _ _ hz2 (fun hS => ?_)
  clear hK K hS
  have P2 := hid hz2
  clear hz1 hz2 hb1 hb2
  have hc1 := P2.out.bx.x1.at_ 0
  have hf1 := P2.out.bx.x1.free 0
  refine wpAnyH_ready (rs := [4]) (by kernel_rfl) (by simp) ?_
  refine AllReadyH.cons (by simp only [List.getElem?_toArray, List.getElem?_cons_zero, List.getElem?_cons_succ]; rfl) (fun K hK => ?_) AllReadyH.nil
  go_simp
  refine hK.out _ _ (P2.out.set1 (Nat.le_refl _)) (fun hS => ?_)
  clear hK K hS
  have P3 := hid (P2.out.set1 (Nat.le_refl _))
  have hc2 := P3.out.bx.x2.at_ 0
  have hf2 := P3.out.bx.x2.free 0
  refine wpAnyH_ready (rs := [5]) (by kernel_rfl) (by simp) ?_
  refine AllReadyH.cons (by simp only [List.getElem?_toArray, List.getElem?_cons_zero, List.getElem?_cons_succ]; rfl) (fun K hK => ?_) AllReadyH.nil
  go_simp
  refine hK.out _ _ (P3.out.set2 (Nat.le_succ _)) (fun hS => ?_)
  clear hK K hS
  refine wpAnyH_done (by kernel_rfl) ?_ _
  refine NoPanic.normal ?_
  have P4 := hid (P3.out.set2 (Nat.le_succ _))
  clear hc1 hf1 hc2 hf2
  have CD := hid (ddo_any (H.out.on P4.out.bl) (HG.out.kept P4.out.bl) _ (.append p d) (eff_append P4.out.bx hp hd) HL.out)
  go_wp2_with fail
  refine CD.out.mono ?_; rintro e3 w3 ⟨rfl, h3⟩
  have H3 := hid h3
  clear h3
  go_wp2
  go_ret
  exact ⟨rfl, DPost.ahead P4.out.bl H3.out⟩
set_option maxRecDepth 100000 in
set_option maxHeartbeats 8000000 in
theorem dLink_any {own : Nat → Prop} {w : World} {q : Nat} {M : Mo} (h : Dsk own w q M) (hG : Gd w) (p d : By) (tm : Int) (hp : p.length ≤ 4000) (hd : d.length ≤ 1000000) (hlen : M.since.length + 1 ≤ 100000) :
    Calls Tryz.prog 32 #[.pointer (some ⟨q, 0, none⟩), kS p, kS d, .int .i64 tm] w fun e w' => e = .returned (.int .i64 (doM M (.link p d tm)).1) ∧ DPost own w q (doM M (.link p d tm)).2 w' := by
  have H := hid h
  have HG := hid hG
  have HL := hid hlen
  have P0 : Hid (CL w w.heap.size (w.heap.size + 1) p d ((((w.alloc (.cells #[kS p] 9)).alloc (.cells #[kS d] 9)).alloc (.cells #[.int .i64 tm] 2)))) := by
    refine ⟨⟨?_, ?_⟩, ?_⟩
    · exact ((Has.fresh w _ _).more _).more _
    · exact (Has.fresh' (w.alloc _) _ _ (by simp)).more _
    · exact (((Below.refl _ _).alloc (Nat.le_refl _) _).alloc (by simp) _).alloc (by simp; omega) _
  have X3 : Hid (Has ((((w.alloc (.cells #[kS p] 9)).alloc (.cells #[kS d] 9)).alloc (.cells #[.int .i64 tm] 2))).drew (w.heap.size + 2) 2 #[.int .i64 tm]) := Has.fresh' _ _ _ (by simp)
  have C1 := hid (fun W => strClone_any p W (by omega))
  have C2 := hid (fun W => strClone_any d W (by omega))
  clear h hG hlen
  go_enter Tryz.func32, Tryz.ntmps32
  go_wp2
  refine wp_region_noPanic ?_
  refine wp_region_held_drew (S := CL w w.heap.size (w.heap.size + 1) p d) (by kernel_rfl) (P0.out.drew) (fun hS => ?_)
  refine wpAnyH_take (i := 0) (v := ?_) (by simp only [List.getElem?_toArray, List.getElem?_cons_zero]; rfl) (by kernel_rfl) (by kernel_rfl) (by kernel_rfl) (fun _ _ _ h => h) (Or.inl ⟨by rfl, ?_⟩) (by assumption) ?_
  rotate_left 1
  · intro w hSw
    have hc := hSw.bx.x1.at_ 0
    go_simp
    with_reducible rfl
  simp only [Act.put, List.setIfInBounds_toArray, List.set_cons_zero, List.set_cons_succ]
  refine wpAnyH_take (i := 2) (v := ?_) (by simp only [List.getElem?_toArray, List.getElem?_cons_zero, List.getElem?_cons_succ]; rfl) (by kernel_rfl) (by kernel_rfl) (by kernel_rfl) (fun _ _ _ h => h) (Or.inl ⟨by rfl, ?_⟩) (by assumption) ?_
  rotate_left 1
  · intro w hSw
    have hc := hSw.bx.x2.at_ 0
    go_simp
    with_reducible rfl
  simp only [Act.put, List.setIfInBounds_toArray, List.set_cons_zero, List.set_cons_succ]
  refine wpAnyH_ready (rs := [1]) (by kernel_rfl) (by simp) ?_
  refine AllReadyH.cons (by simp only [List.getElem?_toArray, List.getElem?_cons_zero, List.getElem?_cons_succ]; rfl) (fun K hK => ?_) AllReadyH.nil
  go_simp
  refine (C1.out _).mono ?_
  rintro e1 w1 ⟨rfl, hb1⟩
  have hz1 := P0.out.drew.on hb1
  refine hK.out _ _ hz1 (fun hS => ?_)
  clear hK K hS
  refine wpAnyH_ready (rs := [3]) (by kernel_rfl) (by simp) ?_
  refine AllReadyH.cons (by simp only [List.getElem?_toArray, List.getElem?_cons_zero, List.getElem?_cons_succ]; rfl) (fun K hK => ?_) AllReadyH.nil
  go_simp
  refine (C2.out _).mono ?_
  rintro e2 w2 ⟨rfl, hb2⟩
  have hz2 := hz1.on hb2
  refine hK.out _ _ hz2 (fun hS => ?_)
  clear hK K hS
  have X3b : Hid (Has w2 (w.heap.size + 2) 2 #[.int .i64 tm]) := (X3.out.gx (.inr rfl) (Gx.of_below hb1)).gx (.inr rfl) (Gx.of_below hb2)
  have P2 := hid hz2
  clear hz1 hz2 hb1 hb2
  have hc1 := P2.out.bx.x1.at_ 0
  have hf1 := P2.out.bx.x1.free 0
  refine wpAnyH_ready (rs := [4]) (by kernel_rfl) (by simp) ?_
  refine AllReadyH.cons (by simp only [List.getElem?_toArray, List.getElem?_cons_zero, List.getElem?_cons_succ]; rfl) (fun K hK => ?_) AllReadyH.nil
  go_simp
  refine hK.out _ _ (P2.out.set1 (Nat.le_refl _)) (fun hS => ?_)
  clear hK K hS
  have P3 := hid (P2.out.set1 (Nat.le_refl _))
  have hc2 := P3.out.bx.x2.at_ 0
  have hf2 := P3.out.bx.x2.free 0
  refine wpAnyH_ready (rs := [5]) (by kernel_rfl) (by simp) ?_
  refine AllReadyH.cons (by simp only [List.getElem?_toArray, List.getElem?_cons_zero, List.getElem?_cons_succ]; rfl) (fun K hK => ?_) AllReadyH.nil
  go_simp
  refine hK.out _ _ (P3.out.set2 (Nat.le_succ _)) (fun hS => ?_)
  clear hK K hS
  refine wpAnyH_done (by kernel_rfl) ?_ _
  refine NoPanic.normal ?_
  have P4 := hid (P3.out.set2 (Nat.le_succ _))
  have X4 : Hid (Has ((w2.setCell ⟨w.heap.size, 0, none⟩ (kS p)).setCell ⟨w.heap.size + 1, 0, none⟩ (kS d)) (w.heap.size + 2) 2 #[.int .i64 tm]) := (X3b.out.other (p := ⟨w.heap.size, 0, none⟩) (by show _ ≠ w.heap.size; omega) _).other (p := ⟨w.heap.size + 1, 0, none⟩) (by show _ ≠ w.heap.size + 1; omega) _
  clear hc1 hf1 hc2 hf2
  have CD := hid (ddo_any (H.out.on P4.out.bl) (HG.out.kept P4.out.bl) _ (.link p d tm) (eff_link ⟨P4.out.bx.x1, P4.out.bx.x2, X4.out⟩ hp hd) HL.out)
  go_wp2_with fail
  refine CD.out.mono ?_; rintro e3 w3 ⟨rfl, h3⟩
  have H3 := hid h3
  clear h3
  go_wp2
  go_ret
  exact ⟨rfl, DPost.ahead P4.out.bl H3.out⟩
set_option maxRecDepth 100000 in
set_option maxHeartbeats 8000000 in
theorem dRename_any {own : Nat → Prop} {w : World} {q : Nat} {M : Mo} (h : Dsk own w q M) (hG : Gd w) (p d : By) (hp : p.length ≤ 4000) (hd : d.length ≤ 4000) (hlen : M.since.length + 1 ≤ 100000) :
    Calls Tryz.prog 24 #[.pointer (some ⟨q, 0, none⟩), kS p, kS d] w fun e w' => e = .returned (.int .i64 (doM M (.rename p d)).1) ∧ DPost own w q (doM M (.rename p d)).2 w' := by
  have H := hid h
  have HG := hid hG
  have HL := hid hlen
  have P0 : Hid (CL w w.heap.size (w.heap.size + 1) p d ((w.alloc (.cells #[kS p] 9)).alloc (.cells #[kS d] 9))) := by
    refine ⟨⟨?_, ?_⟩, ?_⟩
    · exact (Has.fresh w _ _).more _
    · exact Has.fresh' (w.alloc _) _ _ (by simp)
    · exact ((Below.refl _ _).alloc (Nat.le_refl _) _).alloc (by simp) _
  have C1 := hid (fun W => strClone_any p W (by omega))
  have C2 := hid (fun W => strClone_any d W (by omega))
  clear h hG hlen
  go_enter Tryz.func24, Tryz.ntmps24
  go_wp2
  refine wp_region_noPanic ?_
  refine wp_region_held_drew (S := CL w w.heap.size (w.heap.size + 1) p d) (by kernel_rfl) (P0.out.drew) (fun hS => ?_)
  refine wpAnyH_take (i := 0) (v := ?_) (by simp only [List.getElem?_toArray, List.getElem?_cons_zero]; rfl) (by kernel_rfl) (by kernel_rfl) (by kernel_rfl) (fun _ _ _ h => h) (Or.inl ⟨by rfl, ?_⟩) (by assumption) ?_
  rotate_left 1
  · intro w hSw
    have hc := hSw.bx.x1.at_ 0
    go_simp
    with_reducible rfl
  simp only [Act.put, List.setIfInBounds_toArray, List.set_cons_zero, List.set_cons_succ]
  refine wpAnyH_take (i := 2) (v := ?_) (by simp only [List.getElem?_toArray, List.getElem?_cons_zero, List.getElem?_cons_succ]; rfl) (by kernel_rfl) (by kernel_rfl) (by kernel_rfl) (fun _ _ _ h => h) (Or.inl ⟨by rfl, ?_⟩) (by assumption) ?_
  rotate_left 1
  · intro w hSw
    have hc := hSw.bx.x2.at_ 0
    go_simp
    with_reducible rfl
  simp only [Act.put, List.setIfInBounds_toArray, List.set_cons_zero, List.set_cons_succ]
  refine wpAnyH_ready (rs := [1]) (by kernel_rfl) (by simp) ?_
  refine AllReadyH.cons (by simp only [List.getElem?_toArray, List.getElem?_cons_zero, List.getElem?_cons_succ]; rfl) (fun K hK => ?_) AllReadyH.nil
  go_simp
  refine (C1.out _).mono ?_
  rintro e1 w1 ⟨rfl, hb1⟩
  have hz1 := P0.out.drew.on hb1
  refine hK.out _ _ hz1 (fun hS => ?_)
  clear hK K hS
  refine wpAnyH_ready (rs := [3]) (by kernel_rfl) (by simp) ?_
  refine AllReadyH.cons (by simp only [List.getElem?_toArray, List.getElem?_cons_zero, List.getElem?_cons_succ]; rfl) (fun K hK => ?_) AllReadyH.nil
  go_simp
  refine (C2.out _).mono ?_
  rintro e2 w2 ⟨rfl, hb2⟩
  have hz2 := hz1.on hb2
  refine hK.out _ _ hz2 (fun hS => ?_)
  clear hK K hS
  have P2 := hid hz2
  clear hz1 hz2 hb1 hb2
  have hc1 := P2.out.bx.x1.at_ 0
  have hf1 := P2.out.bx.x1.free 0
  refine wpAnyH_ready (rs := [4]) (by kernel_rfl) (by simp) ?_
  refine AllReadyH.cons (by simp only [List.getElem?_toArray, List.getElem?_cons_zero, List.getElem?_cons_succ]; rfl) (fun K hK => ?_) AllReadyH.nil
  go_simp
  refine hK.out _ _ (P2.out.set1 (Nat.le_refl _)) (fun hS => ?_)
  clear hK K hS
  have P3 := hid (P2.out.set1 (Nat.le_refl _))
  have hc2 := P3.out.bx.x2.at_ 0
  have hf2 := P3.out.bx.x2.free 0
  refine wpAnyH_ready (rs := [5]) (by kernel_rfl) (by simp) ?_
  refine AllReadyH.cons (by simp only [List.getElem?_toArray, List.getElem?_cons_zero, List.getElem?_cons_succ]; rfl) (fun K hK => ?_) AllReadyH.nil
  go_simp
  refine hK.out _ _ (P3.out.set2 (Nat.le_succ _)) (fun hS => ?_)
  clear hK K hS
  refine wpAnyH_done (by kernel_rfl) ?_ _
  refine NoPanic.normal ?_
  have P4 := hid (P3.out.set2 (Nat.le_succ _))
  clear hc1 hf1 hc2 hf2
  have CD := hid (ddo_any (H.out.on P4.out.bl) (HG.out.kept P4.out.bl) _ (.rename p d) (eff_rename P4.out.bx hp hd) HL.out)
  go_wp2_with fail
  refine CD.out.mono ?_; rintro e3 w3 ⟨rfl, h3⟩
  have H3 := hid h3
  clear h3
  go_wp2
  go_ret
  exact ⟨rfl, DPost.ahead P4.out.bl H3.out⟩
set_option maxRecDepth 100000 in
set_option maxHeartbeats 8000000 in
theorem dMkdir_any {own : Nat → Prop} {w : World} {q : Nat} {M : Mo} (h : Dsk own w q M) (hG : Gd w) (p : By) (hp : p.length ≤ 4000) (hlen : M.since.length + 1 ≤ 100000) :
    Calls Tryz.prog 21 #[.pointer (some ⟨q, 0, none⟩), kS p] w fun e w' => e = .returned (.int .i64 (doM M (.mkdir p)).1) ∧ DPost own w q (doM M (.mkdir p)).2 w' := by
  have H := hid h
  have HG := hid hG
  have HL := hid hlen
  have X0 : Hid (Has (w.alloc (.cells #[kS p] 9)) w.heap.size 9 #[kS p]) := Has.fresh _ _ _
  have B0 : Hid (Below w.heap.size w (w.alloc (.cells #[kS p] 9))) := (Below.refl _ _).alloc (Nat.le_refl _) _
  have C1 := hid (strClone_any p (w.alloc (.cells #[kS p] 9)) (by omega))
  clear h hG hlen
  go_enter Tryz.func21, Tryz.ntmps21
  go_wp2_with fail
  refine C1.out.mono ?_; rintro e1 w1 ⟨rfl, hb1⟩
  have X1 : Hid (Has w1 w.heap.size 9 #[kS p]) := X0.out.gx (.inl rfl) (Gx.of_below hb1)
  have B1 := hid (B0.out.trans (hb1.mono B0.out.size))
  have hc1 := X1.out.at_ 0
  have hf1 := X1.out.free 0
  clear hb1
  go_wp2_with fail
  have B2 : Hid (Below w.heap.size w (w1.setCell ⟨w.heap.size, 0, none⟩ (kS p))) := B1.out.setCell (Nat.le_refl _) _
  have CD := hid (ddo_any (H.out.on B2.out) (HG.out.kept B2.out) _ (.mkdir p) (eff_mkdir X1.out.again hp) HL.out)
  refine CD.out.mono ?_; rintro e3 w3 ⟨rfl, h3⟩
  have H3 := hid h3
  clear h3
  go_wp2
  go_ret
  exact ⟨rfl, DPost.ahead B2.out H3.out⟩
set_option maxRecDepth 100000 in
set_option maxHeartbeats 8000000 in
theorem dRemove_any {own : Nat → Prop} {w : World} {q : Nat} {M : Mo} (h : Dsk own w q M) (hG : Gd w) (p : By) (hp : p.length ≤ 4000) (hlen : M.since.length + 1 ≤ 100000) :
    Calls Tryz.prog 33 #[.pointer (some ⟨q, 0, none⟩), kS p] w fun e w' => e = .returned (.int .i64 (doM M (.remove p)).1) ∧ DPost own w q (doM M (.remove p)).2 w' := by
  have H := hid h
  have HG := hid hG
  have HL := hid hlen
  have X0 : Hid (Has (w.alloc (.cells #[kS p] 9)) w.heap.size 9 #[kS p]) := Has.fresh _ _ _
  have B0 : Hid (Below w.heap.size w (w.alloc (.cells #[kS p] 9))) := (Below.refl _ _).alloc (Nat.le_refl _) _
  have C1 := hid (strClone_any p (w.alloc (.cells #[kS p] 9)) (by omega))
  clear h hG hlen
  go_enter Tryz.func33, Tryz.ntmps33
  go_wp2_with fail
  refine C1.out.mono ?_; rintro e1 w1 ⟨rfl, hb1⟩
  have X1 : Hid (Has w1 w.heap.size 9 #[kS p]) := X0.out.gx (.inl rfl) (Gx.of_below hb1)
  have B1 := hid (B0.out.trans (hb1.mono B0.out.size))
  have hc1 := X1.out.at_ 0
  have hf1 := X1.out.free 0
  clear hb1
  go_wp2_with fail
  have B2 : Hid (Below w.heap.size w (w1.setCell ⟨w.heap.size, 0, none⟩ (kS p))) := B1.out.setCell (Nat.le_refl _) _
  have CD := hid (ddo_any (H.out.on B2.out) (HG.out.kept B2.out) _ (.remove p) (eff_remove X1.out.again hp) HL.out)
  refine CD.out.mono ?_; rintro e3 w3 ⟨rfl, h3⟩
  have H3 := hid h3
  clear h3
  go_wp2
  go_ret
  exact ⟨rfl, DPost.ahead B2.out H3.out⟩
end Go.Proofs.YtlbeemlnbpchgaaGreat
