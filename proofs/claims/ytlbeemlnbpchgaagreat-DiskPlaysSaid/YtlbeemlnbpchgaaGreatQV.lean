/- Several texts in one: YN, YQ. Conditions: those said at each. -/
import Derived.Test.YtlbeemlnbpchgaaGreatQQ
import Derived.IntWalk
import Derived.Test.YtlbeemlnbpchgaaGreatQU
/- The document's disk: its block written anew; Off, Fuse, Sync, Made, each as the plain model says. Conditions: as at the disk. -/
namespace Go.Proofs.YtlbeemlnbpchgaaGreat
open Go.RowKit Go.Maps
theorem TreeO.aside {own : Nat → Prop} {w w' : World} {t r : Nat} {L : Tr} {room : Nat} {cs : Array Value} (h : TreeO own w t L room) (hr : Has w r 79 cs) (hb : ∀ g, own g → g ≠ r → w'.heap[g]? = w.heap[g]?) : TreeO own w' t L room := by
  obtain ⟨v, h1, h2, h3⟩ := h.ex
  have n1 : t ≠ r := by
    rintro rfl
    unfold Has at h1 hr
    rw [h1] at hr; injection hr with hr; injection hr with _ hr; revert hr; decide
  have n2 : ∀ b, v.ownBlock = some b → b ≠ r := by
    rintro b hbo rfl
    obtain ⟨cur, hc⟩ := row_kindN h2 hbo
    unfold Has at hr
    rw [hc] at hr; injection hr with hr; injection hr with _ hr; revert hr; decide
  exact ⟨⟨v, (hb t h.op n1).trans h1, row_of h2 (fun g hg => hb g (h3 g hg) (n2 g hg)), h3⟩, h.op⟩
section
variable {own : Nat → Prop} {w w' : World} {r tl ts : Nat} {sv : Value} {es : List Rw} {fused : Bool} {left : Int} {M : Mo}
/-- More blocks of its own. -/
theorem RDkI.more (h : RDkI own w r tl ts sv es fused left M) {own' : Nat → Prop} (ho : ∀ g, own g → own' g) (hl : ∀ g, own' g → g < w.heap.size) (hs : ∀ g, own' g → Loose w g) : RDkI own' w r tl ts sv es fused left M where
  low := hl
  loose := hs
  has := h.has
  op := ho _ h.op
  t1 := h.t1.mono ho
  t2 := h.t2.mono ho
  row := h.row
  osv b hb := ho b (h.osv b hb)
  effs := h.effs
  ok := h.ok
  fu := h.fu
  good := h.good
  r0 := h.r0
  r1 := h.r1
  len := h.len
/-- Its own block written anew. -/
theorem RDkI.again (h : RDkI own w r tl ts sv es fused left M) {tl' ts' : Nat} {sv' : Value} {es' : List Rw} {fused' : Bool} {left' : Int} {M' : Mo} (hu : Turn (One r) w w') (hh : Has w' r 79 (rcells tl' ts' sv' fused' left'))
    (h1 : TreeO own w tl' M'.now M'.room) (h2 : TreeO own w ts' M'.last M'.room) (hr : ERow 0 w sv' es') (ho : ∀ b, sv'.ownBlock = some b → own b) (he : es'.map rwE = M'.since) (hk : ∀ e ∈ es', RwOk e) (hf : FuseIs fused' left' M'.fuse) (hg : GoodR M')
    (hm : M'.room = M.room) (hl : M'.since.length ≤ 100000) : RDkI own w' r tl' ts' sv' es' fused' left' M' where
  low g hg := Nat.lt_of_lt_of_le (h.low g hg) hu.size
  loose g hg := by
    by_cases e : g = r
    · rw [e]; exact hh.loose (by decide)
    · intro cs t q ho
      exact h.loose g hg cs t q ((hu.block g (h.low g hg) e).symm.trans ho)
  has := hh
  op := h.op
  t1 := h1.aside h.has (fun g hg hn => hu.block g (h.low g hg) hn)
  t2 := h2.aside h.has (fun g hg hn => hu.block g (h.low g hg) hn)
  row := row_of hr (fun b hb => hu.block b (h.low b (ho b hb)) (fun e => by
    obtain ⟨cur, hc⟩ := row_kindN hr hb
    have hd := h.has
    have e' : b = r := e
    unfold Has at hd
    rw [← e', hc] at hd; injection hd with hd; injection hd with _ hd; revert hd; decide))
  osv := ho
  effs := he
  ok := hk
  fu := hf
  good := hg
  r0 := by rw [hm]; exact h.r0
  r1 := by rw [hm]; exact h.r1
  len := hl
end
theorem fuse_off {fused : Bool} {left f : Int} (h : FuseIs fused left f) : (fused && decide (left ≤ 0)) = (f == 0) := by
  rcases h with ⟨rfl, rfl⟩ | ⟨rfl, rfl, h0⟩
  · rfl
  · rw [Bool.true_and]
    by_cases k : left = 0
    · subst k; rfl
    · have h1 : ¬ left ≤ 0 := by omega
      have h2 : (left == 0) = false := by simpa using k
      rw [h2, decide_eq_false h1]
theorem fuse_burn {fused : Bool} {left f : Int} (h : FuseIs fused left f) (h0 : f ≠ 0) (h1 : f ≤ 9223372036854775807) : FuseIs fused (wrap64 (left - 1)) (burnF f) := by
  rcases h with ⟨rfl, rfl⟩ | ⟨rfl, rfl, k0⟩
  · exact .inl ⟨rfl, rfl⟩
  · have hp : 0 < left := by omega
    have e : burnF left = left - 1 := by unfold burnF; rw [if_pos hp]
    rw [e, IntWalk.wrap64_in _ (by omega)]
    exact .inr ⟨rfl, rfl, by omega⟩
section
variable {own : Nat → Prop} {w : World} {r : Nat} {M : Mo}
set_option maxRecDepth 100000 in
set_option maxHeartbeats 4000000 in
theorem rOff_any (h : RDk own w r M) : Calls Tryz.prog 54 #[.pointer (some ⟨r, 0, none⟩)] w fun e w' => e = .returned (.bool (M.fuse == 0)) ∧ w = w' := by
  obtain ⟨tl, ts, sv, es, fused, left, h⟩ := h
  have c3 : w.cell? ⟨r, 3, none⟩ = some (.bool fused) := h.has.at_ 3
  have c4 : w.cell? ⟨r, 4, none⟩ = some (.int .i64 left) := h.has.at_ 4
  have HF := hid (fuse_off h.fu)
  obtain ⟨f, HM⟩ : ∃ f, Hid ((M.fuse == 0) = f) := ⟨_, rfl⟩
  rw [HM.out] at HF ⊢
  clear h HM
  cases fused with
  | false =>
    go_enter Tryz.func54, Tryz.ntmps54
    go_wp2
    go_ret
    exact ⟨by rw [← HF.out]; rfl, rfl⟩
  | true =>
    go_enter Tryz.func54, Tryz.ntmps54
    go_wp2
    go_ret
    exact ⟨by rw [← HF.out]; rfl, rfl⟩
set_option maxRecDepth 100000 in
set_option maxHeartbeats 4000000 in
theorem rFuse_any (h : RDk own w r M) (n : Int) (hn : n ≤ 9223372036854775807) :
    Calls Tryz.prog 46 #[.pointer (some ⟨r, 0, none⟩), .int .i64 n] w fun e w' => e = .returned (.int .i64 (fuseM M n).1) ∧ RPost own w r (fuseM M n).2 w' := by
  have C1 := hid (rOff_any h)
  have H := hid h
  obtain ⟨tl, ts, sv, es, fused, left, h⟩ := h
  by_cases h0 : n < 0
  · have HD : Hid (fuseM M n = (2, M)) := by show _ = _; unfold fuseM; rw [if_pos h0]
    clear h hn
    go_enter Tryz.func46, Tryz.ntmps46
    go_wp2
    go_ret
    rw [HD.out]
    exact ⟨rfl, RPost.refl H.out (Below.refl _ _)⟩
  · by_cases hf : M.fuse = 0
    · have HD : Hid (fuseM M n = (20, M)) := by show _ = _; unfold fuseM; rw [if_neg h0, if_pos hf]
      have hfb : (M.fuse == 0) = true := by simpa using hf
      rw [hfb] at C1
      clear h hf hn hfb
      go_enter Tryz.func46, Tryz.ntmps46
      go_wp2_with fail
      refine C1.out.mono ?_; rintro e1 w1 ⟨rfl, rfl⟩
      go_wp2
      go_ret
      rw [HD.out]
      exact ⟨rfl, RPost.refl H.out (Below.refl _ _)⟩
    · have HD : Hid (fuseM M n = (0, ⟨M.now, M.last, M.since, n, M.room⟩)) := by show _ = _; unfold fuseM; rw [if_neg h0, if_neg hf]
      have HGD : Hid (GoodR ⟨M.now, M.last, M.since, n, M.room⟩) := by have := h.good.fuse hn; rw [HD.out] at this; exact this
      have hfb : (M.fuse == 0) = false := by simpa using hf
      rw [hfb] at C1
      have HI := hid h
      have HN0 : Hid (0 ≤ n) := by show _ ≤ _; omega
      have c3 : w.cell? ⟨r, 3, none⟩ = some (.bool fused) := h.has.at_ 3
      have f3 := h.has.free 3
      have hp3 : Has (w.setCell ⟨r, 3, none⟩ (.bool true)) r 79 (rcells tl ts sv true left) := h.has.put 3 _
      have c4 := hp3.at_ 4
      have f4 := hp3.free 4
      have h4 : Has ((w.setCell ⟨r, 3, none⟩ (.bool true)).setCell ⟨r, 4, none⟩ (.int .i64 n)) r 79 (rcells tl ts sv true n) := hp3.put 4 _
      have H4 := hid h4
      clear h hf hn hfb hp3 h4
      go_enter Tryz.func46, Tryz.ntmps46
      go_wp2_with fail
      refine C1.out.mono ?_; rintro e1 w1 ⟨rfl, rfl⟩
      go_wp2
      go_ret
      rw [HD.out]
      have hu : Turn (One r) w ((w.setCell ⟨r, 3, none⟩ (.bool true)).setCell ⟨r, 4, none⟩ (.int .i64 n)) := (Turn.set (own := One r) w r 3 _ rfl).then (Turn.set _ r 4 _ rfl)
      have h := HI.out
      exact ⟨rfl, own, ⟨tl, ts, sv, es, true, n, h.again hu H4.out h.t1 h.t2 h.row h.osv h.effs h.ok (.inr ⟨rfl, rfl, HN0.out⟩) HGD.out rfl h.len⟩, hu.mono (fun g k => by rw [k]; exact h.op), fun _ k => .inl k⟩
set_option maxRecDepth 100000 in
set_option maxHeartbeats 4000000 in
theorem rSync_any (h : RDk own w r M) :
    Calls Tryz.prog 47 #[.pointer (some ⟨r, 0, none⟩)] w fun e w' => e = .returned (.int .i64 (syncM M).1) ∧ RPost own w r (syncM M).2 w' := by
  have C1 := hid (rOff_any h)
  have H := hid h
  obtain ⟨tl, ts, sv, es, fused, left, h⟩ := h
  by_cases hf : M.fuse = 0
  · have HD : Hid (syncM M = (20, M)) := by show _ = _; unfold syncM; rw [if_pos hf]
    have hfb : (M.fuse == 0) = true := by simpa using hf
    rw [hfb] at C1
    clear h hf hfb
    go_enter Tryz.func47, Tryz.ntmps47
    go_wp2_with fail
    refine C1.out.mono ?_; rintro e1 w1 ⟨rfl, rfl⟩
    go_wp2
    go_ret
    rw [HD.out]
    exact ⟨rfl, RPost.refl H.out (Below.refl _ _)⟩
  · have HD : Hid (syncM M = (0, ⟨M.now, M.now, [], burnF M.fuse, M.room⟩)) := by show _ = _; unfold syncM; rw [if_neg hf]
    have HGD : Hid (GoodR ⟨M.now, M.now, [], burnF M.fuse, M.room⟩) := by have := h.good.sync; rw [HD.out] at this; exact this
    have hfb : (M.fuse == 0) = false := by simpa using hf
    rw [hfb] at C1
    have HI := hid h
    have HFB := hid (fuse_burn h.fu hf h.good.good.f1)
    have c0 : w.cell? ⟨r, 0, none⟩ = some (.pointer (some ⟨tl, 0, none⟩)) := h.has.at_ 0
    have c1 : w.cell? ⟨r, 1, none⟩ = some (.pointer (some ⟨ts, 0, none⟩)) := h.has.at_ 1
    have f1 := h.has.free 1
    obtain ⟨w1, HW1⟩ : ∃ w1, Hid (w.setCell ⟨r, 1, none⟩ (.pointer (some ⟨tl, 0, none⟩)) = w1) := ⟨_, rfl⟩
    have P1 : Hid (Has w1 r 79 (rcells tl tl sv fused left)) := by rw [← HW1.out]; exact h.has.put 1 _
    have hw1 := HW1.out
    have k2 := P1.out.at_ 2
    have f2 := P1.out.free 2
    obtain ⟨w2, HW2⟩ : ∃ w2, Hid (w1.setCell ⟨r, 2, none⟩ (.slice none 0 0) = w2) := ⟨_, rfl⟩
    have P2 : Hid (Has w2 r 79 (rcells tl tl (.slice none 0 0) fused left)) := by rw [← HW2.out]; exact P1.out.put 2 _
    have hw2 := HW2.out
    have k4 : w2.cell? ⟨r, 4, none⟩ = some (.int .i64 left) := P2.out.at_ 4
    have f4 := P2.out.free 4
    obtain ⟨w3, HW3⟩ : ∃ w3, Hid (w2.setCell ⟨r, 4, none⟩ (.int .i64 (wrap64 (left - 1))) = w3) := ⟨_, rfl⟩
    have P3 : Hid (Has w3 r 79 (rcells tl tl (.slice none 0 0) fused (wrap64 (left - 1)))) := by rw [← HW3.out]; exact P2.out.put 4 _
    have hu : Hid (Turn (One r) w w3) := by
      rw [← HW3.out, ← HW2.out, ← HW1.out]
      exact ((Turn.set (own := One r) w r 1 _ rfl).then (Turn.set _ r 2 _ rfl)).then (Turn.set _ r 4 _ rfl)
    have hw3 := HW3.out
    clear h hf hfb
    go_enter Tryz.func47, Tryz.ntmps47
    go_wp2_with fail
    refine C1.out.mono ?_; rintro e1 w1' ⟨rfl, rfl⟩
    go_wp2
    go_ret
    rw [HD.out]
    have h := HI.out
    exact ⟨rfl, own, ⟨tl, tl, .slice none 0 0, [], fused, _, h.again hu.out P3.out h.t1 h.t1 (ERow.nil _ _) (fun b hb => (by cases hb)) rfl (fun e he => (by cases he)) HFB.out HGD.out rfl (by simp)⟩, hu.out.mono (fun g k => by rw [k]; exact h.op), fun _ k => .inl k⟩
end
/-- A new disk of the document's. -/
def NewR (w : World) (M : Mo) (e : Ending) (w' : World) : Prop := ∃ own r, e = .returned (.pointer (some ⟨r, 0, none⟩)) ∧ RDk own w' r M ∧ (∀ g, own g → w.heap.size ≤ g) ∧ Below w.heap.size w w'
set_option maxRecDepth 100000 in
set_option maxHeartbeats 4000000 in
theorem rMade_any (w : World) (room : Nat) (h0 : 1024 ≤ room) (h1 : room ≤ 1048576) : Calls Tryz.prog 11 #[.int .i64 (room : Int)] w fun e w' => NewR w (newM room) e w' := by
  obtain ⟨b, HB⟩ : ∃ b, Hid (w.heap.size = b) := ⟨_, rfl⟩
  obtain ⟨w1, HW1⟩ : ∃ w1, Hid (w.alloc (.cells #[.slice none 0 0, .int .i64 (room : Int)] 76) = w1) := ⟨_, rfl⟩
  have B1 : Hid (Below w.heap.size w w1) := by rw [← HW1.out]; exact (Below.refl _ _).alloc (Nat.le_refl _) _
  have X1 : Hid (Has w1 b 76 #[.slice none 0 0, .int .i64 (room : Int)]) := by rw [← HW1.out, ← HB.out]; exact Has.fresh _ _ _
  have S1 : Hid (w1.heap.size = b + 1) := by show _ = _; rw [← HW1.out, ← HB.out]; simp
  obtain ⟨w2, HW2⟩ : ∃ w2, Hid (w1.alloc (.cells #[.slice none 0 0, .int .i64 (room : Int)] 76) = w2) := ⟨_, rfl⟩
  have b2 : Below w1.heap.size w1 w2 := by rw [← HW2.out]; exact (Below.refl _ _).alloc (Nat.le_refl _) _
  have X12 := hid (X1.out.kept b2 X1.out.inside)
  have X2 : Hid (Has w2 (b + 1) 76 #[.slice none 0 0, .int .i64 (room : Int)]) := by rw [← HW2.out, ← S1.out]; exact Has.fresh _ _ _
  have B2 : Hid (Below w.heap.size w w2) := B1.out.trans (b2.mono B1.out.size)
  have S2 : Hid (w2.heap.size = b + 2) := by show _ = _; rw [← HW2.out]; simp; exact S1.out
  obtain ⟨w3, HW3⟩ : ∃ w3, Hid (w2.alloc (.cells #[.pointer (some ⟨b, 0, none⟩), .pointer (some ⟨b + 1, 0, none⟩), .slice none 0 0, .bool false, .int .i64 0] 79) = w3) := ⟨_, rfl⟩
  have b3 : Below w2.heap.size w2 w3 := by rw [← HW3.out]; exact (Below.refl _ _).alloc (Nat.le_refl _) _
  have X13 := hid (X12.out.kept b3 X12.out.inside)
  have X23 := hid (X2.out.kept b3 X2.out.inside)
  have X3 : Hid (Has w3 (b + 2) 79 (rcells b (b + 1) (.slice none 0 0) false 0)) := by rw [← HW3.out, ← S2.out]; exact Has.fresh _ _ _
  have B3 : Hid (Below w.heap.size w w3) := B2.out.trans (b3.mono B2.out.size)
  have z1 := HW1.out
  have z2 := HW2.out
  have z3 := HW3.out
  have y0 := HB.out
  have y1 := S1.out
  have y2 := S2.out
  clear b2 b3
  go_enter Tryz.func11, Tryz.ntmps11
  go_wp2
  go_ret
  refine ⟨fun g => g = b ∨ g = b + 1 ∨ g = b + 2, b + 2, rfl, ⟨b, b + 1, .slice none 0 0, [], false, 0, ?_⟩, ?_, B3.out⟩
  · refine ⟨?_, ?_, X3.out, .inr (.inr rfl), ⟨⟨_, X13.out, TRow.nil _ _, fun b hb => (by cases hb)⟩, .inl rfl⟩, ⟨⟨_, X23.out, TRow.nil _ _, fun b hb => (by cases hb)⟩, .inr (.inl rfl)⟩, ERow.nil _ _, fun b hb => (by cases hb), rfl, fun e he => (by cases he), .inl ⟨rfl, rfl⟩, GoodR.new _, h0, h1, by show 0 ≤ _; omega⟩
    · rintro g (e | e | e) <;> rw [e]
      · exact X13.out.inside
      · exact X23.out.inside
      · exact X3.out.inside
    · rintro g (e | e | e) <;> rw [e]
      · exact X13.out.loose (by decide)
      · exact X23.out.loose (by decide)
      · exact X3.out.loose (by decide)
  · rintro g (e | e | e) <;> rw [e, HB.out] <;> omega
end Go.Proofs.YtlbeemlnbpchgaaGreat
/- The document's disk: Read; Same: two lists that are the same. Conditions: as at the disk; paths of at most 4000 bytes. -/
namespace Go.Proofs.YtlbeemlnbpchgaaGreat
open Go.RowKit Go.Maps
section
variable {own : Nat → Prop} {w : World} {r : Nat} {M : Mo}
theorem RDkI.short {tL ts : Nat} {sv : Value} {es : List Rw} {fused : Bool} {left : Int} (h : RDkI own w r tL ts sv es fused left M) : M.now.length ≤ 16384 := by
  have h1 := used_len (L := M.now)
  have h2 := h.good.good.w1.used
  have h3 := h.r1
  omega
set_option maxRecDepth 100000 in
set_option maxHeartbeats 4000000 in
theorem rRead_any (h : RDk own w r M) (s : By) (hs : s.length ≤ 4000) : Calls Tryz.prog 50 #[.pointer (some ⟨r, 0, none⟩), kS s] w fun e w' => ReadP w (readM M.now s) e w' := by
  obtain ⟨tL, ts, sv, es, fused, left, h⟩ := h
  have B0 : Hid (Below w.heap.size w (w.alloc (.cells #[.int .i64 0, .string ⟨#[]⟩, .string ⟨#[]⟩, .int .i64 0] 64))) := (Below.refl _ _).alloc (Nat.le_refl _) _
  have H := hid h
  have HSZ := hid h.short
  have HSS : Hid (s.length ≤ 4000) := hs
  cases hm : mayB s with
  | false =>
    have C2 : Hid (∀ W, Calls Tryz.prog 48 #[kS s] W fun e w' => e = .returned (.bool false) ∧ Below W.heap.size W w') := fun W => Rf.rmay_v (ba s) false (by show mayB (tl (ba s)) = _; rw [tl_ba]; exact hm) W (by rw [ba_size]; exact HSS.out)
    have HR : Hid (readM M.now s = (n0, 10)) := by show _ = _; unfold readM; rw [hm]; rfl
    clear h hm hs
    go_enter Tryz.func50, Tryz.ntmps50
    go_wp2_with fail
    refine (C2.out _).mono ?_; rintro e2 w2 ⟨rfl, hb2⟩
    have B2 := hid (B0.out.trans (hb2.mono B0.out.size))
    have X2 : Hid (Has w2 w.heap.size 64 #[.int .i64 0, .string ⟨#[]⟩, .string ⟨#[]⟩, .int .i64 0]) := (Has.fresh w _ _).kept hb2 (by simp)
    clear hb2
    go_wp2_with (refine wpList_store_row rfl 64 (.tmp 4) (.tmp 10) rfl w.heap.size #[.int .i64 0, .string ⟨#[]⟩, .string ⟨#[]⟩, .int .i64 0] rfl rfl 64 _ X2.out (by kernel_rfl) rfl (by simp [Value.oneCell']) ?_)
    refine bodyPost_ret (results_cell_tmp rfl _ _ w.heap.size #[.int .i64 0, .string ⟨#[]⟩, .string ⟨#[]⟩, .int .i64 0] rfl (X2.out.row) rfl) rfl ?_
    rw [HR.out]
    exact ⟨rfl, B2.out.rowK (Nat.le_refl _) _⟩
  | true =>
    have C2 : Hid (∀ W, Calls Tryz.prog 48 #[kS s] W fun e w' => e = .returned (.bool true) ∧ Below W.heap.size W w') := fun W => Rf.rmay_v (ba s) true (by show mayB (tl (ba s)) = _; rw [tl_ba]; exact hm) W (by rw [ba_size]; exact HSS.out)
    have HM := hid hm
    clear h hm hs
    go_enter Tryz.func50, Tryz.ntmps50
    go_wp2_with fail
    refine (C2.out _).mono ?_; rintro e2 w2 ⟨rfl, hb2⟩
    have B2 := hid (B0.out.trans (hb2.mono B0.out.size))
    have X2 : Hid (Has w2 w.heap.size 64 #[.int .i64 0, .string ⟨#[]⟩, .string ⟨#[]⟩, .int .i64 0]) := (Has.fresh w _ _).kept hb2 (by simp)
    have HI : Hid (RDkI own w2 r tL ts sv es fused left M) := H.out.kept B2.out.size (fun g hg => B2.out.block g (H.out.low g hg))
    have c0 : w2.cell? ⟨r, 0, none⟩ = some (.pointer (some ⟨tL, 0, none⟩)) := HI.out.has.at_ 0
    have CF := hid (rfind_any HI.out.t1.tree s (by have := HSZ.out; omega))
    obtain ⟨A, n, c, hv⟩ := HI.out.t1.tree.view
    have HV := hid hv
    have c1 := hv.c0
    clear hb2 hv
    go_wp2_with fail
    refine CF.out.mono ?_; rintro e3 w3 ⟨ri, rfl, hf, rfl⟩
    rcases hf with ⟨rfl, hl⟩ | ⟨i, hi, rfl, hl⟩
    · have HR : Hid (readM M.now s = (n0, 5)) := by show _ = _; unfold readM; rw [HM.out, hl]; rfl
      clear hl
      go_wp2_with (refine wpList_store_row rfl 64 (.tmp 4) (.tmp 19) rfl w.heap.size #[.int .i64 0, .string ⟨#[]⟩, .string ⟨#[]⟩, .int .i64 0] rfl rfl 64 _ X2.out (by kernel_rfl) rfl (by simp [Value.oneCell']) ?_)
      refine bodyPost_ret (results_cell_tmp rfl _ _ w.heap.size #[.int .i64 0, .string ⟨#[]⟩, .string ⟨#[]⟩, .int .i64 0] rfl (X2.out.row) rfl) rfl ?_
      rw [HR.out]
      exact ⟨rfl, B2.out.rowK (Nat.le_refl _) _⟩
    · have hin : i < n := by have := HV.out.len; omega
      obtain ⟨g, hA, hat⟩ := HV.out.row (by omega)
      subst hA
      have ha := (hat i hin).node
      obtain ⟨nd, hnd⟩ : ∃ nd, nd = (M.now.getD i at0).2 := ⟨_, rfl⟩
      rw [← hnd] at ha hl
      have HR : Hid (readM M.now s = (nd, 0)) := by show _ = _; unfold readM; rw [HM.out, hl]; rfl
      obtain ⟨k0, d0, x0, t0⟩ := nd
      have HA := hid ha
      have hlt : (i : Int) < (n : Int) := by omega
      have hge : (0 : Int) ≤ (i : Int) := by omega
      have hng : ¬ (i : Int) < 0 := by omega
      clear hl hat ha hnd hi
      go_wp2_with (first
        | (refine wpList_load_g (by rfl) 64 (.tmp 29) rfl g (i * 5 + 1) rfl (ndA k0 d0 x0 t0) HA.out ?_)
        | (refine wpList_store_row rfl 64 (.tmp 4) (.tmp 30) rfl w.heap.size #[.int .i64 k0, kS d0, kS x0, .int .i64 t0] rfl rfl 64 _ X2.out (by kernel_rfl) rfl (by simp [Value.oneCell']) ?_))
      refine bodyPost_ret (results_cell_tmp rfl _ _ w.heap.size #[.int .i64 k0, kS d0, kS x0, .int .i64 t0] rfl (X2.out.row) rfl) rfl ?_
      rw [HR.out]
      exact ⟨rfl, B2.out.rowK (Nat.le_refl _) _⟩
end
/-- What a round of Same reads. -/
structure TwoS (g1 g2 k : Nat) (x : By) (W : World) : Prop where
  c1 : W.cell? ⟨g1, k, none⟩ = some (kS x)
  c2 : W.cell? ⟨g2, k, none⟩ = some (kS x)
set_option maxRecDepth 100000 in
set_option maxHeartbeats 4000000 in
theorem rSame_any (w : World) (A A' : Option Addr) (c c' g1 g2 : Nat) (xs : List By) (h1 : Names w A g1 xs) (h2 : Names w A' g2 xs) (hn : xs.length ≤ 100000) :
    Calls Tryz.prog 52 #[.slice A xs.length c, .slice A' xs.length c'] w fun e w' => e = .returned (.bool true) ∧ Below w.heap.size w w' := by
  have H1 := hid h1
  have H2 := hid h2
  obtain ⟨n, HN⟩ : ∃ n, Hid (xs.length = n) := ⟨_, rfl⟩
  rw [HN.out] at hn ⊢
  clear h1 h2
  go_enter Tryz.func52, Tryz.ntmps52
  go_wp2
  go_loopw [5] (fun v5 wr => ∃ k : Nat, v5 = .int .i64 (k : Int) ∧ k ≤ n ∧ Hid (Below w.heap.size w wr)) (fun v5 _ => n - (intOf v5).toNat)
  case atStart => exact ⟨0, rfl, by omega, Below.refl _ _⟩
  case round =>
    obtain ⟨k, rfl, hk, J1⟩ := hrel
    by_cases hlt : k < n
    · have hkl : k < xs.length := by rw [HN.out]; exact hlt
      have n1 := H1.out.on J1.out.drew
      have n2 := H2.out.on J1.out.drew
      have a1 := n1.ad (by omega)
      have a2 := n2.ad (by omega)
      subst a1 a2
      have SD : Hid (TwoS g1 g2 k xs[k] wr.drew) := ⟨n1.cell k hkl, n2.cell k hkl⟩
      have J1d := hid J1.out.drew
      obtain ⟨x, hx⟩ : ∃ x, x = xs[k] := ⟨_, rfl⟩
      rw [← hx] at SD
      have q : ((ba x).toList == (ba x).toList) = true := by simp
      have q2 : ((ba x).toList != (ba x).toList) = false := by simp
      have hlt' : (k : Int) < (n : Int) := by omega
      have h0 : (0 : Int) ≤ (k : Int) := by omega
      have w1 : IntKind.i64.wrap ((k : Int) + 1) = (k : Int) + 1 := i64in _ (by omega) (by omega)
      clear n1 n2 hkl hx
      go_wp2
      refine wp_region_noPanic ?_
      refine wp_region_held_drew (S := TwoS g1 g2 k x) (by kernel_rfl) (SD.out) (fun hS => ?_)
      generalize wr.drew = w3 at *
      refine wpAnyH_take (i := 0) (v := ?_) (by simp only [List.getElem?_toArray, List.getElem?_cons_zero]; rfl) (by kernel_rfl) (by kernel_rfl) (by kernel_rfl) (fun _ _ _ h => h) (Or.inl ⟨by rfl, ?_⟩) (by assumption) ?_
      rotate_left 1
      · intro w hSw
        have h1 := hSw.c1
        have h2 := hSw.c2
        go_simp
        with_reducible rfl
      simp only [Act.put, List.setIfInBounds_toArray, List.set_cons_zero, List.set_cons_succ]
      refine wpAnyH_take (i := 1) (v := ?_) (by simp only [List.getElem?_toArray, List.getElem?_cons_zero, List.getElem?_cons_succ]; rfl) (by kernel_rfl) (by kernel_rfl) (by kernel_rfl) (fun _ _ _ h => h) (Or.inl ⟨by rfl, ?_⟩) (by assumption) ?_
      rotate_left 1
      · intro w hSw
        have h1 := hSw.c1
        have h2 := hSw.c2
        go_simp
        with_reducible rfl
      simp only [Act.put, List.setIfInBounds_toArray, List.set_cons_zero, List.set_cons_succ]
      refine wpAnyH_take (i := 2) (v := ?_) (by simp only [List.getElem?_toArray, List.getElem?_cons_zero, List.getElem?_cons_succ]; rfl) (by kernel_rfl) (by kernel_rfl) (by kernel_rfl) (fun _ _ _ h => h) (Or.inl ⟨by rfl, ?_⟩) (by assumption) ?_
      rotate_left 1
      · intro w hSw
        have h1 := hSw.c1
        have h2 := hSw.c2
        go_simp
        with_reducible rfl
      simp only [Act.put, List.setIfInBounds_toArray, List.set_cons_zero, List.set_cons_succ]
      refine wpAnyH_take (i := 3) (v := ?_) (by simp only [List.getElem?_toArray, List.getElem?_cons_zero, List.getElem?_cons_succ]; rfl) (by kernel_rfl) (by kernel_rfl) (by kernel_rfl) (fun _ _ _ h => h) (Or.inl ⟨by rfl, ?_⟩) (by assumption) ?_
      rotate_left 1
      · intro w hSw
        have h1 := hSw.c1
        have h2 := hSw.c2
        go_simp
        with_reducible rfl
      simp only [Act.put, List.setIfInBounds_toArray, List.set_cons_zero, List.set_cons_succ]
      refine wpAnyH_take (i := 4) (v := ?_) (by simp only [List.getElem?_toArray, List.getElem?_cons_zero, List.getElem?_cons_succ]; rfl) (by kernel_rfl) (by kernel_rfl) (by kernel_rfl) (fun _ _ _ h => h) (Or.inl ⟨by rfl, ?_⟩) (by assumption) ?_
      rotate_left 1
      · intro w hSw
        have h1 := hSw.c1
        have h2 := hSw.c2
        go_simp
        with_reducible rfl
      simp only [Act.put, List.setIfInBounds_toArray, List.set_cons_zero, List.set_cons_succ]
      refine wpAnyH_take (i := 5) (v := ?_) (by simp only [List.getElem?_toArray, List.getElem?_cons_zero, List.getElem?_cons_succ]; rfl) (by kernel_rfl) (by kernel_rfl) (by kernel_rfl) (fun _ _ _ h => h) (Or.inl ⟨by rfl, ?_⟩) (by assumption) ?_
      rotate_left 1
      · intro w hSw
        have h1 := hSw.c1
        have h2 := hSw.c2
        go_simp
        with_reducible rfl
      simp only [Act.put, List.setIfInBounds_toArray, List.set_cons_zero, List.set_cons_succ]
      refine wpAnyH_take (i := 6) (v := ?_) (by simp only [List.getElem?_toArray, List.getElem?_cons_zero, List.getElem?_cons_succ]; rfl) (by kernel_rfl) (by kernel_rfl) (by kernel_rfl) (fun _ _ _ h => h) (Or.inl ⟨by rfl, ?_⟩) (by assumption) ?_
      rotate_left 1
      · intro w hSw
        have h1 := hSw.c1
        have h2 := hSw.c2
        go_simp
        with_reducible rfl
      simp only [Act.put, List.setIfInBounds_toArray, List.set_cons_zero, List.set_cons_succ]
      refine wpAnyH_take (i := 7) (v := ?_) (by simp only [List.getElem?_toArray, List.getElem?_cons_zero, List.getElem?_cons_succ]; rfl) (by kernel_rfl) (by kernel_rfl) (by kernel_rfl) (fun _ _ _ h => h) (Or.inl ⟨by rfl, ?_⟩) (by assumption) ?_
      rotate_left 1
      · intro w hSw
        have h1 := hSw.c1
        have h2 := hSw.c2
        go_simp
        with_reducible rfl
      simp only [Act.put, List.setIfInBounds_toArray, List.set_cons_zero, List.set_cons_succ]
      refine wpAnyH_take (i := 8) (v := ?_) (by simp only [List.getElem?_toArray, List.getElem?_cons_zero, List.getElem?_cons_succ]; rfl) (by kernel_rfl) (by kernel_rfl) (by kernel_rfl) (fun _ _ _ h => h) (Or.inl ⟨by rfl, ?_⟩) (by assumption) ?_
      rotate_left 1
      · intro w hSw
        have h1 := hSw.c1
        have h2 := hSw.c2
        go_simp
        with_reducible rfl
      simp only [Act.put, List.setIfInBounds_toArray, List.set_cons_zero, List.set_cons_succ]
      refine wpAnyH_done (by kernel_rfl) ?_ _
      refine NoPanic.normal ?_
      go_wp2
      go_roundw
      case rel => exact ⟨k + 1, by go_num, by omega, J1d.out⟩
      case measure => simp [intOf]; omega
    · go_wp2
      go_ret
      exact ⟨rfl, J1.out⟩
end Go.Proofs.YtlbeemlnbpchgaaGreat
