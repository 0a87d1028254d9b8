/- Several texts in one: WS, WT, WU, TB. Conditions: those said at each. -/
import Derived.Test.YtlbeemlnbpchgaaGreatQJ
import Derived.Test.YtlbeemlnbpchgaaGreatShelf2
import Derived.Lib.OwnBridge
import Derived.ChangeKeysEq
/- Disk.Copy, Read, Used, Room, Pending: what each answers. Conditions: as at the disk; paths of at most 4000 bytes. -/
namespace Go.Proofs.YtlbeemlnbpchgaaGreat
open Go.RowKit Go.Maps
def nat64 (n : Nat) : Value := .int .i64 (n : Int)
theorem iNode : (Tryz.prog.info? 64).map (·.size) = some 4 := by kernel_rfl
theorem results_cell_tmp {fn : Func} {c : Nat} {t : Tmp} (h : fn.results = #[.cell c 64, .tmp t]) (tmps : Array Value) (w : World) (g : Nat) (cs : Array Value) (hc : tmps.getD c undef = .pointer (some ⟨g, 0, none⟩)) (hg : Has w g 64 cs) (hi : cs.size = 4) :
    (results fn tmps).run Tryz.prog w = .ok (.tuple #[.agg cs, tmps.getD t undef]) w := by
  have hp' : tmps[c]?.getD undef = .pointer (some ⟨g, 0, none⟩) := by simpa using hc
  have hl := run_loadVar_row (P := Tryz.prog) w g 64 64 cs (0, 0) _ hg Tryz.underlying64 rfl (by rw [hi]; exact iNode)
  simp [results, h, hp', asAddr, hl]
section
variable {own : Nat → Prop} {w : World} {p : Nat} {M : Mo}
set_option maxRecDepth 100000 in
set_option maxHeartbeats 2000000 in
theorem dUsed_any (h : Dsk own w p M) : Calls Tryz.prog 27 #[.pointer (some ⟨p, 0, none⟩)] w fun e w' => e = .returned (.int .i64 ((usedL M.now : Nat) : Int)) ∧ w = w' := by
  obtain ⟨m1, m2, sv, vs, h⟩ := h
  have C1 := hid (dmade_any (m1 := m1) (h.has.at_ 0))
  have c1 : w.cell? ⟨p, 1, none⟩ = some (.int .i64 ((usedL M.now : Nat) : Int)) := h.has.at_ 1
  clear h
  go_enter Tryz.func27, Tryz.ntmps27
  go_wp2_with (go_at_call 55; refine C1.out.mono ?_; rintro e1 w1 ⟨rfl, rfl⟩)
  go_ret
  exact ⟨rfl, rfl⟩
set_option maxRecDepth 100000 in
set_option maxHeartbeats 2000000 in
theorem dRoom_any (h : Dsk own w p M) : Calls Tryz.prog 35 #[.pointer (some ⟨p, 0, none⟩)] w fun e w' => e = .returned (.int .i64 (M.room : Int)) ∧ w = w' := by
  obtain ⟨m1, m2, sv, vs, h⟩ := h
  have C1 := hid (dmade_any (m1 := m1) (h.has.at_ 0))
  have c1 : w.cell? ⟨p, 2, none⟩ = some (.int .i64 (M.room : Int)) := h.has.at_ 2
  clear h
  go_enter Tryz.func35, Tryz.ntmps35
  go_wp2_with (go_at_call 55; refine C1.out.mono ?_; rintro e1 w1 ⟨rfl, rfl⟩)
  go_ret
  exact ⟨rfl, rfl⟩
set_option maxRecDepth 100000 in
set_option maxHeartbeats 2000000 in
theorem dPending_any (h : Dsk own w p M) : Calls Tryz.prog 28 #[.pointer (some ⟨p, 0, none⟩)] w fun e w' => e = .returned (.int .i64 (M.since.length : Int)) ∧ w = w' := by
  obtain ⟨m1, m2, sv, vs, h⟩ := h
  have C1 := hid (dmade_any (m1 := m1) (h.has.at_ 0))
  have c1 : w.cell? ⟨p, 6, none⟩ = some sv := h.has.at_ 6
  obtain ⟨A, c, rfl⟩ := row_form h.row
  have HL := hid h.effs.1
  clear h
  go_enter Tryz.func28, Tryz.ntmps28
  go_wp2_with (go_at_call 55; refine C1.out.mono ?_; rintro e1 w1 ⟨rfl, rfl⟩)
  go_ret
  exact ⟨by rw [← HL.out]; rfl, rfl⟩
set_option maxRecDepth 100000 in
set_option maxHeartbeats 2000000 in
theorem dOff_is (h : Dsk own w p M) : Calls Tryz.prog 37 #[.pointer (some ⟨p, 0, none⟩)] w fun e w' => e = .returned (.bool (M.fuse == 0)) ∧ w = w' := by
  obtain ⟨m1, m2, sv, vs, h⟩ := h
  exact dOff_any (h.has.at_ 0) (h.has.at_ 7)
/-- What Read answers. -/
def readM (L : Tr) (p : By) : Nd × Int := if mayB p then (match look L p with | some n => (n, 0) | none => (n0, 5)) else (n0, 10)
def ReadP (w : World) (r : Nd × Int) (e : Ending) (w' : World) : Prop := e = .returned (.tuple #[nodeV r.1, .int .i64 r.2]) ∧ Below w.heap.size w w'
set_option maxRecDepth 100000 in
set_option maxHeartbeats 4000000 in
theorem dRead_any (h : Dsk own w p M) (hG : Gd w) (s : By) (hs : s.length ≤ 4000) : Calls Tryz.prog 34 #[.pointer (some ⟨p, 0, none⟩), kS s] w fun e w' => ReadP w (readM M.now s) e w' := by
  obtain ⟨m1, m2, sv, vs, h⟩ := h
  have B0 : Hid (Below w.heap.size w (w.alloc (.cells #[.int .i64 0, .string ⟨#[]⟩, .string ⟨#[]⟩, .int .i64 0] 64))) := (Below.refl _ _).alloc (Nat.le_refl _) _
  have H := hid h
  have C1 : Hid (∀ W, Below w.heap.size w W → Calls Tryz.prog 55 #[.pointer (some ⟨p, 0, none⟩)] W fun e w' => e = .returned (.bool true) ∧ W = w') := fun W hb => dmade_any (m1 := m1) ((h.on hb).has.at_ 0)
  cases hm : mayB s with
  | false =>
    have C2 : Hid (∀ W, Below w.heap.size w W → Calls Tryz.prog 70 #[kS s] W fun e w' => e = .returned (.bool false) ∧ Below W.heap.size W w') := fun W hb => mayk_any s false hm W (hG.kept hb) hs
    have HR : Hid (readM M.now s = (n0, 10)) := by show _ = _; unfold readM; rw [hm]; rfl
    clear h hG hm
    go_enter Tryz.func34, Tryz.ntmps34
    go_wp2_with fail
    refine (C1.out _ B0.out).mono ?_; rintro e1 w1 ⟨rfl, rfl⟩
    go_wp2_with fail
    refine (C2.out _ B0.out).mono ?_; rintro e2 w2 ⟨rfl, hb2⟩
    have B2 := hid (B0.out.trans (hb2.mono B0.out.size))
    have X2 : Hid (Has w2 w.heap.size 64 #[.int .i64 0, .string ⟨#[]⟩, .string ⟨#[]⟩, .int .i64 0]) := (Has.fresh w _ _).kept hb2 (by simp)
    clear hb2
    go_wp2_with (refine wpList_store_row rfl 64 (.tmp 4) (.tmp 15) rfl w.heap.size #[.int .i64 0, .string ⟨#[]⟩, .string ⟨#[]⟩, .int .i64 0] rfl rfl 64 _ X2.out (by kernel_rfl) rfl (by simp [Value.oneCell']) ?_)
    refine bodyPost_ret (results_cell_tmp rfl _ _ w.heap.size #[.int .i64 0, .string ⟨#[]⟩, .string ⟨#[]⟩, .int .i64 0] rfl (X2.out.row) rfl) rfl ?_
    rw [HR.out]
    exact ⟨rfl, B2.out.rowK (Nat.le_refl _) _⟩
  | true =>
    have C2 : Hid (∀ W, Below w.heap.size w W → Calls Tryz.prog 70 #[kS s] W fun e w' => e = .returned (.bool true) ∧ Below W.heap.size W w') := fun W hb => mayk_any s true hm W (hG.kept hb) hs
    cases hl : look M.now s with
    | none =>
      have C3 : Hid (∀ W, Below w.heap.size w W → Calls Tryz.prog 90 #[.pointer (some ⟨p, 0, none⟩), kS s] W fun e w' => e = .returned (.bool false) ∧ Below W.heap.size W w') := fun W hb => by
        have := thas_any (h.on hb).tr1 s hs
        unfold hasB at this; rw [hl] at this; exact this
      have HR : Hid (readM M.now s = (n0, 5)) := by show _ = _; unfold readM; rw [hm, hl]; rfl
      clear h hG hm hl
      go_enter Tryz.func34, Tryz.ntmps34
      go_wp2_with fail
      refine (C1.out _ B0.out).mono ?_; rintro e1 w1 ⟨rfl, rfl⟩
      go_wp2_with fail
      refine (C2.out _ B0.out).mono ?_; rintro e2 w2 ⟨rfl, hb2⟩
      have B2 := hid (B0.out.trans (hb2.mono B0.out.size))
      have X2 : Hid (Has w2 w.heap.size 64 #[.int .i64 0, .string ⟨#[]⟩, .string ⟨#[]⟩, .int .i64 0]) := (Has.fresh w _ _).kept hb2 (by simp)
      clear hb2
      go_wp2_with fail
      refine (C3.out _ B2.out).mono ?_; rintro e3 w3 ⟨rfl, hb3⟩
      have B3 := hid (B2.out.trans (hb3.mono B2.out.size))
      have X3 : Hid (Has w3 w.heap.size 64 #[.int .i64 0, .string ⟨#[]⟩, .string ⟨#[]⟩, .int .i64 0]) := X2.out.kept hb3 X2.out.inside
      clear hb3
      go_wp2_with (refine wpList_store_row rfl 64 (.tmp 4) (.tmp 23) rfl w.heap.size #[.int .i64 0, .string ⟨#[]⟩, .string ⟨#[]⟩, .int .i64 0] rfl rfl 64 _ X3.out (by kernel_rfl) rfl (by simp [Value.oneCell']) ?_)
      refine bodyPost_ret (results_cell_tmp rfl _ _ w.heap.size #[.int .i64 0, .string ⟨#[]⟩, .string ⟨#[]⟩, .int .i64 0] rfl (X3.out.row) rfl) rfl ?_
      rw [HR.out]
      exact ⟨rfl, B3.out.rowK (Nat.le_refl _) _⟩
    | some n =>
      obtain ⟨k0, d0, x0, t0⟩ := n
      have C3 : Hid (∀ W, Below w.heap.size w W → Calls Tryz.prog 90 #[.pointer (some ⟨p, 0, none⟩), kS s] W fun e w' => e = .returned (.bool true) ∧ Below W.heap.size W w') := fun W hb => by
        have := thas_any (h.on hb).tr1 s hs
        unfold hasB at this; rw [hl] at this; exact this
      have C4 : Hid (∀ W, Below w.heap.size w W → W.cell? ⟨p, 0, none⟩ = some (.map (some m1)) ∧ (Instr.lookup 57 (.map (some m1)) (kS s) false).run Tryz.prog W = .ok (.agg #[.int .i64 k0, kS d0, kS x0, .int .i64 t0]) W) := fun W hb => by
        have h' := h.on hb
        have := h'.t1.look (p := s) (maxLen_le hs)
        rw [hl] at this
        exact ⟨h'.has.at_ 0, this⟩
      have HR : Hid (readM M.now s = (⟨k0, d0, x0, t0⟩, 0)) := by show _ = _; unfold readM; rw [hm, hl]; rfl
      clear h hG hm hl
      go_enter Tryz.func34, Tryz.ntmps34
      go_wp2_with fail
      refine (C1.out _ B0.out).mono ?_; rintro e1 w1 ⟨rfl, rfl⟩
      go_wp2_with fail
      refine (C2.out _ B0.out).mono ?_; rintro e2 w2 ⟨rfl, hb2⟩
      have B2 := hid (B0.out.trans (hb2.mono B0.out.size))
      have X2 : Hid (Has w2 w.heap.size 64 #[.int .i64 0, .string ⟨#[]⟩, .string ⟨#[]⟩, .int .i64 0]) := (Has.fresh w _ _).kept hb2 (by simp)
      clear hb2
      go_wp2_with fail
      refine (C3.out _ B2.out).mono ?_; rintro e3 w3 ⟨rfl, hb3⟩
      have B3 := hid (B2.out.trans (hb3.mono B2.out.size))
      have X3 : Hid (Has w3 w.heap.size 64 #[.int .i64 0, .string ⟨#[]⟩, .string ⟨#[]⟩, .int .i64 0]) := X2.out.kept hb3 X2.out.inside
      obtain ⟨c0, hlk⟩ := C4.out _ B3.out
      clear hb3
      go_wp2_with (refine wpList_store_row rfl 64 (.tmp 4) (.tmp 30) rfl w.heap.size #[.int .i64 k0, kS d0, kS x0, .int .i64 t0] rfl rfl 64 _ X3.out (by kernel_rfl) rfl (by simp [Value.oneCell']) ?_)
      refine bodyPost_ret (results_cell_tmp rfl _ _ w.heap.size #[.int .i64 k0, kS d0, kS x0, .int .i64 t0] rfl (X3.out.row) rfl) rfl ?_
      rw [HR.out]
      exact ⟨rfl, B3.out.rowK (Nat.le_refl _) _⟩
end
theorem eqNilE (w : World) : (binOp .eql 60 (.slice none 0 0) (.slice none 0 0)).run Tryz.prog w = .ok (.bool true) w := by kernel_rfl
theorem eqSomeE (g n c : Nat) (w : World) : (binOp .eql 60 (.slice (some ⟨g, 0, none⟩) n c) (.slice none 0 0)).run Tryz.prog w = .ok (.bool false) w := by kernel_rfl
set_option maxRecDepth 100000 in
set_option maxHeartbeats 4000000 in
theorem slCloneE_any (sv : Value) (vs : List Value) (w : World) (h : w.ownsRow 0 97 1 sv vs.length vs) (hl : vs.length ≤ 100000) (h1 : ∀ u ∈ vs, u.oneCell' = true) :
    Calls Tryz.prog 57 #[sv] w fun e w' => ∃ v, e = .returned v ∧ w'.ownsRow 0 97 1 v vs.length vs ∧ (∀ b, v.ownBlock = some b → w.heap.size ≤ b) ∧ Below w.heap.size w w' := by
  obtain ⟨i0, hi, hz0, hz1, hz2⟩ := info_parts infoEff
  rcases h.2 with ⟨k1, k2⟩ | ⟨g, c, cur, k1, k2, k3, k4, k5, k6, k7⟩
  · subst k1
    have HR := hid h
    have q0 := eqNilE
    clear h k2
    go_enter Tryz.func57, Tryz.ntmps57
    go_wp2
    go_ret
    exact ⟨_, rfl, HR.out, fun b hb => (by cases hb), Below.refl _ _⟩
  · subst k1
    obtain ⟨n, HN⟩ : ∃ n, Hid (vs.length = n) := ⟨_, rfl⟩
    have HC : Hid (∀ j u, vs[j]? = some u → w.cell? ((⟨g, 0, none⟩ : Addr).add j) = some u) := by
      intro j u hu
      rw [show (⟨g, 0, none⟩ : Addr).add j = ⟨g, j, none⟩ by rw [Addr.add_mid]; simp]
      rw [cell_of_row w g j cur 97 (0, 0) k3]
      have hj : j < vs.length := (List.getElem?_eq_some_iff.1 hu).1
      have e2 : cur.toList[j]? = vs[j]? := by rw [← k7, List.getElem?_take, if_pos (by omega)]
      rw [← Array.getElem?_toList, e2, hu]
    have HO := hid h1
    have hg : g < w.heap.size := (Array.getElem?_eq_some_iff.1 k3).1
    have HG := hid hg
    rw [HN.out] at hl
    have N2 : Hid (0 + n ≤ maxLen) := by show _ ≤ _; unfold maxLen; omega
    have N3 : Hid ((0 + n) * 8 ≤ 140737488355328) := by show _ ≤ _; omega
    have R0 : Hid ((w.alloc (.cells #[] 97)).ownsRow w.heap.size 97 1 (.slice (some ⟨w.heap.size, 0, none⟩) 0 0) 0 []) :=
      ⟨rfl, .inr ⟨w.heap.size, 0, #[], rfl, Nat.le_refl _, Has.fresh _ _ _, Nat.le_refl _, by unfold maxLen; omega, rfl, rfl⟩⟩
    have HC2 : Hid (∀ j u, vs[j]? = some u → (w.alloc (.cells #[] 97)).cell? ((⟨g, 0, none⟩ : Addr).add j) = some u) := by
      intro j u hu
      rw [← HC.out j u hu]
      rw [show (⟨g, 0, none⟩ : Addr).add j = ⟨g, j, none⟩ by rw [Addr.add_mid]; simp]
      exact (Below.refl w.heap.size w |>.alloc (Nat.le_refl _) (.cells #[] 97)).cell (p := ⟨g, j, none⟩) HG.out
    rw [HN.out]
    have q0 := eqSomeE g n c
    clear h k2 k3 k4 k5 k6 k7 h1 hg
    go_enter Tryz.func57, Tryz.ntmps57
    go_wp2_with (at_builtin; refine wpList_append_own_at _ rfl _ _ 60 rfl w.heap.size 97 i0 .nilFunc 1 8 Tryz.underlying60 hi hz0 hz1 hz2 rfl (by decide) _ _ _ rfl R0.out ⟨g, 0, none⟩ n c vs rfl (by rw [HN.out]; simp) HC2.out HO.out N2.out N3.out (by simp) ?_; intro v' w3 hown' hg3 hnil3 hloc3)
    go_ret
    refine ⟨v', rfl, ?_, ?_, ?_⟩
    · rw [Nat.zero_add, List.nil_append] at hown'
      obtain ⟨k1, k2⟩ := hown'
      refine ⟨k1, ?_⟩
      rcases k2 with k | ⟨g', c', cur', k3, k4, k5⟩
      · exact .inl k
      · exact .inr ⟨g', c', cur', k3, Nat.zero_le _, k5⟩
    · intro b hb
      exact (hown'.lt b hb).1
    · exact ((Below.refl _ _).alloc (Nat.le_refl _) _).grown hg3 (by simp) (fun j hj => by injection hj with hj; rw [← hj]; exact Nat.le_refl _)
end Go.Proofs.YtlbeemlnbpchgaaGreat
/- Disk.Copy: a disk of its own that is the same. Conditions: as at the disk. -/
namespace Go.Proofs.YtlbeemlnbpchgaaGreat
open Go.RowKit Go.Maps
/-- What Copy's loads lean on. -/
structure CW (w0 : World) (p m1 m2 : Nat) (sv : Value) (vs : List Value) (M : Mo) (own : Nat → Prop) (W : World) : Prop where
  d : DskI own W p m1 m2 sv vs M
  bl : Below w0.heap.size w0 W
theorem DskI.drew {own : Nat → Prop} {w : World} {p m1 m2 : Nat} {sv : Value} {vs : List Value} {M : Mo} (h : DskI own w p m1 m2 sv vs M) : DskI own w.drew p m1 m2 sv vs M := h.on (Below.refl _ _).drew
theorem CW.drew {w0 W : World} {p m1 m2 : Nat} {sv : Value} {vs : List Value} {M : Mo} {own : Nat → Prop} (h : CW w0 p m1 m2 sv vs M own W) : CW w0 p m1 m2 sv vs M own W.drew := ⟨h.d.drew, h.bl.drew⟩
theorem CW.on {w0 W W' : World} {p m1 m2 : Nat} {sv : Value} {vs : List Value} {M : Mo} {own : Nat → Prop} (h : CW w0 p m1 m2 sv vs M own W) (hb : Below W.heap.size W W') : CW w0 p m1 m2 sv vs M own W' := ⟨h.d.on hb, h.bl.trans (hb.mono h.bl.size)⟩
/-- A copy of a disk. -/
def CopyP (M : Mo) (w : World) (e : Ending) (w' : World) : Prop := ∃ own q, e = .returned (.pointer (some ⟨q, 0, none⟩)) ∧ Dsk own w' q M ∧ (∀ g, own g → w.heap.size ≤ g) ∧ Below w.heap.size w w'
set_option maxRecDepth 100000 in
set_option maxHeartbeats 8000000 in
theorem dCopy_any {own : Nat → Prop} {w : World} {p : Nat} {M : Mo} (h : Dsk own w p M) : Calls Tryz.prog 17 #[.pointer (some ⟨p, 0, none⟩)] w fun e w' => CopyP M w e w' := by
  obtain ⟨m1, m2, sv, vs, h⟩ := h
  have C1 := hid (dmade_any (m1 := m1) (h.has.at_ 0))
  have P0 : Hid (CW w p m1 m2 sv vs M own w.drew) := ⟨h.drew, (Below.refl _ _).drew⟩
  have HVL : Hid (vs.length ≤ 100000) := by show _ ≤ _; rw [h.effs.1]; exact h.len
  have HV1 : Hid (∀ u ∈ vs, u.oneCell' = true) := fun u hu => by
    obtain ⟨i, hi, rfl⟩ := List.getElem_of_mem hu
    exact (h.effs.2 i hi (by rw [← h.effs.1]; exact hi)).one
  clear h
  go_enter Tryz.func17, Tryz.ntmps17
  go_wp2_with (go_at_call 55; refine C1.out.mono ?_; rintro e1 w1 ⟨rfl, rfl⟩)
  refine wp_region_noPanic ?_
  refine wp_region_held_drew (S := CW w p m1 m2 sv vs M own) (by kernel_rfl) (P0.out) (fun hS => ?_)
  refine wpAnyH_take (i := 0) (v := ?_) (by simp only [List.getElem?_toArray, List.getElem?_cons_zero]; rfl) (by kernel_rfl) (by kernel_rfl) (by kernel_rfl) (fun _ _ _ h => h) (Or.inl ⟨by rfl, ?_⟩) (by assumption) ?_
  rotate_left 1
  · intro w hSw
    go_simp
    with_reducible rfl
  simp only [Act.put, List.setIfInBounds_toArray, List.set_cons_zero, List.set_cons_succ]
  refine wpAnyH_take (i := 1) (v := ?_) (by simp only [List.getElem?_toArray, List.getElem?_cons_zero, List.getElem?_cons_succ]; rfl) (by kernel_rfl) (by kernel_rfl) (by kernel_rfl) (fun _ _ _ h => h) (Or.inl ⟨by rfl, ?_⟩) (by assumption) ?_
  rotate_left 1
  · intro w hSw
    go_simp
    with_reducible rfl
  simp only [Act.put, List.setIfInBounds_toArray, List.set_cons_zero, List.set_cons_succ]
  refine wpAnyH_take (i := 2) (v := ?_) (by simp only [List.getElem?_toArray, List.getElem?_cons_zero, List.getElem?_cons_succ]; rfl) (by kernel_rfl) (by kernel_rfl) (by kernel_rfl) (fun _ _ _ h => h) (Or.inl ⟨by rfl, ?_⟩) (by assumption) ?_
  rotate_left 1
  · intro w hSw
    go_simp
    with_reducible rfl
  simp only [Act.put, List.setIfInBounds_toArray, List.set_cons_zero, List.set_cons_succ]
  refine wpAnyH_take (i := 4) (v := ?_) (by simp only [List.getElem?_toArray, List.getElem?_cons_zero, List.getElem?_cons_succ]; rfl) (by kernel_rfl) (by kernel_rfl) (by kernel_rfl) (fun _ _ _ h => h) (Or.inl ⟨by rfl, ?_⟩) (by assumption) ?_
  rotate_left 1
  · intro w hSw
    go_simp
    with_reducible rfl
  simp only [Act.put, List.setIfInBounds_toArray, List.set_cons_zero, List.set_cons_succ]
  refine wpAnyH_take (i := 5) (v := ?_) (by simp only [List.getElem?_toArray, List.getElem?_cons_zero, List.getElem?_cons_succ]; rfl) (by kernel_rfl) (by kernel_rfl) (by kernel_rfl) (fun _ _ _ h => h) (Or.inl ⟨by rfl, ?_⟩) (by assumption) ?_
  rotate_left 1
  · intro w hSw
    go_simp
    with_reducible rfl
  simp only [Act.put, List.setIfInBounds_toArray, List.set_cons_zero, List.set_cons_succ]
  refine wpAnyH_take (i := 6) (v := ?_) (by simp only [List.getElem?_toArray, List.getElem?_cons_zero, List.getElem?_cons_succ]; rfl) (by kernel_rfl) (by kernel_rfl) (by kernel_rfl) (fun _ _ _ h => h) (Or.inl ⟨by rfl, ?_⟩) (by assumption) ?_
  rotate_left 1
  · intro w hSw
    go_simp
    with_reducible rfl
  simp only [Act.put, List.setIfInBounds_toArray, List.set_cons_zero, List.set_cons_succ]
  refine wpAnyH_take (i := 8) (v := ?_) (by simp only [List.getElem?_toArray, List.getElem?_cons_zero, List.getElem?_cons_succ]; rfl) (by kernel_rfl) (by kernel_rfl) (by kernel_rfl) (fun _ _ _ h => h) (Or.inl ⟨by rfl, ?_⟩) (by assumption) ?_
  rotate_left 1
  · intro w hSw
    go_simp
    with_reducible rfl
  simp only [Act.put, List.setIfInBounds_toArray, List.set_cons_zero, List.set_cons_succ]
  refine wpAnyH_take (i := 9) (v := ?_) (by simp only [List.getElem?_toArray, List.getElem?_cons_zero, List.getElem?_cons_succ]; rfl) (by kernel_rfl) (by kernel_rfl) (by kernel_rfl) (fun _ _ _ h => h) (Or.inl ⟨by rfl, ?_⟩) (by assumption) ?_
  rotate_left 1
  · intro w hSw
    go_simp
    with_reducible rfl
  simp only [Act.put, List.setIfInBounds_toArray, List.set_cons_zero, List.set_cons_succ]
  refine wpAnyH_take (i := 10) (v := ?_) (by simp only [List.getElem?_toArray, List.getElem?_cons_zero, List.getElem?_cons_succ]; rfl) (by kernel_rfl) (by kernel_rfl) (by kernel_rfl) (fun _ _ _ h => h) (Or.inl ⟨by rfl, ?_⟩) (by assumption) ?_
  rotate_left 1
  · intro w hSw
    go_simp
    with_reducible rfl
  simp only [Act.put, List.setIfInBounds_toArray, List.set_cons_zero, List.set_cons_succ]
  refine wpAnyH_take (i := 11) (v := ?_) (by simp only [List.getElem?_toArray, List.getElem?_cons_zero, List.getElem?_cons_succ]; rfl) (by kernel_rfl) (by kernel_rfl) (by kernel_rfl) (fun _ _ _ h => h) (Or.inl ⟨by rfl, ?_⟩) (by assumption) ?_
  rotate_left 1
  · intro w hSw
    have hc : World.cell? _ ⟨p, 6, none⟩ = some sv := hSw.d.has.at_ 6
    go_simp
    with_reducible rfl
  simp only [Act.put, List.setIfInBounds_toArray, List.set_cons_zero, List.set_cons_succ]
  refine wpAnyH_take (i := 13) (v := ?_) (by simp only [List.getElem?_toArray, List.getElem?_cons_zero, List.getElem?_cons_succ]; rfl) (by kernel_rfl) (by kernel_rfl) (by kernel_rfl) (fun _ _ _ h => h) (Or.inl ⟨by rfl, ?_⟩) (by assumption) ?_
  rotate_left 1
  · intro w hSw
    go_simp
    with_reducible rfl
  simp only [Act.put, List.setIfInBounds_toArray, List.set_cons_zero, List.set_cons_succ]
  refine wpAnyH_take (i := 14) (v := ?_) (by simp only [List.getElem?_toArray, List.getElem?_cons_zero, List.getElem?_cons_succ]; rfl) (by kernel_rfl) (by kernel_rfl) (by kernel_rfl) (fun _ _ _ h => h) (Or.inl ⟨by rfl, ?_⟩) (by assumption) ?_
  rotate_left 1
  · intro w hSw
    go_simp
    with_reducible rfl
  simp only [Act.put, List.setIfInBounds_toArray, List.set_cons_zero, List.set_cons_succ]
  refine wpAnyH_take (i := 15) (v := ?_) (by simp only [List.getElem?_toArray, List.getElem?_cons_zero, List.getElem?_cons_succ]; rfl) (by kernel_rfl) (by kernel_rfl) (by kernel_rfl) (fun _ _ _ h => h) (Or.inl ⟨by rfl, ?_⟩) (by assumption) ?_
  rotate_left 1
  · intro w hSw
    go_simp
    with_reducible rfl
  simp only [Act.put, List.setIfInBounds_toArray, List.set_cons_zero, List.set_cons_succ]
  refine wpAnyH_take (i := 16) (v := ?_) (by simp only [List.getElem?_toArray, List.getElem?_cons_zero, List.getElem?_cons_succ]; rfl) (by kernel_rfl) (by kernel_rfl) (by kernel_rfl) (fun _ _ _ h => h) (Or.inl ⟨by rfl, ?_⟩) (by assumption) ?_
  rotate_left 1
  · intro w hSw
    have hc : World.cell? _ ⟨p, 7, none⟩ = some (.int .i64 M.fuse) := hSw.d.has.at_ 7
    go_simp
    with_reducible rfl
  simp only [Act.put, List.setIfInBounds_toArray, List.set_cons_zero, List.set_cons_succ]
  refine wpAnyH_ready (rs := [3]) (by kernel_rfl) (by simp) ?_
  refine AllReadyH.cons (by simp only [List.getElem?_toArray, List.getElem?_cons_zero, List.getElem?_cons_succ]; rfl) (fun K hK => ?_) AllReadyH.nil
  go_simp
  refine (tcopy_any P0.out.d.tr1).mono ?_
  rintro e1 w1 ⟨a1, rfl, hm1, hl1, hb1⟩
  have hz1 := P0.out.on hb1
  refine hK.out _ _ hz1 (fun hS => ?_)
  clear hK K hS
  refine wpAnyH_ready (rs := [7]) (by kernel_rfl) (by simp) ?_
  refine AllReadyH.cons (by simp only [List.getElem?_toArray, List.getElem?_cons_zero, List.getElem?_cons_succ]; rfl) (fun K hK => ?_) AllReadyH.nil
  go_simp
  refine (tcopy_any hz1.d.tr2).mono ?_
  rintro e2 w2 ⟨a2, rfl, hm2, hl2, hb2⟩
  have hz2 := hz1.on hb2
  refine hK.out _ _ hz2 (fun hS => ?_)
  clear hK K hS
  refine wpAnyH_ready (rs := [12]) (by kernel_rfl) (by simp) ?_
  refine AllReadyH.cons (by simp only [List.getElem?_toArray, List.getElem?_cons_zero, List.getElem?_cons_succ]; rfl) (fun K hK => ?_) AllReadyH.nil
  go_simp
  refine (slCloneE_any sv vs _ hz2.d.row HVL.out HV1.out).mono ?_
  rintro e3 w3 ⟨v3, rfl, hr3, ho3, hb3⟩
  obtain ⟨A3, c3, rfl⟩ := row_form hr3
  have hz3 := hz2.on hb3
  refine hK.out _ _ hz3 (fun hS => ?_)
  clear hK K hS
  have M1 : Hid (MapT w3 a1 M.now) := (hm1.kept (hb2.block a1 hm1.inside)).kept (hb3.block a1 (Nat.lt_of_lt_of_le hm1.inside hb2.size))
  have M2 : Hid (MapT w3 a2 M.last) := hm2.kept (hb3.block a2 hm2.inside)
  have I1 := hid hm1.inside
  have L1 : Hid (w.heap.size ≤ a1) := hl1
  have L2 := hid hl2
  have L3 := hid ho3
  have R3 := hid hr3
  have P3 := hid hz3
  have SZ : Hid (w.heap.size ≤ w1.heap.size ∧ w1.heap.size ≤ w2.heap.size ∧ w2.heap.size ≤ w3.heap.size) := ⟨hz1.bl.size, hb2.size, hb3.size⟩
  obtain ⟨n3, HN3⟩ : ∃ n, Hid (vs.length = n) := ⟨_, rfl⟩
  rw [HN3.out]
  clear hm1 hm2 hl1 hl2 hb1 hb2 hb3 ho3 hr3 hz1 hz2 hz3
  refine wpAnyH_take (i := 17) (v := ?_) (by simp only [List.getElem?_toArray, List.getElem?_cons_zero, List.getElem?_cons_succ]; rfl) (by kernel_rfl) (by kernel_rfl) (by kernel_rfl) (fun _ _ _ h => h) (Or.inl ⟨by rfl, ?_⟩) (by assumption) ?_
  rotate_left 1
  · intro w hSw
    go_simp
    with_reducible rfl
  simp only [Act.put, List.setIfInBounds_toArray, List.set_cons_zero, List.set_cons_succ]
  refine wpAnyH_ready (rs := [18]) (by kernel_rfl) (by simp) ?_
  refine AllReadyH.cons (by simp only [List.getElem?_toArray, List.getElem?_cons_zero, List.getElem?_cons_succ]; rfl) (fun K hK => ?_) AllReadyH.nil
  go_simp
  refine hK.out _ _ (P3.out.on ((Below.refl _ _).alloc (Nat.le_refl _) _)) (fun hS18 => ?_)
  clear hK K
  refine wpAnyH_take (i := 19) (v := ?_) (by simp only [List.getElem?_toArray, List.getElem?_cons_zero, List.getElem?_cons_succ]; rfl) (by kernel_rfl) (by kernel_rfl) (by kernel_rfl) (fun _ _ _ h => h) (Or.inl ⟨by rfl, ?_⟩) (by assumption) ?_
  rotate_left 1
  · intro w hSw
    go_simp
    with_reducible rfl
  simp only [Act.put, List.setIfInBounds_toArray, List.set_cons_zero, List.set_cons_succ]
  refine wpAnyH_done (by kernel_rfl) ?_ _
  refine NoPanic.normal ?_
  have hn : a1 ≠ a2 := by have h1 := I1.out; have h2 := L2.out; omega
  have hk : Has (w3.alloc (.cells (cellsD a1 a2 (.slice A3 n3 c3) M) 62)) w3.heap.size 62 (cellsD a1 a2 (.slice A3 n3 c3) M) := Has.fresh _ _ _
  have hb4 : Below w3.heap.size w3 (w3.alloc (.cells (cellsD a1 a2 (.slice A3 n3 c3) M) 62)) := (Below.refl _ _).alloc (Nat.le_refl _) _
  have k1 := M1.out.kept (hb4.block a1 M1.out.inside)
  have k2 := M2.out.kept (hb4.block a2 M2.out.inside)
  have hr := R3.out
  rw [HN3.out] at hr
  have hr4 : (w3.alloc (.cells (cellsD a1 a2 (.slice A3 n3 c3) M) 62)).ownsRow 0 97 1 (.slice A3 n3 c3) n3 vs := row_of hr (fun b hb => by
    obtain ⟨cur, hc⟩ := row_kind hr hb
    exact hb4.block b (Array.getElem?_eq_some_iff.1 hc).1)
  have hsz := SZ.out
  have F : Hid (CopyP M w (.returned (.pointer (some ⟨w3.heap.size, 0, none⟩))) (w3.alloc (.cells (cellsD a1 a2 (.slice A3 n3 c3) M) 62))) := by
    refine ⟨fun g => g = w3.heap.size ∨ g = a1 ∨ g = a2 ∨ (Value.slice A3 n3 c3).ownBlock = some g, w3.heap.size, rfl, ⟨a1, a2, .slice A3 n3 c3, vs, ?_⟩, ?_, P3.out.bl.alloc P3.out.bl.size _⟩
    · refine ⟨?_, ?_, hk, .inl rfl, .inr (.inl rfl), .inr (.inr (.inl rfl)), k1, k2, hn, by rw [HN3.out]; exact hr4, fun b hb => .inr (.inr (.inr hb)), (P3.out.d.on hb4).effs, P3.out.d.good, P3.out.d.r0, P3.out.d.r1, P3.out.d.len⟩
      · rintro g (e | e | e | e)
        · rw [e]; exact hk.inside
        · rw [e]; exact k1.inside
        · rw [e]; exact k2.inside
        · obtain ⟨cur, hc⟩ := row_kind hr4 e
          exact (Array.getElem?_eq_some_iff.1 hc).1
      · rintro g (e | e | e | e)
        · rw [e]; exact hk.loose (by decide)
        · rw [e]; exact k1.loose
        · rw [e]; exact k2.loose
        · obtain ⟨cur, hc⟩ := row_kind hr4 e
          exact Has.loose (show Has _ g 97 cur from hc) (by decide)
    · rintro g (e | e | e | e)
      · rw [e]; omega
      · rw [e]; exact L1.out
      · rw [e]; have := L2.out; omega
      · have := L3.out g (by rw [HN3.out]; exact e); omega
  clear hn hk hb4 k1 k2 hr hr4 hsz
  go_wp2
  go_ret
  exact F.out
end Go.Proofs.YtlbeemlnbpchgaaGreat
/- Disk.Paths: the paths in their order. Conditions: as at the disk. -/
namespace Go.Proofs.YtlbeemlnbpchgaaGreat
open Go.RowKit Go.Maps Go.Lib Go.Sort
abbrev Sh := {x : By // x.length ≤ 4000}
instance : Inhabited Sh := ⟨⟨[], by simp⟩⟩
def encSh (x : Sh) : Value := kS x.1
def cfSh (x y : Sh) : Int := cmpL x.1 y.1
theorem lt_sh (x y : Sh) : ltOf cfSh x y = true ↔ cmpL x.1 y.1 = -1 := by
  unfold ltOf cfSh
  have := cmpL_vals x.1 y.1
  simp only [decide_eq_true_eq]; omega
theorem lt_sh_no (x y : Sh) : ltOf cfSh x y = false ↔ cmpL x.1 y.1 ≠ -1 := by
  rw [← Bool.not_eq_true, lt_sh]
theorem cmpL_le {a b : By} (h : cmpL b a ≠ -1) : cmpL a b = -1 ∨ a = b := by
  rcases cmpL_vals a b with k | k | k
  · exact .inl k
  · exact .inr ((cmpL_zero a b).1 k)
  · exact absurd (by rw [cmpL_neg a b, k]) h
theorem swo_sh : SWO (ltOf cfSh) where
  irrefl x := by rw [lt_sh_no, cmpL_self]; omega
  trans x y z h1 h2 := by rw [lt_sh] at *; exact cmpL_trans _ _ _ h1 h2
  ntrans x y z h1 h2 := by
    rw [lt_sh_no] at *
    intro h3
    rcases cmpL_le h1 with k | k
    · exact h2 (cmpL_trans _ _ _ k h3)
    · rw [← k] at h3; exact h2 h3
theorem one_sh : OneCell encSh := fun _ => rfl
theorem shift_sh {xs : List By} (h : ∀ x ∈ xs, x.length ≤ 4000) : ∃ zs : List Sh, zs.map (·.1) = xs := by
  induction xs with
  | nil => exact ⟨[], rfl⟩
  | cons x xs ih =>
    obtain ⟨zs, hz⟩ := ih fun y hy => h y (List.mem_cons_of_mem _ hy)
    exact ⟨⟨x, h x List.mem_cons_self⟩ :: zs, by rw [List.map_cons, hz]⟩
def keyT (xs : List By) : Tr := xs.map fun x => (x, n0)
theorem look_key (xs : List By) (p : By) : look (keyT xs) p = if p ∈ xs then some n0 else none := by
  induction xs with
  | nil => rfl
  | cons x xs ih =>
    show (if x = p then some n0 else look (keyT xs) p) = _
    rw [ih]
    by_cases h : x = p
    · simp [h]
    · have h' : ¬ p = x := fun e => h e.symm
      simp [h, h']
theorem keys_same {xs ys : List By} (hx : xs.Pairwise fun a b => cmpL a b = -1) (hy : ys.Pairwise fun a b => cmpL a b = -1) (h : ∀ p, p ∈ xs ↔ p ∈ ys) : xs = ys := by
  have s1 : Srt (keyT xs) := by unfold Srt keyT; rw [List.pairwise_map]; exact hx
  have s2 : Srt (keyT ys) := by unfold Srt keyT; rw [List.pairwise_map]; exact hy
  have := tree_ext s1 s2 fun p => by rw [look_key, look_key]; simp only [h p]
  have e := congrArg (List.map (·.1)) this
  simpa [keyT, List.map_map, Function.comp_def] using e
def pathsL (L : Tr) : List By := L.map (·.1)
theorem paths_srt {L : Tr} (h : Srt L) : (pathsL L).Pairwise fun a b => cmpL a b = -1 := by unfold pathsL; rw [List.pairwise_map]; exact h
theorem sorted_paths {L : Tr} (h : Srt L) (zs : List Sh) (hp : (zs.map (·.1)).Perm (pathsL L)) : (zs.mergeSort fun x y => !(ltOf cfSh) y x).map (·.1) = pathsL L := by
  have hperm := List.mergeSort_perm zs fun x y => !(ltOf cfSh) y x
  have hpw : (zs.mergeSort fun x y => !(ltOf cfSh) y x).Pairwise fun x y => (!(ltOf cfSh) y x) = true := by
    apply List.pairwise_mergeSort
    · intro a b c h1 h2
      simp only [Bool.not_eq_true'] at *
      exact swo_sh.ntrans _ _ _ h2 h1
    · intro a b
      simp only [Bool.or_eq_true, Bool.not_eq_true']
      rcases cmpL_vals b.1 a.1 with k | k | k
      · exact .inr ((lt_sh_no _ _).2 (by rw [cmpL_neg, k]; omega))
      · exact .inl ((lt_sh_no _ _).2 (by rw [k]; omega))
      · exact .inl ((lt_sh_no _ _).2 (by rw [k]; omega))
  have hnd : ((zs.mergeSort fun x y => !(ltOf cfSh) y x).map (·.1)).Nodup := by
    refine ((hperm.map _).trans hp).nodup_iff.2 ?_
    exact (paths_srt h).imp fun k => cmpL_ne k
  refine keys_same ?_ (paths_srt h) fun p => ((hperm.map _).trans hp).mem_iff
  have h2 : ((zs.mergeSort fun x y => !(ltOf cfSh) y x).map (·.1)).Pairwise fun a b => cmpL b a ≠ -1 := by
    rw [List.pairwise_map]
    exact hpw.imp fun {a b} k => (lt_sh_no b a).1 (by simpa using k)
  exact (h2.and hnd).imp fun {a b} k => (cmpL_le k.1).resolve_right k.2
/-- A slice of names: its cells. -/
structure Names (w : World) (A : Option Addr) (g : Nat) (xs : List By) : Prop where
  ad : 0 < xs.length → A = some ⟨g, 0, none⟩
  cell : ∀ i (h : i < xs.length), w.cell? ⟨g, i, none⟩ = some (kS xs[i])
  low : 0 < xs.length → g < w.heap.size
theorem Names.on {w w' : World} {A : Option Addr} {g : Nat} {xs : List By} (h : Names w A g xs) (hb : Below w.heap.size w w') : Names w' A g xs :=
  ⟨h.ad, fun i hi => (hb.cell (h.low (by omega))).trans (h.cell i hi), fun k => Nat.lt_of_lt_of_le (h.low k) hb.size⟩
def NamesP (w : World) (xs : List By) (e : Ending) (w' : World) : Prop := ∃ A c g, e = .returned (.slice A (xs.length : Nat) c) ∧ Names w' A g xs ∧ Below w.heap.size w w'
theorem names_of_row {w w0 : World} {e : TypeId} {v : Value} {xs : List By} (h : w.ownsRow w0.heap.size e 1 v xs.length (xs.map kS)) : ∃ A c g, v = .slice A (xs.length : Nat) c ∧ Names w A g xs := by
  rcases h.2 with ⟨k1, k2⟩ | ⟨g, c, cur, k1, k2, k3, k4, k5, k6, k7⟩
  · have : xs = [] := by simpa using k2
    subst this
    exact ⟨none, 0, 0, k1, fun k => absurd k (by simp), fun i hi => absurd hi (by simp), fun k => absurd k (by simp)⟩
  · refine ⟨_, c, g, k1, fun _ => rfl, fun i hi => ?_, fun _ => Has.inside k3⟩
    have e1 := congrArg (fun l => l[i]?) k7
    simp only [List.getElem?_take, Nat.mul_one, if_pos hi, Array.getElem?_toList, List.getElem?_map, List.getElem?_eq_getElem hi, Option.map_some] at e1
    exact (Has.at_ k3 i).trans e1
theorem below_sorted {α : Type} [Inhabited α] {enc : α → Value} {B : Nat} {w0 w : World} {g q : Nat} {d : Array α} {os : Array Obj} (h : Below B w0 w) (hg : B ≤ g) (hB : B ≤ w.heap.size) : Below B w0 (sortWorld enc w g 0 q d os) := by
  have := below_putRow (enc := enc) (q := q) (d := d) h hg
  refine this.trans ⟨rfl, rfl, rfl, ?_, fun k hk => ?_⟩
  · show _ ≤ ((putRow enc (Sort.ahead w q) g 0 d).heap ++ os).size
    simp
  · show ((putRow enc (Sort.ahead w q) g 0 d).heap ++ os)[k]? = _
    have := this.size
    rw [Array.getElem?_append_left]
    have e : (putRow enc (Sort.ahead w q) g 0 d).heap.size = w.heap.size := by simp [putRow, mapBlock, Sort.ahead]
    omega
/-- slices.SortFunc at a row of paths that the call made. -/
theorem sortPaths_any {L : Tr} (hs : Srt L) {w0 w : World} {v : Value} {xs : List By} (hb : Below w0.heap.size w0 w) (h : w.ownsRow w0.heap.size 9 1 v xs.length (xs.map kS)) (hp : xs.Perm (pathsL L)) (hl : ∀ x ∈ xs, x.length ≤ 4000) (hn : xs.length ≤ 100000) :
    Calls Tryz.prog 77 #[v, .func (.func 42) #[] #[]] w fun e w' => e = .returned (.tuple #[]) ∧ w'.ownsRow w0.heap.size 9 1 v (pathsL L).length ((pathsL L).map kS) ∧ Below w0.heap.size w0 w' := by
  obtain ⟨zs, hz⟩ := shift_sh hl
  have hlen : xs.length = (pathsL L).length := hp.length_eq
  have hzx : xs.map kS = zs.map encSh := by rw [← hz, List.map_map]; rfl
  by_cases hv : v = .slice none 0 0
  · subst hv
    have h0 : xs.length = 0 := by
      rcases h.2 with ⟨_, k2⟩ | ⟨g, c, cur, k1, _⟩
      · have : xs = [] := by simpa using k2
        rw [this]; rfl
      · cases k1
    have e0 : xs = [] := List.length_eq_zero_iff.1 h0
    have e1 : pathsL L = [] := List.length_eq_zero_iff.1 (by omega)
    refine (Tryz.slices_SortFunc_none (α := Sh) none 0 _ w).mono ?_
    rintro e w' ⟨rfl, rfl⟩
    rw [e1]; rw [e0] at h
    exact ⟨rfl, h, hb⟩
  · rw [hzx] at h
    obtain ⟨g, cap, rfl, g1, g2, g3, g4, g5, hH⟩ := holds_of_ownsRow h hv
    have hlz : zs.toArray.size = xs.length := by simp [g5]
    have := Tryz.slices_SortFunc_total encSh one_sh cfSh swo_sh 42 #[] g 0 cap zs.toArray w (enters_of Tryz.func42 (by kernel_rfl) rfl) (fun m os dk hdk x y => by
      have hx := x.2; have hy := y.2
      refine (cmp_any (ba x.1) (ba y.1) _ (by rw [ba_size]; omega) (by rw [ba_size]; omega)).mono ?_
      rintro e w' ⟨rfl, n, rfl⟩
      exact ⟨rfl, n, #[], (grow_empty _).symm⟩) hH g2 (by rw [hlz]; omega) (fun x y h1 h2 => by
        rw [lt_sh_no] at h1 h2
        rcases cmpL_le h2 with k | k
        · exact absurd k h1
        · exact Subtype.ext k)
    rw [hlz] at this
    refine this.mono ?_
    rintro e w' ⟨rfl, n, os, rfl⟩
    refine ⟨rfl, ?_, below_sorted hb g1 hb.size⟩
    have hsp := sorted_paths hs zs (by rw [hz]; exact hp)
    have hml : (zs.mergeSort fun x y => !(ltOf cfSh) y x).length = xs.length := by rw [List.length_mergeSort, g5]
    have hrow := ownsRow_putRow (enc := encSh) (q := n) (k := xs.length) (ys := zs.mergeSort fun x y => !(ltOf cfSh) y x) h hml (Nat.le_refl _)
    rw [List.take_of_length_le (Nat.le_of_eq hml), show List.map encSh (zs.mergeSort fun x y => !(ltOf cfSh) y x) = (pathsL L).map kS by rw [← hsp, List.map_map]; rfl, hlen] at hrow
    rw [hlen]
    refine row_of hrow fun g' hg' => ?_
    have eg : g = g' := by injection hg'
    subst eg
    show ((putRow encSh (Sort.ahead w n) g 0 _).heap ++ os)[g]? = _
    rw [Array.getElem?_append_left]
    have e : ∀ d : Array Sh, (putRow encSh (Sort.ahead w n) g 0 d).heap.size = w.heap.size := fun d => by simp [putRow, mapBlock, Sort.ahead]
    rw [e]; exact g2
theorem inner_nil (L : Tr) : innerL L [] = pathsL L := by
  have : kindP L [] = 2 := rfl
  rw [innerL, if_pos this, show beginL [] = [] from rfl]
  unfold restsL pathsL
  induction L with
  | nil => rfl
  | cons x L ih => simp
section
variable {own : Nat → Prop} {w : World} {p : Nat} {M : Mo}
set_option maxRecDepth 100000 in
set_option maxHeartbeats 4000000 in
theorem dPaths_any (h : Dsk own w p M) : Calls Tryz.prog 26 #[.pointer (some ⟨p, 0, none⟩)] w fun e w' => NamesP w (pathsL M.now) e w' := by
  obtain ⟨m1, m2, sv, vs, h⟩ := h
  have C1 := hid (dmade_any (m1 := m1) (h.has.at_ 0))
  have hW := h.good.w1
  have hmay : ∀ q, (look M.now q).isSome → q.length ≤ 4000 := fun q hq => by have := (may_parts (hW.may q hq)).1; omega
  have C2 : Hid (Calls Tryz.prog 75 #[.pointer (some ⟨p, 0, none⟩), kS []] w fun e w' => InPost w (pathsL M.now) e w') := by
    have := twithin_any h.tr1 hmay [] (by simp)
    rw [inner_nil] at this; exact this
  have HS := hid hW.srt
  have HN : Hid ((pathsL M.now).length ≤ 100000) := by
    show _ ≤ _
    unfold pathsL; rw [List.length_map]; exact h.tr1.len
  have HL : Hid (∀ x ∈ pathsL M.now, x.length ≤ 4000) := fun x hx => by
    unfold pathsL at hx
    obtain ⟨y, hy, rfl⟩ := List.mem_map.1 hx
    obtain ⟨q, n⟩ := y
    exact hmay q (by rw [mem_look hW.srt hy]; rfl)
  clear h hW hmay
  go_enter Tryz.func26, Tryz.ntmps26
  go_wp2_with fail
  refine C1.out.mono ?_; rintro e1 w1 ⟨rfl, rfl⟩
  go_wp2_with fail
  refine C2.out.mono ?_; rintro e2 w2 ⟨v, xs, rfl, hp, hrow, hb⟩
  have HP := hid hp; have HR := hid hrow; have HB := hid hb
  clear hp hrow hb
  go_wp2_with fail
  refine (sortPaths_any HS.out HB.out HR.out HP.out (fun x hx => HL.out x (HP.out.mem_iff.1 hx)) (by rw [HP.out.length_eq]; exact HN.out)).mono ?_; rintro e3 w3 ⟨rfl, hrow3, hb3⟩
  have HR3 := hid hrow3; have HB3 := hid hb3
  clear hrow3 hb3
  go_wp2
  go_ret
  obtain ⟨A, c, g, rfl, hn⟩ := names_of_row HR3.out
  exact ⟨A, c, g, rfl, hn, HB3.out⟩
end
end Go.Proofs.YtlbeemlnbpchgaaGreat
/- Nodes compared, and the statements' helper 'is'. Conditions: as at the disk. -/
namespace Go.Proofs.YtlbeemlnbpchgaaGreat
open Go.RowKit Go.Maps
instance : DecidableEq Nd := fun a b =>
  if h : a.kind = b.kind ∧ a.data = b.data ∧ a.target = b.target ∧ a.time = b.time then .isTrue (by cases a; cases b; simp only at h; obtain ⟨h1, h2, h3, h4⟩ := h; subst h1 h2 h3 h4; rfl) else .isFalse (fun e => h (by subst e; exact ⟨rfl, rfl, rfl, rfl⟩))
theorem nodeFields : Tryz.prog.fieldsOf 64 = #[{ name := "Kind", type := 3, offset := 0, embedded := false, tag := "", pkgPath := "", byteOffset := 0 },
        { name := "Data", type := 9, offset := 1, embedded := false, tag := "", pkgPath := "", byteOffset := 8 },
        { name := "Target", type := 9, offset := 2, embedded := false, tag := "", pkgPath := "", byteOffset := 24 },
        { name := "Time", type := 2, offset := 3, embedded := false, tag := "", pkgPath := "", byteOffset := 40 }] := by kernel_rfl
theorem eqNode_any (n m : Nd) (w : World) : (binOp .eql 64 (nodeV n) (nodeV m)).run Tryz.prog w = .ok (.bool (decide (n = m))) w := by
  obtain ⟨a, b, c, d⟩ := n
  obtain ⟨a', b', c', d'⟩ := m
  unfold nodeV kS
  have hu : Tryz.prog.underlying 64 = some (.struct (Tryz.prog.fieldsOf 64)) := by rw [nodeFields]; exact Tryz.underlying64
  have pI : Tryz.prog.plainKey 3 = true := by kernel_rfl
  have pS : Tryz.prog.plainKey 9 = true := by kernel_rfl
  have pJ : Tryz.prog.plainKey 2 = true := by kernel_rfl
  have q0 : ∀ (x y z u : Value) w, (part 3 #[x, y, z, u] 0).run Tryz.prog w = .ok x w := fun x y z u w => run_part_plain w pI rfl
  have q1 : ∀ (x y z u : Value) w, (part 9 #[x, y, z, u] 1).run Tryz.prog w = .ok y w := fun x y z u w => run_part_plain w pS rfl
  have q2 : ∀ (x y z u : Value) w, (part 9 #[x, y, z, u] 2).run Tryz.prog w = .ok z w := fun x y z u w => run_part_plain w pS rfl
  have q3 : ∀ (x y z u : Value) w, (part 2 #[x, y, z, u] 3).run Tryz.prog w = .ok u w := fun x y z u w => run_part_plain w pJ rfl
  have e0 : ∀ x y w, (Op.equalIn 9999 3 (.int .i64 x) (.int .i64 y)).run Tryz.prog w = .ok (x == y) w := fun x y w => run_equalIn_int w 9998 3 .i64 .i64 x y Tryz.underlying3
  have e1 : ∀ x y w, (Op.equalIn 9999 9 (.string x) (.string y)).run Tryz.prog w = .ok (x.toList == y.toList) w := fun x y w => run_equalIn_string w 9998 9 x y Tryz.underlying9
  have e3 : ∀ x y w, (Op.equalIn 9999 2 (.int .i64 x) (.int .i64 y)).run Tryz.prog w = .ok (x == y) w := fun x y w => run_equalIn_int w 9998 2 .i64 .i64 x y Tryz.underlying2
  rw [run_eql_struct, run_equalIn_agg _ 9999 64 _ _ hu (by kernel_rfl), nodeFields]
  simp only [Op.eqFields, Sem.run_bind, q0, e0, Result.andThen_ok, ne_eq, String.reduceEq, not_false_eq_true, if_true]
  by_cases h0 : a = a'
  · by_cases h1 : b = b'
    · by_cases h2 : c = c'
      · by_cases h3 : d = d'
        · subst h0 h1 h2 h3; simp [q1, q2, q3, e1, e3, toList_tl, tl_ba]
        · simp [h0, h1, h2, h3, q1, q2, q3, e1, e3, toList_tl, tl_ba]
      · simp [h0, h1, h2, q1, q2, e1, toList_tl, tl_ba]
    · simp [h0, h1, q1, e1, toList_tl, tl_ba]
  · simp [h0]
theorem neqNode_any (n m : Nd) (w : World) : (binOp .neq 64 (nodeV n) (nodeV m)).run Tryz.prog w = .ok (.bool (!decide (n = m))) w := by
  have h := eqNode_any n m w
  unfold nodeV at *
  rw [run_eql_struct] at h
  rw [run_neq_struct]
  revert h
  generalize (Op.equalIn 10000 _ _ _).run Tryz.prog w = r
  intro h
  cases r with
  | ok b w1 => simp [Result.andThen] at h ⊢; simp [h]
  | halt x w1 => simp [Result.andThen] at h
theorem wpList_wanted {P : Program} {ops : Array Oper} {Q : Exit → Act → World → Prop} {a : Act} {w : World} {rest : List Oper} {o : Oper} (hw : Region.wanted o (yielded ops a.tmps) = true)
    (h : ∀ K : Act → World → Prop, (∀ a w, wpList P ops Q rest a w → K a w) → o.wp P a w K Q) : wpList P ops Q (o :: rest) a w :=
  wpList_step fun K hK => by rw [if_pos hw]; exact h K hK

theorem wpList_load_g {P : Program} {ops : Array Oper} {rest : List Oper} {o : Oper} {a : Act} {w : World} {Q : Exit → Act → World → Prop} (hw : Region.wanted o (yielded ops a.tmps) = true) (ty : TypeId) (x : Operand) (ho : o.op = .load ty x)
    (g off : Nat) (hx : a.eval x = .pointer (some ⟨g, off, none⟩)) (cs : Array Value) (hl : (loadVar ty ⟨g, off, none⟩).run P w = .ok (.agg cs) w)
    (h : wpList P ops Q rest (a.put o.dst (.agg cs)) w) : wpList P ops Q (o :: rest) a w :=
  wpList_wanted hw fun _ hK => by
    unfold Oper.wp execOp
    simp only [ho, hx, Instr.loadAt, Instr.sureAddr, Sem.run_bind, Sem.run_pure, Result.andThen_ok, hl]
    exact hK _ _ h
theorem eqG : Tryz.prog.eqGuardType Tryz.prog.depth 64 = false := by kernel_rfl
/-- A node's cells. -/
abbrev ndA (k : Int) (d x : By) (t : Int) : Array Value := #[.int .i64 k, kS d, kS x, .int .i64 t]
section
variable {ops : Array Oper} {Q : Exit → Act → World → Prop} {a : Act} {w : World} {rest : List Oper} {o : Oper}
theorem wpList_eql_node (hw : Region.wanted o (yielded ops a.tmps) = true) (x y : Operand) (ho : o.op = .binOp .eql 64 x y 64) (n m : Nd) (hx : a.eval x = nodeV n) (hy : a.eval y = nodeV m) (b : Bool) (hb : decide (n = m) = b)
    (h : wpList Tryz.prog ops Q rest (a.put o.dst (.bool b)) w) : wpList Tryz.prog ops Q (o :: rest) a w :=
  wpList_wanted hw fun _ hK => by
    unfold Oper.wp execOp
    have e := eqNode_any n m w
    have g : (eqGuard .eql 64 x y (nodeV n) (nodeV m)).run Tryz.prog w = .ok () w := run_eqGuard_agg w .eql 64 x y _ _ eqG
    simp only [ho, hx, hy, Sem.run_bind, g, e, Result.andThen_ok, hb]
    exact hK _ _ h
theorem wpList_neq_node (hw : Region.wanted o (yielded ops a.tmps) = true) (x y : Operand) (ho : o.op = .binOp .neq 64 x y 64) (n m : Nd) (hx : a.eval x = nodeV n) (hy : a.eval y = nodeV m) (b : Bool) (hb : (!decide (n = m)) = b)
    (h : wpList Tryz.prog ops Q rest (a.put o.dst (.bool b)) w) : wpList Tryz.prog ops Q (o :: rest) a w :=
  wpList_wanted hw fun _ hK => by
    unfold Oper.wp execOp
    have e := neqNode_any n m w
    have g : (eqGuard .neq 64 x y (nodeV n) (nodeV m)).run Tryz.prog w = .ok () w := run_eqGuard_agg w .neq 64 x y _ _ eqG
    simp only [ho, hx, hy, Sem.run_bind, g, e, Result.andThen_ok, hb]
    exact hK _ _ h
theorem load_nodeC {w : World} {g : Nat} {k : Int} {d x : By} {t : Int} (hg : Has w g 64 (ndA k d x t)) : (loadVar 64 ⟨g, 0, none⟩).run Tryz.prog w = .ok (.agg (ndA k d x t)) w :=
  run_loadVar_row (P := Tryz.prog) w g 64 64 _ (0, 0) _ hg Tryz.underlying64 rfl iNode
theorem wpList_load_nodeC (hw : Region.wanted o (yielded ops a.tmps) = true) (x : Operand) (ho : o.op = .load 64 x) (g : Nat) (hx : a.eval x = .pointer (some ⟨g, 0, none⟩)) (k : Int) (d y : By) (t : Int) (hg : Has w g 64 (ndA k d y t))
    (h : wpList Tryz.prog ops Q rest (a.put o.dst (.agg (ndA k d y t))) w) : wpList Tryz.prog ops Q (o :: rest) a w :=
  wpList_wanted hw fun _ hK => by
    unfold Oper.wp execOp
    simp only [ho, hx, Instr.loadAt, Instr.sureAddr, Sem.run_bind, Sem.run_pure, Result.andThen_ok, load_nodeC hg]
    exact hK _ _ h
end
end Go.Proofs.YtlbeemlnbpchgaaGreat
