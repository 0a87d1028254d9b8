/- Disk.Copy, Read, Used, Room, Pending: what each answers. Conditions: as at the disk; paths of at most 4000 bytes. -/
import Derived.Test.YtlbeemlnbpchgaaGreatWO
namespace Go.Proofs.YtlbeemlnbpchgaaGreat
open Go.RowKit Go.Maps
def nat64 (n : Nat) : Value := .int .i64 (n : Int)
theorem iNode : (Tryz.prog.info? 64).map (·.size) = some 4 := by kernel_rfl
theorem results_cell_tmp {fn : Func} {c : Nat} {t : Tmp} (h : fn.results = #[.cell c 64, .tmp t]) (tmps : Array Value) (w : World) (g : Nat) (cs : Array Value) (hc : tmps.getD c undef = .pointer (some ⟨g, 0, none⟩)) (hg : Has w g 64 cs) (hi : cs.size = 4) :
    (results fn tmps).run Tryz.prog w = .ok (.tuple #[.agg cs, tmps.getD t undef]) w := by
  have hp' : tmps[c]?.getD undef = .pointer (some ⟨g, 0, none⟩) := by simpa using hc
  have hl := run_loadVar_row (P := Tryz.prog) w g 64 64 cs (0, 0) _ hg Tryz.underlying64 rfl (by rw [hi]; exact iNode)
  simp [results, h, hp', asAddr, hl]
section
variable {own : Nat → Prop} {w : World} {p : Nat} {M : Mo}
set_option maxRecDepth 100000 in
set_option maxHeartbeats 2000000 in
theorem dUsed_any (h : Dsk own w p M) : Calls Tryz.prog 27 #[.pointer (some ⟨p, 0, none⟩)] w fun e w' => e = .returned (.int .i64 ((usedL M.now : Nat) : Int)) ∧ w = w' := by
  obtain ⟨m1, m2, sv, vs, h⟩ := h
  have C1 := hid (dmade_any (m1 := m1) (h.has.at_ 0))
  have c1 : w.cell? ⟨p, 1, none⟩ = some (.int .i64 ((usedL M.now : Nat) : Int)) := h.has.at_ 1
  clear h
  go_enter Tryz.func27, Tryz.ntmps27
  go_wp2_with (go_at_call 55; refine C1.out.mono ?_; rintro e1 w1 ⟨rfl, rfl⟩)
  go_ret
  exact ⟨rfl, rfl⟩
set_option maxRecDepth 100000 in
set_option maxHeartbeats 2000000 in
theorem dRoom_any (h : Dsk own w p M) : Calls Tryz.prog 35 #[.pointer (some ⟨p, 0, none⟩)] w fun e w' => e = .returned (.int .i64 (M.room : Int)) ∧ w = w' := by
  obtain ⟨m1, m2, sv, vs, h⟩ := h
  have C1 := hid (dmade_any (m1 := m1) (h.has.at_ 0))
  have c1 : w.cell? ⟨p, 2, none⟩ = some (.int .i64 (M.room : Int)) := h.has.at_ 2
  clear h
  go_enter Tryz.func35, Tryz.ntmps35
  go_wp2_with (go_at_call 55; refine C1.out.mono ?_; rintro e1 w1 ⟨rfl, rfl⟩)
  go_ret
  exact ⟨rfl, rfl⟩
set_option maxRecDepth 100000 in
set_option maxHeartbeats 2000000 in
theorem dPending_any (h : Dsk own w p M) : Calls Tryz.prog 28 #[.pointer (some ⟨p, 0, none⟩)] w fun e w' => e = .returned (.int .i64 (M.since.length : Int)) ∧ w = w' := by
  obtain ⟨m1, m2, sv, vs, h⟩ := h
  have C1 := hid (dmade_any (m1 := m1) (h.has.at_ 0))
  have c1 : w.cell? ⟨p, 6, none⟩ = some sv := h.has.at_ 6
  obtain ⟨A, c, rfl⟩ := row_form h.row
  have HL := hid h.effs.1
  clear h
  go_enter Tryz.func28, Tryz.ntmps28
  go_wp2_with (go_at_call 55; refine C1.out.mono ?_; rintro e1 w1 ⟨rfl, rfl⟩)
  go_ret
  exact ⟨by rw [← HL.out]; rfl, rfl⟩
set_option maxRecDepth 100000 in
set_option maxHeartbeats 2000000 in
theorem dOff_is (h : Dsk own w p M) : Calls Tryz.prog 37 #[.pointer (some ⟨p, 0, none⟩)] w fun e w' => e = .returned (.bool (M.fuse == 0)) ∧ w = w' := by
  obtain ⟨m1, m2, sv, vs, h⟩ := h
  exact dOff_any (h.has.at_ 0) (h.has.at_ 7)
/-- What Read answers. -/
def readM (L : Tr) (p : By) : Nd × Int := if mayB p then (match look L p with | some n => (n, 0) | none => (n0, 5)) else (n0, 10)
def ReadP (w : World) (r : Nd × Int) (e : Ending) (w' : World) : Prop := e = .returned (.tuple #[nodeV r.1, .int .i64 r.2]) ∧ Below w.heap.size w w'
set_option maxRecDepth 100000 in
set_option maxHeartbeats 4000000 in
theorem dRead_any (h : Dsk own w p M) (hG : Gd w) (s : By) (hs : s.length ≤ 4000) : Calls Tryz.prog 34 #[.pointer (some ⟨p, 0, none⟩), kS s] w fun e w' => ReadP w (readM M.now s) e w' := by
  obtain ⟨m1, m2, sv, vs, h⟩ := h
  have B0 : Hid (Below w.heap.size w (w.alloc (.cells #[.int .i64 0, .string ⟨#[]⟩, .string ⟨#[]⟩, .int .i64 0] 64))) := (Below.refl _ _).alloc (Nat.le_refl _) _
  have H := hid h
  have C1 : Hid (∀ W, Below w.heap.size w W → Calls Tryz.prog 55 #[.pointer (some ⟨p, 0, none⟩)] W fun e w' => e = .returned (.bool true) ∧ W = w') := fun W hb => dmade_any (m1 := m1) ((h.on hb).has.at_ 0)
  cases hm : mayB s with
  | false =>
    have C2 : Hid (∀ W, Below w.heap.size w W → Calls Tryz.prog 70 #[kS s] W fun e w' => e = .returned (.bool false) ∧ Below W.heap.size W w') := fun W hb => mayk_any s false hm W (hG.kept hb) hs
    have HR : Hid (readM M.now s = (n0, 10)) := by show _ = _; unfold readM; rw [hm]; rfl
    clear h hG hm
    go_enter Tryz.func34, Tryz.ntmps34
    go_wp2_with fail
    refine (C1.out _ B0.out).mono ?_; rintro e1 w1 ⟨rfl, rfl⟩
    go_wp2_with fail
    refine (C2.out _ B0.out).mono ?_; rintro e2 w2 ⟨rfl, hb2⟩
    have B2 := hid (B0.out.trans (hb2.mono B0.out.size))
    have X2 : Hid (Has w2 w.heap.size 64 #[.int .i64 0, .string ⟨#[]⟩, .string ⟨#[]⟩, .int .i64 0]) := (Has.fresh w _ _).kept hb2 (by simp)
    clear hb2
    go_wp2_with (refine wpList_store_row rfl 64 (.tmp 4) (.tmp 15) rfl w.heap.size #[.int .i64 0, .string ⟨#[]⟩, .string ⟨#[]⟩, .int .i64 0] rfl rfl 64 _ X2.out (by kernel_rfl) rfl (by simp [Value.oneCell']) ?_)
    refine bodyPost_ret (results_cell_tmp rfl _ _ w.heap.size #[.int .i64 0, .string ⟨#[]⟩, .string ⟨#[]⟩, .int .i64 0] rfl (X2.out.row) rfl) rfl ?_
    rw [HR.out]
    exact ⟨rfl, B2.out.rowK (Nat.le_refl _) _⟩
  | true =>
    have C2 : Hid (∀ W, Below w.heap.size w W → Calls Tryz.prog 70 #[kS s] W fun e w' => e = .returned (.bool true) ∧ Below W.heap.size W w') := fun W hb => mayk_any s true hm W (hG.kept hb) hs
    cases hl : look M.now s with
    | none =>
      have C3 : Hid (∀ W, Below w.heap.size w W → Calls Tryz.prog 90 #[.pointer (some ⟨p, 0, none⟩), kS s] W fun e w' => e = .returned (.bool false) ∧ Below W.heap.size W w') := fun W hb => by
        have := thas_any (h.on hb).tr1 s hs
        unfold hasB at this; rw [hl] at this; exact this
      have HR : Hid (readM M.now s = (n0, 5)) := by show _ = _; unfold readM; rw [hm, hl]; rfl
      clear h hG hm hl
      go_enter Tryz.func34, Tryz.ntmps34
      go_wp2_with fail
      refine (C1.out _ B0.out).mono ?_; rintro e1 w1 ⟨rfl, rfl⟩
      go_wp2_with fail
      refine (C2.out _ B0.out).mono ?_; rintro e2 w2 ⟨rfl, hb2⟩
      have B2 := hid (B0.out.trans (hb2.mono B0.out.size))
      have X2 : Hid (Has w2 w.heap.size 64 #[.int .i64 0, .string ⟨#[]⟩, .string ⟨#[]⟩, .int .i64 0]) := (Has.fresh w _ _).kept hb2 (by simp)
      clear hb2
      go_wp2_with fail
      refine (C3.out _ B2.out).mono ?_; rintro e3 w3 ⟨rfl, hb3⟩
      have B3 := hid (B2.out.trans (hb3.mono B2.out.size))
      have X3 : Hid (Has w3 w.heap.size 64 #[.int .i64 0, .string ⟨#[]⟩, .string ⟨#[]⟩, .int .i64 0]) := X2.out.kept hb3 X2.out.inside
      clear hb3
      go_wp2_with (refine wpList_store_row rfl 64 (.tmp 4) (.tmp 23) rfl w.heap.size #[.int .i64 0, .string ⟨#[]⟩, .string ⟨#[]⟩, .int .i64 0] rfl rfl 64 _ X3.out (by kernel_rfl) rfl (by simp [Value.oneCell']) ?_)
      refine bodyPost_ret (results_cell_tmp rfl _ _ w.heap.size #[.int .i64 0, .string ⟨#[]⟩, .string ⟨#[]⟩, .int .i64 0] rfl (X3.out.row) rfl) rfl ?_
      rw [HR.out]
      exact ⟨rfl, B3.out.rowK (Nat.le_refl _) _⟩
    | some n =>
      obtain ⟨k0, d0, x0, t0⟩ := n
      have C3 : Hid (∀ W, Below w.heap.size w W → Calls Tryz.prog 90 #[.pointer (some ⟨p, 0, none⟩), kS s] W fun e w' => e = .returned (.bool true) ∧ Below W.heap.size W w') := fun W hb => by
        have := thas_any (h.on hb).tr1 s hs
        unfold hasB at this; rw [hl] at this; exact this
      have C4 : Hid (∀ W, Below w.heap.size w W → W.cell? ⟨p, 0, none⟩ = some (.map (some m1)) ∧ (Instr.lookup 57 (.map (some m1)) (kS s) false).run Tryz.prog W = .ok (.agg #[.int .i64 k0, kS d0, kS x0, .int .i64 t0]) W) := fun W hb => by
        have h' := h.on hb
        have := h'.t1.look (p := s) (maxLen_le hs)
        rw [hl] at this
        exact ⟨h'.has.at_ 0, this⟩
      have HR : Hid (readM M.now s = (⟨k0, d0, x0, t0⟩, 0)) := by show _ = _; unfold readM; rw [hm, hl]; rfl
      clear h hG hm hl
      go_enter Tryz.func34, Tryz.ntmps34
      go_wp2_with fail
      refine (C1.out _ B0.out).mono ?_; rintro e1 w1 ⟨rfl, rfl⟩
      go_wp2_with fail
      refine (C2.out _ B0.out).mono ?_; rintro e2 w2 ⟨rfl, hb2⟩
      have B2 := hid (B0.out.trans (hb2.mono B0.out.size))
      have X2 : Hid (Has w2 w.heap.size 64 #[.int .i64 0, .string ⟨#[]⟩, .string ⟨#[]⟩, .int .i64 0]) := (Has.fresh w _ _).kept hb2 (by simp)
      clear hb2
      go_wp2_with fail
      refine (C3.out _ B2.out).mono ?_; rintro e3 w3 ⟨rfl, hb3⟩
      have B3 := hid (B2.out.trans (hb3.mono B2.out.size))
      have X3 : Hid (Has w3 w.heap.size 64 #[.int .i64 0, .string ⟨#[]⟩, .string ⟨#[]⟩, .int .i64 0]) := X2.out.kept hb3 X2.out.inside
      obtain ⟨c0, hlk⟩ := C4.out _ B3.out
      clear hb3
      go_wp2_with (refine wpList_store_row rfl 64 (.tmp 4) (.tmp 30) rfl w.heap.size #[.int .i64 k0, kS d0, kS x0, .int .i64 t0] rfl rfl 64 _ X3.out (by kernel_rfl) rfl (by simp [Value.oneCell']) ?_)
      refine bodyPost_ret (results_cell_tmp rfl _ _ w.heap.size #[.int .i64 k0, kS d0, kS x0, .int .i64 t0] rfl (X3.out.row) rfl) rfl ?_
      rw [HR.out]
      exact ⟨rfl, B3.out.rowK (Nat.le_refl _) _⟩
end
theorem eqNilE (w : World) : (binOp .eql 60 (.slice none 0 0) (.slice none 0 0)).run Tryz.prog w = .ok (.bool true) w := by kernel_rfl
theorem eqSomeE (g n c : Nat) (w : World) : (binOp .eql 60 (.slice (some ⟨g, 0, none⟩) n c) (.slice none 0 0)).run Tryz.prog w = .ok (.bool false) w := by kernel_rfl
set_option maxRecDepth 100000 in
set_option maxHeartbeats 4000000 in
theorem slCloneE_any (sv : Value) (vs : List Value) (w : World) (h : w.ownsRow 0 97 1 sv vs.length vs) (hl : vs.length ≤ 100000) (h1 : ∀ u ∈ vs, u.oneCell' = true) :
    Calls Tryz.prog 57 #[sv] w fun e w' => ∃ v, e = .returned v ∧ w'.ownsRow 0 97 1 v vs.length vs ∧ (∀ b, v.ownBlock = some b → w.heap.size ≤ b) ∧ Below w.heap.size w w' := by
  obtain ⟨i0, hi, hz0, hz1, hz2⟩ := info_parts infoEff
  rcases h.2 with ⟨k1, k2⟩ | ⟨g, c, cur, k1, k2, k3, k4, k5, k6, k7⟩
  · subst k1
    have HR := hid h
    have q0 := eqNilE
    clear h k2
    go_enter Tryz.func57, Tryz.ntmps57
    go_wp2
    go_ret
    exact ⟨_, rfl, HR.out, fun b hb => (by cases hb), Below.refl _ _⟩
  · subst k1
    obtain ⟨n, HN⟩ : ∃ n, Hid (vs.length = n) := ⟨_, rfl⟩
    have HC : Hid (∀ j u, vs[j]? = some u → w.cell? ((⟨g, 0, none⟩ : Addr).add j) = some u) := by
      intro j u hu
      rw [show (⟨g, 0, none⟩ : Addr).add j = ⟨g, j, none⟩ by rw [Addr.add_mid]; simp]
      rw [cell_of_row w g j cur 97 (0, 0) k3]
      have hj : j < vs.length := (List.getElem?_eq_some_iff.1 hu).1
      have e2 : cur.toList[j]? = vs[j]? := by rw [← k7, List.getElem?_take, if_pos (by omega)]
      rw [← Array.getElem?_toList, e2, hu]
    have HO := hid h1
    have hg : g < w.heap.size := (Array.getElem?_eq_some_iff.1 k3).1
    have HG := hid hg
    rw [HN.out] at hl
    have N2 : Hid (0 + n ≤ maxLen) := by show _ ≤ _; unfold maxLen; omega
    have N3 : Hid ((0 + n) * 8 ≤ 140737488355328) := by show _ ≤ _; omega
    have R0 : Hid ((w.alloc (.cells #[] 97)).ownsRow w.heap.size 97 1 (.slice (some ⟨w.heap.size, 0, none⟩) 0 0) 0 []) :=
      ⟨rfl, .inr ⟨w.heap.size, 0, #[], rfl, Nat.le_refl _, Has.fresh _ _ _, Nat.le_refl _, by unfold maxLen; omega, rfl, rfl⟩⟩
    have HC2 : Hid (∀ j u, vs[j]? = some u → (w.alloc (.cells #[] 97)).cell? ((⟨g, 0, none⟩ : Addr).add j) = some u) := by
      intro j u hu
      rw [← HC.out j u hu]
      rw [show (⟨g, 0, none⟩ : Addr).add j = ⟨g, j, none⟩ by rw [Addr.add_mid]; simp]
      exact (Below.refl w.heap.size w |>.alloc (Nat.le_refl _) (.cells #[] 97)).cell (p := ⟨g, j, none⟩) HG.out
    rw [HN.out]
    have q0 := eqSomeE g n c
    clear h k2 k3 k4 k5 k6 k7 h1 hg
    go_enter Tryz.func57, Tryz.ntmps57
    go_wp2_with (at_builtin; refine wpList_append_own_at _ rfl _ _ 60 rfl w.heap.size 97 i0 .nilFunc 1 8 Tryz.underlying60 hi hz0 hz1 hz2 rfl (by decide) _ _ _ rfl R0.out ⟨g, 0, none⟩ n c vs rfl (by rw [HN.out]; simp) HC2.out HO.out N2.out N3.out (by simp) ?_; intro v' w3 hown' hg3 hnil3 hloc3)
    go_ret
    refine ⟨v', rfl, ?_, ?_, ?_⟩
    · rw [Nat.zero_add, List.nil_append] at hown'
      obtain ⟨k1, k2⟩ := hown'
      refine ⟨k1, ?_⟩
      rcases k2 with k | ⟨g', c', cur', k3, k4, k5⟩
      · exact .inl k
      · exact .inr ⟨g', c', cur', k3, Nat.zero_le _, k5⟩
    · intro b hb
      exact (hown'.lt b hb).1
    · exact ((Below.refl _ _).alloc (Nat.le_refl _) _).grown hg3 (by simp) (fun j hj => by injection hj with hj; rw [← hj]; exact Nat.le_refl _)
end Go.Proofs.YtlbeemlnbpchgaaGreat
