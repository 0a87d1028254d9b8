/- Several texts in one. Conditions: those said at each. -/
import Derived.Test.YtabidnlbgdecbaaGreatDoorKa00
import Derived.Test.YtabidnlbgdecbaaGreatDoorKa07
set_option linter.unusedSimpArgs false
set_option linter.unusedVariables false
set_option maxRecDepth 100000
namespace Go.Proofs.YtabidnlbgdecbaaGreatDoor
open Go.RowKit Go.Maps
theorem load_bk {w : World} {g : Nat} {cs : Array Value} (hg : Has w g 111 cs) (hs : cs.size = 2) : (loadVar 111 ⟨g, 0, none⟩).run Tryz.prog w = .ok (.agg cs) w :=
 run_loadVar_row (P := Tryz.prog) w g 111 111 _ (0, 0) _ hg Tryz.underlying111 rfl (by rw [hs]; exact iBucket)
theorem yields_loadG {ops : Array Oper} {S : World → Prop} {o : Oper} {a : Act} (hw : Region.wanted o (yielded ops a.tmps) = true) (ty : TypeId) (x : Operand) (ho : o.op = .load ty x) (g off : Nat) (hx : a.eval x = .pointer (some ⟨g, off, none⟩)) (cs : Array Value)
 (hS : ∀ w, S w → (loadVar ty ⟨g, off, none⟩).run Tryz.prog w = .ok (.agg cs) w) : YieldsIf Tryz.prog ops S o (.agg cs) a :=
 .inl ⟨hw, fun w hw' => by
  unfold execOp
  simp only [ho, hx, Instr.loadAt, Instr.sureAddr, Sem.run_bind, Sem.run_pure, Result.andThen_ok, hS w hw']⟩
section
variable {ops : Array Oper} {Q : Exit → Act → World → Prop} {a : Act} {w : World} {rest : List Oper} {o : Oper}
theorem wpList_load_bk (hw : Region.wanted o (yielded ops a.tmps) = true) (x : Operand) (ho : o.op = .load 111 x) (g : Nat) (hx : a.eval x = .pointer (some ⟨g, 0, none⟩)) (p q : Int) (hg : Has w g 111 #[.int .i64 p, .int .i64 q])
 (h : wpList Tryz.prog ops Q rest (a.put o.dst (.agg #[.int .i64 p, .int .i64 q])) w) : wpList Tryz.prog ops Q (o :: rest) a w :=
 wpList_wanted hw fun _ hK => by
  unfold Oper.wp execOp
  simp only [ho, hx, Instr.loadAt, Instr.sureAddr, Sem.run_bind, Sem.run_pure, Result.andThen_ok, load_bk hg rfl]
  exact hK _ _ h
end
theorem row_ne {w : World} {B n : Nat} {e t : TypeId} {v : Value} {xs : List Value} {g : Nat} {cs : Array Value} (h : w.ownsRow B e 1 v n xs) (hg : Has w g t cs) (hne : e ≠ t) : v.ownBlock ≠ some g := by
 intro e1
 obtain ⟨cur, hc⟩ := row_kind h e1
 unfold Has at hg
 rw [hg] at hc
 injection hc with hc
 injection hc with _ hc
 exact hne hc.symm
theorem row_nm {w : World} {B n : Nat} {e : TypeId} {v : Value} {xs : List Value} {g : Nat} (h : w.ownsRow B e 1 v n xs) (hg : ∃ es ck, w.heap[g]? = some (.map es ck)) : v.ownBlock ≠ some g := by
 intro e1
 obtain ⟨cur, hc⟩ := row_kind h e1
 obtain ⟨es, ck, hg⟩ := hg
 rw [hg] at hc; cases hc
theorem EnR.cap {e : TypeId} {B : Nat} {w : World} {A : Option Addr} {n c : Nat} {L : List En} (h : EnR e B w (.slice A n c) L) : L.length ≤ c ∨ L = [] := by
 rcases h.2 with ⟨_, k2⟩ | ⟨g, c', cur, k1, _, _, k4, _⟩
 · exact .inr (List.eq_nil_of_length_eq_zero k2)
 · injection k1 with _ _ k1
   subst k1
   exact .inl k4
theorem goF_step (p : Pol) (now : Int) (n i : Nat) (tk : List (Int × Int)) (x : En) (l : List En) : goF p now n i tk (x :: l) = if goB p now n i tk x = true then x.name :: goF p now n (i + 1) tk l else goF p now n (i + 1) (bucketM (ageM now x) :: tk) l := rfl
set_option maxHeartbeats 16000000 in
theorem going_any {B : Nat} {w : World} {v : Value} {K : List En} (p : Pol) (h : EnR 28 B w v K) (hK : K ≠ []) (hn : K.length ≤ 1000) (hk : 0 ≤ p.keep ∧ p.keep ≤ 100) (now : Int) :
 Calls Tryz.prog 29 #[.agg #[.int .i64 p.kind, .int .i64 p.keep, .int .i64 p.age], v, .int .i64 now] w fun e w' =>
  ∃ v', e = .returned v' ∧ w'.ownsRow w.heap.size 9 1 v' (goingM p now K).length ((goingM p now K).map kS) ∧ Below w.heap.size w w' := by
 obtain ⟨pk, pp, pa⟩ := p
 simp only at hk ⊢
 obtain ⟨n, HN⟩ : ∃ n, Hid (K.length = n) := ⟨_, rfl⟩
 have hn0 : 0 < n := by rw [← HN.out]; exact List.length_pos_iff.2 hK
 obtain ⟨m, hm⟩ : ∃ m, n = m + 1 := ⟨n - 1, by omega⟩
 obtain ⟨g, c, rfl, _, _⟩ := h.at_ 0 (by rw [HN.out]; exact hn0)
 have H := hid h
 have hcap : n ≤ c := by
  rcases h.cap with k | k
  · rw [← HN.out]; exact k
  · exact absurd k hK
 rw [HN.out] at hn ⊢
 have HG : Hid (goingM ⟨pk, pp, pa⟩ now K = goF ⟨pk, pp, pa⟩ now n 0 [] K.dropLast) := by show _ = _; unfold goingM; rw [HN.out]
 have HDL : Hid (K.dropLast.length = m) := by show _ = _; rw [List.length_dropLast, HN.out]; omega
 have hmm := @run_makeMap Tryz.prog
 obtain ⟨k0, k1⟩ := hk
 have wn : IntKind.i64.wrap ((n : Int) - 1) = (m : Int) := by rw [i64in _ (by omega) (by omega)]; omega
 have mn : (m : Int) ≤ (n : Int) := by omega
 have m0 : (0 : Int) ≤ (m : Int) := by omega
 have mc : (m : Int) ≤ (c : Int) := by omega
 have HM1 := hid hm
 have wk : IntKind.i64.wrap ((n : Int) - pp) = (n : Int) - pp := i64in _ (by omega) (by omega)
 obtain ⟨wp, hwp⟩ : ∃ V, w.alloc (.cells #[.int .i64 pk, .int .i64 pp, .int .i64 pa] 23) = V := ⟨_, rfl⟩
 have bp : Below w.heap.size w wp := hwp ▸ (Below.refl _ _).alloc (Nat.le_refl _) _
 have xp0 : Has wp w.heap.size 23 #[.int .i64 pk, .int .i64 pp, .int .i64 pa] := hwp ▸ Has.fresh _ _ _
 have sp : wp.heap.size = w.heap.size + 1 := by rw [← hwp]; simp
 obtain ⟨wm, hwm⟩ : ∃ V, wp.alloc (.map #[] 0) = V := ⟨_, rfl⟩
 have BM : Hid (Below w.heap.size w wm) := hwm ▸ bp.alloc bp.size _
 have XM : Hid (Has wm w.heap.size 23 #[.int .i64 pk, .int .i64 pp, .int .i64 pa]) := by rw [← hwm]; exact xp0.more _
 have TM : Hid (TkM wm (w.heap.size + 1) 0 []) := by have := TkM.start wp; rw [hwm, sp] at this; exact this
 clear h hK bp xp0 hm hcap
 go_enter Tryz.func29, Tryz.ntmps29
 go_wp2
 go_loopw [7, 20] (fun v7 v20 wr => ∃ (i nm c' : Nat) (A' : Option Addr) (names : List By) (tk : List (Int × Int)), v20 = .int .i64 (i : Int) ∧ i ≤ m ∧ v7 = .slice A' nm c' ∧ nm ≤ i ∧ Hid (names.length = nm) ∧ Hid (wr.ownsRow w.heap.size 9 1 (.slice A' nm c') names.length (names.map kS)) ∧
  Hid (TkM wr (w.heap.size + 1) i tk) ∧ Hid (Has wr w.heap.size 23 #[.int .i64 pk, .int .i64 pp, .int .i64 pa]) ∧ Hid (names ++ goF ⟨pk, pp, pa⟩ now n i tk (K.dropLast.drop i) = goingM ⟨pk, pp, pa⟩ now K) ∧ Hid (Below w.heap.size w wr))
  (fun _ v20 _ => m - (intOf v20).toNat)
 case atStart => exact ⟨0, 0, 0, none, [], [], rfl, Nat.zero_le _, rfl, Nat.le_refl _, rfl, World.ownsRow_nil _ _ _ _, TM, XM, by show _ = _; rw [HG.out]; rfl, BM⟩
 case round =>
  obtain ⟨i, nm, c', A', names, tk, rfl, hi, rfl, hnm, HNM, HW, HT, HX, HEQ, HB⟩ := hrel
  by_cases hlt : i < m
  · have hlt2 : (i : Int) < (m : Int) := by omega
    have i0 : (0 : Int) ≤ (i : Int) := by omega
    have hin : i < n := by have := HM1.out; omega
    have hil : i < K.length := by rw [HN.out]; exact hin
    have hid2 : i < K.dropLast.length := by rw [HDL.out]; exact hlt
    have E1 := H.out.on HB.out
    obtain ⟨g2, c2, hv2, _, hx⟩ := E1.at_ i hil
    injection hv2 with hv2 e2 e3
    injection hv2 with hv2
    injection hv2 with hv2
    subst hv2
    clear e2 e3
    have HDR : Hid (K.dropLast.drop i = K.getD i en0 :: K.dropLast.drop (i + 1)) := by
     show _ = _
     rw [en_drop hid2, en_getD hid2, en_getD hil, List.getElem_dropLast]
    generalize K.getD i en0 = x at hx HDR
    obtain ⟨xn, xp, xt, xs⟩ := x
    obtain ⟨a, HAG⟩ : ∃ a, Hid (ageM now ⟨xn, xp, xt, xs⟩ = a) := ⟨_, rfl⟩
    have hai := age_in now ⟨xn, xp, xt, xs⟩
    rw [HAG.out] at hai
    obtain ⟨a0, a1⟩ := hai
    obtain ⟨⟨b1, b2⟩, HBK⟩ : ∃ q, Hid (bucketM a = q) := ⟨_, rfl⟩
    have hbi := bucket_in a a0 a1
    rw [HBK.out] at hbi
    simp only at hbi
    obtain ⟨hb1i, hb2i⟩ := hbi
    have HGO : Hid (goB ⟨pk, pp, pa⟩ now n i tk ⟨xn, xp, xt, xs⟩ = ((decide (pa ≠ 0) && decide (pa < a)) || (decide (pk = 2) && decide ((i : Int) < (n : Int) - pp)) || (decide (pk = 3) && decide ((b1, b2) ∈ tk)))) := by
     show _ = _; unfold goB; simp only; rw [HAG.out, HBK.out]
    have C1 : Hid (∀ W, Calls Tryz.prog 61 #[.agg #[kS xn, kS xp, .int .i64 xt, .int .i64 xs], .int .i64 now] W fun e w' => e = .returned (.int .i64 a) ∧ Below W.heap.size W w') := fun W => by
     have := ageOf_any ⟨xn, xp, xt, xs⟩ now W
     rw [HAG.out] at this; exact this
    have C2 : Hid (∀ W, Calls Tryz.prog 62 #[.int .i64 a] W fun e w' => e = .returned (.agg #[.int .i64 b1, .int .i64 b2]) ∧ Below W.heap.size W w') := fun W => by
     have := bucketOf_any a W a0 a1
     rw [HBK.out] at this; exact this
    have w1' : IntKind.i64.wrap ((i : Int) + 1) = (i : Int) + 1 := i64in _ (by omega) (by omega)
    have XX := hid hx
    obtain ⟨w3, hw3⟩ : ∃ V, wr.alloc (.cells #[kS xn, kS xp, .int .i64 xt, .int .i64 xs] 28) = V := ⟨_, rfl⟩
    have b3 : Below wr.heap.size wr w3 := hw3 ▸ (Below.refl _ _).alloc (Nat.le_refl _) _
    have E3 : Hid (Has w3 wr.heap.size 28 (enA ⟨xn, xp, xt, xs⟩)) := by rw [← hw3]; exact Has.fresh _ _ _
    have B3 := hid b3
    clear E1 hx b3 hil hid2
    go_wp2_with (first
     | (refine wpList_load_en rfl (.tmp 23) rfl g (i * 4) rfl xn xp xt xs XX.out ?_)
     | (refine wpList_load_en rfl (.tmp 10) rfl wr.heap.size 0 rfl xn xp xt xs E3.out.en ?_))
    refine (C1.out _).mono ?_; rintro e4 w4 ⟨rfl, hb4⟩
    have B4 : Hid (Below wr.heap.size wr w4) := B3.out.trans (hb4.mono B3.out.size)
    have E4 : Hid (Has w4 wr.heap.size 28 (enA ⟨xn, xp, xt, xs⟩)) := E3.out.kept hb4 E3.out.inside
    clear hb4
    go_wp2_with fail
    refine (C2.out _).mono ?_; rintro e5 w5 ⟨rfl, hb5⟩
    have B5 : Hid (Below wr.heap.size wr w5) := B4.out.trans (hb5.mono B4.out.size)
    have E5 : Hid (Has w5 wr.heap.size 28 (enA ⟨xn, xp, xt, xs⟩)) := E4.out.kept hb5 E4.out.inside
    clear hb5
    obtain ⟨w6, hw6⟩ : ∃ V, w5.alloc (.cells #[.int .i64 b1, .int .i64 b2] 111) = V := ⟨_, rfl⟩
    have b56 : Below w5.heap.size w5 w6 := hw6 ▸ (Below.refl _ _).alloc (Nat.le_refl _) _
    have K6 : Hid (Has w6 w5.heap.size 111 #[.int .i64 b1, .int .i64 b2]) := by rw [← hw6]; exact Has.fresh _ _ _
    have B6 : Hid (Below wr.heap.size wr w6) := B5.out.trans (b56.mono B5.out.size)
    have E6 : Hid (Has w6 wr.heap.size 28 (enA ⟨xn, xp, xt, xs⟩)) := E5.out.kept b56 E5.out.inside
    have X6 : Hid (Has w6 w.heap.size 23 #[.int .i64 pk, .int .i64 pp, .int .i64 pa]) := HX.out.kept B6.out HX.out.inside
    have T6 : Hid (TkM w6 (w.heap.size + 1) i tk) := HT.out.kept (B6.out.block _ HT.out.inside)
    have W6 : Hid (w6.ownsRow w.heap.size 9 1 (.slice A' nm c') names.length (names.map kS)) := row_of HW.out fun g hg => B6.out.block g (World.ownsRow.lt HW.out g hg).2
    have P6 : Hid (Below w.heap.size w w6) := HB.out.trans (B6.out.mono HB.out.size)
    obtain ⟨mm, hLK, hmi, hmt⟩ := T6.out.look (b1, b2) hb1i hb2i
    have HMM := hid hmt
    have LK : (Instr.lookup 109 (.map (some (w.heap.size + 1))) (.agg #[.int .i64 b1, .int .i64 b2]) false).run Tryz.prog w6 = .ok (.int .i64 (mm : Int)) w6 := hLK
    have wmm : IntKind.i64.wrap ((mm : Int) + 1) = (mm : Int) + 1 := i64in _ (by omega) (by omega)
    have pc0 : w6.cell? ⟨w.heap.size, 0, none⟩ = some (.int .i64 pk) := X6.out.at_ 0
    have pc1 : w6.cell? ⟨w.heap.size, 1, none⟩ = some (.int .i64 pp) := X6.out.at_ 1
    have pc2 : w6.cell? ⟨w.heap.size, 2, none⟩ = some (.int .i64 pa) := X6.out.at_ 2
    have ec0 : w6.cell? ⟨wr.heap.size, 0, none⟩ = some (kS xn) := E6.out.at_ 0
    -- where one goes
    obtain ⟨w7, hw7⟩ : ∃ V, w6.alloc (.cells #[kS xn] 9) = V := ⟨_, rfl⟩
    have b67 : Below w6.heap.size w6 w7 := hw7 ▸ (Below.refl _ _).alloc (Nat.le_refl _) _
    have hw7r : w7.ownsRow w.heap.size 9 1 (.slice A' nm c') names.length (names.map kS) := row_of W6.out fun g hg => b67.block g (World.ownsRow.lt W6.out g hg).2
    have hp7 := P6.out.trans (b67.mono P6.out.size)
    obtain ⟨v8, w8, r8, o8, g8, l8⟩ := append_kS w7 w.heap.size (.slice A' nm c') names hw7r xn w6.heap.size (by rw [← hw7]; exact Has.fresh _ _ _) (by rw [HNM.out]; omega) hp7.size 31
    obtain ⟨A8, c8, hv8⟩ := row_form o8
    have hlen8 : (names ++ [xn]).length = nm + 1 := by rw [List.length_append, HNM.out]; rfl
    rw [hlen8] at hv8
    subst hv8
    have R8 := hid r8
    have W8 := hid o8
    have X8 : Hid (Has w8 w.heap.size 23 #[.int .i64 pk, .int .i64 pp, .int .i64 pa]) := by
     have x7 := X6.out.kept b67 X6.out.inside
     exact (g8.block _ x7.inside (fun e => row_ne hw7r x7 (by decide) e.symm)).trans x7
    have T8 : Hid (TkM w8 (w.heap.size + 1) (i + 1) tk) := by
     have t7 := T6.out.kept (b67.block _ T6.out.inside)
     exact (t7.kept (g8.block _ t7.inside (fun e => row_nm hw7r t7.obj e.symm))).more
    have B8 : Hid (Below w.heap.size w w8) := hp7.grown g8 hp7.size (fun j hj => (World.ownsRow.lt hw7r j hj).1)
    -- where it stays
    obtain ⟨w6d, hw6d⟩ : ∃ V, w6.drew = V := ⟨_, rfl⟩
    have T6d : TkM w6d (w.heap.size + 1) i tk := hw6d ▸ T6.out.kept rfl
    have K6d : Hid (Has w6d w5.heap.size 111 #[.int .i64 b1, .int .i64 b2]) := hw6d ▸ K6.out
    obtain ⟨mm2, hLK2, _, _⟩ := T6d.look (b1, b2) hb1i hb2i
    have emm : (Instr.lookup 109 (.map (some (w.heap.size + 1))) (bkV (b1, b2)) false).run Tryz.prog w6d = .ok (.int .i64 (mm : Int)) w6d := by
     obtain ⟨c3, f3, cnt3, q1, q2, q3, q4, q5⟩ := T6.out.ex
     obtain ⟨kl, hkl⟩ := bkV_key (b1, b2) hb1i hb2i
     have e1 := q1.look bucket_keyed Tryz.underlying109 (int_zero w6) hkl
     have e2 := (q1.kept (w' := w6d) (by rw [← hw6d]; rfl)).look bucket_keyed Tryz.underlying109 (int_zero w6d) hkl
     have e3 := (Result.ok.inj (hLK.symm.trans e1)).1
     rw [e2, ← e3]
    have LKd : Hid ((Instr.lookup 109 (.map (some (w.heap.size + 1))) (.agg #[.int .i64 b1, .int .i64 b2]) false).run Tryz.prog w6d = .ok (.int .i64 (mm : Int)) w6d) := emm
    obtain ⟨v0, st, w7b, r1, ⟨g7, obj7⟩, w9, r3, t9, g9⟩ := T6d.put (by omega) (b1, b2) hb1i hb2i emm
    have LK7 : Hid ((Instr.lookup 109 (.map (some (w.heap.size + 1))) (.agg #[.int .i64 b1, .int .i64 b2]) false).run Tryz.prog w7b = .ok (.int .i64 (mm : Int)) w7b) := T6d.entryLook (by omega) (b1, b2) hb1i hb2i r1 emm
    have R1 := hid r1
    have R3 := hid r3
    have T9 := hid t9
    have nb6 : w5.heap.size ≠ w.heap.size + 1 := fun e => by
     obtain ⟨es, ck, ho⟩ := T6d.obj
     have := K6d.out
     unfold Has at this
     rw [e, ho] at this; cases this
    have nx6 : w.heap.size ≠ w.heap.size + 1 := by omega
    have K7 : Hid (Has w7b w5.heap.size 111 #[.int .i64 b1, .int .i64 b2]) := (g7.block _ K6d.out.inside (fun e => nb6 (by injection e))).trans K6d.out
    have K9 : Hid (Has w9 w5.heap.size 111 #[.int .i64 b1, .int .i64 b2]) := (g9.block _ K7.out.inside (fun e => nb6 (by injection e))).trans K7.out
    have x6d : Has w6d w.heap.size 23 #[.int .i64 pk, .int .i64 pp, .int .i64 pa] := hw6d ▸ X6.out
    have x7b : Has w7b w.heap.size 23 #[.int .i64 pk, .int .i64 pp, .int .i64 pa] := (g7.block _ x6d.inside (fun e => nx6 (by injection e))).trans x6d
    have X9 : Hid (Has w9 w.heap.size 23 #[.int .i64 pk, .int .i64 pp, .int .i64 pa]) := (g9.block _ x7b.inside (fun e => nx6 (by injection e))).trans x7b
    have w6dr : w6d.ownsRow w.heap.size 9 1 (.slice A' nm c') names.length (names.map kS) := row_of W6.out fun g hg => by rw [← hw6d]; rfl
    have w7br := row_of w6dr (w' := w7b) fun g hg => g7.block g (World.ownsRow.lt w6dr g hg).2 (fun e => row_nm w6dr T6d.obj (by rw [hg, e]))
    have W9 : Hid (w9.ownsRow w.heap.size 9 1 (.slice A' nm c') names.length (names.map kS)) := row_of w7br fun g hg => g9.block g (World.ownsRow.lt w7br g hg).2 (fun e => row_nm w7br obj7 (by rw [hg, e]))
    have B9 : Hid (Below w.heap.size w w9) := by
     have p6d : Below w.heap.size w w6d := hw6d ▸ P6.out.drew
     have p7 := p6d.grown g7 p6d.size (fun j hj => by injection hj with hj; omega)
     exact p7.grown g9 p7.size (fun j hj => by injection hj with hj; omega)
    clear b56 b67 hw7r hp7 r8 o8 g8 l8 hlen8 T6d hLK2 emm r1 g7 r3 t9 g9 nb6 nx6 x6d x7b w6dr w7br obj7 hLK hmt hb1i hb2i hmi hw3
    by_cases ca : pa ≠ 0 ∧ pa < a
    · obtain ⟨ca1, ca2⟩ := ca
      have ca1 : ¬ pa = 0 := ca1
      have HGB := hid (HGO.out.trans (show _ = true by simp [ca1, ca2]))
      go_wp2_with (first | (refine wpList_load_bk (by rfl) (.tmp 12) rfl w5.heap.size rfl b1 b2 K6.out ?_) | (at_builtin; refine wpList_append_run rfl (.tmp 67) (.tmp 70) 31 31 rfl ⟨_, _, R8.out, ?_⟩))
      go_roundw
      case rel => exact ⟨i + 1, nm + 1, c8, A8, names ++ [xn], tk, by go_num, by omega, rfl, by omega, by show _ = _; rw [List.length_append, HNM.out]; rfl, W8, T8, X8, by show _ = _; rw [← HEQ.out, HDR.out, goF_step, if_pos HGB.out]; simp, B8⟩
      case measure => simp [intOf]; omega
    have HCA : Hid ((decide (pa ≠ 0) && decide (pa < a)) = false) := by show _ = _; simp only [Bool.and_eq_false_iff, decide_eq_false_iff_not]; omega
    have ca2 : pa = 0 ∨ ¬ pa = 0 ∧ ¬ pa < a := by omega
    clear ca
    rcases ca2 with rfl | ⟨ca2, ca3⟩
    ·
     by_cases cb : pk = 2
     · subst cb
       by_cases cc : (i : Int) < (n : Int) - pp
       ·
        have HGB := hid (HGO.out.trans (show _ = true by rw [HCA.out]; simp [cc]))
        go_wp2_with (first | (refine wpList_load_bk (by rfl) (.tmp 12) rfl w5.heap.size rfl b1 b2 K6.out ?_) | (at_builtin; refine wpList_append_run rfl (.tmp 67) (.tmp 70) 31 31 rfl ⟨_, _, R8.out, ?_⟩))
        go_roundw
        case rel => exact ⟨i + 1, nm + 1, c8, A8, names ++ [xn], tk, by go_num, by omega, rfl, by omega, by show _ = _; rw [List.length_append, HNM.out]; rfl, W8, T8, X8, by show _ = _; rw [← HEQ.out, HDR.out, goF_step, if_pos HGB.out]; simp, B8⟩
        case measure => simp [intOf]; omega
       ·
        have HGB := hid (HGO.out.trans (show _ = false by rw [HCA.out]; simp [cc]))
        go_wp2_with (first | (refine wpList_load_bk (by rfl) (.tmp 12) rfl w5.heap.size rfl b1 b2 K6.out ?_))
        refine wp_region_noPanic ?_
        refine wp_region_held_drew (S := fun W => Has W w5.heap.size 111 #[.int .i64 b1, .int .i64 b2]) (by kernel_rfl) (K6.out) (fun hS => ?_)
        rw [hw6d] at hS ⊢
        refine tkH 0 (v := ?_) (by simp only [lkA, lkB]; rfl) (by kernel_rfl) (fun _ _ _ h => h) (by rfl) (by assumption) ?_ ?_
        rotate_left 1
        · intro w hSw
          go_simp
          with_reducible rfl
        simp only [Act.put, siA, siB, siC]
        refine' wpAnyH_take (i := 1) (v := _) (by simp only [lkA, lkB, lkC]; rfl) (by kernel_rfl) (by kernel_rfl) (by kernel_rfl) (fun _ _ _ h => h) (yields_loadG (by rfl) 111 (.tmp 12) rfl w5.heap.size 0 rfl _ (fun W hW => load_bk hW rfl)) (by assumption) ?_
        simp only [Act.put, siA, siB, siC]
        refine wpAnyH_ready (rs := [2, 4]) (by kernel_rfl) (by simp) ?_
        refine AllReadyH.cons (by simp only [lkA, lkB, lkC]; rfl) (fun K hK => ?_) (AllReadyH.cons (by simp only [lkA, lkB, lkC]; rfl) (fun K hK => ?_) (AllReadyH.nil))
        · have h1 := LKd.out
          have h2 := K6d.out
          go_simp
          refine hK.out _ _ h2 (fun hS => ?_)
          clear hK K hS h1 h2
          refine tkH 3 (v := ?_) (by simp only [lkA, lkB, lkC]; rfl) (by kernel_rfl) (fun _ _ _ h => h) (by rfl) (by assumption) ?_ ?_
          rotate_left 1
          · intro w hSw
            go_simp
            with_reducible rfl
          simp only [Act.put, siA, siB, siC]
          refine wpAnyH_ready (rs := [4]) (by kernel_rfl) (by simp) ?_
          refine AllReadyH.cons (by simp only [lkA, lkB, lkC]; rfl) (fun K hK => ?_) (AllReadyH.nil)
          refine step_entry (by rfl) (.tmp 30) (.tmp 31) rfl (.map (some (w.heap.size + 1))) (bkV (b1, b2)) _ rfl rfl R1.out ?_
          simp only [Act.put, siA, siB, siC]
          have h2 := K7.out
          refine hK.out _ _ h2 (fun hS => ?_)
          clear hK K hS h2
          refine tkH 5 (v := ?_) (by simp only [lkA, lkB, lkC]; rfl) (by kernel_rfl) (fun _ _ _ h => h) (by rfl) (by assumption) ?_ ?_
          rotate_left 1
          · intro w hSw
            go_simp
            with_reducible rfl
          simp only [Act.put, siA, siB, siC]
          refine wpAnyH_ready (rs := [6]) (by kernel_rfl) (by simp) ?_
          refine AllReadyH.cons (by simp only [lkA, lkB, lkC]; rfl) (fun K hK => ?_) (AllReadyH.nil)
          refine step_entryStore (by rfl) (.tmp 30) (.tmp 35) (.tmp 33) rfl (.map (some (w.heap.size + 1))) (goInt st) (.int .i64 ((mm : Int) + 1)) rfl rfl rfl R3.out ?_
          simp only [Act.put, siA, siB, siC]
          have h2 := K9.out
          refine hK.out _ _ h2 (fun hS => ?_)
          clear hK K hS h2
          refine wpAnyH_done (by kernel_rfl) ?_ _
          refine NoPanic.normal ?_
          go_wp2
          go_roundw
          case rel => exact ⟨i + 1, nm, c', A', names, (b1, b2) :: tk, by go_num, by omega, rfl, by omega, HNM, W9, T9, X9, by show _ = _; rw [← HEQ.out, HDR.out, goF_step, if_neg (by rw [HGB.out]; decide), HAG.out, HBK.out], B9⟩
          case measure => simp [intOf]; omega
        · refine step_entry (by rfl) (.tmp 30) (.tmp 31) rfl (.map (some (w.heap.size + 1))) (bkV (b1, b2)) _ rfl rfl R1.out ?_
          simp only [Act.put, siA, siB, siC]
          have h2 := K7.out
          refine hK.out _ _ h2 (fun hS => ?_)
          clear hK K hS h2
          refine tkH 5 (v := ?_) (by simp only [lkA, lkB, lkC]; rfl) (by kernel_rfl) (fun _ _ _ h => h) (by rfl) (by assumption) ?_ ?_
          rotate_left 1
          · intro w hSw
            go_simp
            with_reducible rfl
          simp only [Act.put, siA, siB, siC]
          refine wpAnyH_ready (rs := [2]) (by kernel_rfl) (by simp) ?_
          refine AllReadyH.cons (by simp only [lkA, lkB, lkC]; rfl) (fun K hK => ?_) (AllReadyH.nil)
          have h1 := LK7.out
          have h2 := K7.out
          go_simp
          refine hK.out _ _ h2 (fun hS => ?_)
          clear hK K hS h1 h2
          refine tkH 3 (v := ?_) (by simp only [lkA, lkB, lkC]; rfl) (by kernel_rfl) (fun _ _ _ h => h) (by rfl) (by assumption) ?_ ?_
          rotate_left 1
          · intro w hSw
            go_simp
            with_reducible rfl
          simp only [Act.put, siA, siB, siC]
          refine wpAnyH_ready (rs := [6]) (by kernel_rfl) (by simp) ?_
          refine AllReadyH.cons (by simp only [lkA, lkB, lkC]; rfl) (fun K hK => ?_) (AllReadyH.nil)
          refine step_entryStore (by rfl) (.tmp 30) (.tmp 35) (.tmp 33) rfl (.map (some (w.heap.size + 1))) (goInt st) (.int .i64 ((mm : Int) + 1)) rfl rfl rfl R3.out ?_
          simp only [Act.put, siA, siB, siC]
          have h2 := K9.out
          refine hK.out _ _ h2 (fun hS => ?_)
          clear hK K hS h2
          refine wpAnyH_done (by kernel_rfl) ?_ _
          refine NoPanic.normal ?_
          go_wp2
          go_roundw
          case rel => exact ⟨i + 1, nm, c', A', names, (b1, b2) :: tk, by go_num, by omega, rfl, by omega, HNM, W9, T9, X9, by show _ = _; rw [← HEQ.out, HDR.out, goF_step, if_neg (by rw [HGB.out]; decide), HAG.out, HBK.out], B9⟩
          case measure => simp [intOf]; omega
     · by_cases cd : pk = 3
       · subst cd
         by_cases ce : mm = 0
         · have cf : ¬ 0 < (mm : Int) := by omega
           have HNI := hid (HMM.out.1 ce)
           clear ce
           have HGB := hid (HGO.out.trans (show _ = false by rw [HCA.out]; simp [HNI.out]))
           go_wp2_with (first | (refine wpList_load_bk (by rfl) (.tmp 12) rfl w5.heap.size rfl b1 b2 K6.out ?_))
           refine wp_region_noPanic ?_
           refine wp_region_held_drew (S := fun W => Has W w5.heap.size 111 #[.int .i64 b1, .int .i64 b2]) (by kernel_rfl) (K6.out) (fun hS => ?_)
           rw [hw6d] at hS ⊢
           refine tkH 0 (v := ?_) (by simp only [lkA, lkB]; rfl) (by kernel_rfl) (fun _ _ _ h => h) (by rfl) (by assumption) ?_ ?_
           rotate_left 1
           · intro w hSw
             go_simp
             with_reducible rfl
           simp only [Act.put, siA, siB, siC]
           refine' wpAnyH_take (i := 1) (v := _) (by simp only [lkA, lkB, lkC]; rfl) (by kernel_rfl) (by kernel_rfl) (by kernel_rfl) (fun _ _ _ h => h) (yields_loadG (by rfl) 111 (.tmp 12) rfl w5.heap.size 0 rfl _ (fun W hW => load_bk hW rfl)) (by assumption) ?_
           simp only [Act.put, siA, siB, siC]
           refine wpAnyH_ready (rs := [2, 4]) (by kernel_rfl) (by simp) ?_
           refine AllReadyH.cons (by simp only [lkA, lkB, lkC]; rfl) (fun K hK => ?_) (AllReadyH.cons (by simp only [lkA, lkB, lkC]; rfl) (fun K hK => ?_) (AllReadyH.nil))
           · have h1 := LKd.out
             have h2 := K6d.out
             go_simp
             refine hK.out _ _ h2 (fun hS => ?_)
             clear hK K hS h1 h2
             refine tkH 3 (v := ?_) (by simp only [lkA, lkB, lkC]; rfl) (by kernel_rfl) (fun _ _ _ h => h) (by rfl) (by assumption) ?_ ?_
             rotate_left 1
             · intro w hSw
               go_simp
               with_reducible rfl
             simp only [Act.put, siA, siB, siC]
             refine wpAnyH_ready (rs := [4]) (by kernel_rfl) (by simp) ?_
             refine AllReadyH.cons (by simp only [lkA, lkB, lkC]; rfl) (fun K hK => ?_) (AllReadyH.nil)
             refine step_entry (by rfl) (.tmp 30) (.tmp 31) rfl (.map (some (w.heap.size + 1))) (bkV (b1, b2)) _ rfl rfl R1.out ?_
             simp only [Act.put, siA, siB, siC]
             have h2 := K7.out
             refine hK.out _ _ h2 (fun hS => ?_)
             clear hK K hS h2
             refine tkH 5 (v := ?_) (by simp only [lkA, lkB, lkC]; rfl) (by kernel_rfl) (fun _ _ _ h => h) (by rfl) (by assumption) ?_ ?_
             rotate_left 1
             · intro w hSw
               go_simp
               with_reducible rfl
             simp only [Act.put, siA, siB, siC]
             refine wpAnyH_ready (rs := [6]) (by kernel_rfl) (by simp) ?_
             refine AllReadyH.cons (by simp only [lkA, lkB, lkC]; rfl) (fun K hK => ?_) (AllReadyH.nil)
             refine step_entryStore (by rfl) (.tmp 30) (.tmp 35) (.tmp 33) rfl (.map (some (w.heap.size + 1))) (goInt st) (.int .i64 ((mm : Int) + 1)) rfl rfl rfl R3.out ?_
             simp only [Act.put, siA, siB, siC]
             have h2 := K9.out
             refine hK.out _ _ h2 (fun hS => ?_)
             clear hK K hS h2
             refine wpAnyH_done (by kernel_rfl) ?_ _
             refine NoPanic.normal ?_
             go_wp2
             go_roundw
             case rel => exact ⟨i + 1, nm, c', A', names, (b1, b2) :: tk, by go_num, by omega, rfl, by omega, HNM, W9, T9, X9, by show _ = _; rw [← HEQ.out, HDR.out, goF_step, if_neg (by rw [HGB.out]; decide), HAG.out, HBK.out], B9⟩
             case measure => simp [intOf]; omega
           · refine step_entry (by rfl) (.tmp 30) (.tmp 31) rfl (.map (some (w.heap.size + 1))) (bkV (b1, b2)) _ rfl rfl R1.out ?_
             simp only [Act.put, siA, siB, siC]
             have h2 := K7.out
             refine hK.out _ _ h2 (fun hS => ?_)
             clear hK K hS h2
             refine tkH 5 (v := ?_) (by simp only [lkA, lkB, lkC]; rfl) (by kernel_rfl) (fun _ _ _ h => h) (by rfl) (by assumption) ?_ ?_
             rotate_left 1
             · intro w hSw
               go_simp
               with_reducible rfl
             simp only [Act.put, siA, siB, siC]
             refine wpAnyH_ready (rs := [2]) (by kernel_rfl) (by simp) ?_
             refine AllReadyH.cons (by simp only [lkA, lkB, lkC]; rfl) (fun K hK => ?_) (AllReadyH.nil)
             have h1 := LK7.out
             have h2 := K7.out
             go_simp
             refine hK.out _ _ h2 (fun hS => ?_)
             clear hK K hS h1 h2
             refine tkH 3 (v := ?_) (by simp only [lkA, lkB, lkC]; rfl) (by kernel_rfl) (fun _ _ _ h => h) (by rfl) (by assumption) ?_ ?_
             rotate_left 1
             · intro w hSw
               go_simp
               with_reducible rfl
             simp only [Act.put, siA, siB, siC]
             refine wpAnyH_ready (rs := [6]) (by kernel_rfl) (by simp) ?_
             refine AllReadyH.cons (by simp only [lkA, lkB, lkC]; rfl) (fun K hK => ?_) (AllReadyH.nil)
             refine step_entryStore (by rfl) (.tmp 30) (.tmp 35) (.tmp 33) rfl (.map (some (w.heap.size + 1))) (goInt st) (.int .i64 ((mm : Int) + 1)) rfl rfl rfl R3.out ?_
             simp only [Act.put, siA, siB, siC]
             have h2 := K9.out
             refine hK.out _ _ h2 (fun hS => ?_)
             clear hK K hS h2
             refine wpAnyH_done (by kernel_rfl) ?_ _
             refine NoPanic.normal ?_
             go_wp2
             go_roundw
             case rel => exact ⟨i + 1, nm, c', A', names, (b1, b2) :: tk, by go_num, by omega, rfl, by omega, HNM, W9, T9, X9, by show _ = _; rw [← HEQ.out, HDR.out, goF_step, if_neg (by rw [HGB.out]; decide), HAG.out, HBK.out], B9⟩
             case measure => simp [intOf]; omega
         · have cf : 0 < (mm : Int) := by omega
           have HNI : Hid ((b1, b2) ∈ tk) := Classical.byContradiction fun k => ce (HMM.out.2 k)
           have HGB := hid (HGO.out.trans (show _ = true by rw [HCA.out]; simp [HNI.out]))
           go_wp2_with (first | (refine wpList_load_bk (by rfl) (.tmp 12) rfl w5.heap.size rfl b1 b2 K6.out ?_) | (at_builtin; refine wpList_append_run rfl (.tmp 67) (.tmp 70) 31 31 rfl ⟨_, _, R8.out, ?_⟩))
           go_roundw
           case rel => exact ⟨i + 1, nm + 1, c8, A8, names ++ [xn], tk, by go_num, by omega, rfl, by omega, by show _ = _; rw [List.length_append, HNM.out]; rfl, W8, T8, X8, by show _ = _; rw [← HEQ.out, HDR.out, goF_step, if_pos HGB.out]; simp, B8⟩
           case measure => simp [intOf]; omega
       ·
        have HGB := hid (HGO.out.trans (show _ = false by rw [HCA.out]; simp [cb, cd]))
        go_wp2_with (first | (refine wpList_load_bk (by rfl) (.tmp 12) rfl w5.heap.size rfl b1 b2 K6.out ?_))
        refine wp_region_noPanic ?_
        refine wp_region_held_drew (S := fun W => Has W w5.heap.size 111 #[.int .i64 b1, .int .i64 b2]) (by kernel_rfl) (K6.out) (fun hS => ?_)
        rw [hw6d] at hS ⊢
        refine tkH 0 (v := ?_) (by simp only [lkA, lkB]; rfl) (by kernel_rfl) (fun _ _ _ h => h) (by rfl) (by assumption) ?_ ?_
        rotate_left 1
        · intro w hSw
          go_simp
          with_reducible rfl
        simp only [Act.put, siA, siB, siC]
        refine' wpAnyH_take (i := 1) (v := _) (by simp only [lkA, lkB, lkC]; rfl) (by kernel_rfl) (by kernel_rfl) (by kernel_rfl) (fun _ _ _ h => h) (yields_loadG (by rfl) 111 (.tmp 12) rfl w5.heap.size 0 rfl _ (fun W hW => load_bk hW rfl)) (by assumption) ?_
        simp only [Act.put, siA, siB, siC]
        refine wpAnyH_ready (rs := [2, 4]) (by kernel_rfl) (by simp) ?_
        refine AllReadyH.cons (by simp only [lkA, lkB, lkC]; rfl) (fun K hK => ?_) (AllReadyH.cons (by simp only [lkA, lkB, lkC]; rfl) (fun K hK => ?_) (AllReadyH.nil))
        · have h1 := LKd.out
          have h2 := K6d.out
          go_simp
          refine hK.out _ _ h2 (fun hS => ?_)
          clear hK K hS h1 h2
          refine tkH 3 (v := ?_) (by simp only [lkA, lkB, lkC]; rfl) (by kernel_rfl) (fun _ _ _ h => h) (by rfl) (by assumption) ?_ ?_
          rotate_left 1
          · intro w hSw
            go_simp
            with_reducible rfl
          simp only [Act.put, siA, siB, siC]
          refine wpAnyH_ready (rs := [4]) (by kernel_rfl) (by simp) ?_
          refine AllReadyH.cons (by simp only [lkA, lkB, lkC]; rfl) (fun K hK => ?_) (AllReadyH.nil)
          refine step_entry (by rfl) (.tmp 30) (.tmp 31) rfl (.map (some (w.heap.size + 1))) (bkV (b1, b2)) _ rfl rfl R1.out ?_
          simp only [Act.put, siA, siB, siC]
          have h2 := K7.out
          refine hK.out _ _ h2 (fun hS => ?_)
          clear hK K hS h2
          refine tkH 5 (v := ?_) (by simp only [lkA, lkB, lkC]; rfl) (by kernel_rfl) (fun _ _ _ h => h) (by rfl) (by assumption) ?_ ?_
          rotate_left 1
          · intro w hSw
            go_simp
            with_reducible rfl
          simp only [Act.put, siA, siB, siC]
          refine wpAnyH_ready (rs := [6]) (by kernel_rfl) (by simp) ?_
          refine AllReadyH.cons (by simp only [lkA, lkB, lkC]; rfl) (fun K hK => ?_) (AllReadyH.nil)
          refine step_entryStore (by rfl) (.tmp 30) (.tmp 35) (.tmp 33) rfl (.map (some (w.heap.size + 1))) (goInt st) (.int .i64 ((mm : Int) + 1)) rfl rfl rfl R3.out ?_
          simp only [Act.put, siA, siB, siC]
          have h2 := K9.out
          refine hK.out _ _ h2 (fun hS => ?_)
          clear hK K hS h2
          refine wpAnyH_done (by kernel_rfl) ?_ _
          refine NoPanic.normal ?_
          go_wp2
          go_roundw
          case rel => exact ⟨i + 1, nm, c', A', names, (b1, b2) :: tk, by go_num, by omega, rfl, by omega, HNM, W9, T9, X9, by show _ = _; rw [← HEQ.out, HDR.out, goF_step, if_neg (by rw [HGB.out]; decide), HAG.out, HBK.out], B9⟩
          case measure => simp [intOf]; omega
        · refine step_entry (by rfl) (.tmp 30) (.tmp 31) rfl (.map (some (w.heap.size + 1))) (bkV (b1, b2)) _ rfl rfl R1.out ?_
          simp only [Act.put, siA, siB, siC]
          have h2 := K7.out
          refine hK.out _ _ h2 (fun hS => ?_)
          clear hK K hS h2
          refine tkH 5 (v := ?_) (by simp only [lkA, lkB, lkC]; rfl) (by kernel_rfl) (fun _ _ _ h => h) (by rfl) (by assumption) ?_ ?_
          rotate_left 1
          · intro w hSw
            go_simp
            with_reducible rfl
          simp only [Act.put, siA, siB, siC]
          refine wpAnyH_ready (rs := [2]) (by kernel_rfl) (by simp) ?_
          refine AllReadyH.cons (by simp only [lkA, lkB, lkC]; rfl) (fun K hK => ?_) (AllReadyH.nil)
          have h1 := LK7.out
          have h2 := K7.out
          go_simp
          refine hK.out _ _ h2 (fun hS => ?_)
          clear hK K hS h1 h2
          refine tkH 3 (v := ?_) (by simp only [lkA, lkB, lkC]; rfl) (by kernel_rfl) (fun _ _ _ h => h) (by rfl) (by assumption) ?_ ?_
          rotate_left 1
          · intro w hSw
            go_simp
            with_reducible rfl
          simp only [Act.put, siA, siB, siC]
          refine wpAnyH_ready (rs := [6]) (by kernel_rfl) (by simp) ?_
          refine AllReadyH.cons (by simp only [lkA, lkB, lkC]; rfl) (fun K hK => ?_) (AllReadyH.nil)
          refine step_entryStore (by rfl) (.tmp 30) (.tmp 35) (.tmp 33) rfl (.map (some (w.heap.size + 1))) (goInt st) (.int .i64 ((mm : Int) + 1)) rfl rfl rfl R3.out ?_
          simp only [Act.put, siA, siB, siC]
          have h2 := K9.out
          refine hK.out _ _ h2 (fun hS => ?_)
          clear hK K hS h2
          refine wpAnyH_done (by kernel_rfl) ?_ _
          refine NoPanic.normal ?_
          go_wp2
          go_roundw
          case rel => exact ⟨i + 1, nm, c', A', names, (b1, b2) :: tk, by go_num, by omega, rfl, by omega, HNM, W9, T9, X9, by show _ = _; rw [← HEQ.out, HDR.out, goF_step, if_neg (by rw [HGB.out]; decide), HAG.out, HBK.out], B9⟩
          case measure => simp [intOf]; omega
    ·
     by_cases cb : pk = 2
     · subst cb
       by_cases cc : (i : Int) < (n : Int) - pp
       ·
        have HGB := hid (HGO.out.trans (show _ = true by rw [HCA.out]; simp [cc]))
        go_wp2_with (first | (refine wpList_load_bk (by rfl) (.tmp 12) rfl w5.heap.size rfl b1 b2 K6.out ?_) | (at_builtin; refine wpList_append_run rfl (.tmp 67) (.tmp 70) 31 31 rfl ⟨_, _, R8.out, ?_⟩))
        go_roundw
        case rel => exact ⟨i + 1, nm + 1, c8, A8, names ++ [xn], tk, by go_num, by omega, rfl, by omega, by show _ = _; rw [List.length_append, HNM.out]; rfl, W8, T8, X8, by show _ = _; rw [← HEQ.out, HDR.out, goF_step, if_pos HGB.out]; simp, B8⟩
        case measure => simp [intOf]; omega
       ·
        have HGB := hid (HGO.out.trans (show _ = false by rw [HCA.out]; simp [cc]))
        go_wp2_with (first | (refine wpList_load_bk (by rfl) (.tmp 12) rfl w5.heap.size rfl b1 b2 K6.out ?_))
        refine wp_region_noPanic ?_
        refine wp_region_held_drew (S := fun W => Has W w5.heap.size 111 #[.int .i64 b1, .int .i64 b2]) (by kernel_rfl) (K6.out) (fun hS => ?_)
        rw [hw6d] at hS ⊢
        refine tkH 0 (v := ?_) (by simp only [lkA, lkB]; rfl) (by kernel_rfl) (fun _ _ _ h => h) (by rfl) (by assumption) ?_ ?_
        rotate_left 1
        · intro w hSw
          go_simp
          with_reducible rfl
        simp only [Act.put, siA, siB, siC]
        refine' wpAnyH_take (i := 1) (v := _) (by simp only [lkA, lkB, lkC]; rfl) (by kernel_rfl) (by kernel_rfl) (by kernel_rfl) (fun _ _ _ h => h) (yields_loadG (by rfl) 111 (.tmp 12) rfl w5.heap.size 0 rfl _ (fun W hW => load_bk hW rfl)) (by assumption) ?_
        simp only [Act.put, siA, siB, siC]
        refine wpAnyH_ready (rs := [2, 4]) (by kernel_rfl) (by simp) ?_
        refine AllReadyH.cons (by simp only [lkA, lkB, lkC]; rfl) (fun K hK => ?_) (AllReadyH.cons (by simp only [lkA, lkB, lkC]; rfl) (fun K hK => ?_) (AllReadyH.nil))
        · have h1 := LKd.out
          have h2 := K6d.out
          go_simp
          refine hK.out _ _ h2 (fun hS => ?_)
          clear hK K hS h1 h2
          refine tkH 3 (v := ?_) (by simp only [lkA, lkB, lkC]; rfl) (by kernel_rfl) (fun _ _ _ h => h) (by rfl) (by assumption) ?_ ?_
          rotate_left 1
          · intro w hSw
            go_simp
            with_reducible rfl
          simp only [Act.put, siA, siB, siC]
          refine wpAnyH_ready (rs := [4]) (by kernel_rfl) (by simp) ?_
          refine AllReadyH.cons (by simp only [lkA, lkB, lkC]; rfl) (fun K hK => ?_) (AllReadyH.nil)
          refine step_entry (by rfl) (.tmp 30) (.tmp 31) rfl (.map (some (w.heap.size + 1))) (bkV (b1, b2)) _ rfl rfl R1.out ?_
          simp only [Act.put, siA, siB, siC]
          have h2 := K7.out
          refine hK.out _ _ h2 (fun hS => ?_)
          clear hK K hS h2
          refine tkH 5 (v := ?_) (by simp only [lkA, lkB, lkC]; rfl) (by kernel_rfl) (fun _ _ _ h => h) (by rfl) (by assumption) ?_ ?_
          rotate_left 1
          · intro w hSw
            go_simp
            with_reducible rfl
          simp only [Act.put, siA, siB, siC]
          refine wpAnyH_ready (rs := [6]) (by kernel_rfl) (by simp) ?_
          refine AllReadyH.cons (by simp only [lkA, lkB, lkC]; rfl) (fun K hK => ?_) (AllReadyH.nil)
          refine step_entryStore (by rfl) (.tmp 30) (.tmp 35) (.tmp 33) rfl (.map (some (w.heap.size + 1))) (goInt st) (.int .i64 ((mm : Int) + 1)) rfl rfl rfl R3.out ?_
          simp only [Act.put, siA, siB, siC]
          have h2 := K9.out
          refine hK.out _ _ h2 (fun hS => ?_)
          clear hK K hS h2
          refine wpAnyH_done (by kernel_rfl) ?_ _
          refine NoPanic.normal ?_
          go_wp2
          go_roundw
          case rel => exact ⟨i + 1, nm, c', A', names, (b1, b2) :: tk, by go_num, by omega, rfl, by omega, HNM, W9, T9, X9, by show _ = _; rw [← HEQ.out, HDR.out, goF_step, if_neg (by rw [HGB.out]; decide), HAG.out, HBK.out], B9⟩
          case measure => simp [intOf]; omega
        · refine step_entry (by rfl) (.tmp 30) (.tmp 31) rfl (.map (some (w.heap.size + 1))) (bkV (b1, b2)) _ rfl rfl R1.out ?_
          simp only [Act.put, siA, siB, siC]
          have h2 := K7.out
          refine hK.out _ _ h2 (fun hS => ?_)
          clear hK K hS h2
          refine tkH 5 (v := ?_) (by simp only [lkA, lkB, lkC]; rfl) (by kernel_rfl) (fun _ _ _ h => h) (by rfl) (by assumption) ?_ ?_
          rotate_left 1
          · intro w hSw
            go_simp
            with_reducible rfl
          simp only [Act.put, siA, siB, siC]
          refine wpAnyH_ready (rs := [2]) (by kernel_rfl) (by simp) ?_
          refine AllReadyH.cons (by simp only [lkA, lkB, lkC]; rfl) (fun K hK => ?_) (AllReadyH.nil)
          have h1 := LK7.out
          have h2 := K7.out
          go_simp
          refine hK.out _ _ h2 (fun hS => ?_)
          clear hK K hS h1 h2
          refine tkH 3 (v := ?_) (by simp only [lkA, lkB, lkC]; rfl) (by kernel_rfl) (fun _ _ _ h => h) (by rfl) (by assumption) ?_ ?_
          rotate_left 1
          · intro w hSw
            go_simp
            with_reducible rfl
          simp only [Act.put, siA, siB, siC]
          refine wpAnyH_ready (rs := [6]) (by kernel_rfl) (by simp) ?_
          refine AllReadyH.cons (by simp only [lkA, lkB, lkC]; rfl) (fun K hK => ?_) (AllReadyH.nil)
          refine step_entryStore (by rfl) (.tmp 30) (.tmp 35) (.tmp 33) rfl (.map (some (w.heap.size + 1))) (goInt st) (.int .i64 ((mm : Int) + 1)) rfl rfl rfl R3.out ?_
          simp only [Act.put, siA, siB, siC]
          have h2 := K9.out
          refine hK.out _ _ h2 (fun hS => ?_)
          clear hK K hS h2
          refine wpAnyH_done (by kernel_rfl) ?_ _
          refine NoPanic.normal ?_
          go_wp2
          go_roundw
          case rel => exact ⟨i + 1, nm, c', A', names, (b1, b2) :: tk, by go_num, by omega, rfl, by omega, HNM, W9, T9, X9, by show _ = _; rw [← HEQ.out, HDR.out, goF_step, if_neg (by rw [HGB.out]; decide), HAG.out, HBK.out], B9⟩
          case measure => simp [intOf]; omega
     · by_cases cd : pk = 3
       · subst cd
         by_cases ce : mm = 0
         · have cf : ¬ 0 < (mm : Int) := by omega
           have HNI := hid (HMM.out.1 ce)
           clear ce
           have HGB := hid (HGO.out.trans (show _ = false by rw [HCA.out]; simp [HNI.out]))
           go_wp2_with (first | (refine wpList_load_bk (by rfl) (.tmp 12) rfl w5.heap.size rfl b1 b2 K6.out ?_))
           refine wp_region_noPanic ?_
           refine wp_region_held_drew (S := fun W => Has W w5.heap.size 111 #[.int .i64 b1, .int .i64 b2]) (by kernel_rfl) (K6.out) (fun hS => ?_)
           rw [hw6d] at hS ⊢
           refine tkH 0 (v := ?_) (by simp only [lkA, lkB]; rfl) (by kernel_rfl) (fun _ _ _ h => h) (by rfl) (by assumption) ?_ ?_
           rotate_left 1
           · intro w hSw
             go_simp
             with_reducible rfl
           simp only [Act.put, siA, siB, siC]
           refine' wpAnyH_take (i := 1) (v := _) (by simp only [lkA, lkB, lkC]; rfl) (by kernel_rfl) (by kernel_rfl) (by kernel_rfl) (fun _ _ _ h => h) (yields_loadG (by rfl) 111 (.tmp 12) rfl w5.heap.size 0 rfl _ (fun W hW => load_bk hW rfl)) (by assumption) ?_
           simp only [Act.put, siA, siB, siC]
           refine wpAnyH_ready (rs := [2, 4]) (by kernel_rfl) (by simp) ?_
           refine AllReadyH.cons (by simp only [lkA, lkB, lkC]; rfl) (fun K hK => ?_) (AllReadyH.cons (by simp only [lkA, lkB, lkC]; rfl) (fun K hK => ?_) (AllReadyH.nil))
           · have h1 := LKd.out
             have h2 := K6d.out
             go_simp
             refine hK.out _ _ h2 (fun hS => ?_)
             clear hK K hS h1 h2
             refine tkH 3 (v := ?_) (by simp only [lkA, lkB, lkC]; rfl) (by kernel_rfl) (fun _ _ _ h => h) (by rfl) (by assumption) ?_ ?_
             rotate_left 1
             · intro w hSw
               go_simp
               with_reducible rfl
             simp only [Act.put, siA, siB, siC]
             refine wpAnyH_ready (rs := [4]) (by kernel_rfl) (by simp) ?_
             refine AllReadyH.cons (by simp only [lkA, lkB, lkC]; rfl) (fun K hK => ?_) (AllReadyH.nil)
             refine step_entry (by rfl) (.tmp 30) (.tmp 31) rfl (.map (some (w.heap.size + 1))) (bkV (b1, b2)) _ rfl rfl R1.out ?_
             simp only [Act.put, siA, siB, siC]
             have h2 := K7.out
             refine hK.out _ _ h2 (fun hS => ?_)
             clear hK K hS h2
             refine tkH 5 (v := ?_) (by simp only [lkA, lkB, lkC]; rfl) (by kernel_rfl) (fun _ _ _ h => h) (by rfl) (by assumption) ?_ ?_
             rotate_left 1
             · intro w hSw
               go_simp
               with_reducible rfl
             simp only [Act.put, siA, siB, siC]
             refine wpAnyH_ready (rs := [6]) (by kernel_rfl) (by simp) ?_
             refine AllReadyH.cons (by simp only [lkA, lkB, lkC]; rfl) (fun K hK => ?_) (AllReadyH.nil)
             refine step_entryStore (by rfl) (.tmp 30) (.tmp 35) (.tmp 33) rfl (.map (some (w.heap.size + 1))) (goInt st) (.int .i64 ((mm : Int) + 1)) rfl rfl rfl R3.out ?_
             simp only [Act.put, siA, siB, siC]
             have h2 := K9.out
             refine hK.out _ _ h2 (fun hS => ?_)
             clear hK K hS h2
             refine wpAnyH_done (by kernel_rfl) ?_ _
             refine NoPanic.normal ?_
             go_wp2
             go_roundw
             case rel => exact ⟨i + 1, nm, c', A', names, (b1, b2) :: tk, by go_num, by omega, rfl, by omega, HNM, W9, T9, X9, by show _ = _; rw [← HEQ.out, HDR.out, goF_step, if_neg (by rw [HGB.out]; decide), HAG.out, HBK.out], B9⟩
             case measure => simp [intOf]; omega
           · refine step_entry (by rfl) (.tmp 30) (.tmp 31) rfl (.map (some (w.heap.size + 1))) (bkV (b1, b2)) _ rfl rfl R1.out ?_
             simp only [Act.put, siA, siB, siC]
             have h2 := K7.out
             refine hK.out _ _ h2 (fun hS => ?_)
             clear hK K hS h2
             refine tkH 5 (v := ?_) (by simp only [lkA, lkB, lkC]; rfl) (by kernel_rfl) (fun _ _ _ h => h) (by rfl) (by assumption) ?_ ?_
             rotate_left 1
             · intro w hSw
               go_simp
               with_reducible rfl
             simp only [Act.put, siA, siB, siC]
             refine wpAnyH_ready (rs := [2]) (by kernel_rfl) (by simp) ?_
             refine AllReadyH.cons (by simp only [lkA, lkB, lkC]; rfl) (fun K hK => ?_) (AllReadyH.nil)
             have h1 := LK7.out
             have h2 := K7.out
             go_simp
             refine hK.out _ _ h2 (fun hS => ?_)
             clear hK K hS h1 h2
             refine tkH 3 (v := ?_) (by simp only [lkA, lkB, lkC]; rfl) (by kernel_rfl) (fun _ _ _ h => h) (by rfl) (by assumption) ?_ ?_
             rotate_left 1
             · intro w hSw
               go_simp
               with_reducible rfl
             simp only [Act.put, siA, siB, siC]
             refine wpAnyH_ready (rs := [6]) (by kernel_rfl) (by simp) ?_
             refine AllReadyH.cons (by simp only [lkA, lkB, lkC]; rfl) (fun K hK => ?_) (AllReadyH.nil)
             refine step_entryStore (by rfl) (.tmp 30) (.tmp 35) (.tmp 33) rfl (.map (some (w.heap.size + 1))) (goInt st) (.int .i64 ((mm : Int) + 1)) rfl rfl rfl R3.out ?_
             simp only [Act.put, siA, siB, siC]
             have h2 := K9.out
             refine hK.out _ _ h2 (fun hS => ?_)
             clear hK K hS h2
             refine wpAnyH_done (by kernel_rfl) ?_ _
             refine NoPanic.normal ?_
             go_wp2
             go_roundw
             case rel => exact ⟨i + 1, nm, c', A', names, (b1, b2) :: tk, by go_num, by omega, rfl, by omega, HNM, W9, T9, X9, by show _ = _; rw [← HEQ.out, HDR.out, goF_step, if_neg (by rw [HGB.out]; decide), HAG.out, HBK.out], B9⟩
             case measure => simp [intOf]; omega
         · have cf : 0 < (mm : Int) := by omega
           have HNI : Hid ((b1, b2) ∈ tk) := Classical.byContradiction fun k => ce (HMM.out.2 k)
           have HGB := hid (HGO.out.trans (show _ = true by rw [HCA.out]; simp [HNI.out]))
           go_wp2_with (first | (refine wpList_load_bk (by rfl) (.tmp 12) rfl w5.heap.size rfl b1 b2 K6.out ?_) | (at_builtin; refine wpList_append_run rfl (.tmp 67) (.tmp 70) 31 31 rfl ⟨_, _, R8.out, ?_⟩))
           go_roundw
           case rel => exact ⟨i + 1, nm + 1, c8, A8, names ++ [xn], tk, by go_num, by omega, rfl, by omega, by show _ = _; rw [List.length_append, HNM.out]; rfl, W8, T8, X8, by show _ = _; rw [← HEQ.out, HDR.out, goF_step, if_pos HGB.out]; simp, B8⟩
           case measure => simp [intOf]; omega
       ·
        have HGB := hid (HGO.out.trans (show _ = false by rw [HCA.out]; simp [cb, cd]))
        go_wp2_with (first | (refine wpList_load_bk (by rfl) (.tmp 12) rfl w5.heap.size rfl b1 b2 K6.out ?_))
        refine wp_region_noPanic ?_
        refine wp_region_held_drew (S := fun W => Has W w5.heap.size 111 #[.int .i64 b1, .int .i64 b2]) (by kernel_rfl) (K6.out) (fun hS => ?_)
        rw [hw6d] at hS ⊢
        refine tkH 0 (v := ?_) (by simp only [lkA, lkB]; rfl) (by kernel_rfl) (fun _ _ _ h => h) (by rfl) (by assumption) ?_ ?_
        rotate_left 1
        · intro w hSw
          go_simp
          with_reducible rfl
        simp only [Act.put, siA, siB, siC]
        refine' wpAnyH_take (i := 1) (v := _) (by simp only [lkA, lkB, lkC]; rfl) (by kernel_rfl) (by kernel_rfl) (by kernel_rfl) (fun _ _ _ h => h) (yields_loadG (by rfl) 111 (.tmp 12) rfl w5.heap.size 0 rfl _ (fun W hW => load_bk hW rfl)) (by assumption) ?_
        simp only [Act.put, siA, siB, siC]
        refine wpAnyH_ready (rs := [2, 4]) (by kernel_rfl) (by simp) ?_
        refine AllReadyH.cons (by simp only [lkA, lkB, lkC]; rfl) (fun K hK => ?_) (AllReadyH.cons (by simp only [lkA, lkB, lkC]; rfl) (fun K hK => ?_) (AllReadyH.nil))
        · have h1 := LKd.out
          have h2 := K6d.out
          go_simp
          refine hK.out _ _ h2 (fun hS => ?_)
          clear hK K hS h1 h2
          refine tkH 3 (v := ?_) (by simp only [lkA, lkB, lkC]; rfl) (by kernel_rfl) (fun _ _ _ h => h) (by rfl) (by assumption) ?_ ?_
          rotate_left 1
          · intro w hSw
            go_simp
            with_reducible rfl
          simp only [Act.put, siA, siB, siC]
          refine wpAnyH_ready (rs := [4]) (by kernel_rfl) (by simp) ?_
          refine AllReadyH.cons (by simp only [lkA, lkB, lkC]; rfl) (fun K hK => ?_) (AllReadyH.nil)
          refine step_entry (by rfl) (.tmp 30) (.tmp 31) rfl (.map (some (w.heap.size + 1))) (bkV (b1, b2)) _ rfl rfl R1.out ?_
          simp only [Act.put, siA, siB, siC]
          have h2 := K7.out
          refine hK.out _ _ h2 (fun hS => ?_)
          clear hK K hS h2
          refine tkH 5 (v := ?_) (by simp only [lkA, lkB, lkC]; rfl) (by kernel_rfl) (fun _ _ _ h => h) (by rfl) (by assumption) ?_ ?_
          rotate_left 1
          · intro w hSw
            go_simp
            with_reducible rfl
          simp only [Act.put, siA, siB, siC]
          refine wpAnyH_ready (rs := [6]) (by kernel_rfl) (by simp) ?_
          refine AllReadyH.cons (by simp only [lkA, lkB, lkC]; rfl) (fun K hK => ?_) (AllReadyH.nil)
          refine step_entryStore (by rfl) (.tmp 30) (.tmp 35) (.tmp 33) rfl (.map (some (w.heap.size + 1))) (goInt st) (.int .i64 ((mm : Int) + 1)) rfl rfl rfl R3.out ?_
          simp only [Act.put, siA, siB, siC]
          have h2 := K9.out
          refine hK.out _ _ h2 (fun hS => ?_)
          clear hK K hS h2
          refine wpAnyH_done (by kernel_rfl) ?_ _
          refine NoPanic.normal ?_
          go_wp2
          go_roundw
          case rel => exact ⟨i + 1, nm, c', A', names, (b1, b2) :: tk, by go_num, by omega, rfl, by omega, HNM, W9, T9, X9, by show _ = _; rw [← HEQ.out, HDR.out, goF_step, if_neg (by rw [HGB.out]; decide), HAG.out, HBK.out], B9⟩
          case measure => simp [intOf]; omega
        · refine step_entry (by rfl) (.tmp 30) (.tmp 31) rfl (.map (some (w.heap.size + 1))) (bkV (b1, b2)) _ rfl rfl R1.out ?_
          simp only [Act.put, siA, siB, siC]
          have h2 := K7.out
          refine hK.out _ _ h2 (fun hS => ?_)
          clear hK K hS h2
          refine tkH 5 (v := ?_) (by simp only [lkA, lkB, lkC]; rfl) (by kernel_rfl) (fun _ _ _ h => h) (by rfl) (by assumption) ?_ ?_
          rotate_left 1
          · intro w hSw
            go_simp
            with_reducible rfl
          simp only [Act.put, siA, siB, siC]
          refine wpAnyH_ready (rs := [2]) (by kernel_rfl) (by simp) ?_
          refine AllReadyH.cons (by simp only [lkA, lkB, lkC]; rfl) (fun K hK => ?_) (AllReadyH.nil)
          have h1 := LK7.out
          have h2 := K7.out
          go_simp
          refine hK.out _ _ h2 (fun hS => ?_)
          clear hK K hS h1 h2
          refine tkH 3 (v := ?_) (by simp only [lkA, lkB, lkC]; rfl) (by kernel_rfl) (fun _ _ _ h => h) (by rfl) (by assumption) ?_ ?_
          rotate_left 1
          · intro w hSw
            go_simp
            with_reducible rfl
          simp only [Act.put, siA, siB, siC]
          refine wpAnyH_ready (rs := [6]) (by kernel_rfl) (by simp) ?_
          refine AllReadyH.cons (by simp only [lkA, lkB, lkC]; rfl) (fun K hK => ?_) (AllReadyH.nil)
          refine step_entryStore (by rfl) (.tmp 30) (.tmp 35) (.tmp 33) rfl (.map (some (w.heap.size + 1))) (goInt st) (.int .i64 ((mm : Int) + 1)) rfl rfl rfl R3.out ?_
          simp only [Act.put, siA, siB, siC]
          have h2 := K9.out
          refine hK.out _ _ h2 (fun hS => ?_)
          clear hK K hS h2
          refine wpAnyH_done (by kernel_rfl) ?_ _
          refine NoPanic.normal ?_
          go_wp2
          go_roundw
          case rel => exact ⟨i + 1, nm, c', A', names, (b1, b2) :: tk, by go_num, by omega, rfl, by omega, HNM, W9, T9, X9, by show _ = _; rw [← HEQ.out, HDR.out, goF_step, if_neg (by rw [HGB.out]; decide), HAG.out, HBK.out], B9⟩
          case measure => simp [intOf]; omega
  · obtain rfl : i = m := by omega
    have HF : Hid (names = goingM ⟨pk, pp, pa⟩ now K) := by
     show _ = _
     rw [← HEQ.out, List.drop_eq_nil_of_le (by rw [HDL.out]; omega)]; simp [goF]
    go_wp2
    go_ret
    exact ⟨_, rfl, by rw [← HF.out]; exact HW.out, HB.out⟩
end Go.Proofs.YtabidnlbgdecbaaGreatDoor
