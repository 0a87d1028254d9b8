/- same: two disks that have the same tree. Conditions: as at the disk. -/
import Derived.Test.YtlbeemlnbpchgaaGreatXH
namespace Go.Proofs.YtlbeemlnbpchgaaGreat
open Go.RowKit Go.Maps
theorem AllD.get {w : World} : ∀ {ds : List (Nat × Mo)} {T : Nat → Prop}, AllD w T ds → ∀ {q : Nat} {M : Mo}, (q, M) ∈ ds → ∃ own, Dsk own w q M
  | [], _, _, _, _, h => by cases h
  | (_, _) :: _, _, ⟨own, h1, _, h3⟩, _, _, h => by
    rcases List.mem_cons.1 h with e | e
    · injection e with e1 e2; subst e1 e2; exact ⟨own, h1⟩
    · exact h3.get e
theorem Lv.get {w0 w : World} {ds : List (Nat × Mo)} (h : Lv w0 w ds) {q : Nat} {M : Mo} (hm : (q, M) ∈ ds) : ∃ own, Dsk own w q M := h.all.get hm
theorem path_at {room : Nat} {L : Tr} (h : WFT room L) (k : Nat) (hk : k < (pathsL L).length) : ∃ n, look L (pathsL L)[k] = some n ∧ readM L (pathsL L)[k] = (n, 0) ∧ (pathsL L)[k].length ≤ 4000 := by
  have hl : k < L.length := by unfold pathsL at hk; simpa using hk
  have e : (pathsL L)[k] = L[k].1 := List.getElem_map _
  have h1 : look L L[k].1 = some L[k].2 := mem_look h.srt (List.getElem_mem hl)
  have hm := h.may L[k].1 (by rw [h1]; rfl)
  refine ⟨L[k].2, by rw [e]; exact h1, ?_, ?_⟩
  · rw [e]; unfold readM; rw [hm, h1]; rfl
  · rw [e]; have := (may_parts hm).1; omega
theorem yields_neq_node {ops : Array Oper} {S : World → Prop} {o : Oper} {a : Act} (hw : Region.wanted o (yielded ops a.tmps) = true) (x y : Operand) (ho : o.op = .binOp .neq 64 x y 64) (n m : Nd) (hx : a.eval x = nodeV n) (hy : a.eval y = nodeV m) (b : Bool) (hb : (!decide (n = m)) = b) :
    YieldsIf Tryz.prog ops S o (.bool b) a :=
  .inl ⟨hw, fun w _ => by
    unfold execOp
    have e := neqNode_any n m w
    have g : (eqGuard .neq 64 x y (nodeV n) (nodeV m)).run Tryz.prog w = .ok () w := run_eqGuard_agg w .neq 64 x y _ _ eqG
    simp only [ho, hx, hy, Sem.run_bind, g, e, Result.andThen_ok, hb, Sem.run_pure]⟩
/-- What the last look at two nodes leans on. -/
structure TwoN (g1 g2 k b1 b2 : Nat) (x : By) (cs : Array Value) (W : World) : Prop where
  c1 : W.cell? ⟨g1, k, none⟩ = some (kS x)
  c2 : W.cell? ⟨g2, k, none⟩ = some (kS x)
  h1 : Has W b1 64 cs
  h2 : Has W b2 64 cs
set_option maxRecDepth 100000 in
set_option maxHeartbeats 8000000 in
theorem same_any {o1 o2 : Nat → Prop} {w : World} {p q : Nat} {M K : Mo} (h1 : Dsk o1 w p M) (h2 : Dsk o2 w q K) (hG : Gd w) (he : M.now = K.now) :
    Calls Tryz.prog 40 #[.pointer (some ⟨p, 0, none⟩), .pointer (some ⟨q, 0, none⟩)] w fun e w' => e = .returned (.bool true) ∧ Below w.heap.size w w' := by
  obtain ⟨L, HLM⟩ : ∃ L, Hid (M.now = L) := ⟨_, rfl⟩
  have HW : Hid (WFT M.room L) := by rw [← HLM.out]; exact h1.good.w1
  have P1 : Hid (∀ W, Below w.heap.size w W → Calls Tryz.prog 26 #[.pointer (some ⟨p, 0, none⟩)] W fun e w' => NamesP W (pathsL L) e w') := fun W hb => by rw [← HLM.out]; exact dPaths_any (h1.on hb)
  have P2 : Hid (∀ W, Below w.heap.size w W → Calls Tryz.prog 26 #[.pointer (some ⟨q, 0, none⟩)] W fun e w' => NamesP W (pathsL L) e w') := fun W hb => by rw [← HLM.out, he]; exact dPaths_any (h2.on hb)
  have U1 : Hid (∀ W, Below w.heap.size w W → Calls Tryz.prog 27 #[.pointer (some ⟨p, 0, none⟩)] W fun e w' => e = .returned (.int .i64 ((usedL L : Nat) : Int)) ∧ W = w') := fun W hb => by rw [← HLM.out]; exact dUsed_any (h1.on hb)
  have U2 : Hid (∀ W, Below w.heap.size w W → Calls Tryz.prog 27 #[.pointer (some ⟨q, 0, none⟩)] W fun e w' => e = .returned (.int .i64 ((usedL L : Nat) : Int)) ∧ W = w') := fun W hb => by rw [← HLM.out, he]; exact dUsed_any (h2.on hb)
  have R1 : Hid (∀ W s, Below w.heap.size w W → s.length ≤ 4000 → Calls Tryz.prog 34 #[.pointer (some ⟨p, 0, none⟩), kS s] W fun e w' => ReadP W (readM L s) e w') := fun W s hb hs => by rw [← HLM.out]; exact dRead_any (h1.on hb) (hG.kept hb) s hs
  have R2 : Hid (∀ W s, Below w.heap.size w W → s.length ≤ 4000 → Calls Tryz.prog 34 #[.pointer (some ⟨q, 0, none⟩), kS s] W fun e w' => ReadP W (readM L s) e w') := fun W s hb hs => by rw [← HLM.out, he]; exact dRead_any (h2.on hb) (hG.kept hb) s hs
  have hln : (pathsL L).length ≤ 100000 := by
    unfold pathsL; rw [List.length_map, ← HLM.out]
    obtain ⟨m1, m2, sv, vs, h⟩ := h1
    exact h.tr1.len
  obtain ⟨n, HN⟩ : ∃ n, Hid ((pathsL L).length = n) := ⟨_, rfl⟩
  rw [HN.out] at hln
  obtain ⟨u, HU⟩ : ∃ u, Hid (usedL L = u) := ⟨_, rfl⟩
  rw [HU.out] at U1 U2
  have B0 : Hid (Below w.heap.size w w) := Below.refl _ _
  clear h1 h2 hG he
  go_enter Tryz.func40, Tryz.ntmps40
  go_wp2_with fail
  refine (P1.out _ B0.out).mono ?_; rintro e1 w1 ⟨A1, c1, g1, rfl, hn1, hb1⟩
  have N1 := hid hn1
  have B1 : Hid (Below w.heap.size w w1) := hb1
  rw [HN.out]
  clear hn1 hb1
  go_wp2_with fail
  refine (P2.out _ B1.out).mono ?_; rintro e2 w2 ⟨A2, c2, g2, rfl, hn2, hb2⟩
  have N2 := hid hn2
  have N1' := hid (N1.out.on hb2)
  have B2 : Hid (Below w.heap.size w w2) := B1.out.trans (hb2.mono B1.out.size)
  rw [HN.out]
  clear hn2 hb2 N1
  go_wp2_with fail
  refine (U1.out _ B2.out).mono ?_; rintro e3 w3 ⟨rfl, rfl⟩
  go_wp2_with fail
  refine (U2.out _ B2.out).mono ?_; rintro e4 w4 ⟨rfl, rfl⟩
  go_wp2
  go_loopw [7] (fun v7 wr => ∃ k : Nat, v7 = .int .i64 (k : Int) ∧ k ≤ n ∧ Hid (Below w2.heap.size w2 wr)) (fun v7 _ => n - (intOf v7).toNat)
  case atStart => exact ⟨0, rfl, by omega, Below.refl _ _⟩
  case round =>
    obtain ⟨k, rfl, hk, J1⟩ := hrel
    by_cases hlt : k < n
    · have hkl : k < (pathsL L).length := by rw [HN.out]; exact hlt
      obtain ⟨nd, hnd, hrd, hs⟩ := path_at HW.out k hkl
      have n1 := N1'.out.on J1.out
      have n2 := N2.out.on J1.out
      have a1 := n1.ad (by omega)
      have a2 := n2.ad (by omega)
      subst a1
      subst a2
      have c1 := n1.cell k hkl
      have c2 := n2.cell k hkl
      have hg1 := n1.low (by omega)
      have hg2 := n2.low (by omega)
      obtain ⟨x, hx⟩ : ∃ x, x = (pathsL L)[k] := ⟨_, rfl⟩
      rw [← hx] at hnd hrd hs c1 c2
      obtain ⟨kd, d, t, tm⟩ := nd
      have BW : Hid (Below w.heap.size w wr) := B2.out.trans (J1.out.mono B2.out.size)
      have CR1 := hid (R1.out wr x BW.out hs)
      have CR2 : Hid (∀ W, Below w.heap.size w W → Calls Tryz.prog 34 #[.pointer (some ⟨q, 0, none⟩), kS x] W fun e w' => ReadP W (readM L x) e w') := fun W hb => R2.out W x hb hs
      rw [hrd] at CR1 CR2
      have hlt' : (k : Int) < (n : Int) := by omega
      have h0 : (0 : Int) ≤ (k : Int) := by omega
      have w1 : IntKind.i64.wrap ((k : Int) + 1) = (k : Int) + 1 := i64in _ (by omega) (by omega)
      have HC := hid (And.intro c1 c2)
      have HGG := hid (And.intro hg1 hg2)
      clear n1 n2 hnd hrd hs hx hg1 hg2 hkl
      go_wp2_with fail
      refine CR1.out.mono ?_; rintro e5 w5 ⟨rfl, hb5⟩
      have Y1 : Hid (Below wr.heap.size wr (w5.alloc (.cells (ndA kd d t tm) 64))) := hb5.alloc hb5.size _
      have X1 : Hid (Has (w5.alloc (.cells (ndA kd d t tm) 64)) w5.heap.size 64 (ndA kd d t tm)) := Has.fresh _ _ _
      have k2 : (w5.alloc (.cells (ndA kd d t tm) 64)).cell? ⟨g1, k, none⟩ = some (kS x) := (Y1.out.cell (p := ⟨g1, k, none⟩) HGG.out.1).trans HC.out.1
      have HB5 := hid hb5
      clear hb5 c1 c2
      simp only [nodeV]
      go_wp2_with fail
      refine (CR2.out _ (BW.out.trans (Y1.out.mono BW.out.size))).mono ?_; rintro e6 w6 ⟨rfl, hb6⟩
      have Y2 : Hid (Below wr.heap.size wr (w6.alloc (.cells (ndA kd d t tm) 64))) := Y1.out.trans ((hb6.alloc hb6.size _).mono Y1.out.size)
      have X2 : Hid (TwoN g1 g2 k w5.heap.size w6.heap.size x (ndA kd d t tm) (w6.alloc (.cells (ndA kd d t tm) 64)).drew) :=
        ⟨(Y2.out.cell (p := ⟨g1, k, none⟩) HGG.out.1).trans HC.out.1, (Y2.out.cell (p := ⟨g2, k, none⟩) HGG.out.2).trans HC.out.2, X1.out.kept (hb6.alloc hb6.size _).drew X1.out.inside, Has.fresh w6 _ _⟩
      clear hb6 k2
      simp only [nodeV]
      go_wp2
      refine wp_region_noPanic ?_
      refine wp_region_held_drew (S := TwoN g1 g2 k w5.heap.size w6.heap.size x (ndA kd d t tm)) (by kernel_rfl) (X2.out) (fun hS => ?_)
      refine wpAnyH_take (i := 0) (v := ?_) (by simp only [List.getElem?_toArray, List.getElem?_cons_zero]; rfl) (by kernel_rfl) (by kernel_rfl) (by kernel_rfl) (fun _ _ _ h => h) (Or.inl ⟨by rfl, ?_⟩) (by assumption) ?_
      rotate_left 1
      · intro w hSw
        have c1 := hSw.c1
        have c2 := hSw.c2
        go_simp
        with_reducible rfl
      simp only [Act.put, List.setIfInBounds_toArray, List.set_cons_zero, List.set_cons_succ]
      refine wpAnyH_take (i := 1) (v := ?_) (by simp only [List.getElem?_toArray, List.getElem?_cons_zero, List.getElem?_cons_succ]; rfl) (by kernel_rfl) (by kernel_rfl) (by kernel_rfl) (fun _ _ _ h => h) (Or.inl ⟨by rfl, ?_⟩) (by assumption) ?_
      rotate_left 1
      · intro w hSw
        have c1 := hSw.c1
        have c2 := hSw.c2
        go_simp
        with_reducible rfl
      simp only [Act.put, List.setIfInBounds_toArray, List.set_cons_zero, List.set_cons_succ]
      refine wpAnyH_take (i := 2) (v := ?_) (by simp only [List.getElem?_toArray, List.getElem?_cons_zero, List.getElem?_cons_succ]; rfl) (by kernel_rfl) (by kernel_rfl) (by kernel_rfl) (fun _ _ _ h => h) (Or.inl ⟨by rfl, ?_⟩) (by assumption) ?_
      rotate_left 1
      · intro w hSw
        have c1 := hSw.c1
        have c2 := hSw.c2
        go_simp
        with_reducible rfl
      simp only [Act.put, List.setIfInBounds_toArray, List.set_cons_zero, List.set_cons_succ]
      refine wpAnyH_take (i := 3) (v := ?_) (by simp only [List.getElem?_toArray, List.getElem?_cons_zero, List.getElem?_cons_succ]; rfl) (by kernel_rfl) (by kernel_rfl) (by kernel_rfl) (fun _ _ _ h => h) (Or.inl ⟨by rfl, ?_⟩) (by assumption) ?_
      rotate_left 1
      · intro w hSw
        have c1 := hSw.c1
        have c2 := hSw.c2
        go_simp
        with_reducible rfl
      simp only [Act.put, List.setIfInBounds_toArray, List.set_cons_zero, List.set_cons_succ]
      refine wpAnyH_take (i := 4) (v := ?_) (by simp only [List.getElem?_toArray, List.getElem?_cons_zero, List.getElem?_cons_succ]; rfl) (by kernel_rfl) (by kernel_rfl) (by kernel_rfl) (fun _ _ _ h => h) (Or.inl ⟨by rfl, ?_⟩) (by assumption) ?_
      rotate_left 1
      · intro w hSw
        have c1 := hSw.c1
        have c2 := hSw.c2
        go_simp
        with_reducible rfl
      simp only [Act.put, List.setIfInBounds_toArray, List.set_cons_zero, List.set_cons_succ]
      refine wpAnyH_take (i := 5) (v := ?_) (by simp only [List.getElem?_toArray, List.getElem?_cons_zero, List.getElem?_cons_succ]; rfl) (by kernel_rfl) (by kernel_rfl) (by kernel_rfl) (fun _ _ _ h => h) (Or.inl ⟨by rfl, ?_⟩) (by assumption) ?_
      rotate_left 1
      · intro w hSw
        have c1 := hSw.c1
        have c2 := hSw.c2
        go_simp
        with_reducible rfl
      simp only [Act.put, List.setIfInBounds_toArray, List.set_cons_zero, List.set_cons_succ]
      refine wpAnyH_take (i := 6) (v := ?_) (by simp only [List.getElem?_toArray, List.getElem?_cons_zero, List.getElem?_cons_succ]; rfl) (by kernel_rfl) (by kernel_rfl) (by kernel_rfl) (fun _ _ _ h => h) (Or.inl ⟨by rfl, ?_⟩) (by assumption) ?_
      rotate_left 1
      · intro w hSw
        have c1 := hSw.c1
        have c2 := hSw.c2
        go_simp
        with_reducible rfl
      simp only [Act.put, List.setIfInBounds_toArray, List.set_cons_zero, List.set_cons_succ]
      refine wpAnyH_take (i := 7) (v := ?_) (by simp only [List.getElem?_toArray, List.getElem?_cons_zero, List.getElem?_cons_succ]; rfl) (by kernel_rfl) (by kernel_rfl) (by kernel_rfl) (fun _ _ _ h => h) (Or.inl ⟨by rfl, ?_⟩) (by assumption) ?_
      rotate_left 1
      · intro w hSw
        have c1 := hSw.c1
        have c2 := hSw.c2
        go_simp
        with_reducible rfl
      simp only [Act.put, List.setIfInBounds_toArray, List.set_cons_zero, List.set_cons_succ]
      refine wpAnyH_take (i := 8) (v := ?_) (by simp only [List.getElem?_toArray, List.getElem?_cons_zero, List.getElem?_cons_succ]; rfl) (by kernel_rfl) (by kernel_rfl) (by kernel_rfl) (fun _ _ _ h => h) (Or.inl ⟨by rfl, ?_⟩) (by assumption) ?_
      rotate_left 1
      · intro w hSw
        have c1 := hSw.c1
        have c2 := hSw.c2
        go_simp
        with_reducible rfl
      simp only [Act.put, List.setIfInBounds_toArray, List.set_cons_zero, List.set_cons_succ]
      refine wpAnyH_take (i := 9) (v := ?_) (by simp only [List.getElem?_toArray, List.getElem?_cons_zero, List.getElem?_cons_succ]; rfl) (by kernel_rfl) (by kernel_rfl) (by kernel_rfl) (fun _ _ _ h => h) (Or.inl ⟨by rfl, ?_⟩) (by assumption) ?_
      rotate_left 1
      · intro w hSw
        have c1 := hSw.c1
        have c2 := hSw.c2
        go_simp
        with_reducible rfl
      simp only [Act.put, List.setIfInBounds_toArray, List.set_cons_zero, List.set_cons_succ]
      refine' wpAnyH_take (i := 10) (v := _) (by simp only [List.getElem?_toArray, List.getElem?_cons_zero, List.getElem?_cons_succ]; rfl) (by kernel_rfl) (by kernel_rfl) (by kernel_rfl) (fun _ _ _ h => h) (yields_loadA (by rfl) 64 (.tmp 8) rfl w5.heap.size 0 rfl (ndA kd d t tm) (fun w hSw => load_nodeC hSw.h1)) (by assumption) ?_
      simp only [Act.put, List.setIfInBounds_toArray, List.set_cons_zero, List.set_cons_succ]
      refine' wpAnyH_take (i := 11) (v := _) (by simp only [List.getElem?_toArray, List.getElem?_cons_zero, List.getElem?_cons_succ]; rfl) (by kernel_rfl) (by kernel_rfl) (by kernel_rfl) (fun _ _ _ h => h) (yields_loadA (by rfl) 64 (.tmp 10) rfl w6.heap.size 0 rfl (ndA kd d t tm) (fun w hSw => load_nodeC hSw.h2)) (by assumption) ?_
      simp only [Act.put, List.setIfInBounds_toArray, List.set_cons_zero, List.set_cons_succ]
      refine' wpAnyH_take (i := 12) (v := _) (by simp only [List.getElem?_toArray, List.getElem?_cons_zero, List.getElem?_cons_succ]; rfl) (by kernel_rfl) (by kernel_rfl) (by kernel_rfl) (fun _ _ _ h => h) (yields_neq_node (by rfl) (.tmp 62) (.tmp 63) rfl ⟨kd, d, t, tm⟩ ⟨kd, d, t, tm⟩ rfl rfl false (by simp)) (by assumption) ?_
      simp only [Act.put, List.setIfInBounds_toArray, List.set_cons_zero, List.set_cons_succ]
      refine wpAnyH_take (i := 13) (v := ?_) (by simp only [List.getElem?_toArray, List.getElem?_cons_zero, List.getElem?_cons_succ]; rfl) (by kernel_rfl) (by kernel_rfl) (by kernel_rfl) (fun _ _ _ h => h) (Or.inl ⟨by rfl, ?_⟩) (by assumption) ?_
      rotate_left 1
      · intro w hSw
        have c1 := hSw.c1
        have c2 := hSw.c2
        go_simp
        with_reducible rfl
      simp only [Act.put, List.setIfInBounds_toArray, List.set_cons_zero, List.set_cons_succ]
      refine wpAnyH_done (by kernel_rfl) ?_ _
      refine NoPanic.normal ?_
      go_wp2
      go_roundw
      case rel => exact ⟨k + 1, by go_num, by omega, J1.out.trans (Y2.out.drew.mono J1.out.size)⟩
      case measure => simp [intOf]; omega
    · go_wp2
      go_ret
      exact ⟨rfl, B2.out.trans (J1.out.mono B2.out.size)⟩
end Go.Proofs.YtlbeemlnbpchgaaGreat
