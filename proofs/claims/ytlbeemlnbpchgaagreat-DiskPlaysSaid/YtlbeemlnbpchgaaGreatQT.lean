/- Several texts in one: TH, TI, TT. Conditions: those said at each. -/
import Derived.Test.YtlbeemlnbpchgaaGreatQS
import Derived.Test.YtlbeemlnbpchgaaGreatRows
import Derived.ProofKit
import Derived.OpenShut
import Derived.ChangeSame
import Derived.JoinedOf
import Derived.JoinedAt
import Derived.Carry
import Derived.HandedShaped
import Derived.ChangeMaps5
import Derived.Deep.Slices
import Derived.Deep.Matrix
/- The statements' helpers: made, awake. Conditions: as at the disk. -/
namespace Go.Proofs.YtlbeemlnbpchgaaGreat
open Go.RowKit Go.Maps
theorem do_err {M : Mo} {x : Eff} {c : Int} (hf : M.fuse ≠ 0) (h : (stepE M.room M.now x).1 = c) (hc : c ≠ 0) : doM M x = (c, M) := by
  unfold doM; rw [if_neg hf, h, if_neg hc]
section
variable {w0 w : World} {q : Nat} {M : Mo} {ds : List Th} {r : Int × Mo}
/-- What a call that does something leaves. -/
def DoneP (w0 : World) (q : Nat) (ds : List Th) (c : Int) (K : Mo) (e : Ending) (w' : World) : Prop := e = .returned (.int .i64 c) ∧ Lv w0 w' (.d q K :: ds)
variable (h : Lv w0 w (.d q M :: ds)) (hG : Gd w0) {c : Int} {K : Mo}
include h hG
theorem eWrite (p d : By) (tm : Int) (hp : p.length ≤ 4000) (hd : d.length ≤ 1000000) (hlen : M.since.length + 1 ≤ 100000) (he : doM M (.write p d tm) = (c, K)) : Calls Tryz.prog 22 #[.pointer (some ⟨q, 0, none⟩), kS p, kS d, .int .i64 tm] w fun e w' => DoneP w0 q ds c K e w' := by
  have := lWrite h hG p d tm hp hd hlen
  rw [he] at this
  exact this
theorem eAppend (p d : By) (hp : p.length ≤ 4000) (hd : d.length ≤ 1000000) (hlen : M.since.length + 1 ≤ 100000) (he : doM M (.append p d) = (c, K)) : Calls Tryz.prog 23 #[.pointer (some ⟨q, 0, none⟩), kS p, kS d] w fun e w' => DoneP w0 q ds c K e w' := by
  have := lAppend h hG p d hp hd hlen
  rw [he] at this
  exact this
theorem eLink (p d : By) (tm : Int) (hp : p.length ≤ 4000) (hd : d.length ≤ 1000000) (hlen : M.since.length + 1 ≤ 100000) (he : doM M (.link p d tm) = (c, K)) : Calls Tryz.prog 32 #[.pointer (some ⟨q, 0, none⟩), kS p, kS d, .int .i64 tm] w fun e w' => DoneP w0 q ds c K e w' := by
  have := lLink h hG p d tm hp hd hlen
  rw [he] at this
  exact this
theorem eRename (p d : By) (hp : p.length ≤ 4000) (hd : d.length ≤ 4000) (hlen : M.since.length + 1 ≤ 100000) (he : doM M (.rename p d) = (c, K)) : Calls Tryz.prog 24 #[.pointer (some ⟨q, 0, none⟩), kS p, kS d] w fun e w' => DoneP w0 q ds c K e w' := by
  have := lRename h hG p d hp hd hlen
  rw [he] at this
  exact this
theorem eMkdir (p : By) (hp : p.length ≤ 4000) (hlen : M.since.length + 1 ≤ 100000) (he : doM M (.mkdir p) = (c, K)) : Calls Tryz.prog 21 #[.pointer (some ⟨q, 0, none⟩), kS p] w fun e w' => DoneP w0 q ds c K e w' := by
  have := lMkdir h hG p hp hlen
  rw [he] at this
  exact this
theorem eRemove (p : By) (hp : p.length ≤ 4000) (hlen : M.since.length + 1 ≤ 100000) (he : doM M (.remove p) = (c, K)) : Calls Tryz.prog 33 #[.pointer (some ⟨q, 0, none⟩), kS p] w fun e w' => DoneP w0 q ds c K e w' := by
  have := lRemove h hG p hp hlen
  rw [he] at this
  exact this
end
/-- The disk that made makes. -/
def madeM : Mo := (doM (doM (doM (newM 1024) (.mkdir [97])).2 (.write [97, 47, 98] [120] 1)).2 (.append [97, 47, 98] [121])).2
set_option maxRecDepth 100000 in
set_option maxHeartbeats 4000000 in
theorem made_any (w : World) (hG : Gd w) : Calls Tryz.prog 20 #[.int .i64 1024] w fun e w' => PlayP w madeM e w' := by
  have C1 := hid (lNew (Lv.nil w) 1024 (by omega) (by omega))
  have HG := hid hG
  obtain ⟨M1, H1⟩ : ∃ K, Hid ((doM (newM 1024) (.mkdir [97])).2 = K) := ⟨_, rfl⟩
  obtain ⟨M2, H2⟩ : ∃ K, Hid ((doM M1 (.write [97, 47, 98] [120] 1)).2 = K) := ⟨_, rfl⟩
  have H3 : Hid (madeM = (doM M2 (.append [97, 47, 98] [121])).2) := by show _ = _; rw [← H2.out, ← H1.out]; rfl
  have N1 : Hid (M1.since.length ≤ 1) := by show _ ≤ _; rw [← H1.out]; exact since_do _ _
  have N2 : Hid (M2.since.length ≤ 2) := by show _ ≤ _; rw [← H2.out]; have := since_do M1 (.write [97, 47, 98] [120] 1); have := N1.out; omega
  clear hG
  go_enter Tryz.func20, Tryz.ntmps20
  go_wp2_with fail
  refine C1.out.mono ?_; rintro e1 w1 ⟨p, rfl, hl1⟩
  have L1 := hid hl1
  clear hl1
  go_wp2_with fail
  refine (lMkdir L1.out HG.out [97] (by decide) (by decide)).mono ?_; rintro e2 w2 ⟨rfl, hl2⟩
  rw [H1.out] at hl2
  have L2 := hid hl2
  clear hl2
  go_wp2_with fail
  refine (lWrite L2.out HG.out [97, 47, 98] [120] 1 (by decide) (by decide) (by have := N1.out; omega)).mono ?_; rintro e3 w3 ⟨rfl, hl3⟩
  rw [H2.out] at hl3
  have L3 := hid hl3
  clear hl3
  go_wp2_with fail
  refine (lAppend L3.out HG.out [97, 47, 98] [121] (by decide) (by decide) (by have := N2.out; omega)).mono ?_; rintro e4 w4 ⟨rfl, hl4⟩
  rw [← H3.out] at hl4
  have L4 := hid hl4
  clear hl4
  go_wp2
  go_ret
  exact ⟨p, rfl, L4.out⟩
theorem m_read : readM madeM.now [97, 47, 98] = (⟨1, [120, 121], [], 1⟩, 0) := by decide +kernel
theorem m_fuse : madeM.fuse ≠ 0 := by decide +kernel
theorem m_room : madeM.room = 1024 := by decide +kernel
theorem m_mkdir : doM madeM (.mkdir [97]) = (6, madeM) := do_err m_fuse (by decide +kernel) (by decide)
theorem m_write : doM madeM (.write [99, 47, 98] [] 1) = (5, madeM) := do_err m_fuse (by decide +kernel) (by decide)
theorem m_remove : doM madeM (.remove [97]) = (22, madeM) := do_err m_fuse (by decide +kernel) (by decide)
theorem m_used : usedL madeM.now = 130 := by decide +kernel
theorem m_pend : madeM.since.length = 3 := by decide +kernel
set_option maxRecDepth 100000 in
set_option maxHeartbeats 4000000 in
theorem awake_any (w : World) (hG : Gd w) : Calls Tryz.prog 9 #[] w fun e w' => e = .returned (.bool true) ∧ Below w.heap.size w w' := by
  have HG := hid hG
  have C1 := hid (made_any w hG)
  obtain ⟨K, HK⟩ : ∃ K, Hid (madeM = K) := ⟨_, rfl⟩
  have F1 := hid m_read
  have F2 := hid m_mkdir
  have F3 := hid m_write
  have F4 := hid m_remove
  have F5 := hid m_used
  have F6 := hid m_pend
  rw [HK.out] at C1 F1 F2 F3 F4 F5 F6
  clear hG HK
  go_enter Tryz.func9, Tryz.ntmps9
  go_wp2_with fail
  refine C1.out.mono ?_; rintro e1 w1 ⟨p, rfl, hl1⟩
  have L1 := hid hl1
  clear hl1
  go_wp2_with fail
  refine (lIs L1.out HG.out [97, 47, 98] [120, 121] 1 (by decide) F1.out).mono ?_; rintro e2 w2 ⟨rfl, hl2⟩
  have L2 := hid hl2
  clear hl2
  go_wp2_with fail
  refine (eMkdir L2.out HG.out [97] (by decide) (by have := F6.out; omega) F2.out).mono ?_; rintro e3 w3 ⟨rfl, hl3⟩
  have L3 := hid hl3
  clear hl3
  go_wp2_with fail
  refine (eWrite L3.out HG.out [99, 47, 98] [] 1 (by decide) (by decide) (by have := F6.out; omega) F3.out).mono ?_; rintro e4 w4 ⟨rfl, hl4⟩
  have L4 := hid hl4
  clear hl4
  go_wp2_with fail
  refine (eRemove L4.out HG.out [97] (by decide) (by have := F6.out; omega) F4.out).mono ?_; rintro e5 w5 ⟨rfl, hl5⟩
  have L5 := hid hl5
  clear hl5
  go_wp2_with fail
  refine (lUsed L5.out).mono ?_; rintro e6 w6 ⟨rfl, rfl⟩
  rw [F5.out]
  go_wp2_with fail
  refine (lPending L5.out).mono ?_; rintro e7 w7 ⟨rfl, rfl⟩
  rw [F6.out]
  go_wp2
  go_ret
  exact ⟨rfl, L5.out.bl⟩
end Go.Proofs.YtlbeemlnbpchgaaGreat
/- same: two disks that have the same tree. Conditions: as at the disk. -/
namespace Go.Proofs.YtlbeemlnbpchgaaGreat
open Go.RowKit Go.Maps
theorem AllD.get {w : World} : ∀ {ds : List Th} {T : Nat → Prop}, AllD w T ds → ∀ {x : Th}, x ∈ ds → ∃ own, ThOk own w x
  | [], _, _, _, h => by cases h
  | _ :: _, _, ⟨own, h1, _, h3⟩, _, h => by
    rcases List.mem_cons.1 h with e | e
    · subst e; exact ⟨own, h1⟩
    · exact h3.get e
theorem Lv.get {w0 w : World} {ds : List Th} (h : Lv w0 w ds) {q : Nat} {M : Mo} (hm : .d q M ∈ ds) : ∃ own, Dsk own w q M := h.all.get hm
theorem Lv.getH {w0 w : World} {ds : List Th} (h : Lv w0 w ds) {b : Nat} {cs : Array Value} (hm : .h b cs ∈ ds) : Has w b 33 cs := by
  obtain ⟨own, h1⟩ := h.all.get hm
  exact h1.2.2
/-- A box that is new. -/
theorem Lv.box {w0 w : World} {ds : List Th} (h : Lv w0 w ds) (cs : Array Value) : Lv w0 (w.alloc (.cells cs 33)) (.h w.heap.size cs :: ds) :=
  h.push (y := .h w.heap.size cs) (own := fun g => g = w.heap.size) ⟨fun _ k => k, rfl, Has.fresh _ _ _⟩ (fun g k => by rw [k]; exact Nat.le_refl _) ((Below.refl _ _).alloc (Nat.le_refl _) _)
theorem Lv.getR {w0 w : World} {ds : List Th} (h : Lv w0 w ds) {q : Nat} {M : Mo} (hm : .r q M ∈ ds) : ∃ own, RDk own w q M := h.all.get hm
theorem path_at {room : Nat} {L : Tr} (h : WFT room L) (k : Nat) (hk : k < (pathsL L).length) : ∃ n, look L (pathsL L)[k] = some n ∧ readM L (pathsL L)[k] = (n, 0) ∧ (pathsL L)[k].length ≤ 4000 := by
  have hl : k < L.length := by unfold pathsL at hk; simpa using hk
  have e : (pathsL L)[k] = L[k].1 := List.getElem_map _
  have h1 : look L L[k].1 = some L[k].2 := mem_look h.srt (List.getElem_mem hl)
  have hm := h.may L[k].1 (by rw [h1]; rfl)
  refine ⟨L[k].2, by rw [e]; exact h1, ?_, ?_⟩
  · rw [e]; unfold readM; rw [hm, h1]; rfl
  · rw [e]; have := (may_parts hm).1; omega
theorem yields_neq_node {ops : Array Oper} {S : World → Prop} {o : Oper} {a : Act} (hw : Region.wanted o (yielded ops a.tmps) = true) (x y : Operand) (ho : o.op = .binOp .neq 64 x y 64) (n m : Nd) (hx : a.eval x = nodeV n) (hy : a.eval y = nodeV m) (b : Bool) (hb : (!decide (n = m)) = b) :
    YieldsIf Tryz.prog ops S o (.bool b) a :=
  .inl ⟨hw, fun w _ => by
    unfold execOp
    have e := neqNode_any n m w
    have g : (eqGuard .neq 64 x y (nodeV n) (nodeV m)).run Tryz.prog w = .ok () w := run_eqGuard_agg w .neq 64 x y _ _ eqG
    simp only [ho, hx, hy, Sem.run_bind, g, e, Result.andThen_ok, hb, Sem.run_pure]⟩
/-- What the last look at two nodes leans on. -/
structure TwoN (g1 g2 k b1 b2 : Nat) (x : By) (cs : Array Value) (W : World) : Prop where
  c1 : W.cell? ⟨g1, k, none⟩ = some (kS x)
  c2 : W.cell? ⟨g2, k, none⟩ = some (kS x)
  h1 : Has W b1 64 cs
  h2 : Has W b2 64 cs
set_option maxRecDepth 100000 in
set_option maxHeartbeats 8000000 in
theorem same_any {o1 o2 : Nat → Prop} {w : World} {p q : Nat} {M K : Mo} (h1 : Dsk o1 w p M) (h2 : Dsk o2 w q K) (hG : Gd w) (he : M.now = K.now) :
    Calls Tryz.prog 40 #[.pointer (some ⟨p, 0, none⟩), .pointer (some ⟨q, 0, none⟩)] w fun e w' => e = .returned (.bool true) ∧ Below w.heap.size w w' := by
  obtain ⟨L, HLM⟩ : ∃ L, Hid (M.now = L) := ⟨_, rfl⟩
  have HW : Hid (WFT M.room L) := by rw [← HLM.out]; exact h1.good.w1
  have P1 : Hid (∀ W, Below w.heap.size w W → Calls Tryz.prog 26 #[.pointer (some ⟨p, 0, none⟩)] W fun e w' => NamesP W (pathsL L) e w') := fun W hb => by rw [← HLM.out]; exact dPaths_any (h1.on hb)
  have P2 : Hid (∀ W, Below w.heap.size w W → Calls Tryz.prog 26 #[.pointer (some ⟨q, 0, none⟩)] W fun e w' => NamesP W (pathsL L) e w') := fun W hb => by rw [← HLM.out, he]; exact dPaths_any (h2.on hb)
  have U1 : Hid (∀ W, Below w.heap.size w W → Calls Tryz.prog 27 #[.pointer (some ⟨p, 0, none⟩)] W fun e w' => e = .returned (.int .i64 ((usedL L : Nat) : Int)) ∧ W = w') := fun W hb => by rw [← HLM.out]; exact dUsed_any (h1.on hb)
  have U2 : Hid (∀ W, Below w.heap.size w W → Calls Tryz.prog 27 #[.pointer (some ⟨q, 0, none⟩)] W fun e w' => e = .returned (.int .i64 ((usedL L : Nat) : Int)) ∧ W = w') := fun W hb => by rw [← HLM.out, he]; exact dUsed_any (h2.on hb)
  have R1 : Hid (∀ W s, Below w.heap.size w W → s.length ≤ 4000 → Calls Tryz.prog 34 #[.pointer (some ⟨p, 0, none⟩), kS s] W fun e w' => ReadP W (readM L s) e w') := fun W s hb hs => by rw [← HLM.out]; exact dRead_any (h1.on hb) (hG.kept hb) s hs
  have R2 : Hid (∀ W s, Below w.heap.size w W → s.length ≤ 4000 → Calls Tryz.prog 34 #[.pointer (some ⟨q, 0, none⟩), kS s] W fun e w' => ReadP W (readM L s) e w') := fun W s hb hs => by rw [← HLM.out, he]; exact dRead_any (h2.on hb) (hG.kept hb) s hs
  have hln : (pathsL L).length ≤ 100000 := by
    unfold pathsL; rw [List.length_map, ← HLM.out]
    obtain ⟨m1, m2, sv, vs, h⟩ := h1
    exact h.tr1.len
  obtain ⟨n, HN⟩ : ∃ n, Hid ((pathsL L).length = n) := ⟨_, rfl⟩
  rw [HN.out] at hln
  obtain ⟨u, HU⟩ : ∃ u, Hid (usedL L = u) := ⟨_, rfl⟩
  rw [HU.out] at U1 U2
  have B0 : Hid (Below w.heap.size w w) := Below.refl _ _
  clear h1 h2 hG he
  go_enter Tryz.func40, Tryz.ntmps40
  go_wp2_with fail
  refine (P1.out _ B0.out).mono ?_; rintro e1 w1 ⟨A1, c1, g1, rfl, hn1, hb1⟩
  have N1 := hid hn1
  have B1 : Hid (Below w.heap.size w w1) := hb1
  rw [HN.out]
  clear hn1 hb1
  go_wp2_with fail
  refine (P2.out _ B1.out).mono ?_; rintro e2 w2 ⟨A2, c2, g2, rfl, hn2, hb2⟩
  have N2 := hid hn2
  have N1' := hid (N1.out.on hb2)
  have B2 : Hid (Below w.heap.size w w2) := B1.out.trans (hb2.mono B1.out.size)
  rw [HN.out]
  clear hn2 hb2 N1
  go_wp2_with fail
  refine (U1.out _ B2.out).mono ?_; rintro e3 w3 ⟨rfl, rfl⟩
  go_wp2_with fail
  refine (U2.out _ B2.out).mono ?_; rintro e4 w4 ⟨rfl, rfl⟩
  go_wp2
  go_loopw [7] (fun v7 wr => ∃ k : Nat, v7 = .int .i64 (k : Int) ∧ k ≤ n ∧ Hid (Below w2.heap.size w2 wr)) (fun v7 _ => n - (intOf v7).toNat)
  case atStart => exact ⟨0, rfl, by omega, Below.refl _ _⟩
  case round =>
    obtain ⟨k, rfl, hk, J1⟩ := hrel
    by_cases hlt : k < n
    · have hkl : k < (pathsL L).length := by rw [HN.out]; exact hlt
      obtain ⟨nd, hnd, hrd, hs⟩ := path_at HW.out k hkl
      have n1 := N1'.out.on J1.out
      have n2 := N2.out.on J1.out
      have a1 := n1.ad (by omega)
      have a2 := n2.ad (by omega)
      subst a1
      subst a2
      have c1 := n1.cell k hkl
      have c2 := n2.cell k hkl
      have hg1 := n1.low (by omega)
      have hg2 := n2.low (by omega)
      obtain ⟨x, hx⟩ : ∃ x, x = (pathsL L)[k] := ⟨_, rfl⟩
      rw [← hx] at hnd hrd hs c1 c2
      obtain ⟨kd, d, t, tm⟩ := nd
      have BW : Hid (Below w.heap.size w wr) := B2.out.trans (J1.out.mono B2.out.size)
      have CR1 := hid (R1.out wr x BW.out hs)
      have CR2 : Hid (∀ W, Below w.heap.size w W → Calls Tryz.prog 34 #[.pointer (some ⟨q, 0, none⟩), kS x] W fun e w' => ReadP W (readM L x) e w') := fun W hb => R2.out W x hb hs
      rw [hrd] at CR1 CR2
      have hlt' : (k : Int) < (n : Int) := by omega
      have h0 : (0 : Int) ≤ (k : Int) := by omega
      have w1 : IntKind.i64.wrap ((k : Int) + 1) = (k : Int) + 1 := i64in _ (by omega) (by omega)
      have HC := hid (And.intro c1 c2)
      have HGG := hid (And.intro hg1 hg2)
      clear n1 n2 hnd hrd hs hx hg1 hg2 hkl
      go_wp2_with fail
      refine CR1.out.mono ?_; rintro e5 w5 ⟨rfl, hb5⟩
      have Y1 : Hid (Below wr.heap.size wr (w5.alloc (.cells (ndA kd d t tm) 64))) := hb5.alloc hb5.size _
      have X1 : Hid (Has (w5.alloc (.cells (ndA kd d t tm) 64)) w5.heap.size 64 (ndA kd d t tm)) := Has.fresh _ _ _
      have k2 : (w5.alloc (.cells (ndA kd d t tm) 64)).cell? ⟨g1, k, none⟩ = some (kS x) := (Y1.out.cell (p := ⟨g1, k, none⟩) HGG.out.1).trans HC.out.1
      have HB5 := hid hb5
      clear hb5 c1 c2
      simp only [nodeV]
      go_wp2_with fail
      refine (CR2.out _ (BW.out.trans (Y1.out.mono BW.out.size))).mono ?_; rintro e6 w6 ⟨rfl, hb6⟩
      have Y2 : Hid (Below wr.heap.size wr (w6.alloc (.cells (ndA kd d t tm) 64))) := Y1.out.trans ((hb6.alloc hb6.size _).mono Y1.out.size)
      have X2 : Hid (TwoN g1 g2 k w5.heap.size w6.heap.size x (ndA kd d t tm) (w6.alloc (.cells (ndA kd d t tm) 64)).drew) :=
        ⟨(Y2.out.cell (p := ⟨g1, k, none⟩) HGG.out.1).trans HC.out.1, (Y2.out.cell (p := ⟨g2, k, none⟩) HGG.out.2).trans HC.out.2, X1.out.kept (hb6.alloc hb6.size _).drew X1.out.inside, Has.fresh w6 _ _⟩
      clear hb6 k2
      simp only [nodeV]
      go_wp2
      refine wp_region_noPanic ?_
      refine wp_region_held_drew (S := TwoN g1 g2 k w5.heap.size w6.heap.size x (ndA kd d t tm)) (by kernel_rfl) (X2.out) (fun hS => ?_)
      refine wpAnyH_take (i := 0) (v := ?_) (by simp only [List.getElem?_toArray, List.getElem?_cons_zero]; rfl) (by kernel_rfl) (by kernel_rfl) (by kernel_rfl) (fun _ _ _ h => h) (Or.inl ⟨by rfl, ?_⟩) (by assumption) ?_
      rotate_left 1
      · intro w hSw
        have c1 := hSw.c1
        have c2 := hSw.c2
        go_simp
        with_reducible rfl
      simp only [Act.put, List.setIfInBounds_toArray, List.set_cons_zero, List.set_cons_succ]
      refine wpAnyH_take (i := 1) (v := ?_) (by simp only [List.getElem?_toArray, List.getElem?_cons_zero, List.getElem?_cons_succ]; rfl) (by kernel_rfl) (by kernel_rfl) (by kernel_rfl) (fun _ _ _ h => h) (Or.inl ⟨by rfl, ?_⟩) (by assumption) ?_
      rotate_left 1
      · intro w hSw
        have c1 := hSw.c1
        have c2 := hSw.c2
        go_simp
        with_reducible rfl
      simp only [Act.put, List.setIfInBounds_toArray, List.set_cons_zero, List.set_cons_succ]
      refine wpAnyH_take (i := 2) (v := ?_) (by simp only [List.getElem?_toArray, List.getElem?_cons_zero, List.getElem?_cons_succ]; rfl) (by kernel_rfl) (by kernel_rfl) (by kernel_rfl) (fun _ _ _ h => h) (Or.inl ⟨by rfl, ?_⟩) (by assumption) ?_
      rotate_left 1
      · intro w hSw
        have c1 := hSw.c1
        have c2 := hSw.c2
        go_simp
        with_reducible rfl
      simp only [Act.put, List.setIfInBounds_toArray, List.set_cons_zero, List.set_cons_succ]
      refine wpAnyH_take (i := 3) (v := ?_) (by simp only [List.getElem?_toArray, List.getElem?_cons_zero, List.getElem?_cons_succ]; rfl) (by kernel_rfl) (by kernel_rfl) (by kernel_rfl) (fun _ _ _ h => h) (Or.inl ⟨by rfl, ?_⟩) (by assumption) ?_
      rotate_left 1
      · intro w hSw
        have c1 := hSw.c1
        have c2 := hSw.c2
        go_simp
        with_reducible rfl
      simp only [Act.put, List.setIfInBounds_toArray, List.set_cons_zero, List.set_cons_succ]
      refine wpAnyH_take (i := 4) (v := ?_) (by simp only [List.getElem?_toArray, List.getElem?_cons_zero, List.getElem?_cons_succ]; rfl) (by kernel_rfl) (by kernel_rfl) (by kernel_rfl) (fun _ _ _ h => h) (Or.inl ⟨by rfl, ?_⟩) (by assumption) ?_
      rotate_left 1
      · intro w hSw
        have c1 := hSw.c1
        have c2 := hSw.c2
        go_simp
        with_reducible rfl
      simp only [Act.put, List.setIfInBounds_toArray, List.set_cons_zero, List.set_cons_succ]
      refine wpAnyH_take (i := 5) (v := ?_) (by simp only [List.getElem?_toArray, List.getElem?_cons_zero, List.getElem?_cons_succ]; rfl) (by kernel_rfl) (by kernel_rfl) (by kernel_rfl) (fun _ _ _ h => h) (Or.inl ⟨by rfl, ?_⟩) (by assumption) ?_
      rotate_left 1
      · intro w hSw
        have c1 := hSw.c1
        have c2 := hSw.c2
        go_simp
        with_reducible rfl
      simp only [Act.put, List.setIfInBounds_toArray, List.set_cons_zero, List.set_cons_succ]
      refine wpAnyH_take (i := 6) (v := ?_) (by simp only [List.getElem?_toArray, List.getElem?_cons_zero, List.getElem?_cons_succ]; rfl) (by kernel_rfl) (by kernel_rfl) (by kernel_rfl) (fun _ _ _ h => h) (Or.inl ⟨by rfl, ?_⟩) (by assumption) ?_
      rotate_left 1
      · intro w hSw
        have c1 := hSw.c1
        have c2 := hSw.c2
        go_simp
        with_reducible rfl
      simp only [Act.put, List.setIfInBounds_toArray, List.set_cons_zero, List.set_cons_succ]
      refine wpAnyH_take (i := 7) (v := ?_) (by simp only [List.getElem?_toArray, List.getElem?_cons_zero, List.getElem?_cons_succ]; rfl) (by kernel_rfl) (by kernel_rfl) (by kernel_rfl) (fun _ _ _ h => h) (Or.inl ⟨by rfl, ?_⟩) (by assumption) ?_
      rotate_left 1
      · intro w hSw
        have c1 := hSw.c1
        have c2 := hSw.c2
        go_simp
        with_reducible rfl
      simp only [Act.put, List.setIfInBounds_toArray, List.set_cons_zero, List.set_cons_succ]
      refine wpAnyH_take (i := 8) (v := ?_) (by simp only [List.getElem?_toArray, List.getElem?_cons_zero, List.getElem?_cons_succ]; rfl) (by kernel_rfl) (by kernel_rfl) (by kernel_rfl) (fun _ _ _ h => h) (Or.inl ⟨by rfl, ?_⟩) (by assumption) ?_
      rotate_left 1
      · intro w hSw
        have c1 := hSw.c1
        have c2 := hSw.c2
        go_simp
        with_reducible rfl
      simp only [Act.put, List.setIfInBounds_toArray, List.set_cons_zero, List.set_cons_succ]
      refine wpAnyH_take (i := 9) (v := ?_) (by simp only [List.getElem?_toArray, List.getElem?_cons_zero, List.getElem?_cons_succ]; rfl) (by kernel_rfl) (by kernel_rfl) (by kernel_rfl) (fun _ _ _ h => h) (Or.inl ⟨by rfl, ?_⟩) (by assumption) ?_
      rotate_left 1
      · intro w hSw
        have c1 := hSw.c1
        have c2 := hSw.c2
        go_simp
        with_reducible rfl
      simp only [Act.put, List.setIfInBounds_toArray, List.set_cons_zero, List.set_cons_succ]
      refine' wpAnyH_take (i := 10) (v := _) (by simp only [List.getElem?_toArray, List.getElem?_cons_zero, List.getElem?_cons_succ]; rfl) (by kernel_rfl) (by kernel_rfl) (by kernel_rfl) (fun _ _ _ h => h) (yields_loadA (by rfl) 64 (.tmp 8) rfl w5.heap.size 0 rfl (ndA kd d t tm) (fun w hSw => load_nodeC hSw.h1)) (by assumption) ?_
      simp only [Act.put, List.setIfInBounds_toArray, List.set_cons_zero, List.set_cons_succ]
      refine' wpAnyH_take (i := 11) (v := _) (by simp only [List.getElem?_toArray, List.getElem?_cons_zero, List.getElem?_cons_succ]; rfl) (by kernel_rfl) (by kernel_rfl) (by kernel_rfl) (fun _ _ _ h => h) (yields_loadA (by rfl) 64 (.tmp 10) rfl w6.heap.size 0 rfl (ndA kd d t tm) (fun w hSw => load_nodeC hSw.h2)) (by assumption) ?_
      simp only [Act.put, List.setIfInBounds_toArray, List.set_cons_zero, List.set_cons_succ]
      refine' wpAnyH_take (i := 12) (v := _) (by simp only [List.getElem?_toArray, List.getElem?_cons_zero, List.getElem?_cons_succ]; rfl) (by kernel_rfl) (by kernel_rfl) (by kernel_rfl) (fun _ _ _ h => h) (yields_neq_node (by rfl) (.tmp 62) (.tmp 63) rfl ⟨kd, d, t, tm⟩ ⟨kd, d, t, tm⟩ rfl rfl false (by simp)) (by assumption) ?_
      simp only [Act.put, List.setIfInBounds_toArray, List.set_cons_zero, List.set_cons_succ]
      refine wpAnyH_take (i := 13) (v := ?_) (by simp only [List.getElem?_toArray, List.getElem?_cons_zero, List.getElem?_cons_succ]; rfl) (by kernel_rfl) (by kernel_rfl) (by kernel_rfl) (fun _ _ _ h => h) (Or.inl ⟨by rfl, ?_⟩) (by assumption) ?_
      rotate_left 1
      · intro w hSw
        have c1 := hSw.c1
        have c2 := hSw.c2
        go_simp
        with_reducible rfl
      simp only [Act.put, List.setIfInBounds_toArray, List.set_cons_zero, List.set_cons_succ]
      refine wpAnyH_done (by kernel_rfl) ?_ _
      refine NoPanic.normal ?_
      go_wp2
      go_roundw
      case rel => exact ⟨k + 1, by go_num, by omega, J1.out.trans (Y2.out.drew.mono J1.out.size)⟩
      case measure => simp [intOf]; omega
    · go_wp2
      go_ret
      exact ⟨rfl, B2.out.trans (J1.out.mono B2.out.size)⟩
end Go.Proofs.YtlbeemlnbpchgaaGreat
/- The frame of a law of the disk: acts and picks that come in, a law that has answered true. No conditions. -/
namespace Go.Proofs.YtlbeemlnbpchgaaGreat
open Go.ChangeShapes Go.WideShapes Go.ChangeAt Go.ChangeMaps Go.WideElems Go.RowKit Go.Deep
theorem ownK : ownKnob Tryz.prog.godebug = none := by kernel_rfl
theorem laidOut : laidOutB Tryz.prog = true := by kernel_rfl
/-- A law that has answered true, its arguments and all old memory as they were. -/
theorem post_law {H : Type} {enc : TypeId × Value → H} {f : Func} {s : ChangeSpec} {W W' : World} {args : Array Value} {ds : List (DataW H)} {before pa : List MemPlace} (hv : s.vars = []) (hft : f.resultTypes = #[4])
    (hW : DataW.Whole enc Tryz.prog f.params.toList s.vars false W args.toList ds [] before) (hs : s.fn H (ds ++ []) = { results := [.lit (.bool true)], args := ds }) (hb : Below W.heap.size W W')
    (hargs : DataW.TrodAll enc Tryz.prog W' 0 (fun b => decide (b < W.heap.size)) true f.params.toList args.toList ds pa) :
    s.post enc Tryz.prog f false true false false W args (.bool true) W' := by
  refine ⟨ds, [], before, [], pa, [], hW, ?_, ?_, ?_, hb.frame _, fun h => by cases h⟩
  · rw [hs, hft]; exact trodAll_mk1 (shut_bool Tryz.underlying4 true)
  · rw [hs]; exact hargs
  · rw [hs, hv]; exact rfl
def bytesOf (zs : List Int) (L : Nat) : List UInt8 := (zs.take L).map fun z => UInt8.ofNat z.toNat
theorem spot_none {w : World} {a : Addr} {v : Value} (h : w.cell? (a.add 0) = some v) : a = ⟨a.block, a.off, none⟩ := by
  have e : a.add 0 = a := rfl
  rw [e] at h
  obtain ⟨b, o, s⟩ := a
  cases s with
  | none => rfl
  | some x =>
    simp only [World.cell?] at h
    split at h
    · simp at h
    · cases h
theorem int_num {z : Int} (h : (Lit.int .u8 z).wf = true) : z = b8 (UInt8.ofNat z.toNat) := by
  simp only [Lit.wf, IntKind.min, IntKind.max, IntKind.signed, IntKind.bits, Bool.and_eq_true] at h
  simp at h
  rw [b8_ofNat]
  have : ((z.toNat % 256 : Nat) : Int) = z := by omega
  rw [this]
theorem add_add (a : Addr) (i j : Nat) : (a.add i).add j = a.add (i + j) := by
  obtain ⟨b, o, s⟩ := a
  unfold Addr.add
  by_cases hj0 : j = 0
  · subst hj0; simp
  · by_cases hi0 : i = 0
    · simp [hj0, hi0]
    · simp [hj0, hi0, Nat.add_assoc]
theorem list_of {α : Type} (z : α) (n : Nat) (R : Nat → α → Prop) (h : ∀ i, i < n → ∃ x, R i x) : ∃ xs : List α, xs.length = n ∧ ∀ i, i < n → R i (xs.getD i z) := by
  refine ⟨(List.range n).map fun i => if h' : i < n then Classical.choose (h i h') else z, by simp, fun i hi => ?_⟩
  have e : ((List.range n).map fun i => if h' : i < n then Classical.choose (h i h') else z).getD i z = Classical.choose (h i hi) := by
    simp [List.getD, hi]
  rw [e]; exact Classical.choose_spec (h i hi)
theorem int_in {k : IntKind} {n : Int} (h : (Lit.int k n).wf = true) : k.min ≤ n ∧ n ≤ k.max := by
  simpa [Lit.wf] using h
theorem weights_in {H : Type} {P : Program} {e : TypeId} : ∀ {l : List (DataW H)} {d : DataW H}, d ∈ l → ∀ n ∈ d.weights P e, n ∈ DataW.weightsAll P e l
  | x :: r, d, h, n, hn => by
    simp only [DataW.weightsAll, List.mem_append]
    rcases List.mem_cons.1 h with rfl | h
    · exact .inl hn
    · exact .inr (weights_in h n hn)
theorem reach_is : reachBytes = 140737488351232 := rfl
section
variable {H : Type} {enc : TypeId × Value → H} {w : World} {base : Nat} {spare : Nat → Bool} {held : Bool}
/-- Picks that come in. -/
theorem picks_of {fuel : Nat} {c : Value} {y : DataW H × List MemPlace} (h : DataW.trod enc Tryz.prog w base spare held fuel 31 [c] = some y) :
    ∃ (A : Option Addr) (cap : Nat) (ks : List UInt8) (g off : Nat), c = .slice A ks.length cap ∧ Pk w A ks g off ∧ ks.length ≤ maxLen := by
  have c5 : Tryz.prog.cellsOf 5 = 1 := by kernel_rfl
  rcases open_ints Tryz.underlying31 Tryz.underlying5 c5 h with ⟨h1, _⟩ | ⟨a, len, cap, zs, h1, _, hl, hm, hz, _, hc, hw⟩
  · simp only [List.cons.injEq, and_true] at h1
    exact ⟨none, 0, [], 0, 0, h1, ⟨fun k => absurd k (by simp), fun i k => absurd k (by simp), fun k => absurd k (by simp)⟩, by simp⟩
  · simp only [List.cons.injEq, and_true] at h1
    have hlz : len ≤ zs.length := by rw [hz]; split <;> omega
    have hlen : (bytesOf zs len).length = len := by simp [bytesOf]; omega
    have hat : ∀ j, j < len → zs.getD j 0 = b8 ((bytesOf zs len).getD j 0) := by
      intro j hj
      have hj2 : j < zs.length := by omega
      simp only [bytesOf, List.getD, List.getElem?_map, List.getElem?_take, if_pos hj, List.getElem?_eq_getElem hj2, Option.map_some, Option.getD_some]
      exact int_num (hw _ (List.getElem_mem hj2))
    rcases Nat.eq_zero_or_pos len with h0 | h0
    · exact ⟨some a, cap, bytesOf zs len, 0, 0, by rw [hlen]; exact h1, ⟨fun k => absurd k (by rw [hlen]; omega), fun i k => absurd k (by rw [hlen]; omega), fun k => absurd k (by rw [hlen]; omega)⟩, by rw [hlen]; exact Nat.le_trans hl hm⟩
    · have k1 := hc 0 (by omega)
      have ha := spot_none k1
      have hlt : a.block < w.heap.size := World.block_lt_of_cell? w (a.add 0) k1
      refine ⟨some a, cap, bytesOf zs len, a.block, a.off, by rw [hlen]; exact h1, ⟨fun _ => by rw [← ha], fun i hi => ?_, fun _ => hlt⟩, by rw [hlen]; exact Nat.le_trans hl hm⟩
      rw [hlen] at hi
      have e : a.add i = ⟨a.block, a.off + i, none⟩ := by
        conv => lhs; rw [ha]
        rw [add_at]
      rw [← hat i hi, ← hc i (by omega), e]
set_option maxRecDepth 100000 in
theorem open_picks {r : Reach} {b0 : Nat} {v : Value} {d : DataW H} {p : List MemPlace} (hv : Value.okWide Tryz.prog w r b0 31 v) (h : DataW.Trod enc Tryz.prog w base spare held 31 v d p) :
    ∃ (A : Option Addr) (cap : Nat) (ks : List UInt8) (g off : Nat), v = .slice A ks.length cap ∧ Pk w A ks g off ∧ ks.length ≤ maxLen := by
  obtain ⟨A, n, cap, rfl⟩ := okWide_slice Tryz.underlying31 hv
  obtain ⟨fuel, hf⟩ := h
  exact picks_of hf
set_option maxRecDepth 100000 in
theorem open_acts {r : Reach} {b0 : Nat} {v : Value} {d : DataW H} {p : List MemPlace} (hv : Value.okWide Tryz.prog w r b0 22 v) (h : DataW.Trod enc Tryz.prog w base spare held 22 v d p) (hsz : ∀ n ∈ d.weights Tryz.prog 22, n ≤ reachBytes) :
    ∃ (A : Option Addr) (n cap bb off : Nat) (xs : List ActT), v = .slice A n cap ∧ ActsIn w A n bb off xs ∧ n ≤ maxLen := by
  have hC : Tryz.prog.cellsOf 33 = 7 := by kernel_rfl
  have hs1 : Tryz.prog.cellsOf 3 = 1 := by kernel_rfl
  have hs2 : Tryz.prog.cellsOf 2 = 1 := by kernel_rfl
  have hs3 : Tryz.prog.cellsOf 9 = 1 := by kernel_rfl
  have hs4 : Tryz.prog.cellsOf 31 = 1 := by kernel_rfl
  obtain ⟨A, n, cap, rfl⟩ := okWide_slice Tryz.underlying22 hv
  obtain ⟨fuel, hf⟩ := h
  rcases open_slice Tryz.underlying22 hf with ⟨hcs, _⟩ | ⟨a, len, cap', m, fu, D, Pl, hcs, hb, hl, hm, hmm, hdx, hx⟩
  · have e : [Value.slice A n cap] = [Value.slice none 0 0] := hcs
    simp only [List.cons.injEq, Value.slice.injEq, and_true] at e
    obtain ⟨rfl, rfl, rfl⟩ := e
    exact ⟨none, 0, 0, 0, 0, [], rfl, ⟨rfl, fun h => absurd h (by omega), fun i h => absurd h (by omega), fun x h => (by cases h), fun x h => (by cases h)⟩, Nat.zero_le _⟩
  · have e : [Value.slice A n cap] = [Value.slice (some a) len cap'] := hcs
    simp only [List.cons.injEq, Value.slice.injEq, and_true] at e
    obtain ⟨rfl, rfl, rfl⟩ := e
    simp only [Prod.mk.injEq] at hdx
    obtain ⟨rfl, _⟩ := hdx
    have hl' : n ≤ cap := hl
    have hle : n ≤ m := by rw [hmm]; split <;> omega
    have key : ∀ i, i < n → ∃ x : ActT, w.cell? (a.add (i * 7)) = some (.int .i64 x.dO) ∧ w.cell? (a.add (i * 7 + 1)) = some (kS x.p) ∧ w.cell? (a.add (i * 7 + 2)) = some (kS x.q) ∧ w.cell? (a.add (i * 7 + 3)) = some (kS x.text) ∧ w.cell? (a.add (i * 7 + 4)) = some (.int .i64 x.long) ∧
        w.cell? (a.add (i * 7 + 5)) = some (.int .i64 x.time) ∧ w.cell? (a.add (i * 7 + 6)) = some (.slice x.pA x.ks.length x.pc) ∧ Pk w x.pA x.ks x.pg x.po ∧ ActOk x := by
      intro i hi
      obtain ⟨cs', h1, h2⟩ := hx i (by omega)
      have hwt : ∀ z ∈ (D i).weights Tryz.prog 33, z ≤ reachBytes := fun z hz => hsz z (by
        simp only [DataW.weights, Tryz.underlying22, List.mem_cons, List.mem_append]
        exact .inr (.inl (weights_in (List.mem_map.2 ⟨i, List.mem_range.2 hi, rfl⟩) z hz)))
      rw [hC] at h1
      obtain ⟨_, hlen, hcc⟩ := World.cells?_some h1
      match cs', hlen with
      | [c0, c1, c2, c3, c4, c5, c6], _ =>
        have k0 := hcc 0 (by omega)
        have k1 := hcc 1 (by omega)
        have k2 := hcc 2 (by omega)
        have k3 := hcc 3 (by omega)
        have k4 := hcc 4 (by omega)
        have k5 := hcc 5 (by omega)
        have k6 := hcc 6 (by omega)
        rw [add_add] at k0 k1 k2 k3 k4 k5 k6
        obtain ⟨xs, m', _, hxe, _, hlen, hg⟩ := DataW.trod_struct Tryz.underlying33 h2
        match xs, hlen with
        | [y0, y1, y2, y3, y4, y5, y6], _ =>
          have g0 : DataW.trod enc Tryz.prog w base spare held m' 3 [c0] = some y0 := by have := hg 0 _ rfl; simpa [hs1] using this
          have g1 : DataW.trod enc Tryz.prog w base spare held m' 9 [c1] = some y1 := by have := hg 1 _ rfl; simpa [hs3] using this
          have g2 : DataW.trod enc Tryz.prog w base spare held m' 9 [c2] = some y2 := by have := hg 2 _ rfl; simpa [hs3] using this
          have g3 : DataW.trod enc Tryz.prog w base spare held m' 9 [c3] = some y3 := by have := hg 3 _ rfl; simpa [hs3] using this
          have g4 : DataW.trod enc Tryz.prog w base spare held m' 3 [c4] = some y4 := by have := hg 4 _ rfl; simpa [hs1] using this
          have g5 : DataW.trod enc Tryz.prog w base spare held m' 2 [c5] = some y5 := by have := hg 5 _ rfl; simpa [hs2] using this
          have g6 : DataW.trod enc Tryz.prog w base spare held m' 31 [c6] = some y6 := by have := hg 6 _ rfl; simpa [hs4] using this
          obtain ⟨n0, i0, _, q0⟩ := DataW.trod_int Tryz.underlying3 g0
          obtain ⟨s1, i1, r1, _⟩ := DataW.trod_string Tryz.underlying9 g1
          obtain ⟨s2, i2, r2, _⟩ := DataW.trod_string Tryz.underlying9 g2
          obtain ⟨s3, i3, r3, _⟩ := DataW.trod_string Tryz.underlying9 g3
          obtain ⟨n4, i4, _, q4⟩ := DataW.trod_int Tryz.underlying3 g4
          obtain ⟨n5, i5, _, q5⟩ := DataW.trod_int Tryz.underlying2 g5
          obtain ⟨A6, cap6, ks, pg, po, i6, hpk, hkl⟩ := picks_of g6
          simp only [List.cons.injEq, and_true] at i0 i1 i2 i3 i4 i5
          subst i0 i1 i2 i3 i4 i5 i6
          have q0 := int_in q0
          have q4 := int_in q4
          simp only [IntKind.min, IntKind.max, IntKind.signed, IntKind.bits] at q0 q4
          simp at q0 q4
          simp only [Prod.mk.injEq] at hxe
          have hD := hxe.1
          rw [hD] at hwt
          simp only [DataW.weights, Tryz.underlying33] at hwt
          have z1 : s1.data.toList.length ≤ 140737488351232 := by
            have := hwt s1.data.toList.length (by rw [r1]; simp [DataW.weightsEach, DataW.weights])
            rwa [reach_is] at this
          have z2 : s2.data.toList.length ≤ 140737488351232 := by
            have := hwt s2.data.toList.length (by rw [r2]; simp [DataW.weightsEach, DataW.weights])
            rwa [reach_is] at this
          have z3 : s3.data.toList.length ≤ 140737488351232 := by
            have := hwt s3.data.toList.length (by rw [r3]; simp [DataW.weightsEach, DataW.weights])
            rwa [reach_is] at this
          refine ⟨⟨n0, tl s1, tl s2, tl s3, n4, n5, A6, cap6, ks, pg, po⟩, k0, ?_, ?_, ?_, k4, k5, k6, hpk, ⟨q0.1, by show n0 ≤ _; omega, z1, z2, z3, q4.1, by show n4 ≤ _; omega, hkl⟩⟩
          · show _ = some (Value.string (ba (tl s1))); rw [ba_tl]; exact k1
          · show _ = some (Value.string (ba (tl s2))); rw [ba_tl]; exact k2
          · show _ = some (Value.string (ba (tl s3))); rw [ba_tl]; exact k3
    rcases Nat.eq_zero_or_pos n with h0 | h0
    · subst h0
      exact ⟨some a, 0, cap, 0, 0, [], rfl, ⟨rfl, fun h => absurd h (by omega), fun i h => absurd h (by omega), fun x h => (by cases h), fun x h => (by cases h)⟩, Nat.zero_le _⟩
    · obtain ⟨x0, k0, _⟩ := key 0 h0
      rw [Nat.zero_mul] at k0
      have ha := spot_none k0
      have hlt : a.block < w.heap.size := World.block_lt_of_cell? w (a.add 0) k0
      obtain ⟨xs, hl, hxs⟩ := list_of act0 n _ key
      have e0 : ∀ k, a.add k = ⟨a.block, a.off + k, none⟩ := fun k => by
        conv => lhs; rw [ha]
        rw [add_at]
      have hmem : ∀ x ∈ xs, ∃ i, i < n ∧ x = xs.getD i act0 := fun x hx => by
        obtain ⟨i, hi, rfl⟩ := List.getElem_of_mem hx
        exact ⟨i, by omega, by rw [List.getD, List.getElem?_eq_getElem hi]; rfl⟩
      refine ⟨some a, n, cap, a.block, a.off, xs, rfl, ⟨hl, fun _ => ⟨by rw [← ha], hlt⟩, fun i hi => ?_, fun x hx => ?_, fun x hx hk => ?_⟩, Nat.le_trans hl' hm⟩
      · obtain ⟨k0, k1, k2, k3, k4, k5, k6, hp, _⟩ := hxs i hi
        rw [e0] at k0 k1 k2 k3 k4 k5 k6
        exact ⟨k0, k1, k2, k3, k4, k5, k6, hp⟩
      · obtain ⟨i, hi, rfl⟩ := hmem x hx
        exact (hxs i hi).2.2.2.2.2.2.2.2
      · obtain ⟨i, hi, rfl⟩ := hmem x hx
        exact (hxs i hi).2.2.2.2.2.2.2.1.inside hk
end
end Go.Proofs.YtlbeemlnbpchgaaGreat
