/- Several texts in one. Conditions: those said at each. -/
import Derived.Test.YtabidnlbgdecbaaGreatDoorKa00
import Derived.Test.YtabidnlbgdecbaaGreatDoorKa05
set_option linter.unusedSimpArgs false
set_option linter.unusedVariables false
set_option maxRecDepth 100000
namespace Go.Proofs.YtabidnlbgdecbaaGreatDoor
open Go.RowKit Go.Maps
def DW (w0 : World) (av : Nat → Prop) (w : World) (p : Nat) (M : Mo) : Prop :=
 ∃ own, Dsk own w p M ∧ (∀ g, own g → w0.heap.size ≤ g ∧ ¬ av g) ∧ Below w0.heap.size w0 w ∧ ∀ g, av g → g < w.heap.size
def KA (av : Nat → Prop) (w w' : World) : Prop := w.heap.size ≤ w'.heap.size ∧ ∀ g, av g → w'.heap[g]? = w.heap[g]?
section
variable {w0 w w' : World} {av : Nat → Prop} {p : Nat} {M M' : Mo}
theorem KA.trans {a b c : World} (h : KA av a b) (k : KA av b c) : KA av a c := ⟨Nat.le_trans h.1 k.1, fun g hg => (k.2 g hg).trans (h.2 g hg)⟩
theorem KA.mono {av' : Nat → Prop} {a b : World} (h : KA av a b) (ha : ∀ g, av' g → av g) : KA av' a b := ⟨h.1, fun g hg => h.2 g (ha g hg)⟩
theorem DW.bl (h : DW w0 av w p M) : Below w0.heap.size w0 w := by obtain ⟨_, _, _, h, _⟩ := h; exact h
theorem DW.gd (h : DW w0 av w p M) (hG : Gd w0) : Gd w := hG.kept h.bl
theorem DW.avl (h : DW w0 av w p M) : ∀ g, av g → g < w.heap.size := by obtain ⟨_, _, _, _, h⟩ := h; exact h
theorem DW.on (h : DW w0 av w p M) (hb : Below w.heap.size w w') : DW w0 av w' p M := by
 obtain ⟨own, h1, h2, h3, h4⟩ := h
 exact ⟨own, h1.on hb, h2, h3.trans (hb.mono h3.size), fun g hg => Nat.lt_of_lt_of_le (h4 g hg) hb.size⟩
theorem DW.ka (h : DW w0 av w p M) (hb : Below w.heap.size w w') : KA av w w' := ⟨hb.size, fun g hg => hb.block g (h.avl g hg)⟩
theorem DW.more (h : DW w0 av w p M) (hb : Below w.heap.size w w') {av' : Nat → Prop} (ha : ∀ g, av' g → av g ∨ w.heap.size ≤ g ∧ g < w'.heap.size) : DW w0 av' w' p M := by
 obtain ⟨own, h1, h2, h3, h4⟩ := h
 refine ⟨own, h1.on hb, fun g hg => ⟨(h2 g hg).1, fun k => ?_⟩, h3.trans (hb.mono h3.size), fun g hg => ?_⟩
 · rcases ha g k with k | k
   · exact (h2 g hg).2 k
   · have := h1.low g hg; omega
 · rcases ha g hg with k | k
   · exact Nat.lt_of_lt_of_le (h4 g k) hb.size
   · exact k.2
theorem DW.less (h : DW w0 av w p M) {av' : Nat → Prop} (ha : ∀ g, av' g → av g) : DW w0 av' w p M := by
 obtain ⟨own, h1, h2, h3, h4⟩ := h
 exact ⟨own, h1, fun g hg => ⟨(h2 g hg).1, fun k => (h2 g hg).2 (ha g k)⟩, h3, fun g hg => h4 g (ha g hg)⟩
theorem DW.post {own : Nat → Prop} (h1 : Dsk own w p M) (h2 : ∀ g, own g → w0.heap.size ≤ g ∧ ¬ av g) (h3 : Below w0.heap.size w0 w) (h4 : ∀ g, av g → g < w.heap.size) (hp : DPost own w p M' w') : DW w0 av w' p M' ∧ KA av w w' := by
 obtain ⟨own', k1, k2, k3⟩ := hp
 refine ⟨⟨own', k1, fun g hg => ?_, h3.trans (k2.below (fun g hg => (h2 g hg).1) h3.size), fun g hg => Nat.lt_of_lt_of_le (h4 g hg) k2.size⟩, k2.size, fun g hg => k2.block g (h4 g hg) (fun k => (h2 g k).2 hg)⟩
 rcases k3 g hg with k | k
 · exact h2 g k
 · exact ⟨Nat.le_trans h3.size k, fun e => by have := h4 g e; omega⟩
theorem DW.calls {f : Nat} {args : Array Value} {r : Ending} (h : DW w0 av w p M) (hc : ∀ own, Dsk own w p M → Calls Tryz.prog f args w fun e w' => e = r ∧ DPost own w p M' w') :
 Calls Tryz.prog f args w fun e w' => e = r ∧ DW w0 av w' p M' ∧ KA av w w' := by
 obtain ⟨own, h1, h2, h3, h4⟩ := h
 exact (hc own h1).mono fun e w' ⟨e1, e2⟩ => ⟨e1, DW.post h1 h2 h3 h4 e2⟩
theorem DW.len (h : DW w0 av w p M) : M.now.length ≤ 100000 := by
 obtain ⟨own, ⟨m1, m2, sv, vs, h1⟩, _⟩ := h
 exact h1.tr1.len
theorem DW.good (h : DW w0 av w p M) : Good M := by obtain ⟨own, h1, _⟩ := h; exact h1.good
end
def hasM (L : Tr) (s : By) : Bool := decide ((readM L s).2 = 0)
section
variable {w0 w : World} {av : Nat → Prop} {p : Nat} {M : Mo}
set_option maxHeartbeats 4000000 in
theorem ahas_any (h : DW w0 av w p M) (hG : Gd w0) (s : By) (hs : s.length ≤ 4000) :
 Calls Tryz.prog 46 #[.pointer (some ⟨p, 0, none⟩), kS s] w fun e w' => e = .returned (.bool (hasM M.now s)) ∧ Below w.heap.size w w' := by
 have hGw := h.gd hG
 obtain ⟨own, h1, _⟩ := h
 have C := dRead_any h1 hGw s hs
 unfold ReadP at C
 obtain ⟨⟨⟨k, d, x, t⟩, c⟩, HR⟩ : ∃ r, Hid (readM M.now s = r) := ⟨_, rfl⟩
 have HH : Hid (hasM M.now s = decide (c = 0)) := by show _ = _; unfold hasM; rw [HR.out]
 rw [HR.out] at C
 unfold nodeV at C
 simp only at C
 have C := hid C
 clear h1 hG hGw
 go_enter Tryz.func46, Tryz.ntmps46
 go_wp2_with fail
 refine C.out.mono ?_; rintro e1 w1 ⟨rfl, hb1⟩
 have B1 := hid hb1
 clear hb1
 go_wp2
 go_ret
 refine ⟨by rw [HH.out]; rfl, ?_⟩
 exact B1.out.alloc B1.out.size _
def rootM (M : Mo) (s : By) : Int × Mo := if hasM M.now s then (0, M) else doM M (.mkdir s)
set_option maxHeartbeats 4000000 in
theorem makeRoot_any (h : DW w0 av w p M) (hG : Gd w0) (s : By) (hs : s.length ≤ 4000) (hlen : M.since.length + 1 ≤ 100000) :
 Calls Tryz.prog 44 #[.pointer (some ⟨p, 0, none⟩), kS s] w fun e w' => e = .returned (.int .i64 (rootM M s).1) ∧ DW w0 av w' p (rootM M s).2 ∧ KA av w w' := by
 have C1 := hid (ahas_any h hG s hs)
 have H := hid h
 cases hm : hasM M.now s with
 | true =>
  have HR : Hid (rootM M s = (0, M)) := by show _ = _; unfold rootM; rw [hm]; rfl
  rw [hm] at C1
  clear h hG hm
  go_enter Tryz.func44, Tryz.ntmps44
  go_wp2_with fail
  refine C1.out.mono ?_; rintro e1 w1 ⟨rfl, hb1⟩
  have B1 := hid hb1
  clear hb1
  go_wp2
  go_ret
  rw [HR.out]
  exact ⟨rfl, H.out.on B1.out, H.out.ka B1.out⟩
 | false =>
  have HR : Hid (rootM M s = doM M (.mkdir s)) := by show _ = _; unfold rootM; rw [hm]; rfl
  rw [hm] at C1
  have C2 : Hid (∀ W, Below w.heap.size w W → Calls Tryz.prog 83 #[.pointer (some ⟨p, 0, none⟩), kS s] W fun e w' => e = .returned (.int .i64 (doM M (.mkdir s)).1) ∧ DW w0 av w' p (doM M (.mkdir s)).2 ∧ KA av W w') := fun W hb =>
   (h.on hb).calls fun own ho => dMkdir_any ho ((h.on hb).gd hG) s hs hlen
  rw [HR.out]
  obtain ⟨⟨c, M2⟩, HX⟩ : ∃ r, Hid (doM M (.mkdir s) = r) := ⟨_, rfl⟩
  rw [HX.out] at C2 ⊢
  clear h hG hm HR HX
  go_enter Tryz.func44, Tryz.ntmps44
  go_wp2_with fail
  refine C1.out.mono ?_; rintro e1 w1 ⟨rfl, hb1⟩
  have B1 := hid hb1
  clear hb1
  go_wp2_with fail
  refine (C2.out _ B1.out).mono ?_; rintro e2 w2 ⟨rfl, h2, k2⟩
  have H2 := hid h2
  have K2 := hid ((H.out.ka B1.out).trans k2)
  clear h2 k2
  go_wp2
  go_ret
  exact ⟨rfl, H2.out, K2.out⟩
end
theorem ten10 : (4294967295 : Nat) < 10 ^ (9 + 1) := by decide
theorem ten4 : (10000 : Nat) ≤ 10 ^ (3 + 1) := by decide
def freeF (L : Tr) (root : By) (t : Nat) : Nat → Nat → Option Nat
 | 0, _ => none
 | f + 1, i => if hasM L (root ++ 47 :: nameA t i) then freeF L root t f (i + 1) else some i
def freeM (L : Tr) (root : By) (t : Nat) : Option Nat := freeF L root t 10000 0
def freeV : Nat → Option Nat → Value
 | t, some i => .tuple #[kS (nameA t i), .bool true]
 | _, none => .tuple #[.string ⟨#[]⟩, .bool false]
section
variable {w0 w : World} {av : Nat → Prop} {p : Nat} {M : Mo}
set_option maxHeartbeats 2000000 in
theorem freeName_any (h : DW w0 av w p M) (hG : Gd w0) (root : By) (hr : root.length ≤ 3900) (t : Nat) (ht : t ≤ 4294967295) :
 Calls Tryz.prog 45 #[.pointer (some ⟨p, 0, none⟩), kS root, .int .i64 (t : Int)] w fun e w' => e = .returned (freeV t (freeM M.now root t)) ∧ Below w.heap.size w w' := by
 have C1 : Hid (Calls Tryz.prog 84 #[.int .i64 (t : Int), .int .i64 10] w fun e w' => e = .returned (kS (digs 10 t)) ∧ Below w.heap.size w w') := padded_any t ht 9 (by omega) (Nat.lt_of_le_of_lt ht ten10) w (h.gd hG)
 have C2 : Hid (∀ W, Below w.heap.size w W → ∀ i : Nat, i < 10000 → Calls Tryz.prog 84 #[.int .i64 (i : Int), .int .i64 4] W fun e w' => e = .returned (kS (digs 4 i)) ∧ Below W.heap.size W w') := fun W hb i hi =>
  padded_any i (by omega) 3 (by omega) (Nat.lt_of_lt_of_le hi ten4) W ((h.on hb).gd hG)
 have C3 : Hid (∀ W, Below w.heap.size w W → ∀ i : Nat, Calls Tryz.prog 46 #[.pointer (some ⟨p, 0, none⟩), kS (root ++ 47 :: nameA t i)] W fun e w' => e = .returned (.bool (hasM M.now (root ++ 47 :: nameA t i))) ∧ Below W.heap.size W w') := fun W hb i =>
  ahas_any (h.on hb) hG _ (by simp [nameTryzlen]; omega)
 have E1 : Hid (ba (digs 10 t) ++ ⟨#[45]⟩ = ba (digs 10 t ++ [45])) := ba_append _ [45]
 have E2 : Hid (∀ i : Nat, ba (digs 10 t ++ [45]) ++ ba (digs 4 i) = ba (nameA t i)) := fun i => by rw [ba_append]; unfold nameA; simp
 have E3 : Hid (ba root ++ ⟨#[47]⟩ = ba (root ++ [47])) := ba_append _ [47]
 have E4 : Hid (∀ i : Nat, ba (root ++ [47]) ++ ba (nameA t i) = ba (root ++ 47 :: nameA t i)) := fun i => by rw [ba_append]; simp
 have z1 : (ba (digs 10 t)).size ≤ 4000 := by rw [ba_size, digs_len]; omega
 have z2 : (ba (digs 10 t ++ [45])).size ≤ 4000 := by rw [ba_size, List.length_append, digs_len]; simp
 have z3 : ∀ i : Nat, (ba (digs 4 i)).size ≤ 4000 := fun i => by rw [ba_size, digs_len]; omega
 have z4 : (ba root).size ≤ 4000 := by rw [ba_size]; omega
 have z5 : (ba (root ++ [47])).size ≤ 4000 := by rw [ba_size, List.length_append]; simp; omega
 have z6 : ∀ i : Nat, (ba (nameA t i)).size ≤ 4000 := fun i => by rw [ba_size, nameTryzlen]; omega
 have Z3 := hid z3
 have Z6 := hid z6
 obtain ⟨L, HL⟩ : ∃ L, Hid (M.now = L) := ⟨_, rfl⟩
 rw [HL.out] at C3 ⊢
 clear z3 z6 h hG HL hr ht
 go_enter Tryz.func45, Tryz.ntmps45
 go_wp2_with fail
 refine C1.out.mono ?_; rintro e1 w1 ⟨rfl, hb1⟩
 have B1 := hid hb1
 clear hb1
 go_wp2
 rw [E1.out]
 go_loopw [6, 9, 13] (fun v6 v9 v13 wr => ∃ i : Nat, v13 = .int .i64 (i : Int) ∧ i ≤ 10000 ∧ (∃ s : By, v6 = kS s) ∧ Hid (freeM L root t = freeF L root t (10000 - i) i) ∧ Hid (Below w.heap.size w wr))
  (fun _ _ v13 _ => 10000 - (intOf v13).toNat)
 case atStart => exact ⟨0, rfl, by omega, ⟨[], rfl⟩, rfl, B1.out⟩
 case round =>
  obtain ⟨i, rfl, hi, ⟨s0, rfl⟩, HF, HB⟩ := hrel
  by_cases hlt : i < 10000
  · have hlt2 : (i : Int) < 10000 := by omega
    have CA := hid (C2.out wr HB.out i hlt)
    have z3 := Z3.out i
    have z6 := Z6.out i
    have w1' : IntKind.i64.wrap ((i : Int) + 1) = (i : Int) + 1 := i64in _ (by omega) (by omega)
    have HN : Hid (freeF L root t (10000 - i) i = if hasM L (root ++ 47 :: nameA t i) then freeF L root t (10000 - (i + 1)) (i + 1) else some i) := by
     show _ = _
     rw [show 10000 - i = (10000 - (i + 1)) + 1 by omega]; rfl
    go_wp2_with fail
    refine CA.out.mono ?_; rintro e2 w2 ⟨rfl, hb2⟩
    have B2 : Hid (Below w.heap.size w w2) := HB.out.trans (hb2.mono HB.out.size)
    clear hb2
    have CB := hid (C3.out w2 B2.out i)
    go_wp2_with fail
    rw [E2.out i, E3.out, E4.out i]
    cases hm : hasM L (root ++ 47 :: nameA t i) with
    | true =>
     rw [hm] at CB HN
     clear hm
     refine CB.out.mono ?_; rintro e3 w3 ⟨rfl, hb3⟩
     have B3 : Hid (Below w.heap.size w w3) := B2.out.trans (hb3.mono B2.out.size)
     clear hb3
     go_wp2
     go_roundw
     case rel => exact ⟨i + 1, by go_num, by omega, ⟨_, rfl⟩, (by rw [HF.out, HN.out]; rfl), B3⟩
     case measure => simp [intOf]; omega
    | false =>
     rw [hm] at CB HN
     clear hm
     refine CB.out.mono ?_; rintro e3 w3 ⟨rfl, hb3⟩
     have B3 : Hid (Below w.heap.size w w3) := B2.out.trans (hb3.mono B2.out.size)
     clear hb3
     go_wp2
     go_ret2
     rw [HF.out, HN.out]
     exact ⟨rfl, B3.out⟩
  · obtain rfl : i = 10000 := by omega
    have HN : Hid (freeM L root t = none) := by show _ = _; rw [HF.out]; rfl
    go_wp2
    go_ret2
    rw [HN.out]
    exact ⟨rfl, HB.out⟩
end
end Go.Proofs.YtabidnlbgdecbaaGreatDoor
namespace Go.Proofs.YtabidnlbgdecbaaGreatDoor
open Go.RowKit Go.Maps
theorem iEntry : (Tryz.prog.info? 28).map (·.size) = some 4 := by kernel_rfl
theorem results_en2 {fn : Func} {c : Nat} {t u : Tmp} (h : fn.results = #[.cell c 28, .tmp t, .tmp u]) (tmps : Array Value) (w : World) (g : Nat) (cs : Array Value) (hc : tmps.getD c undef = .pointer (some ⟨g, 0, none⟩)) (hg : Has w g 28 cs) (hi : cs.size = 4) :
 (results fn tmps).run Tryz.prog w = .ok (.tuple #[.agg cs, tmps.getD t undef, tmps.getD u undef]) w := by
 have hp' : tmps[c]?.getD undef = .pointer (some ⟨g, 0, none⟩) := by simpa using hc
 have hl := run_loadVar_row (P := Tryz.prog) w g 28 28 cs (0, 0) _ hg Tryz.underlying28 rfl (by rw [hi]; exact iEntry)
 simp [results, h, hp', asAddr, hl]
theorem textS_ok (xs : By) (m : Int) (h : (textS (false, xs) m).1 ≠ []) : (textS (false, xs) m).2.1 = false := by
 unfold textS at h ⊢
 split
 · split
   · rfl
   · rename_i n hn hc
     rw [hn] at h; simp only [if_neg hc] at h; exact absurd rfl h
 · rename_i hn
   rw [hn] at h; exact absurd rfl h
theorem textS_len (xs : By) (m : Int) : (textS (false, xs) m).2.2.length ≤ xs.length ∧ (textS (false, xs) m).1.length ≤ xs.length := by
 unfold textS
 split
 · split
   · simp; omega
   · simp [tear]
 · simp [tear]
theorem textS_160 (xs : By) : (textS (false, xs) 160).1.length ≤ 160 := by
 unfold textS
 split
 · split
   · rename_i n hn hc
     simp only [List.length_take]; omega
   · simp
 · simp
theorem may_nil : mayB [] = false := by decide
def openV : Option (En × By) → Value
 | some (e, d) => .tuple #[.agg (enA e), kS d, .bool true]
 | none => .tuple #[.agg #[.string ⟨#[]⟩, .string ⟨#[]⟩, .int .i64 0, .int .i64 0], .string ⟨#[]⟩, .bool false]
set_option maxHeartbeats 2000000 in
theorem open_any (name : By) (h18 : name.length ≤ 18) (k : Int) (d x : By) (t : Int) (hd : d.length ≤ 100000) (w : World) (hG : Gd w) :
 Calls Tryz.prog 36 #[kS name, .agg #[.int .i64 k, kS d, kS x, .int .i64 t]] w fun e w' => e = .returned (openV (openA name ⟨k, d, x, t⟩)) ∧ Below w.heap.size w w' := by
 obtain ⟨w0, hw0⟩ : ∃ V, V = (w.alloc (.cells #[.int .i64 k, kS d, kS x, .int .i64 t] 44)).alloc (.cells #[.string ⟨#[]⟩, .string ⟨#[]⟩, .int .i64 0, .int .i64 0] 28) := ⟨_, rfl⟩
 have B0 : Hid (Below w.heap.size w w0) := by rw [hw0]; exact ((Below.refl _ _).alloc (Nat.le_refl _) _).alloc (by simp) _
 have X0 : Hid (Has w0 w.heap.size 44 #[.int .i64 k, kS d, kS x, .int .i64 t]) := by rw [hw0]; exact (Has.fresh w _ _).more _
 have Y0 : Hid (Has w0 (w.heap.size + 1) 28 #[.string ⟨#[]⟩, .string ⟨#[]⟩, .int .i64 0, .int .i64 0]) := by rw [hw0]; exact Has.fresh' (w.alloc _) _ _ (by simp)
 have G0 := hid (hG.kept B0.out)
 have hGw := hid hG
 have C1 := hid (timeOf_any name h18 w0 G0.out)
 obtain ⟨⟨tm, nm⟩, HT⟩ : ∃ r, Hid (timeA name = r) := ⟨_, rfl⟩
 rw [HT.out] at C1
 obtain ⟨⟨p, tn, rest⟩, HP⟩ : ∃ r, Hid (textS (false, d) 160 = r) := ⟨_, rfl⟩
 have hl := textS_len d 160
 have htn := textS_ok d 160
 have hp160 := textS_160 d
 rw [HP.out] at hl htn hp160
 simp only at hl htn hp160
 obtain ⟨hl1, hl2⟩ := hl
 have HTN := hid htn
 have HL1 := hid hl1
 have HL2 := hid hl2
 have HD := hid hd
 have HP4 : Hid (p.length ≤ 4000) := by show _ ≤ _; omega
 have HO : Hid (openA name ⟨k, d, x, t⟩ = if nm && decide (k = 1) && mayB p then some (⟨name, p, tm, (rest.length : Nat)⟩, rest) else none) := by
  show _ = _
  unfold openA openT
  simp only [HT.out, HP.out]
 have KC := conv_string (ba d)
 clear hG h18 hd htn hl1 hl2 hp160
 go_enter Tryz.func36, Tryz.ntmps36
 go_wp2_with fail
 rw [← hw0]
 refine C1.out.mono ?_; rintro e1 w1 ⟨rfl, hb1⟩
 have X1 : Hid (Has w1 w.heap.size 44 #[.int .i64 k, kS d, kS x, .int .i64 t]) := X0.out.kept hb1 X0.out.inside
 have Y1 : Hid (Has w1 (w.heap.size + 1) 28 #[.string ⟨#[]⟩, .string ⟨#[]⟩, .int .i64 0, .int .i64 0]) := Y0.out.kept hb1 Y0.out.inside
 have n1 : w1.cell? ⟨w.heap.size, 1, none⟩ = some (kS d) := X1.out.at_ 1
 have B1 := hb1
 clear hb1
 go_wp2_with fail
 have BX : Hid (Below w.heap.size w (Lib.bytesWorld w1 5 (ba d))) := by
  have b1 := B0.out.trans (B1.mono B0.out.size)
  exact b1.trans ((conv_below (ba d) w1).mono b1.size)
 have hcb := conv_bytes (ba d) w1
 have CN := hid (newTape_any _ _ _ _ _ _ (by rw [tl_ba]; exact HD.out) _ hcb)
 have X2 : Hid (Has (Lib.bytesWorld w1 5 (ba d)) w.heap.size 44 #[.int .i64 k, kS d, kS x, .int .i64 t]) := X1.out.kept (conv_below (ba d) w1) X1.out.inside
 have Y2 : Hid (Has (Lib.bytesWorld w1 5 (ba d)) (w.heap.size + 1) 28 #[.string ⟨#[]⟩, .string ⟨#[]⟩, .int .i64 0, .int .i64 0]) := Y1.out.kept (conv_below (ba d) w1) Y1.out.inside
 clear hcb n1 B1
 obtain ⟨v0, hv0⟩ : ∃ v, v = Value.slice (some ⟨w1.heap.size, 0, none⟩) (ba d).size (grownCap w1 (ba d).size 0 5) := ⟨_, rfl⟩
 rw [← hv0] at CN ⊢
 clear hv0
 refine CN.out.mono ?_; rintro e2 w2 ⟨g, rfl, hg2, ht2, hb2⟩
 rw [tl_ba] at ht2
 have T2 := hid ht2
 have GE : Hid (w.heap.size + 1 < g) := Nat.lt_of_lt_of_le Y2.out.inside hg2
 have X3 : Hid (Has w2 w.heap.size 44 #[.int .i64 k, kS d, kS x, .int .i64 t]) := X2.out.kept hb2 X2.out.inside
 have Y3 : Hid (Has w2 (w.heap.size + 1) 28 #[.string ⟨#[]⟩, .string ⟨#[]⟩, .int .i64 0, .int .i64 0]) := Y2.out.kept hb2 Y2.out.inside
 have B2 : Hid (Below w.heap.size w w2) := BX.out.trans (hb2.mono BX.out.size)
 clear ht2 hb2 hg2
 have CT := text_any g (false, d) 160 w2 T2.out
 rw [HP.out] at CT
 have CT := hid CT
 go_wp2_with fail
 refine CT.out.mono ?_; rintro e3 w3 ⟨rfl, ht3, hg3⟩
 have T3 := hid ht3
 have X4 : Hid (Has w3 w.heap.size 44 #[.int .i64 k, kS d, kS x, .int .i64 t]) := X3.out.grw hg3 (by have := GE.out; omega)
 have Y4 : Hid (Has w3 (w.heap.size + 1) 28 #[.string ⟨#[]⟩, .string ⟨#[]⟩, .int .i64 0, .int .i64 0]) := Y3.out.grw hg3 (by have := GE.out; omega)
 have B3 : Hid (Below w.heap.size w w3) := Grw.below B2.out hg3 (by have := GE.out; omega) B2.out.size
 have G3 := hid (hGw.out.kept B3.out)
 have n0 : w3.cell? ⟨w.heap.size, 0, none⟩ = some (.int .i64 k) := X4.out.at_ 0
 clear ht3 hg3
 cases nm with
 | false =>
  have HN : Hid (openA name ⟨k, d, x, t⟩ = none) := by show _ = _; rw [HO.out]; rfl
  go_wp2_with (first | (refine wpList_store_row rfl 28 (.tmp 4) (.tmp 34) rfl (w.heap.size + 1) #[.string ⟨#[]⟩, .string ⟨#[]⟩, .int .i64 0, .int .i64 0] rfl rfl 28 _ Y4.out (by kernel_rfl) rfl (by simp [Value.oneCell']) ?_))
  refine bodyPost_ret (results_en2 rfl _ _ (w.heap.size + 1) _ rfl (Has.row Y4.out) rfl) rfl ?_
  rw [HN.out]
  exact ⟨rfl, B3.out.rowK (Nat.le_succ _) _⟩
 | true =>
  by_cases hk1 : k = 1
  · subst hk1
    cases hm : mayB p with
    | false =>
     have CM := hid (mayk_any p false hm w3 G3.out HP4.out)
     have HMP := hid hm
     clear hm
     go_wp2_with fail
     refine CM.out.mono ?_; rintro e4 w4 ⟨rfl, hb4⟩
     have Y5 : Hid (Has w4 (w.heap.size + 1) 28 #[.string ⟨#[]⟩, .string ⟨#[]⟩, .int .i64 0, .int .i64 0]) := Y4.out.kept hb4 Y4.out.inside
     have B4 : Hid (Below w.heap.size w w4) := B3.out.trans (hb4.mono B3.out.size)
     clear hb4
     have HN : Hid (openA name ⟨1, d, x, t⟩ = none) := by show _ = _; rw [HO.out]; rw [HMP.out]; rfl
     go_wp2_with (first | (refine wpList_store_row rfl 28 (.tmp 4) (.tmp 34) rfl (w.heap.size + 1) #[.string ⟨#[]⟩, .string ⟨#[]⟩, .int .i64 0, .int .i64 0] rfl rfl 28 _ Y5.out (by kernel_rfl) rfl (by simp [Value.oneCell']) ?_))
     refine bodyPost_ret (results_en2 rfl _ _ (w.heap.size + 1) _ rfl (Has.row Y5.out) rfl) rfl ?_
     rw [HN.out]
     exact ⟨rfl, B4.out.rowK (Nat.le_succ _) _⟩
    | true =>
     have CM := hid (mayk_any p true hm w3 G3.out HP4.out)
     have HTF : tn = false := HTN.out (fun e => by rw [e, may_nil] at hm; cases hm)
     subst HTF
     have HS : Hid (openA name ⟨1, d, x, t⟩ = some (⟨name, p, tm, (rest.length : Nat)⟩, rest)) := by show _ = _; rw [HO.out, hm]; rfl
     clear hm
     go_wp2_with fail
     refine CM.out.mono ?_; rintro e4 w4 ⟨rfl, hb4⟩
     have Y5 : Hid (Has w4 (w.heap.size + 1) 28 #[.string ⟨#[]⟩, .string ⟨#[]⟩, .int .i64 0, .int .i64 0]) := Y4.out.kept hb4 Y4.out.inside
     have B4 : Hid (Below w.heap.size w w4) := B3.out.trans (hb4.mono B3.out.size)
     have T4 : Hid (Tp w4 g (false, rest)) := T3.out.kept hb4
     clear hb4
     have CL := hid (left_any g (false, rest) w4 T4.out)
     have CB := bytes_any g (false, rest) (rest.length : Int) w4 T4.out
     have hbs : bytesS (false, rest) (rest.length : Int) = (rest, (false, [])) := by unfold bytesS; simp
     rw [hbs] at CB
     have CB := hid CB
     clear hbs
     go_wp2_with fail
     refine CL.out.mono ?_; rintro e5 w5 ⟨rfl, rfl⟩
     go_wp2_with fail
     refine CB.out.mono ?_; rintro e6 w6 ⟨v6, A6, c6, b6, rfl, hy6, _, _, hg6⟩
     have Y6 : Hid (Has w6 (w.heap.size + 1) 28 #[.string ⟨#[]⟩, .string ⟨#[]⟩, .int .i64 0, .int .i64 0]) := Y5.out.grw hg6 (by have := GE.out; omega)
     have B6 : Hid (Below w.heap.size w w6) := Grw.below B4.out hg6 (by have := GE.out; omega) B4.out.size
     have KB := conv_back hy6
     obtain ⟨n, HN⟩ : ∃ n, Hid (rest.length = n) := ⟨_, rfl⟩
     have hz : ((ba rest).size : Int) = (n : Int) := by rw [ba_size, HN.out]
     rw [HN.out] at HS
     clear hy6 hg6
     go_wp2_with (first | (refine wpList_store_row rfl 28 (.tmp 4) (.tmp 45) rfl (w.heap.size + 1) #[kS name, kS p, .int .i64 tm, .int .i64 (n : Int)] rfl rfl 28 _ Y6.out (by kernel_rfl) rfl (by simp [Value.oneCell']) ?_))
     refine bodyPost_ret (results_en2 rfl _ _ (w.heap.size + 1) _ rfl (Has.row Y6.out) rfl) rfl ?_
     rw [HS.out]
     exact ⟨rfl, B6.out.rowK (Nat.le_succ _) _⟩
  · have hk2 : decide (k = 1) = false := decide_eq_false hk1
    have HN : Hid (openA name ⟨k, d, x, t⟩ = none) := by show _ = _; rw [HO.out]; rw [hk2]; rfl
    go_wp2_with (first | (refine wpList_store_row rfl 28 (.tmp 4) (.tmp 34) rfl (w.heap.size + 1) #[.string ⟨#[]⟩, .string ⟨#[]⟩, .int .i64 0, .int .i64 0] rfl rfl 28 _ Y4.out (by kernel_rfl) rfl (by simp [Value.oneCell']) ?_))
    refine bodyPost_ret (results_en2 rfl _ _ (w.heap.size + 1) _ rfl (Has.row Y4.out) rfl) rfl ?_
    rw [HN.out]
    exact ⟨rfl, B3.out.rowK (Nat.le_succ _) _⟩
end Go.Proofs.YtabidnlbgdecbaaGreatDoor
namespace Go.Proofs.YtabidnlbgdecbaaGreatDoor
open Go.RowKit Go.Maps
def putM (M : Mo) (root : By) (t : Nat) (data : By) (tm : Int) : (By × Int) × Mo :=
 if (rootM M root).1 = 0 then
  match freeM (rootM M root).2.now root t with
  | none => (([], 7), (rootM M root).2)
  | some i => ((nameA t i, (doM (rootM M root).2 (.write (root ++ 47 :: nameA t i) data tm)).1), (doM (rootM M root).2 (.write (root ++ 47 :: nameA t i) data tm)).2)
 else (([], (rootM M root).1), (rootM M root).2)
theorem do_since (M : Mo) (x : Eff) : (doM M x).2.since.length ≤ M.since.length + 1 := by
 unfold doM
 split
 · simp
 · split <;> simp
theorem root_since (M : Mo) (root : By) : (rootM M root).2.since.length ≤ M.since.length + 1 := by
 unfold rootM
 split
 · simp
 · exact do_since _ _
structure Bxs (w : World) (b1 b2 b3 b4 : Nat) (root : By) (t : Int) (data : By) (k : Int) (d x : By) (tm : Int) : Prop where
 h1 : Has w b1 9 #[kS root]
 h2 : Has w b2 2 #[.int .i64 t]
 h3 : Has w b3 9 #[kS data]
 h4 : Has w b4 44 #[.int .i64 k, kS d, kS x, .int .i64 tm]
theorem Bxs.to {w w' : World} {b1 b2 b3 b4 : Nat} {root : By} {t : Int} {data : By} {k : Int} {d x : By} {tm : Int} (h : Bxs w b1 b2 b3 b4 root t data k d x tm) {av : Nat → Prop} (hk : KA av w w') (a1 : av b1) (a2 : av b2) (a3 : av b3) (a4 : av b4) : Bxs w' b1 b2 b3 b4 root t data k d x tm :=
 ⟨(hk.2 _ a1).trans h.h1, (hk.2 _ a2).trans h.h2, (hk.2 _ a3).trans h.h3, (hk.2 _ a4).trans h.h4⟩
section
variable {w0 w : World} {av : Nat → Prop} {p : Nat} {M : Mo}
set_option maxHeartbeats 2000000 in
theorem addC_any (h : DW w0 av w p M) (hG : Gd w0) (root : By) (hr : root.length ≤ 3900) (t : Nat) (ht : t ≤ 4294967295) (data : By) (hd : data.length ≤ 1000000) (k : Int) (d x : By) (tm : Int) (hlen : M.since.length + 2 ≤ 100000)
 {b1 b2 b3 b4 : Nat} (hb : Bxs w b1 b2 b3 b4 root t data k d x tm) (a1 : av b1) (a2 : av b2) (a3 : av b3) (a4 : av b4) :
 Calls Tryz.prog 43 #[.pointer (some ⟨p, 0, none⟩), .pointer (some ⟨b1, 0, none⟩), .pointer (some ⟨b2, 0, none⟩), .pointer (some ⟨b3, 0, none⟩), .pointer (some ⟨b4, 0, none⟩)] w fun e w' =>
  e = .returned (.tuple #[kS (putM M root t data tm).1.1, .int .i64 (putM M root t data tm).1.2]) ∧ DW w0 av w' p (putM M root t data tm).2 ∧ KA av w w' := by
 have C1 := hid (makeRoot_any h hG root (by omega) (by omega))
 have hs := root_since M root
 obtain ⟨⟨c, M1⟩, HR⟩ : ∃ r, Hid (rootM M root = r) := ⟨_, rfl⟩
 rw [HR.out] at C1 hs
 simp only at hs
 have c1 : w.cell? ⟨b1, 0, none⟩ = some (kS root) := hb.h1.at_ 0
 have HB := hid hb
 by_cases hc : c = 0
 · subst hc
   have C2 := hid (fun W (hW : DW w0 av W p M1) => freeName_any hW hG root hr t ht)
   cases hf : freeM M1.now root t with
   | none =>
    have HP : Hid (putM M root t data tm = (([], 7), M1)) := by show _ = _; unfold putM; rw [HR.out]; simp only [if_pos]; rw [hf]
    rw [hf] at C2
    rw [HP.out]
    clear h hG hs hf HR hb
    go_enter Tryz.func43, Tryz.ntmps43
    go_wp2_with fail
    refine C1.out.mono ?_; rintro e1 w1 ⟨rfl, h1, k1⟩
    have H1 := hid h1
    have K1 := hid k1
    have hb1 := HB.out.to k1 a1 a2 a3 a4
    have c1 : w1.cell? ⟨b1, 0, none⟩ = some (kS root) := hb1.h1.at_ 0
    have c2 : w1.cell? ⟨b2, 0, none⟩ = some (.int .i64 (t : Int)) := hb1.h2.at_ 0
    clear h1 k1 hb1
    go_wp2_with fail
    refine (C2.out _ H1.out).mono ?_; rintro e2 w2 ⟨rfl, hb2⟩
    have B2 := hid hb2
    clear hb2
    unfold freeV
    go_wp2
    go_ret2
    exact ⟨rfl, H1.out.on B2.out, K1.out.trans (H1.out.ka B2.out)⟩
   | some i =>
    have C3 : Hid (∀ W, DW w0 av W p M1 → Calls Tryz.prog 21 #[.pointer (some ⟨p, 0, none⟩), kS (root ++ 47 :: nameA t i), kS data, .int .i64 tm] W fun e w' => e = .returned (.int .i64 (doM M1 (.write (root ++ 47 :: nameA t i) data tm)).1) ∧ DW w0 av w' p (doM M1 (.write (root ++ 47 :: nameA t i) data tm)).2 ∧ KA av W w') := fun W hW =>
     hW.calls fun own ho => dWrite_any ho (hW.gd hG) _ _ _ (by simp [nameTryzlen]; omega) hd (by omega)
    have HP : Hid (putM M root t data tm = ((nameA t i, (doM M1 (.write (root ++ 47 :: nameA t i) data tm)).1), (doM M1 (.write (root ++ 47 :: nameA t i) data tm)).2)) := by show _ = _; unfold putM; rw [HR.out]; simp only [if_pos]; rw [hf]
    rw [hf] at C2
    rw [HP.out]
    obtain ⟨⟨c4, M4⟩, HX⟩ : ∃ r, Hid (doM M1 (.write (root ++ 47 :: nameA t i) data tm) = r) := ⟨_, rfl⟩
    rw [HX.out] at C3 ⊢
    have E3 : Hid (ba root ++ ⟨#[47]⟩ = ba (root ++ [47])) := ba_append _ [47]
    have E4 : Hid (ba (root ++ [47]) ++ ba (nameA t i) = ba (root ++ 47 :: nameA t i)) := by show _ = _; rw [ba_append]; simp
    have z4 : (ba root).size ≤ 4000 := by rw [ba_size]; omega
    have z5 : (ba (root ++ [47])).size ≤ 4000 := by rw [ba_size, List.length_append]; simp; omega
    have z6 : (ba (nameA t i)).size ≤ 4000 := by rw [ba_size, nameTryzlen]; omega
    clear h hG hs hf HR hb HX HP hr hd ht
    go_enter Tryz.func43, Tryz.ntmps43
    go_wp2_with fail
    refine C1.out.mono ?_; rintro e1 w1 ⟨rfl, h1, k1⟩
    have H1 := hid h1
    have K1 := hid k1
    have hb1 := HB.out.to k1 a1 a2 a3 a4
    have HB1 := hid hb1
    have c1 : w1.cell? ⟨b1, 0, none⟩ = some (kS root) := hb1.h1.at_ 0
    have c2 : w1.cell? ⟨b2, 0, none⟩ = some (.int .i64 (t : Int)) := hb1.h2.at_ 0
    clear h1 k1 hb1
    go_wp2_with fail
    refine (C2.out _ H1.out).mono ?_; rintro e2 w2 ⟨rfl, hb2⟩
    have H2 := hid (H1.out.on hb2)
    have K2 := hid (K1.out.trans (H1.out.ka hb2))
    have hb2' := HB1.out.to (H1.out.ka hb2) a1 a2 a3 a4
    have c1' : w2.cell? ⟨b1, 0, none⟩ = some (kS root) := hb2'.h1.at_ 0
    have c3' : w2.cell? ⟨b3, 0, none⟩ = some (kS data) := hb2'.h3.at_ 0
    have c4' : w2.cell? ⟨b4, 3, none⟩ = some (.int .i64 tm) := hb2'.h4.at_ 3
    clear hb2 hb2' c1 c2
    unfold freeV
    go_wp2_with fail
    rw [E3.out, E4.out]
    refine (C3.out _ H2.out).mono ?_; rintro e3 w3 ⟨rfl, h3, k3⟩
    have H3 := hid h3
    have K3 := hid (K2.out.trans k3)
    clear h3 k3
    go_wp2
    go_ret2
    exact ⟨rfl, H3.out, K3.out⟩
 · have HP : Hid (putM M root t data tm = (([], c), M1)) := by show _ = _; unfold putM; rw [HR.out]; simp only [if_neg hc]
   rw [HP.out]
   clear h hG hs HR hb
   go_enter Tryz.func43, Tryz.ntmps43
   go_wp2_with fail
   refine C1.out.mono ?_; rintro e1 w1 ⟨rfl, h1, k1⟩
   have H1 := hid h1
   have K1 := hid k1
   clear h1 k1
   go_wp2
   go_ret2
   exact ⟨rfl, H1.out, K1.out⟩
end
end Go.Proofs.YtabidnlbgdecbaaGreatDoor
namespace Go.Proofs.YtabidnlbgdecbaaGreatDoor
open Go.RowKit Go.Maps
def addK (M : Mo) (root p : By) (n : Nd) (t : Nat) : (By × Int) × Mo :=
 if hasM M.now root = false ∧ (putM M root t (textL p ++ n.data) n.time).1.2 ≠ 0 ∧ (putM M root t (textL p ++ n.data) n.time).1.2 ≠ 20 then (([], (putM M root t (textL p ++ n.data) n.time).1.2), M)
 else if (putM M root t (textL p ++ n.data) n.time).1.2 = 0 then putM M root t (textL p ++ n.data) n.time else (([], (putM M root t (textL p ++ n.data) n.time).1.2), (putM M root t (textL p ++ n.data) n.time).2)
def addM (M : Mo) (root p : By) (n : Nd) (now : Int) : (By × Int) × Mo :=
 if mayB root = true ∧ mayB p = true then
  if n.kind = 1 then
   if now = nearM now then addK M root p n now.toNat
   else (([], 2), M)
  else (([], 11), M)
 else (([], 10), M)
def AddP (w0 : World) (av : Nat → Prop) (w : World) (p : Nat) (r : (By × Int) × Mo) (e : Ending) (w' : World) : Prop :=
 e = .returned (.tuple #[kS r.1.1, .int .i64 r.1.2]) ∧ DW w0 av w' p r.2 ∧ KA av w w'
theorem AddP.none {w0 w w' : World} {av : Nat → Prop} {p : Nat} {M : Mo} (h : DW w0 av w p M) (hb : Below w.heap.size w w') (c : Int) : AddP w0 av w p (([], c), M) (.returned (.tuple #[.string ⟨#[]⟩, .int .i64 c])) w' :=
 ⟨rfl, h.on hb, h.ka hb⟩
theorem neqPtr (g : Nat) (w : World) : (binOp .eql 37 (.pointer (some ⟨g, 0, none⟩)) (.pointer none)).run Tryz.prog w = .ok (.bool false) w := by kernel_rfl
theorem text_len (p : By) : (textL p).length ≤ 8 + p.length := by
 unfold textL
 have := numL_len 2 p.length
 rw [List.length_append]; omega
def addW (w : World) (root : By) (k : Int) (d x : By) (tm now : Int) : World := ((w.alloc (.cells #[kS root] 9)).alloc (.cells #[.int .i64 k, kS d, kS x, .int .i64 tm] 44)).alloc (.cells #[.int .i64 now] 2)
section
variable {w0 w : World} {av : Nat → Prop} {p : Nat} {M : Mo}
set_option maxHeartbeats 2000000 in
theorem add_any (h : DW w0 av w p M) (hG : Gd w0) (root : By) (hr : root.length ≤ 3900) (pt : By) (hp : pt.length ≤ 4000) (k : Int) (d x : By) (tm now : Int) (hd : d.length ≤ 900000) (hlen : M.since.length + 2 ≤ 100000) :
 Calls Tryz.prog 19 #[.pointer (some ⟨p, 0, none⟩), kS root, kS pt, .agg #[.int .i64 k, kS d, kS x, .int .i64 tm], .int .i64 now] w fun e w' => AddP w0 av w p (addM M root pt ⟨k, d, x, tm⟩ now) e w' := by
 obtain ⟨wa, hwa⟩ : ∃ V, V = addW w root k d x tm now := ⟨_, rfl⟩
 have BA : Hid (Below w.heap.size w wa) := by rw [hwa]; exact (((Below.refl _ _).alloc (Nat.le_refl _) _).alloc (by simp) _).alloc (by simp; omega) _
 have X1 : Hid (Has wa w.heap.size 9 #[kS root]) := by rw [hwa]; exact ((Has.fresh w _ _).more _).more _
 have X2 : Hid (Has wa (w.heap.size + 1) 44 #[.int .i64 k, kS d, kS x, .int .i64 tm]) := by rw [hwa]; exact (Has.fresh' (w.alloc _) _ _ (by simp)).more _
 have X3 : Hid (Has wa (w.heap.size + 1 + 1) 2 #[.int .i64 now]) := by rw [hwa]; exact Has.fresh' _ _ _ (by simp)
 have H := hid h
 have hGw := hid (fun W (hb : Below w.heap.size w W) => (h.on hb).gd hG)
 have HG := hid hG
 have hq := neqPtr p
 have cA1 : wa.cell? ⟨w.heap.size, 0, none⟩ = some (kS root) := X1.out.at_ 0
 have HLEN := hid hlen
 have HRR := hid hr
 have HPP := hid hp
 have HDD := hid hd
 have hwa' : ((w.alloc (.cells #[kS root] 9)).alloc (.cells #[.int .i64 k, kS d, kS x, .int .i64 tm] 44)).alloc (.cells #[.int .i64 now] 2) = wa := hwa.symm
 cases hm1 : mayB root with
 | false =>
  have CM := hid (mayk_any root false hm1 wa (hGw.out _ BA.out) (by omega))
  have HM : Hid (addM M root pt ⟨k, d, x, tm⟩ now = (([], 10), M)) := by show _ = _; unfold addM; rw [if_neg (by rw [hm1]; simp)]
  clear h hG hwa hlen hr hp hd hm1
  go_enter Tryz.func19, Tryz.ntmps19
  go_wp2_with fail
  try rw [hwa']
  clear hwa'
  refine CM.out.mono ?_; rintro e1 w1 ⟨rfl, hb1⟩
  have B1 : Hid (Below w.heap.size w w1) := BA.out.trans (hb1.mono BA.out.size)
  clear hb1
  go_wp2
  go_ret2
  rw [HM.out]
  exact AddP.none H.out B1.out 10
 | true =>
 have CM := hid (mayk_any root true hm1 wa (hGw.out _ BA.out) (by omega))
 cases hm2 : mayB pt with
 | false =>
  have CM2 := hid (fun W (hb : Below w.heap.size w W) => mayk_any pt false hm2 W (hGw.out _ hb) (by omega))
  have HM : Hid (addM M root pt ⟨k, d, x, tm⟩ now = (([], 10), M)) := by show _ = _; unfold addM; rw [if_neg (by rw [hm2]; simp)]
  clear h hG hwa hlen hr hp hd hm1 hm2
  go_enter Tryz.func19, Tryz.ntmps19
  go_wp2_with fail
  try rw [hwa']
  clear hwa'
  refine CM.out.mono ?_; rintro e1 w1 ⟨rfl, hb1⟩
  have B1 : Hid (Below w.heap.size w w1) := BA.out.trans (hb1.mono BA.out.size)
  clear hb1
  go_wp2_with fail
  refine (CM2.out _ B1.out).mono ?_; rintro e2 w2 ⟨rfl, hb2⟩
  have B2 : Hid (Below w.heap.size w w2) := B1.out.trans (hb2.mono B1.out.size)
  clear hb2
  go_wp2
  go_ret2
  rw [HM.out]
  exact AddP.none H.out B2.out 10
 | true =>
 have CM2 := hid (fun W (hb : Below w.heap.size w W) => mayk_any pt true hm2 W (hGw.out _ hb) (by omega))
 have hp160 : pt.length ≤ 160 := (may_parts hm2).1
 have HMM : Hid (mayB root = true ∧ mayB pt = true) := ⟨hm1, hm2⟩
 by_cases hk : k = 1
 case neg =>
  have HM : Hid (addM M root pt ⟨k, d, x, tm⟩ now = (([], 11), M)) := by show _ = _; unfold addM; rw [if_pos HMM.out, if_neg hk]
  have HKK := hid hk
  clear h hG hwa hlen hr hp hd hm1 hm2 hp160
  go_enter Tryz.func19, Tryz.ntmps19
  go_wp2_with fail
  try rw [hwa']
  clear hwa'
  refine CM.out.mono ?_; rintro e1 w1 ⟨rfl, hb1⟩
  have B1 : Hid (Below w.heap.size w w1) := BA.out.trans (hb1.mono BA.out.size)
  have Y2 : Hid (Has w1 (w.heap.size + 1) 44 #[.int .i64 k, kS d, kS x, .int .i64 tm]) := X2.out.kept hb1 X2.out.inside
  clear hb1
  go_wp2_with fail
  refine (CM2.out _ B1.out).mono ?_; rintro e2 w2 ⟨rfl, hb2⟩
  have B2 : Hid (Below w.heap.size w w2) := B1.out.trans (hb2.mono B1.out.size)
  have c2 : w2.cell? ⟨w.heap.size + 1, 0, none⟩ = some (.int .i64 k) := (Y2.out.kept hb2 Y2.out.inside).at_ 0
  clear hb2
  go_wp2
  go_ret2
  rw [HM.out]
  exact AddP.none H.out B2.out 11
 subst hk
 -- up to the switch's last case
 have CI := hid (fun W => inTime_any now W)
 by_cases hn : now = nearM now
 case neg =>
  have HM : Hid (addM M root pt ⟨1, d, x, tm⟩ now = (([], 2), M)) := by show _ = _; unfold addM; rw [if_pos HMM.out, if_pos rfl, if_neg hn]
  obtain ⟨a, HA⟩ : ∃ a, Hid (nearM now = a) := ⟨_, rfl⟩
  rw [HA.out] at hn
  have CI2 : Hid (∀ W, Calls Tryz.prog 41 #[.int .i64 now] W fun e w' => e = .returned (.int .i64 a) ∧ W = w') := fun W => by have := CI.out W; rw [HA.out] at this; exact this
  clear h hG hwa hlen hr hp hd hm1 hm2 hp160
  go_enter Tryz.func19, Tryz.ntmps19
  go_wp2_with fail
  try rw [hwa']
  clear hwa'
  refine CM.out.mono ?_; rintro e1 w1 ⟨rfl, hb1⟩
  have B1 : Hid (Below w.heap.size w w1) := BA.out.trans (hb1.mono BA.out.size)
  have Y1 : Hid (Has w1 w.heap.size 9 #[kS root]) := X1.out.kept hb1 X1.out.inside
  have Y2 : Hid (Has w1 (w.heap.size + 1) 44 #[.int .i64 1, kS d, kS x, .int .i64 tm]) := X2.out.kept hb1 X2.out.inside
  have Y3 : Hid (Has w1 (w.heap.size + 1 + 1) 2 #[.int .i64 now]) := X3.out.kept hb1 X3.out.inside
  clear hb1
  go_wp2_with fail
  refine (CM2.out _ B1.out).mono ?_; rintro e2 w2 ⟨rfl, hb2⟩
  have B2 : Hid (Below w.heap.size w w2) := B1.out.trans (hb2.mono B1.out.size)
  have Z1 : Hid (Has w2 w.heap.size 9 #[kS root]) := Y1.out.kept hb2 Y1.out.inside
  have Z2 : Hid (Has w2 (w.heap.size + 1) 44 #[.int .i64 1, kS d, kS x, .int .i64 tm]) := Y2.out.kept hb2 Y2.out.inside
  have Z3 : Hid (Has w2 (w.heap.size + 1 + 1) 2 #[.int .i64 now]) := Y3.out.kept hb2 Y3.out.inside
  have c2 : w2.cell? ⟨w.heap.size + 1, 0, none⟩ = some (.int .i64 1) := Z2.out.at_ 0
  clear hb2
  go_wp2
  refine wp_region_noPanic ?_
  refine wp_region_held_drew (S := fun W => W.cell? ⟨w.heap.size + 1 + 1, 0, none⟩ = some (.int .i64 now)) (by kernel_rfl) (Z3.out.at_ 0) (fun hS => ?_)
  refine tkH 0 (v := ?_) (by simp only [lkA, lkB]; rfl) (by kernel_rfl) (fun _ _ _ h => h) (by rfl) (by assumption) ?_ ?_
  rotate_left 1
  · intro w hSw
    have e1 := hSw
    go_simp
    with_reducible rfl
  simp only [Act.put, siA, siB, siC]
  refine tkH 1 (v := ?_) (by simp only [lkA, lkB, lkC]; rfl) (by kernel_rfl) (fun _ _ _ h => h) (by rfl) (by assumption) ?_ ?_
  rotate_left 1
  · intro w hSw
    have e1 := hSw
    go_simp
    with_reducible rfl
  simp only [Act.put, siA, siB, siC]
  refine wpAnyH_ready (rs := [2]) (by kernel_rfl) (by simp) ?_
  refine AllReadyH.cons (by simp only [lkA, lkB, lkC]; rfl) (fun K hK => ?_) (AllReadyH.nil)
  go_simp
  refine (CI2.out _).mono ?_
  rintro e1 w1 ⟨rfl, rfl⟩
  have hz1 := hS
  refine hK.out _ _ hz1 (fun hS => ?_)
  clear hK K hS
  refine tkH 3 (v := ?_) (by simp only [lkA, lkB, lkC]; rfl) (by kernel_rfl) (fun _ _ _ h => h) (by rfl) (by assumption) ?_ ?_
  rotate_left 1
  · intro w hSw
    go_simp
    with_reducible rfl
  simp only [Act.put, siA, siB, siC]
  refine tkH 4 (v := ?_) (by simp only [lkA, lkB, lkC]; rfl) (by kernel_rfl) (fun _ _ _ h => h) (by rfl) (by assumption) ?_ ?_
  rotate_left 1
  · intro w hSw
    go_simp
    with_reducible rfl
  simp only [Act.put, siA, siB, siC]
  refine wpAnyH_done (by kernel_rfl) ?_ _
  refine NoPanic.normal ?_
  go_wp2
  go_ret2
  rw [HM.out]
  exact AddP.none H.out B2.out.drew 2
 have CI2 : Hid (∀ W, Calls Tryz.prog 41 #[.int .i64 now] W fun e w' => e = .returned (.int .i64 now) ∧ W = w') := fun W => by have := CI.out W; rw [← hn] at this; exact this
 have hn0 := near_in now
 rw [← hn] at hn0
 obtain ⟨t, rfl⟩ := Int.eq_ofNat_of_zero_le hn0.1
 have ht : t ≤ 4294967295 := by have := hn0.2; omega
 obtain ⟨data, HDT⟩ : ∃ l, Hid (textL pt ++ d = l) := ⟨_, rfl⟩
 have HM : Hid (addM M root pt ⟨1, d, x, tm⟩ (t : Int) = addK M root pt ⟨1, d, x, tm⟩ t) := by show _ = _; unfold addM; rw [if_pos HMM.out, if_pos rfl, if_pos hn, Int.toNat_natCast]
 have hdl : data.length ≤ 1000000 := by rw [← HDT.out, List.length_append]; have := text_len pt; omega
 have zt : (ba (textL pt)).size ≤ 4000 := by rw [ba_size]; have := text_len pt; omega
 have zd : (ba d).size ≤ 900000 := by rw [ba_size]; exact hd
 have CPT := hid (fun W (hW : 0 < W.heap.size) => putText_any (.slice none 0 0) [] none 0 0 0 (ba pt) (by rw [ba_size]; omega) (by simp) W (Bytes.nil W hW))
 have ES : Hid (ba (textL pt) ++ ba d = ba data) := by show _ = _; rw [ba_append, HDT.out]
 have HDL := hid hdl
 have HT := hid ht
 clear h hG hwa hlen hr hp hd hm1 hm2 hp160 hn hn0 hdl ht
 go_enter Tryz.func19, Tryz.ntmps19
 go_wp2_with fail
 try rw [hwa']
 clear hwa'
 refine CM.out.mono ?_; rintro e1 w1 ⟨rfl, hb1⟩
 have B1 : Hid (Below w.heap.size w w1) := BA.out.trans (hb1.mono BA.out.size)
 have Y1 : Hid (Has w1 w.heap.size 9 #[kS root]) := X1.out.kept hb1 X1.out.inside
 have Y2 : Hid (Has w1 (w.heap.size + 1) 44 #[.int .i64 1, kS d, kS x, .int .i64 tm]) := X2.out.kept hb1 X2.out.inside
 have Y3 : Hid (Has w1 (w.heap.size + 1 + 1) 2 #[.int .i64 (t : Int)]) := X3.out.kept hb1 X3.out.inside
 clear hb1
 go_wp2_with fail
 refine (CM2.out _ B1.out).mono ?_; rintro e2 w2 ⟨rfl, hb2⟩
 have B2 : Hid (Below w.heap.size w w2) := B1.out.trans (hb2.mono B1.out.size)
 have Z1 : Hid (Has w2 w.heap.size 9 #[kS root]) := Y1.out.kept hb2 Y1.out.inside
 have Z2 : Hid (Has w2 (w.heap.size + 1) 44 #[.int .i64 1, kS d, kS x, .int .i64 tm]) := Y2.out.kept hb2 Y2.out.inside
 have Z3 : Hid (Has w2 (w.heap.size + 1 + 1) 2 #[.int .i64 (t : Int)]) := Y3.out.kept hb2 Y3.out.inside
 have c2 : w2.cell? ⟨w.heap.size + 1, 0, none⟩ = some (.int .i64 1) := Z2.out.at_ 0
 clear hb2
 go_wp2
 refine wp_region_noPanic ?_
 refine wp_region_held_drew (S := fun W => W.cell? ⟨w.heap.size + 1 + 1, 0, none⟩ = some (.int .i64 (t : Int))) (by kernel_rfl) (Z3.out.at_ 0) (fun hS => ?_)
 refine tkH 0 (v := ?_) (by simp only [lkA, lkB]; rfl) (by kernel_rfl) (fun _ _ _ h => h) (by rfl) (by assumption) ?_ ?_
 rotate_left 1
 · intro w hSw
   have e1 := hSw
   go_simp
   with_reducible rfl
 simp only [Act.put, siA, siB, siC]
 refine tkH 1 (v := ?_) (by simp only [lkA, lkB, lkC]; rfl) (by kernel_rfl) (fun _ _ _ h => h) (by rfl) (by assumption) ?_ ?_
 rotate_left 1
 · intro w hSw
   have e1 := hSw
   go_simp
   with_reducible rfl
 simp only [Act.put, siA, siB, siC]
 refine wpAnyH_ready (rs := [2]) (by kernel_rfl) (by simp) ?_
 refine AllReadyH.cons (by simp only [lkA, lkB, lkC]; rfl) (fun K hK => ?_) (AllReadyH.nil)
 go_simp
 refine (CI2.out _).mono ?_
 rintro e1 w1 ⟨rfl, rfl⟩
 have hz1 := hS
 refine hK.out _ _ hz1 (fun hS => ?_)
 clear hK K hS
 refine tkH 3 (v := ?_) (by simp only [lkA, lkB, lkC]; rfl) (by kernel_rfl) (fun _ _ _ h => h) (by rfl) (by assumption) ?_ ?_
 rotate_left 1
 · intro w hSw
   go_simp
   with_reducible rfl
 simp only [Act.put, siA, siB, siC]
 refine tkH 4 (v := ?_) (by simp only [lkA, lkB, lkC]; rfl) (by kernel_rfl) (fun _ _ _ h => h) (by rfl) (by assumption) ?_ ?_
 rotate_left 1
 · intro w hSw
   go_simp
   with_reducible rfl
 simp only [Act.put, siA, siB, siC]
 refine wpAnyH_done (by kernel_rfl) ?_ _
 refine NoPanic.normal ?_
 obtain ⟨w3, hw3⟩ : ∃ V, w2.drew = V := ⟨_, rfl⟩
 rw [hw3]
 have B3 : Hid (Below w.heap.size w w3) := by rw [← hw3]; exact B2.out.drew
 have V1 : Hid (Has w3 w.heap.size 9 #[kS root]) := by rw [← hw3]; exact Z1.out
 have V2 : Hid (Has w3 (w.heap.size + 1) 44 #[.int .i64 1, kS d, kS x, .int .i64 tm]) := by rw [← hw3]; exact Z2.out
 have V3 : Hid (Has w3 (w.heap.size + 1 + 1) 2 #[.int .i64 (t : Int)]) := by rw [← hw3]; exact Z3.out
 clear hw3 c2
 go_wp2_with fail
 refine (CPT.out w3 (Nat.lt_of_le_of_lt (Nat.zero_le _) V1.out.inside)).mono ?_; rintro e4 w4 ⟨v4, rfl, hf4, hb4⟩
 have B4 : Hid (Below w.heap.size w w4) := B3.out.trans (hb4.mono B3.out.size)
 have U1 : Hid (Has w4 w.heap.size 9 #[kS root]) := V1.out.kept hb4 V1.out.inside
 have U2 : Hid (Has w4 (w.heap.size + 1) 44 #[.int .i64 1, kS d, kS x, .int .i64 tm]) := V2.out.kept hb4 V2.out.inside
 have U3 : Hid (Has w4 (w.heap.size + 1 + 1) 2 #[.int .i64 (t : Int)]) := V3.out.kept hb4 V3.out.inside
 obtain ⟨A4, cap4, bb4, hy4, _, _⟩ := hf4.bytes (Nat.lt_of_le_of_lt (Nat.zero_le _) U1.out.inside)
 have K4 := conv_back hy4
 rw [List.nil_append, tl_ba] at K4
 have c4 : w4.cell? ⟨w.heap.size + 1, 1, none⟩ = some (kS d) := U2.out.at_ 1
 obtain ⟨w5, hw5⟩ : ∃ V, w4.alloc (.cells #[.string (ba (textL pt) ++ ba d)] 9) = V := ⟨_, rfl⟩
 have b45 : Below w4.heap.size w4 w5 := hw5 ▸ (Below.refl _ _).alloc (Nat.le_refl _) _
 have B5 : Hid (Below w.heap.size w w5) := B4.out.trans (b45.mono B4.out.size)
 have L5 : Hid (w4.heap.size < w5.heap.size) := by show _ < _; rw [← hw5]; simp
 have HB5 : Hid (Bxs w5 w.heap.size (w.heap.size + 1 + 1) w4.heap.size (w.heap.size + 1) root (t : Int) data 1 d x tm) :=
  ⟨U1.out.kept b45 U1.out.inside, U3.out.kept b45 U3.out.inside, by have := Has.fresh w4 9 #[.string (ba (textL pt) ++ ba d)]; rw [hw5, ES.out] at this; exact this, U2.out.kept b45 U2.out.inside⟩
 have D5 : Hid (DW w0 (fun g => av g ∨ w.heap.size ≤ g ∧ g < w5.heap.size) w5 p M) := H.out.more B5.out (fun g h => h)
 have A1 : Hid (w.heap.size < w4.heap.size) := U1.out.inside
 have A2 : Hid (w.heap.size + 1 + 1 < w4.heap.size) := U3.out.inside
 have c5 : w5.cell? ⟨w.heap.size, 0, none⟩ = some (kS root) := HB5.out.h1.at_ 0
 have CH := hid (ahas_any D5.out HG.out root (by have := HRR.out; omega))
 clear hb4 hf4 hy4 b45
 go_wp2_with fail
 cases hh : hasM M.now root with
 | true =>
  rw [hh] at CH
  have HKK : Hid (addK M root pt ⟨1, d, x, tm⟩ t = if (putM M root t data tm).1.2 = 0 then putM M root t data tm else (([], (putM M root t data tm).1.2), (putM M root t data tm).2)) := by
   show _ = _; unfold addK; rw [HDT.out, if_neg (by rw [hh]; simp)]
  clear hh
  refine CH.out.mono ?_; rintro e6 w6 ⟨rfl, hb6⟩
  have B6 := hid hb6
  clear hb6
  have D6 := hid (D5.out.on B6.out)
  have KK := hid (D5.out.ka B6.out)
  have HB6 := hid (HB5.out.to KK.out (.inr ⟨Nat.le_refl _, by have := A1.out; have := L5.out; omega⟩) (.inr ⟨by omega, by have := A2.out; have := L5.out; omega⟩) (.inr ⟨by have := A1.out; omega, L5.out⟩) (.inr ⟨by omega, by have := A2.out; have := L5.out; omega⟩))
  have CA := hid (addC_any D6.out HG.out root HRR.out t HT.out data HDL.out 1 d x tm HLEN.out HB6.out (.inr ⟨Nat.le_refl _, by have := A1.out; have := L5.out; omega⟩) (.inr ⟨by omega, by have := A2.out; have := L5.out; omega⟩) (.inr ⟨by have := A1.out; omega, L5.out⟩) (.inr ⟨by omega, by have := A2.out; have := L5.out; omega⟩))
  obtain ⟨⟨⟨nm, c⟩, M9⟩, HPM⟩ : ∃ r, Hid (putM M root t data tm = r) := ⟨_, rfl⟩
  rw [HPM.out] at CA HKK
  go_wp2_with fail
  refine CA.out.mono ?_; rintro e9 w9 ⟨rfl, h9, k9⟩
  have D9 := hid h9
  have K9 := hid k9
  clear h9 k9
  by_cases hc0 : c = 0
  · subst hc0
    have HKF : Hid (addK M root pt ⟨1, d, x, tm⟩ t = ((nm, 0), M9)) := by show _ = _; rw [HKK.out]; rfl
    go_wp2
    go_ret2
    rw [HM.out, HKF.out]
    exact ⟨rfl, D9.out.less (fun g h => .inl h), (H.out.ka B5.out).trans ((KK.out.trans K9.out).mono fun g h => .inl h)⟩
  · have HKF : Hid (addK M root pt ⟨1, d, x, tm⟩ t = (([], c), M9)) := by show _ = _; rw [HKK.out, if_neg hc0]
    go_wp2
    go_ret2
    rw [HM.out, HKF.out]
    exact ⟨rfl, D9.out.less (fun g h => .inl h), (H.out.ka B5.out).trans ((KK.out.trans K9.out).mono fun g h => .inl h)⟩
 | false =>
  rw [hh] at CH
  refine CH.out.mono ?_; rintro e6 w6 ⟨rfl, hb6⟩
  have B6 := hid hb6
  clear hb6
  have D6 := hid (D5.out.on B6.out)
  have K6 := hid (D5.out.ka B6.out)
  have HB6 := hid (HB5.out.to K6.out (.inr ⟨Nat.le_refl _, by have := A1.out; have := L5.out; omega⟩) (.inr ⟨by omega, by have := A2.out; have := L5.out; omega⟩) (.inr ⟨by have := A1.out; omega, L5.out⟩) (.inr ⟨by omega, by have := A2.out; have := L5.out; omega⟩))
  have CC : Hid (Calls Tryz.prog 47 #[.pointer (some ⟨p, 0, none⟩)] w6 fun e w' => CopyP M w6 e w') := by obtain ⟨own, ho, _⟩ := D6.out; exact dCopy_any ho
  go_wp2_with fail
  refine CC.out.mono ?_; rintro e7 w7 ⟨own7, q, rfl, hq7, ho7, hb7⟩
  have Q7 : Hid (DW w6 (fun g => g < w6.heap.size) w7 q M) := ⟨own7, hq7, fun g hg => ⟨ho7 g hg, fun k => by have := ho7 g hg; omega⟩, hb7, fun g hg => Nat.lt_of_lt_of_le hg hb7.size⟩
  have HB7 : Hid (Bxs w7 w.heap.size (w.heap.size + 1 + 1) w4.heap.size (w.heap.size + 1) root (t : Int) data 1 d x tm) :=
   ⟨HB6.out.h1.kept hb7 HB6.out.h1.inside, HB6.out.h2.kept hb7 HB6.out.h2.inside, HB6.out.h3.kept hb7 HB6.out.h3.inside, HB6.out.h4.kept hb7 HB6.out.h4.inside⟩
  have CQ := hid (addC_any Q7.out (D6.out.gd HG.out) root HRR.out t HT.out data HDL.out 1 d x tm HLEN.out HB7.out HB6.out.h1.inside HB6.out.h2.inside HB6.out.h3.inside HB6.out.h4.inside)
  obtain ⟨⟨⟨nm, c⟩, M9⟩, HPM⟩ : ∃ r, Hid (putM M root t data tm = r) := ⟨_, rfl⟩
  rw [HPM.out] at CQ
  clear hq7 ho7 hb7
  go_wp2_with fail
  refine CQ.out.mono ?_; rintro e8 w8 ⟨rfl, h8, k8⟩
  have B8 : Hid (Below w6.heap.size w6 w8) := h8.bl
  have D8 := hid (D6.out.on B8.out)
  have KK := hid (K6.out.trans (D6.out.ka B8.out))
  have HB8 := hid (HB5.out.to KK.out (.inr ⟨Nat.le_refl _, by have := A1.out; have := L5.out; omega⟩) (.inr ⟨by omega, by have := A2.out; have := L5.out; omega⟩) (.inr ⟨by have := A1.out; omega, L5.out⟩) (.inr ⟨by omega, by have := A2.out; have := L5.out; omega⟩))
  have CA := hid (addC_any D8.out HG.out root HRR.out t HT.out data HDL.out 1 d x tm HLEN.out HB8.out (.inr ⟨Nat.le_refl _, by have := A1.out; have := L5.out; omega⟩) (.inr ⟨by omega, by have := A2.out; have := L5.out; omega⟩) (.inr ⟨by have := A1.out; omega, L5.out⟩) (.inr ⟨by omega, by have := A2.out; have := L5.out; omega⟩))
  rw [HPM.out] at CA
  clear h8 k8
  by_cases hc : c ≠ 0 ∧ c ≠ 20
  · have hc1 : ¬ c = 0 := hc.1
    have hc2 : ¬ c = 20 := hc.2
    have q1 : (c == 0) = false := by simp [hc1]
    have q2 : (c == 20) = false := by simp [hc2]
    have q3 : (c != 0) = true := by simp [hc1]
    have q4 : (c != 20) = true := by simp [hc2]
    clear hc
    have HKF : Hid (addK M root pt ⟨1, d, x, tm⟩ t = (([], c), M)) := by
     show _ = _; unfold addK; rw [HDT.out, HPM.out, if_pos ⟨hh, hc1, hc2⟩]
    clear hh
    go_wp2
    go_ret2
    rw [HM.out, HKF.out]
    exact ⟨rfl, D8.out.less (fun g h => .inl h), (H.out.ka B5.out).trans (KK.out.mono fun g h => .inl h)⟩
  have HKK : Hid (addK M root pt ⟨1, d, x, tm⟩ t = if c = 0 then ((nm, c), M9) else (([], c), M9)) := by
   show _ = _; unfold addK; rw [HDT.out, HPM.out, if_neg (fun k => hc k.2)]
  have hc3 : c = 0 ∨ c = 20 := by omega
  clear hh hc
  rcases hc3 with rfl | rfl
  ·
   go_wp2_with fail
   refine CA.out.mono ?_; rintro e9 w9 ⟨rfl, h9, k9⟩
   have D9 := hid h9
   have K9 := hid k9
   clear h9 k9
   go_wp2
   go_ret2
   rw [HM.out, HKK.out]
   exact ⟨rfl, D9.out.less (fun g h => .inl h), (H.out.ka B5.out).trans ((KK.out.trans K9.out).mono fun g h => .inl h)⟩
  ·
   go_wp2_with fail
   refine CA.out.mono ?_; rintro e9 w9 ⟨rfl, h9, k9⟩
   have D9 := hid h9
   have K9 := hid k9
   clear h9 k9
   go_wp2
   go_ret2
   rw [HM.out, HKK.out]
   exact ⟨rfl, D9.out.less (fun g h => .inl h), (H.out.ka B5.out).trans ((KK.out.trans K9.out).mono fun g h => .inl h)⟩
end
end Go.Proofs.YtabidnlbgdecbaaGreatDoor
namespace Go.Proofs.YtabidnlbgdecbaaGreatDoor
open Go.RowKit Go.Maps
theorem Has.en {w : World} {g : Nat} {x : En} (h : Has w g 28 (enA x)) : EnAt w g 0 x := ⟨h.at_ 0, h.at_ 1, h.at_ 2, h.at_ 3⟩
section
variable {ops : Array Oper} {Q : Exit → Act → World → Prop} {a : Act} {w : World} {rest : List Oper} {o : Oper}
theorem wpList_load_en (hw : Region.wanted o (yielded ops a.tmps) = true) (x : Operand) (ho : o.op = .load 28 x) (g of : Nat) (hx : a.eval x = .pointer (some ⟨g, of, none⟩)) (p q : By) (t s : Int) (hg : EnAt w g of ⟨p, q, t, s⟩)
 (h : wpList Tryz.prog ops Q rest (a.put o.dst (.agg #[kS p, kS q, .int .i64 t, .int .i64 s])) w) : wpList Tryz.prog ops Q (o :: rest) a w :=
 wpList_wanted hw fun _ hK => by
  unfold Oper.wp execOp
  have e := hg.load
  unfold enA at e
  simp only at e
  simp only [ho, hx, Instr.loadAt, Instr.sureAddr, Sem.run_bind, Sem.run_pure, Result.andThen_ok, e]
  exact hK _ _ h
end
def noA (s : By) : Int := if mayB s then 0 else 10
def arcs (L : Tr) (root : By) (names : List By) : List En := names.filterMap fun s => (openA s (readM L (root ++ 47 :: s)).1).map (·.1)
theorem arcs_snoc (L : Tr) (root : By) (names : List By) (s : By) : arcs L root (names ++ [s]) = match openA s (readM L (root ++ 47 :: s)).1 with | some x => arcs L root names ++ [x.1] | none => arcs L root names := by
 unfold arcs
 rw [List.filterMap_append, List.filterMap_cons, List.filterMap_nil]
 cases openA s (readM L (root ++ 47 :: s)).1 <;> simp
def listA (L : Tr) (root : By) : List En × Int := if mayB root then (if (listM L root).2 = 0 then (arcs L root (listM L root).1, 0) else ([], (listM L root).2)) else ([], 10)
theorem read_data {M : Mo} (h : Good M) (hr : M.room ≤ 100000) (s : By) : (readM M.now s).1.data.length ≤ 100000 := by
 unfold readM
 split
 · split
   · rename_i n hn
     have h1 := h.w1.used
     have h2 := useP_le h.w1.srt s
     unfold useP at h2
     rw [hn] at h2
     simp only [useN] at h2
     show n.data.length ≤ 100000
     omega
   · simp [n0]
 · simp [n0]
section
variable {w0 w : World} {av : Nat → Prop} {p : Nat} {M : Mo}
set_option maxHeartbeats 2000000 in
theorem nowhere_any (s : By) (w : World) (hG : Gd w) (hs : s.length ≤ 4000) (g : Nat) :
 Calls Tryz.prog 34 #[.pointer (some ⟨g, 0, none⟩), kS s] w fun e w' => e = .returned (.int .i64 (noA s)) ∧ Below w.heap.size w w' := by
 have hq := neqPtr g
 cases hm : mayB s with
 | false =>
  have C := hid (mayk_any s false hm w hG hs)
  have HN : Hid (noA s = 10) := by show _ = _; unfold noA; rw [hm]; rfl
  clear hm hG
  go_enter Tryz.func34, Tryz.ntmps34
  go_wp2_with fail
  refine C.out.mono ?_; rintro e1 w1 ⟨rfl, hb1⟩
  have B1 := hid hb1
  clear hb1
  go_wp2
  go_ret
  rw [HN.out]
  exact ⟨rfl, B1.out⟩
 | true =>
  have C := hid (mayk_any s true hm w hG hs)
  have HN : Hid (noA s = 0) := by show _ = _; unfold noA; rw [hm]; rfl
  clear hm hG
  go_enter Tryz.func34, Tryz.ntmps34
  go_wp2_with fail
  refine C.out.mono ?_; rintro e1 w1 ⟨rfl, hb1⟩
  have B1 := hid hb1
  clear hb1
  go_wp2
  go_ret
  rw [HN.out]
  exact ⟨rfl, B1.out⟩
set_option maxHeartbeats 2000000 in
theorem list_any (h : DW w0 av w p M) (hG : Gd w0) (hroom : M.room ≤ 100000) (root : By) (hr : root.length ≤ 3900) (h18 : ∀ s ∈ (listM M.now root).1, s.length ≤ 18) :
 Calls Tryz.prog 14 #[.pointer (some ⟨p, 0, none⟩), kS root] w fun e w' => ∃ v, e = .returned (.tuple #[v, .int .i64 (listA M.now root).2]) ∧ EnR 28 w.heap.size w' v (listA M.now root).1 ∧ Below w.heap.size w w' := by
 have C1 := hid (nowhere_any root w (h.gd hG) (by omega) p)
 cases hm : mayB root with
 | false =>
  have HL : Hid (listA M.now root = ([], 10)) := by show _ = _; unfold listA; rw [hm]; rfl
  have HN : Hid (noA root = 10) := by show _ = _; unfold noA; rw [hm]; rfl
  rw [HN.out] at C1
  rw [HL.out]
  clear hm hG h h18
  go_enter Tryz.func14, Tryz.ntmps14
  go_wp2_with fail
  refine C1.out.mono ?_; rintro e1 w1 ⟨rfl, hb1⟩
  have B1 := hid hb1
  clear hb1
  go_wp2
  go_ret2
  exact ⟨_, rfl, EnR.nil _ _ _, B1.out⟩
 | true =>
 have HN : Hid (noA root = 0) := by show _ = _; unfold noA; rw [hm]; rfl
 rw [HN.out] at C1
 have C2 : Hid (∀ W, Below w.heap.size w W → Calls Tryz.prog 35 #[.pointer (some ⟨p, 0, none⟩), kS root] W fun e w' => ListP W (listM M.now root) e w') := fun W hb => by
  have hGW := (h.on hb).gd hG
  obtain ⟨own, ho, _⟩ := h.on hb
  exact dList_any ho hGW root (by omega)
 have C3 : Hid (∀ W, Below w.heap.size w W → ∀ s : By, s.length ≤ 18 → Calls Tryz.prog 17 #[.pointer (some ⟨p, 0, none⟩), kS (root ++ 47 :: s)] W fun e w' => ReadP W (readM M.now (root ++ 47 :: s)) e w') := fun W hb s hs => by
  have hGW := (h.on hb).gd hG
  obtain ⟨own, ho, _⟩ := h.on hb
  exact dRead_any ho hGW _ (by simp; omega)
 have C4 : Hid (∀ W, Below w.heap.size w W → ∀ s : By, s.length ≤ 18 → ∀ k d x t, d.length ≤ 100000 → Calls Tryz.prog 36 #[kS s, .agg #[.int .i64 k, kS d, kS x, .int .i64 t]] W fun e w' => e = .returned (openV (openA s ⟨k, d, x, t⟩)) ∧ Below W.heap.size W w') := fun W hb s hs k d x t hd =>
  open_any s hs k d x t hd W ((h.on hb).gd hG)
 have HD : Hid (∀ s, (readM M.now s).1.data.length ≤ 100000) := fun s => read_data h.good hroom s
 have HNL : Hid ((listM M.now root).1.length ≤ 100000) := by
  show (listM M.now root).1.length ≤ 100000
  have h1 := h.len
  unfold listM
  split
  · simp
  · split
    · show (sortL _).length ≤ _
      unfold sortL
      rw [List.length_mergeSort]
      unfold childL
      exact Nat.le_trans (List.length_filter_le _ _) (Nat.le_trans (inner_le _ _) h1)
    · simp
 have HLA : Hid (listA M.now root = if (listM M.now root).2 = 0 then (arcs M.now root (listM M.now root).1, 0) else ([], (listM M.now root).2)) := by show _ = _; unfold listA; rw [hm]; rfl
 have H18 := hid h18
 obtain ⟨L, HL⟩ : ∃ L, Hid (M.now = L) := ⟨_, rfl⟩
 rw [HL.out] at C2 C3 HD HNL HLA H18 ⊢
 obtain ⟨⟨ns, c⟩, HM⟩ : ∃ r, Hid (listM L root = r) := ⟨_, rfl⟩
 rw [HM.out] at C2 HNL HLA H18
 simp only at HLA HNL H18
 obtain ⟨n, HNS⟩ : ∃ n, Hid (ns.length = n) := ⟨_, rfl⟩
 have hn : n ≤ 100000 := by rw [← HNS.out]; exact HNL.out
 have E3 : Hid (ba root ++ ⟨#[47]⟩ = ba (root ++ [47])) := ba_append _ [47]
 have E4 : Hid (∀ s : By, ba (root ++ [47]) ++ ba s = ba (root ++ 47 :: s)) := fun s => by rw [ba_append]; simp
 have z4 : (ba root).size ≤ 4000 := by rw [ba_size]; omega
 have z5 : (ba (root ++ [47])).size ≤ 4000 := by rw [ba_size, List.length_append]; simp; omega
 clear h hG hm h18 hroom hr
 by_cases hc : c = 0
 case neg =>
  have HLB : Hid (listA L root = ([], c)) := by show _ = _; rw [HLA.out, if_neg hc]
  rw [HLB.out]
  have q1 : (c == 0) = false := by simp [hc]
  go_enter Tryz.func14, Tryz.ntmps14
  go_wp2_with fail
  refine C1.out.mono ?_; rintro e1 w1 ⟨rfl, hb1⟩
  have B1 := hid hb1
  clear hb1
  go_wp2_with fail
  refine (C2.out _ B1.out).mono ?_; rintro e2 w2 ⟨A, cc, g, rfl, _, hb2⟩
  have B2 : Hid (Below w.heap.size w w2) := B1.out.trans (hb2.mono B1.out.size)
  clear hb2
  go_wp2
  go_ret2
  exact ⟨_, rfl, EnR.nil _ _ _, B2.out⟩
 subst hc
 have HLB : Hid (listA L root = (arcs L root ns, 0)) := by show _ = _; rw [HLA.out, if_pos rfl]
 rw [HLB.out]
 clear HLA HLB
 go_enter Tryz.func14, Tryz.ntmps14
 go_wp2_with fail
 refine C1.out.mono ?_; rintro e1 w1 ⟨rfl, hb1⟩
 have B1 := hid hb1
 clear hb1
 go_wp2_with fail
 refine (C2.out _ B1.out).mono ?_; rintro e2 w2 ⟨A, cc, g, rfl, hnm, hb2⟩
 have B2 : Hid (Below w.heap.size w w2) := B1.out.trans (hb2.mono B1.out.size)
 have NM := hid hnm
 simp only
 rw [HNS.out]
 clear hb2 hnm
 go_wp2
 go_loopw [9, 34] (fun v9 v34 wr => ∃ (k m c' : Nat) (A' : Option Addr), v34 = .int .i64 (k : Int) ∧ k ≤ n ∧ v9 = .slice A' m c' ∧ m ≤ k ∧ Hid ((arcs L root (ns.take k)).length = m) ∧ Hid (EnR 28 w2.heap.size wr (.slice A' m c') (arcs L root (ns.take k))) ∧ Hid (Below w2.heap.size w2 wr))
  (fun _ v34 _ => n - (intOf v34).toNat)
 case atStart => exact ⟨0, 0, 0, none, rfl, Nat.zero_le _, rfl, Nat.le_refl _, rfl, EnR.nil _ _ _, Below.refl _ _⟩
 case round =>
  obtain ⟨k, m, c', A', rfl, hk, rfl, hmk, HMM, HE, HB⟩ := hrel
  by_cases hlt : k < n
  · have hlt2 : (k : Int) < (n : Int) := by omega
    have h0 : (0 : Int) ≤ (k : Int) := by omega
    have hkp : k < ns.length := by rw [HNS.out]; exact hlt
    have hA := NM.out.ad (by omega)
    subst hA
    obtain ⟨s, hs⟩ : ∃ s, ns[k] = s := ⟨_, rfl⟩
    have c0 : wr.cell? ⟨g, k, none⟩ = some (kS s) := by
     rw [← hs]
     exact (HB.out.cell (p := ⟨g, k, none⟩) (NM.out.low (by omega))).trans (NM.out.cell k hkp)
    have hs18 : s.length ≤ 18 := H18.out s (by rw [← hs]; exact List.getElem_mem _)
    have HBW : Hid (Below w.heap.size w wr) := B2.out.trans (HB.out.mono B2.out.size)
    have CR1 := C3.out wr HBW.out s hs18
    have HNX : Hid (arcs L root (ns.take (k + 1)) = match openA s (readM L (root ++ 47 :: s)).1 with | some x => arcs L root (ns.take k) ++ [x.1] | none => arcs L root (ns.take k)) := by
     show _ = _
     rw [List.take_succ_eq_append_getElem hkp, hs, arcs_snoc]
    have hdl := HD.out (root ++ 47 :: s)
    obtain ⟨⟨⟨kd, dt, tg, tm⟩, ce⟩, HRD⟩ : ∃ r, Hid (readM L (root ++ 47 :: s) = r) := ⟨_, rfl⟩
    rw [HRD.out] at CR1 HNX hdl
    simp only at HNX hdl
    have CR2 : Hid (Calls Tryz.prog 17 #[.pointer (some ⟨p, 0, none⟩), kS (root ++ 47 :: s)] wr fun e w' => e = .returned (.tuple #[.agg #[.int .i64 kd, kS dt, kS tg, .int .i64 tm], .int .i64 ce]) ∧ Below wr.heap.size wr w') := CR1
    have CO := hid (fun W hW => C4.out W hW s hs18 kd dt tg tm hdl)
    have w1' : IntKind.i64.wrap ((k : Int) + 1) = (k : Int) + 1 := i64in _ (by omega) (by omega)
    have z6 : (ba s).size ≤ 4000 := by rw [ba_size]; omega
    clear CR1 hkp hdl hs hs18
    go_wp2_with fail
    rw [E3.out, E4.out]
    refine CR2.out.mono ?_; rintro e3 w3 ⟨rfl, hb3⟩
    have B3 : Hid (Below w2.heap.size w2 w3) := HB.out.trans (hb3.mono HB.out.size)
    have R3 := hid (HE.out.on hb3)
    clear hb3
    obtain ⟨w4, hw4⟩ : ∃ V, w3.alloc (.cells #[.int .i64 kd, kS dt, kS tg, .int .i64 tm] 44) = V := ⟨_, rfl⟩
    have b34 : Below w3.heap.size w3 w4 := hw4 ▸ (Below.refl _ _).alloc (Nat.le_refl _) _
    have X4 : Hid (Has w4 w3.heap.size 44 (ndA kd dt tg tm)) := by rw [← hw4]; exact Has.fresh _ _ _
    have B4 : Hid (Below w2.heap.size w2 w4) := B3.out.trans (b34.mono B3.out.size)
    have R4 := hid (R3.out.on b34)
    clear b34
    go_wp2_with (first
     | (refine wpList_load_nodeC rfl (.tmp 12) rfl w3.heap.size rfl kd dt tg tm X4.out ?_))
    unfold ndA
    have CO2 := hid (CO.out w4 (B2.out.trans (B4.out.mono B2.out.size)))
    have HL4 : Hid (w2.heap.size ≤ w4.heap.size) := B4.out.size
    cases ho : openA s ⟨kd, dt, tg, tm⟩ with
    | none =>
     rw [ho] at CO2 HNX
     simp only at HNX
     clear ho
     refine CO2.out.mono ?_; rintro e5 w5 ⟨rfl, hb5⟩
     have B5 : Hid (Below w2.heap.size w2 w5) := B4.out.trans (hb5.mono B4.out.size)
     have R5 := hid (R4.out.on hb5)
     have b56 : Hid (∀ o, Below w2.heap.size w2 (w5.alloc o) ∧ EnR 28 w2.heap.size (w5.alloc o) (.slice A' m c') (arcs L root (ns.take k))) := fun o => ⟨B5.out.alloc B5.out.size _, R5.out.on ((Below.refl _ _).alloc (Nat.le_refl _) _)⟩
     clear hb5
     unfold openV
     go_wp2
     go_roundw
     case rel => exact ⟨k + 1, m, c', A', by go_num, by omega, rfl, by omega, (by rw [HNX.out]; exact HMM), (by rw [HNX.out]; exact (b56.out _).2), (b56.out _).1⟩
     case measure => simp [intOf]; omega
    | some x =>
     obtain ⟨⟨xn, xp, xt, xs⟩, dd⟩ := x
     rw [ho] at CO2 HNX
     simp only at HNX
     clear ho
     refine CO2.out.mono ?_; rintro e5 w5 ⟨rfl, hb5⟩
     have B5 : Hid (Below w2.heap.size w2 w5) := B4.out.trans (hb5.mono B4.out.size)
     have R5 := hid (R4.out.on hb5)
     clear hb5
     obtain ⟨w6, hw6⟩ : ∃ V, w5.alloc (.cells #[kS xn, kS xp, .int .i64 xt, .int .i64 xs] 28) = V := ⟨_, rfl⟩
     have b56 : Below w5.heap.size w5 w6 := hw6 ▸ (Below.refl _ _).alloc (Nat.le_refl _) _
     have X6 : Hid (Has w6 w5.heap.size 28 (enA ⟨xn, xp, xt, xs⟩)) := by rw [← hw6]; exact Has.fresh _ _ _
     have B6 := B5.out.trans (b56.mono B5.out.size)
     have R6 := R5.out.on b56
     have b67 : Below w6.heap.size w6 (w6.alloc (.cells (enA ⟨xn, xp, xt, xs⟩) 28)) := (Below.refl _ _).alloc (Nat.le_refl _) _
     obtain ⟨v7, w7, hr7, he7, hg7, _⟩ := append_en (w6.alloc (.cells (enA ⟨xn, xp, xt, xs⟩) 28)) w2.heap.size (.slice A' m c') (arcs L root (ns.take k)) (R6.on b67) ⟨xn, xp, xt, xs⟩ w6.heap.size (Has.fresh _ _ _) (by rw [HMM.out]; omega) (Nat.le_trans B6.size b67.size) 24
     obtain ⟨A7, c7, rfl⟩ := he7.form
     have HM7 : Hid ((arcs L root (ns.take k) ++ [(⟨xn, xp, xt, xs⟩ : En)]).length = m + 1) := by show _ = _; rw [List.length_append, HMM.out]; rfl
     rw [HM7.out] at hr7 he7
     have R7 := hid hr7
     have E7 := hid he7
     have B7 : Hid (Below w2.heap.size w2 w7) := by
      have q7 := B6.trans (b67.mono B6.size)
      exact q7.grown hg7 q7.size (fun g hg => (World.ownsRow.lt (R6.on b67) g hg).1)
     clear hr7 he7 hg7 b56 b67 B6 R6
     unfold openV enA
     go_wp2_with (first
      | (refine wpList_load_en rfl (.tmp 14) rfl w5.heap.size 0 rfl xn xp xt xs X6.out.en ?_)
      | (refine wpList_build_en (by rfl) (.tmp 56) rfl xn xp xt xs rfl ?_)
      | (at_builtin; refine wpList_append_run rfl (.tmp 55) (.tmp 57) 24 24 rfl ⟨_, _, R7.out, ?_⟩))
     go_roundw
     case rel => exact ⟨k + 1, m + 1, c7, A7, by go_num, by omega, rfl, by omega, (by rw [HNX.out]; exact HM7), (by rw [HNX.out]; exact E7), B7⟩
     case measure => simp [intOf]; omega
  · obtain rfl : k = n := by omega
    have HF : Hid (arcs L root (ns.take k) = arcs L root ns) := by show _ = _; rw [List.take_of_length_le (by rw [HNS.out]; omega)]
    go_wp2
    go_ret2
    exact ⟨_, rfl, (by rw [← HF.out]; exact HE.out.mono B2.out.size), B2.out.trans (HB.out.mono B2.out.size)⟩
end
end Go.Proofs.YtabidnlbgdecbaaGreatDoor
namespace Go.Proofs.YtabidnlbgdecbaaGreatDoor
open Go.RowKit Go.Maps
def Ahd (a b : By) : Prop := Lib.compareBytes a b = -1
theorem cmp_neg : ∀ a b : By, Lib.compareBytes b a = - Lib.compareBytes a b
 | [], [] => rfl
 | [], _ :: _ => rfl
 | _ :: _, [] => rfl
 | a :: r, b :: t => by
  unfold Lib.compareBytes
  by_cases h : a < b
  · have h2 : ¬ b < a := UInt8.lt_asymm h
    rw [if_neg h2, if_pos h, if_pos h]; rfl
  · by_cases h2 : b < a
    · rw [if_pos h2, if_neg h, if_pos h2]
    · rw [if_neg h2, if_neg h, if_neg h, if_neg h2]; exact cmp_neg r t
theorem cmp_self : ∀ a : By, Lib.compareBytes a a = 0
 | [] => rfl
 | a :: r => by
  unfold Lib.compareBytes
  rw [if_neg (UInt8.lt_irrefl a), if_neg (UInt8.lt_irrefl a)]; exact cmp_self r
theorem Ahd.ne {a b : By} (h : Ahd a b) : a ≠ b := by rintro rfl; unfold Ahd at h; rw [cmp_self] at h; cases h
def Rise (L : List En) : Prop := L.Pairwise fun x y => Ahd x.name y.name
theorem Rise.get {L : List En} (h : Rise L) {i j : Nat} (hij : i < j) (hj : j < L.length) : Ahd (L.getD i en0).name (L.getD j en0).name := by
 rw [en_getD (Nat.lt_trans hij hj), en_getD hj]
 exact List.pairwise_iff_getElem.1 h i j _ _ hij
set_option maxHeartbeats 2000000 in
theorem cmpC_any (x y : En) (w : World) : Calls Tryz.prog 57 #[.agg (enA x), .agg (enA y)] w fun e w' => e = .returned (.int .i64 (Lib.compareBytes x.name y.name)) ∧ Below w.heap.size w w' := by
 obtain ⟨a, b, c, d⟩ := x
 obtain ⟨a2, b2, c2, d2⟩ := y
 have C := hid (fun W => Tryz.strings_Compare (ba a) (ba a2) W)
 unfold enA
 go_enter Tryz.func57, Tryz.ntmps57
 go_wp2_with fail
 refine (C.out _).mono ?_; rintro e1 w1 ⟨rfl, rfl⟩
 go_wp2
 go_ret
 exact ⟨rfl, ((Below.refl _ _).alloc (Nat.le_refl _) _).alloc (by simp) _⟩
set_option maxHeartbeats 2000000 in
theorem eqE_any (x y : En) (w : World) : Calls Tryz.prog 60 #[.agg (enA x), .agg (enA y)] w fun e w' => e = .returned (.bool (decide (x.name = y.name))) ∧ Below w.heap.size w w' := by
 obtain ⟨a, b, c, d⟩ := x
 obtain ⟨a2, b2, c2, d2⟩ := y
 have HE : Hid (((ba a).toList == (ba a2).toList) = decide (a = a2)) := by
  show _ = _
  rw [toList_tl, toList_tl, tl_ba, tl_ba]
  by_cases h : a = a2
  · subst h; simp
  · simp [h]
 unfold enA
 go_enter Tryz.func60, Tryz.ntmps60
 go_wp2
 go_ret
 refine ⟨?_, ((Below.refl _ _).alloc (Nat.le_refl _) _).alloc (by simp) _⟩
 show Ending.returned (.bool ((ba a).toList == (ba a2).toList)) = _
 rw [HE.out]
theorem yields_loadE {ops : Array Oper} {S : World → Prop} {o : Oper} {a : Act} (hw : Region.wanted o (yielded ops a.tmps) = true) (x : Operand) (ho : o.op = .load 28 x) (g off : Nat) (hx : a.eval x = .pointer (some ⟨g, off, none⟩)) (e : En)
 (hS : ∀ w, S w → EnAt w g off e) : YieldsIf Tryz.prog ops S o (.agg (enA e)) a :=
 .inl ⟨hw, fun w hw' => by
  unfold execOp
  simp only [ho, hx, Instr.loadAt, Instr.sureAddr, Sem.run_bind, Sem.run_pure, Result.andThen_ok, (hS w hw').load]⟩
structure CmS (g i j : Nat) (x y : En) (w W : World) : Prop where
 a1 : EnAt W g (i * 4) x
 a2 : EnAt W g (j * 4) y
 b : Below w.heap.size w W
set_option maxHeartbeats 4000000 in
theorem insert_rise {B : Nat} {w : World} {v : Value} {L : List En} (h : EnR 28 B w v L) (hR : Rise L) (a b : Nat) (hab : a ≤ b) (hb : b ≤ L.length) (hn : L.length ≤ 1000) :
 Calls Tryz.prog 137 #[v, .int .i64 (a : Int), .int .i64 (b : Int), .func (.func 57) #[] #[]] w fun e w' => e = .returned (.tuple #[]) ∧ Below w.heap.size w w' := by
 obtain ⟨A, c, rfl⟩ := h.form
 obtain ⟨n, HN⟩ : ∃ n, Hid (L.length = n) := ⟨_, rfl⟩
 have H := hid h
 have HR := hid hR
 rw [HN.out] at hb hn ⊢
 have wa : IntKind.i64.wrap ((a : Int) + 1) = (a : Int) + 1 := i64in _ (by omega) (by omega)
 clear h hR
 go_enter Tryz.func137, Tryz.ntmps137
 go_wp2
 go_loopw [8] (fun v8 wr => ∃ i : Nat, v8 = .int .i64 (i : Int) ∧ a < i ∧ i ≤ b + 1 ∧ Hid (Below w.heap.size w wr))
  (fun v8 _ => b + 1 - (intOf v8).toNat)
 case atStart => exact ⟨a + 1, by go_num, by omega, by omega, Below.refl _ _⟩
 case round =>
  obtain ⟨i, rfl, hai, hib, HB⟩ := hrel
  by_cases hlt : i < b
  · have hlt2 : (i : Int) < (b : Int) := by omega
    obtain ⟨jp, hjp⟩ : ∃ jp, i = jp + 1 := ⟨i - 1, by omega⟩
    have hil : i < L.length := by rw [HN.out]; omega
    have hjl : jp < L.length := by rw [HN.out]; omega
    have E1 := H.out.on HB.out
    obtain ⟨g, c', hv, _, hx⟩ := E1.at_ i hil
    obtain ⟨g2, c2, hv2, _, hy⟩ := E1.at_ jp hjl
    injection hv with hv e2 e3
    subst e3
    injection hv2 with hv2 e4 e5
    clear e2 e4 e5
    rw [hv] at hv2
    injection hv2 with hv2
    injection hv2 with hv2
    subst hv2
    subst hv
    have hcm := HR.out.get (show jp < i by omega) hil
    obtain ⟨x, hx'⟩ : ∃ x, L.getD i en0 = x := ⟨_, rfl⟩
    obtain ⟨y, hy'⟩ : ∃ y, L.getD jp en0 = y := ⟨_, rfl⟩
    rw [hx'] at hx hcm
    rw [hy'] at hy hcm
    have CM : Hid (∀ W, Calls Tryz.prog 57 #[.agg (enA x), .agg (enA y)] W fun e w' => e = .returned (.int .i64 1) ∧ Below W.heap.size W w') := fun W => by
     have := cmpC_any x y W
     rw [cmp_neg y.name x.name, hcm] at this; exact this
    have i0 : (0 : Int) ≤ (i : Int) := by omega
    have i1 : (i : Int) < (n : Int) := by omega
    have j0 : (0 : Int) ≤ (jp : Int) := by omega
    have j1 : (jp : Int) < (n : Int) := by omega
    have wj : IntKind.i64.wrap ((i : Int) - 1) = (jp : Int) := by rw [i64in _ (by omega) (by omega)]; omega
    have wi : IntKind.i64.wrap ((i : Int) + 1) = (i : Int) + 1 := i64in _ (by omega) (by omega)
    have hai2 : (a : Int) < (i : Int) := by omega
    obtain ⟨wo, hwo⟩ : ∃ V, V = wr := ⟨_, rfl⟩
    subst hwo
    have P0 : Hid (CmS g i jp x y wo wo.drew) := ⟨hx.on (Below.refl _ _).drew, hy.on (Below.refl _ _).drew, (Below.refl _ _).drew⟩
    clear hx hy hcm E1 hx' hy' hil hjl hjp
    go_wp2
    go_loopw [9] (fun v9 wr => v9 = .int .i64 (i : Int) ∧ wr = wo) (fun _ _ => 0)
    case atStart => exact ⟨rfl, rfl⟩
    case round =>
     obtain ⟨rfl, rfl⟩ := hrel
     go_wp2
     refine wp_region_noPanic ?_
     refine wp_region_held_drew (S := fun W => CmS g i jp x y wr W) (by kernel_rfl) (P0.out) (fun hS => ?_)
     refine tkH 0 (v := ?_) (by simp only [lkA, lkB]; rfl) (by kernel_rfl) (fun _ _ _ h => h) (by rfl) (by assumption) ?_ ?_
     rotate_left 1
     · intro w hSw
       go_simp
       with_reducible rfl
     simp only [Act.put, siA, siB, siC]
     refine tkH 1 (v := ?_) (by simp only [lkA, lkB, lkC]; rfl) (by kernel_rfl) (fun _ _ _ h => h) (by rfl) (by assumption) ?_ ?_
     rotate_left 1
     · intro w hSw
       go_simp
       with_reducible rfl
     simp only [Act.put, siA, siB, siC]
     refine tkH 2 (v := ?_) (by simp only [lkA, lkB, lkC]; rfl) (by kernel_rfl) (fun _ _ _ h => h) (by rfl) (by assumption) ?_ ?_
     rotate_left 1
     · intro w hSw
       go_simp
       with_reducible rfl
     simp only [Act.put, siA, siB, siC]
     refine tkH 3 (v := ?_) (by simp only [lkA, lkB, lkC]; rfl) (by kernel_rfl) (fun _ _ _ h => h) (by rfl) (by assumption) ?_ ?_
     rotate_left 1
     · intro w hSw
       go_simp
       with_reducible rfl
     simp only [Act.put, siA, siB, siC]
     refine tkH 4 (v := ?_) (by simp only [lkA, lkB, lkC]; rfl) (by kernel_rfl) (fun _ _ _ h => h) (by rfl) (by assumption) ?_ ?_
     rotate_left 1
     · intro w hSw
       go_simp
       with_reducible rfl
     simp only [Act.put, siA, siB, siC]
     refine tkH 5 (v := ?_) (by simp only [lkA, lkB, lkC]; rfl) (by kernel_rfl) (fun _ _ _ h => h) (by rfl) (by assumption) ?_ ?_
     rotate_left 1
     · intro w hSw
       go_simp
       with_reducible rfl
     simp only [Act.put, siA, siB, siC]
     refine tkH 6 (v := ?_) (by simp only [lkA, lkB, lkC]; rfl) (by kernel_rfl) (fun _ _ _ h => h) (by rfl) (by assumption) ?_ ?_
     rotate_left 1
     · intro w hSw
       go_simp
       with_reducible rfl
     simp only [Act.put, siA, siB, siC]
     refine tkH 7 (v := ?_) (by simp only [lkA, lkB, lkC]; rfl) (by kernel_rfl) (fun _ _ _ h => h) (by rfl) (by assumption) ?_ ?_
     rotate_left 1
     · intro w hSw
       go_simp
       with_reducible rfl
     simp only [Act.put, siA, siB, siC]
     refine' wpAnyH_take (i := 8) (v := _) (by simp only [lkA, lkB, lkC]; rfl) (by kernel_rfl) (by kernel_rfl) (by kernel_rfl) (fun _ _ _ h => h) (yields_loadE (by rfl) (.tmp 25) rfl g (i * 4) rfl x (fun W hW => hW.a1)) (by assumption) ?_
     simp only [Act.put, siA, siB, siC]
     refine tkH 9 (v := ?_) (by simp only [lkA, lkB, lkC]; rfl) (by kernel_rfl) (fun _ _ _ h => h) (by rfl) (by assumption) ?_ ?_
     rotate_left 1
     · intro w hSw
       go_simp
       with_reducible rfl
     simp only [Act.put, siA, siB, siC]
     refine tkH 10 (v := ?_) (by simp only [lkA, lkB, lkC]; rfl) (by kernel_rfl) (fun _ _ _ h => h) (by rfl) (by assumption) ?_ ?_
     rotate_left 1
     · intro w hSw
       go_simp
       with_reducible rfl
     simp only [Act.put, siA, siB, siC]
     refine tkH 11 (v := ?_) (by simp only [lkA, lkB, lkC]; rfl) (by kernel_rfl) (fun _ _ _ h => h) (by rfl) (by assumption) ?_ ?_
     rotate_left 1
     · intro w hSw
       go_simp
       with_reducible rfl
     simp only [Act.put, siA, siB, siC]
     refine tkH 12 (v := ?_) (by simp only [lkA, lkB, lkC]; rfl) (by kernel_rfl) (fun _ _ _ h => h) (by rfl) (by assumption) ?_ ?_
     rotate_left 1
     · intro w hSw
       go_simp
       with_reducible rfl
     simp only [Act.put, siA, siB, siC]
     refine' wpAnyH_take (i := 13) (v := _) (by simp only [lkA, lkB, lkC]; rfl) (by kernel_rfl) (by kernel_rfl) (by kernel_rfl) (fun _ _ _ h => h) (yields_loadE (by rfl) (.tmp 30) rfl g (jp * 4) rfl y (fun W hW => hW.a2)) (by assumption) ?_
     simp only [Act.put, siA, siB, siC]
     refine wpAnyH_ready (rs := [14]) (by kernel_rfl) (by simp) ?_
     refine AllReadyH.cons (by simp only [lkA, lkB, lkC]; rfl) (fun K hK => ?_) (AllReadyH.nil)
     go_simp
     refine (CM.out _).mono ?_
     rintro e5 w5 ⟨rfl, hb5⟩
     have hz1 := (⟨hS.a1.on hb5, hS.a2.on hb5, hS.b.trans (hb5.mono hS.b.size)⟩ : CmS g i jp x y wr w5)
     refine hK.out _ _ hz1 (fun hS => ?_)
     clear hK K hS
     refine tkH 15 (v := ?_) (by simp only [lkA, lkB, lkC]; rfl) (by kernel_rfl) (fun _ _ _ h => h) (by rfl) (by assumption) ?_ ?_
     rotate_left 1
     · intro w hSw
       go_simp
       with_reducible rfl
     simp only [Act.put, siA, siB, siC]
     refine tkH 16 (v := ?_) (by simp only [lkA, lkB, lkC]; rfl) (by kernel_rfl) (fun _ _ _ h => h) (by rfl) (by assumption) ?_ ?_
     rotate_left 1
     · intro w hSw
       go_simp
       with_reducible rfl
     simp only [Act.put, siA, siB, siC]
     refine wpAnyH_done (by kernel_rfl) ?_ _
     refine NoPanic.normal ?_
     have B5 : Hid (Below w.heap.size w w5) := HB.out.trans (hz1.b.mono HB.out.size)
     clear hz1
     go_wp2
     go_roundw
     case rel => exact ⟨i + 1, by go_num, by omega, by omega, B5⟩
     case measure => simp [intOf]; omega
  · have hlt2 : ¬ (i : Int) < (b : Int) := by omega
    go_wp2
    go_end0
    exact ⟨rfl, HB.out⟩
end Go.Proofs.YtabidnlbgdecbaaGreatDoor
namespace Go.Proofs.YtabidnlbgdecbaaGreatDoor
open Go.RowKit Go.Maps
set_option maxHeartbeats 4000000 in
theorem stable_small {B : Nat} {w : World} {v : Value} {L : List En} (h : EnR 28 B w v L) (hR : Rise L) (hn : L.length ≤ 19) :
 Calls Tryz.prog 96 #[v, .int .i64 (L.length : Int), .func (.func 57) #[] #[]] w fun e w' => e = .returned (.tuple #[]) ∧ Below w.heap.size w w' := by
 have C := hid (insert_rise h hR 0 L.length (Nat.zero_le _) (Nat.le_refl _) (by omega))
 obtain ⟨A, c, rfl⟩ := h.form
 obtain ⟨n, HN⟩ : ∃ n, Hid (L.length = n) := ⟨_, rfl⟩
 rw [HN.out] at hn C ⊢
 have n1 : ¬ (20 : Int) ≤ (n : Int) := by omega
 have n2 : ¬ (20 : Int) < (n : Int) := by omega
 clear h hR
 go_enter Tryz.func96, Tryz.ntmps96
 go_wp2
 refine wp_loop_rounds 1 ?_
 rw [rounds_succ]
 go_wp2_with fail
 refine C.out.mono ?_; rintro e1 w1 ⟨rfl, hb1⟩
 have B1 := hid hb1
 clear hb1
 go_wp2
 refine wp_loop_rounds 1 ?_
 rw [rounds_succ]
 go_wp2
 go_end0
 exact ⟨rfl, B1.out⟩
set_option maxHeartbeats 4000000 in
theorem sort_small {B : Nat} {w : World} {v : Value} {L : List En} (h : EnR 28 B w v L) (hR : Rise L) (hn : L.length ≤ 19) :
 Calls Tryz.prog 56 #[v, .func (.func 57) #[] #[]] w fun e w' => e = .returned (.tuple #[]) ∧ Below w.heap.size w w' := by
 have C := hid (stable_small h hR hn)
 obtain ⟨A, c, rfl⟩ := h.form
 obtain ⟨n, HN⟩ : ∃ n, Hid (L.length = n) := ⟨_, rfl⟩
 rw [HN.out] at C ⊢
 clear h hR
 go_enter Tryz.func56, Tryz.ntmps56
 go_wp2_with fail
 refine C.out.mono ?_; rintro e1 w1 ⟨rfl, hb1⟩
 have B1 := hid hb1
 clear hb1
 go_wp2
 go_end0
 exact ⟨rfl, B1.out⟩
set_option maxHeartbeats 4000000 in
theorem compact_rise {B : Nat} {w : World} {v : Value} {L : List En} (h : EnR 28 B w v L) (hR : Rise L) (hn : L.length ≤ 1000) :
 Calls Tryz.prog 59 #[v, .func (.func 60) #[] #[]] w fun e w' => e = .returned v ∧ Below w.heap.size w w' := by
 obtain ⟨A, c, rfl⟩ := h.form
 obtain ⟨n, HN⟩ : ∃ n, Hid (L.length = n) := ⟨_, rfl⟩
 have H := hid h
 have HR := hid hR
 rw [HN.out] at hn ⊢
 clear h hR
 by_cases h2 : n < 2
 · have h2' : (n : Int) < 2 := by omega
   go_enter Tryz.func59, Tryz.ntmps59
   go_wp2
   go_ret
   exact ⟨rfl, Below.refl _ _⟩
 have h2' : ¬ (n : Int) < 2 := by omega
 go_enter Tryz.func59, Tryz.ntmps59
 go_wp2
 go_loopw [5] (fun v5 wr => ∃ i : Nat, v5 = .int .i64 (i : Int) ∧ 0 < i ∧ i ≤ n ∧ Hid (Below w.heap.size w wr))
  (fun v5 _ => n - (intOf v5).toNat)
 case atStart => exact ⟨1, by go_num, by omega, by omega, Below.refl _ _⟩
 case round =>
  obtain ⟨i, rfl, hai, hib, HB⟩ := hrel
  by_cases hlt : i < n
  · have hlt2 : (i : Int) < (n : Int) := by omega
    obtain ⟨jp, hjp⟩ : ∃ jp, i = jp + 1 := ⟨i - 1, by omega⟩
    have hil : i < L.length := by rw [HN.out]; omega
    have hjl : jp < L.length := by rw [HN.out]; omega
    have E1 := H.out.on HB.out
    obtain ⟨g, c', hv, _, hx⟩ := E1.at_ i hil
    obtain ⟨g2, c2, hv2, _, hy⟩ := E1.at_ jp hjl
    injection hv with hv e2 e3
    subst e3
    injection hv2 with hv2 e4 e5
    clear e2 e4 e5
    rw [hv] at hv2
    injection hv2 with hv2
    injection hv2 with hv2
    subst hv2
    subst hv
    have hcm := HR.out.get (show jp < i by omega) hil
    obtain ⟨x, hx'⟩ : ∃ x, L.getD i en0 = x := ⟨_, rfl⟩
    obtain ⟨y, hy'⟩ : ∃ y, L.getD jp en0 = y := ⟨_, rfl⟩
    rw [hx'] at hx hcm
    rw [hy'] at hy hcm
    have CM : Hid (∀ W, Calls Tryz.prog 60 #[.agg (enA x), .agg (enA y)] W fun e w' => e = .returned (.bool false) ∧ Below W.heap.size W w') := fun W => by
     have := eqE_any x y W
     rw [decide_eq_false (fun k => hcm.ne k.symm)] at this; exact this
    have i0 : (0 : Int) ≤ (i : Int) := by omega
    have j0 : (0 : Int) ≤ (jp : Int) := by omega
    have j1 : (jp : Int) < (n : Int) := by omega
    have wj : IntKind.i64.wrap ((i : Int) - 1) = (jp : Int) := by rw [i64in _ (by omega) (by omega)]; omega
    have wi : IntKind.i64.wrap ((i : Int) + 1) = (i : Int) + 1 := i64in _ (by omega) (by omega)
    have P0 : Hid (CmS g i jp x y wr wr.drew) := ⟨hx.on (Below.refl _ _).drew, hy.on (Below.refl _ _).drew, (Below.refl _ _).drew⟩
    clear hx hy hcm E1 hx' hy' hil hjl hjp
    go_wp2
    refine wp_region_noPanic ?_
    refine wp_region_held_drew (S := fun W => CmS g i jp x y wr W) (by kernel_rfl) (P0.out) (fun hS => ?_)
    refine tkH 0 (v := ?_) (by simp only [lkA, lkB]; rfl) (by kernel_rfl) (fun _ _ _ h => h) (by rfl) (by assumption) ?_ ?_
    rotate_left 1
    · intro w hSw
      go_simp
      with_reducible rfl
    simp only [Act.put, siA, siB, siC]
    refine tkH 1 (v := ?_) (by simp only [lkA, lkB, lkC]; rfl) (by kernel_rfl) (fun _ _ _ h => h) (by rfl) (by assumption) ?_ ?_
    rotate_left 1
    · intro w hSw
      go_simp
      with_reducible rfl
    simp only [Act.put, siA, siB, siC]
    refine tkH 2 (v := ?_) (by simp only [lkA, lkB, lkC]; rfl) (by kernel_rfl) (fun _ _ _ h => h) (by rfl) (by assumption) ?_ ?_
    rotate_left 1
    · intro w hSw
      go_simp
      with_reducible rfl
    simp only [Act.put, siA, siB, siC]
    refine tkH 3 (v := ?_) (by simp only [lkA, lkB, lkC]; rfl) (by kernel_rfl) (fun _ _ _ h => h) (by rfl) (by assumption) ?_ ?_
    rotate_left 1
    · intro w hSw
      go_simp
      with_reducible rfl
    simp only [Act.put, siA, siB, siC]
    refine' wpAnyH_take (i := 4) (v := _) (by simp only [lkA, lkB, lkC]; rfl) (by kernel_rfl) (by kernel_rfl) (by kernel_rfl) (fun _ _ _ h => h) (yields_loadE (by rfl) (.tmp 21) rfl g (i * 4) rfl x (fun W hW => hW.a1)) (by assumption) ?_
    simp only [Act.put, siA, siB, siC]
    refine tkH 5 (v := ?_) (by simp only [lkA, lkB, lkC]; rfl) (by kernel_rfl) (fun _ _ _ h => h) (by rfl) (by assumption) ?_ ?_
    rotate_left 1
    · intro w hSw
      go_simp
      with_reducible rfl
    simp only [Act.put, siA, siB, siC]
    refine tkH 6 (v := ?_) (by simp only [lkA, lkB, lkC]; rfl) (by kernel_rfl) (fun _ _ _ h => h) (by rfl) (by assumption) ?_ ?_
    rotate_left 1
    · intro w hSw
      go_simp
      with_reducible rfl
    simp only [Act.put, siA, siB, siC]
    refine tkH 7 (v := ?_) (by simp only [lkA, lkB, lkC]; rfl) (by kernel_rfl) (fun _ _ _ h => h) (by rfl) (by assumption) ?_ ?_
    rotate_left 1
    · intro w hSw
      go_simp
      with_reducible rfl
    simp only [Act.put, siA, siB, siC]
    refine tkH 8 (v := ?_) (by simp only [lkA, lkB, lkC]; rfl) (by kernel_rfl) (fun _ _ _ h => h) (by rfl) (by assumption) ?_ ?_
    rotate_left 1
    · intro w hSw
      go_simp
      with_reducible rfl
    simp only [Act.put, siA, siB, siC]
    refine' wpAnyH_take (i := 9) (v := _) (by simp only [lkA, lkB, lkC]; rfl) (by kernel_rfl) (by kernel_rfl) (by kernel_rfl) (fun _ _ _ h => h) (yields_loadE (by rfl) (.tmp 26) rfl g (jp * 4) rfl y (fun W hW => hW.a2)) (by assumption) ?_
    simp only [Act.put, siA, siB, siC]
    refine wpAnyH_ready (rs := [10]) (by kernel_rfl) (by simp) ?_
    refine AllReadyH.cons (by simp only [lkA, lkB, lkC]; rfl) (fun K hK => ?_) (AllReadyH.nil)
    go_simp
    refine (CM.out _).mono ?_
    rintro e5 w5 ⟨rfl, hb5⟩
    have hz1 := (⟨hS.a1.on hb5, hS.a2.on hb5, hS.b.trans (hb5.mono hS.b.size)⟩ : CmS g i jp x y wr w5)
    refine hK.out _ _ hz1 (fun hS => ?_)
    clear hK K hS
    refine wpAnyH_done (by kernel_rfl) ?_ _
    refine NoPanic.normal ?_
    have B5 : Hid (Below w.heap.size w w5) := HB.out.trans (hz1.b.mono HB.out.size)
    clear hz1
    go_wp2
    go_roundw
    case rel => exact ⟨i + 1, by go_num, by omega, by omega, B5⟩
    case measure => simp [intOf]; omega
  · have hlt2 : ¬ (i : Int) < (n : Int) := by omega
    go_wp2
    go_ret
    exact ⟨rfl, HB.out⟩
end Go.Proofs.YtabidnlbgdecbaaGreatDoor
