/- Two finders and a row of acts side by side; a finder's names; where a file's block is found. No conditions but the ones said. -/
import Derived.Test.YtlcdkponegmcdaaDoorGD
namespace Go.Proofs.YtlcdkponegmcdaaDoor
open Go.RowKit
theorem srt_ext : ∀ {l l' : List Pl}, Srt l → Srt l' → (∀ q, q ∈ l ↔ q ∈ l') → l = l'
  | [], [], _, _, _ => rfl
  | [], a :: r, _, _, h => by have := (h a).2 (List.mem_cons_self ..); cases this
  | a :: r, [], _, _, h => by have := (h a).1 (List.mem_cons_self ..); cases this
  | a :: r, a' :: r', h1, h2, h => by
    have g1 : ∀ q ∈ r, cb a.1 q.1 < 0 := fun q hq => List.rel_of_pairwise_cons h1 hq
    have g2 : ∀ q ∈ r', cb a'.1 q.1 < 0 := fun q hq => List.rel_of_pairwise_cons h2 hq
    have e : a = a' := by
      rcases List.mem_cons.1 ((h a).1 (List.mem_cons_self ..)) with e | e
      · exact e
      · rcases List.mem_cons.1 ((h a').2 (List.mem_cons_self ..)) with e2 | e2
        · exact e2.symm
        · have k1 := g2 a e
          have k2 := g1 a' e2
          rw [cb_swap] at k1
          omega
    subst e
    have hne : ∀ q, (q ∈ r ∨ q ∈ r') → q ≠ a := by
      rintro q (hq | hq) e
      · have := g1 q hq; rw [e, cb_self] at this; omega
      · have := g2 q hq; rw [e, cb_self] at this; omega
    rw [srt_ext (List.Pairwise.of_cons h1) (List.Pairwise.of_cons h2) (fun q => ⟨fun hq => by
      rcases List.mem_cons.1 ((h q).1 (List.mem_cons_of_mem _ hq)) with e | e
      · exact absurd e (hne q (.inl hq))
      · exact e, fun hq => by
      rcases List.mem_cons.1 ((h q).2 (List.mem_cons_of_mem _ hq)) with e | e
      · exact absurd e (hne q (.inr hq))
      · exact e⟩)]
theorem rep_uniq {F : By → Option By} {P P' : By → List Pl} (h : Rep F P) (h' : Rep F P') : P = P' := by
  funext d
  refine srt_ext (h.srt d) (h'.srt d) fun q => ?_
  obtain ⟨n, i⟩ := q
  rw [h.mem, h'.mem]
/-- Where a file's block is found. -/
theorem find_file {F : By → Option By} {P : By → List Pl} (hR : Rep F P) (hl : ∀ n xs, F n = some xs → n.length ≤ maxLen ∧ xs.length ≤ 4096) (n xs : By) (hF : F n = some xs) (k : Nat) (hk : k < cntL xs.length) :
    ∃ q ps xs', P (dg (partL xs k)) = q :: ps ∧ F q.1 = some xs' ∧ dg (partI xs' (q.2 : Int)) = dg (partL xs k) ∧ (q.1 = n ∨ cb q.1 n < 0) ∧ q.1.length ≤ maxLen := by
  have hk2 : k < (hashes xs).length := by rw [hashes_len]; exact hk
  have hd : (hashes xs).getD k [] = dg (partL xs k) := by rw [List.getD, List.getElem?_eq_getElem hk2, Option.getD_some, hashes_at xs k hk]
  obtain ⟨i, _, hf⟩ := isFirst_ex k hk2 hd
  have hm := (hR.mem _ n i).2 ⟨xs, hF, hf⟩
  cases hP : P (dg (partL xs k)) with
  | nil => rw [hP] at hm; cases hm
  | cons q ps =>
    have hq : q ∈ P (dg (partL xs k)) := by rw [hP]; exact List.mem_cons_self ..
    obtain ⟨t, j⟩ := q
    obtain ⟨xs', h1, h2⟩ := (hR.mem _ t j).1 hq
    have hj : j < cntL xs'.length := by have := h2.1; rwa [hashes_len] at this
    refine ⟨(t, j), ps, xs', rfl, h1, ?_, ?_, (hl t xs' h1).1⟩
    · rw [partI_nat xs' j hj (hl t xs' h1).2, ← hashes_at xs' j hj]
      have := h2.2.1
      rw [List.getD, List.getElem?_eq_getElem h2.1, Option.getD_some] at this
      exact this
    · rw [hP] at hm
      rcases List.mem_cons.1 hm with e | e
      · injection e with e _; exact .inl e.symm
      · have := hR.srt (dg (partL xs k))
        rw [hP] at this
        exact .inr (List.rel_of_pairwise_cons this e)
/-- A finder, its names counted. -/
def FK (own : Nat → Prop) (w : World) (p : Nat) (F : By → Option By) (b : Nat) : Prop :=
  ∃ P cf N, ∃ keys : List By, Fin own w p F P cf N ∧ Rep F P ∧ N ≤ b ∧ keys.Nodup ∧ keys.length = cf ∧ (∀ n, n ∈ keys ↔ (F n).isSome = true) ∧ ∀ n xs, F n = some xs → n.length ≤ maxLen ∧ xs.length ≤ 4096
def FKP (own : Nat → Prop) (w : World) (p : Nat) (F : By → Option By) (b : Nat) (w' : World) : Prop :=
  ∃ own', FK own' w' p F b ∧ Turn own w w' ∧ (∀ g, own g → own' g) ∧ ∀ g, own' g → own g ∨ w.heap.size ≤ g
theorem FK.kept {own : Nat → Prop} {w w' : World} {p : Nat} {F : By → Option By} {b : Nat} (h : FK own w p F b) (hs : w.heap.size ≤ w'.heap.size) (hb : ∀ g, own g → w'.heap[g]? = w.heap[g]?) : FK own w' p F b := by
  obtain ⟨P, cf, N, keys, h1, h2⟩ := h
  exact ⟨P, cf, N, keys, h1.kept hs hb, h2⟩
theorem FK.low {own : Nat → Prop} {w : World} {p : Nat} {F : By → Option By} {b : Nat} (h : FK own w p F b) : ∀ g, own g → g < w.heap.size := by
  obtain ⟨P, cf, N, keys, h1, h2⟩ := h
  exact h1.low
theorem FK.on {own : Nat → Prop} {w w' : World} {p : Nat} {F : By → Option By} {b : Nat} (h : FK own w p F b) (hb : Below w.heap.size w w') : FK own w' p F b :=
  h.kept hb.size fun g hg => hb.block g (h.low g hg)
theorem FK.turn {own own2 : Nat → Prop} {w w' : World} {p : Nat} {F : By → Option By} {b : Nat} (h : FK own w p F b) (hb : Turn own2 w w') (hg : ∀ g, own g → ¬ own2 g) : FK own w' p F b :=
  h.kept hb.size fun g ho => hb.block g (h.low g ho) (hg g ho)
theorem nm_len {x : ActT} (hx : ActOk x) : (nm x).length ≤ maxLen := by unfold nm; rw [tl_length]; exact hx.name
theorem newk_any (w : World) : Calls Tryd.prog 22 #[] w fun e w' => ∃ own p, e = .returned (.pointer (some ⟨p, 0, none⟩)) ∧ FK own w' p (fun _ => none) 0 ∧ (∀ g, own g → w.heap.size ≤ g) ∧ Below w.heap.size w w' := by
  refine (new_any w).mono ?_
  rintro e w' ⟨own, p, rfl, hf, ho, hb⟩
  exact ⟨own, p, rfl, ⟨_, 0, 0, [], hf, rep_none, Nat.le_refl _, List.nodup_nil, rfl, fun n => by simp, fun n xs h => by cases h⟩, ho, hb⟩
open Classical in
theorem addk_any {own : Nat → Prop} {w : World} {p : Nat} {F : By → Option By} {b : Nat} (h : FK own w p F b) (hT : Sha.Tab w) (h0 : ¬ own 0) (x : ActT) (hx : ActOk x) (v : Value) (A : Option Addr) (cap bb off : Nat) (hy : Bytes w v (dataL x) A cap bb off) (hbb : ¬ own bb) (hb : b ≤ 700000) :
    Calls Tryd.prog 26 #[.pointer (some ⟨p, 0, none⟩), .string x.name, v] w fun e w' => (∃ z, e = .returned (.int .i64 z)) ∧ FKP own w p (stepF F x) (b + 80) w' := by
  obtain ⟨P, cf, N, keys, h1, h2, h3, h4, h5, h6, h7⟩ := h
  have e : x.name = ba (nm x) := (ba_tl x.name).symm
  rw [e]
  by_cases hg : good x = true
  · refine (add_any h1 hT h0 (nm x) (nm_len hx) v (dataL x) A cap bb off hy hbb (dataL_good hg) (by omega)).mono ?_
    rintro e w' ⟨rfl, own', k1, k2, k3, k4⟩
    refine ⟨⟨_, rfl⟩, own', ?_, k2, k3, k4⟩
    have hs : stepF F x = putF F (nm x) (dataL x) := by unfold stepF; rw [if_pos hg]
    rw [hs]
    have hl : ∀ n xs, putF F (nm x) (dataL x) n = some xs → n.length ≤ maxLen ∧ xs.length ≤ 4096 := fun n xs hh => by
      unfold putF at hh
      by_cases en : n = nm x
      · rw [if_pos en] at hh; injection hh with hh; subst hh; rw [en]; exact ⟨nm_len hx, dataL_good hg⟩
      · rw [if_neg en] at hh; exact h7 n xs hh
    cases hF : F (nm x) with
    | none =>
      refine ⟨_, _, _, nm x :: keys, k1, rep_put h2 _ _, by omega, ?_, ?_, ?_, hl⟩
      · refine List.nodup_cons.2 ⟨fun hc => ?_, h4⟩
        have := (h6 _).1 hc
        rw [hF] at this; cases this
      · unfold fgc; rw [hF]; simp [h5]
      · intro n
        rw [List.mem_cons]
        unfold putF
        by_cases en : n = nm x
        · simp [en]
        · rw [if_neg en, h6]; simp [en]
    | some ys =>
      have hin : nm x ∈ keys := (h6 _).2 (by rw [hF]; rfl)
      refine ⟨_, _, _, keys, k1, rep_put h2 _ _, by omega, h4, ?_, ?_, hl⟩
      · unfold fgc; rw [hF]
        have := List.length_pos_of_mem hin
        simp only; omega
      · intro n
        unfold putF
        by_cases en : n = nm x
        · rw [if_pos en, en]; simp [hin]
        · rw [if_neg en, h6]
  · have hg2 : good x = false := by simpa using hg
    refine (add_long h1 (nm x) v (dataL x) A cap bb off hy (dataL_bad hg2)).mono ?_
    rintro e w' ⟨rfl, rfl⟩
    have hs : stepF F x = F := by unfold stepF; rw [if_neg hg]
    rw [hs]
    exact ⟨⟨_, rfl⟩, own, ⟨P, cf, N, keys, h1, h2, by omega, h4, h5, h6, h7⟩, Turn.refl _ _, fun _ h => h, fun _ h => .inl h⟩
/-- Acts in a row of the call's own. -/
def acells (ls : List ActT) : List Value := ls.flatMap fun x => (actCells x).toList
def ARow (B : Nat) (w : World) (v : Value) (ls : List ActT) : Prop := w.ownsRow B 47 4 v ls.length (acells ls)
theorem acells_snoc (ls : List ActT) (x : ActT) : acells (ls ++ [x]) = acells ls ++ (actCells x).toList := by simp [acells]
theorem acells_at (ls : List ActT) (k : Nat) (hk : k < ls.length) (j : Nat) (hj : j < 4) : (acells ls)[k * 4 + j]? = (actCells (ls.getD k act0)).toList[j]? := by
  induction ls generalizing k with
  | nil => simp at hk
  | cons x r ih =>
    show ((actCells x).toList ++ acells r)[k * 4 + j]? = _
    cases k with
    | zero =>
      rw [List.getElem?_append_left (by show 0 * 4 + j < 4; omega)]
      simp [List.getD]
    | succ k =>
      rw [List.getElem?_append_right (by show 4 ≤ (k + 1) * 4 + j; omega)]
      rw [show (k + 1) * 4 + j - (actCells x).toList.length = k * 4 + j by show (k + 1) * 4 + j - 4 = _; omega]
      rw [ih k (by simpa using hk)]
      simp [List.getD]
theorem ARow.form {B : Nat} {w : World} {v : Value} {ls : List ActT} (h : ARow B w v ls) : ∃ A c, v = .slice A ls.length c := by
  rcases h.2 with ⟨h1, h2⟩ | ⟨g, c, cur, h1, _⟩
  · exact ⟨none, 0, by rw [h1, h2]⟩
  · exact ⟨some ⟨g, 0, none⟩, c, h1⟩
theorem ARow.at_ {B : Nat} {w : World} {v : Value} {ls : List ActT} (h : ARow B w v ls) (k : Nat) (hk : k < ls.length) : ∃ g c, v = .slice (some ⟨g, 0, none⟩) ls.length c ∧ ActAt w g (k * 4) (ls.getD k act0) := by
  rcases h.2 with ⟨_, h3⟩ | ⟨g, c, cur, h3, hB, h4, h5⟩
  · omega
  · refine ⟨g, c, h3, ?_⟩
    subst h3
    have hc : ∀ j, j < 4 → ∀ u, (actCells (ls.getD k act0)).toList[j]? = some u → w.cell? ⟨g, k * 4 + j, none⟩ = some u := fun j hj u hu => by
      have := World.ownsRow.cells (g := g) h rfl (k * 4 + j) u (by rw [acells_at ls k hk j hj]; exact hu)
      rwa [add_at, Nat.zero_add] at this
    exact ⟨hc 0 (by omega) _ rfl, hc 1 (by omega) _ rfl, hc 2 (by omega) _ rfl, hc 3 (by omega) _ rfl⟩
theorem infoAct : (Tryd.prog.info? 47).map (fun i => (i.zero, i.size, i.bytes)) = some (some (.agg #[.bool false, .string ⟨#[]⟩, .string ⟨#[]⟩, .int .i64 0]), 4, 48) := by kernel_rfl
theorem append_act (w : World) (B : Nat) (v : Value) (ls : List ActT) (h : ARow B w v ls) (x : ActT) (g : Nat) (hg : Has w g 47 (actCells x)) (hn : ls.length ≤ 1000) (hB : B ≤ w.heap.size) (ty : TypeId) :
    ∃ v' w', (Builtin.append_ #[39, 39] ty #[v, .slice (some ⟨g, 0, none⟩) 1 1]).run Tryd.prog w = .ok v' w' ∧ ARow B w' v' (ls ++ [x]) ∧ w.grownBy w' v.ownBlock ∧ (v'.ownBlock = v.ownBlock ∨ v'.ownBlock = some w.heap.size) := by
  obtain ⟨i0, hi, hz0, hz1, hz2⟩ := info_parts infoAct
  obtain ⟨v', w', hr, ho, hg', _, hv⟩ := run_append_own_at (P := Tryd.prog) w B 39 ty 47 i0 _ 4 48 Tryd.underlying39 hi hz0 hz1 hz2 (by simp [Value.cells]) (by omega) v ls.length (acells ls) h ⟨g, 0, none⟩ 1 1 (actCells x).toList rfl
    (fun j u hj => by
      rw [add_at, Nat.zero_add, hg.at_ j]
      rw [← Array.getElem?_toList]; exact hj) (fun u hu => by
      simp only [actCells, List.mem_cons, List.not_mem_nil, or_false] at hu
      rcases hu with rfl | rfl | rfl | rfl <;> rfl) (by unfold maxLen; omega) (by omega) hB
  refine ⟨v', w', hr, ?_, hg', hv⟩
  unfold ARow
  rw [acells_snoc, List.length_append]; exact ho
theorem run_build_act (w : World) (x : ActT) :
    (Instr.buildSlice 39 1 #[(0, Value.agg (actCells x))]).run Tryd.prog w = .ok (.slice (some ⟨w.heap.size, 0, none⟩) 1 1) (w.alloc (.cells (actCells x) 47)) := by
  have hI : (Tryd.prog.info? 47).map (fun i => (i.size, i.zero)) = some (4, some (.agg #[.bool false, .string ⟨#[]⟩, .string ⟨#[]⟩, .int .i64 0])) := by kernel_rfl
  cases hie : Tryd.prog.info? 47 with
  | none => rw [hie] at hI; cases hI
  | some ie =>
    rw [hie] at hI
    simp only [Option.map_some, Option.some.injEq, Prod.mk.injEq] at hI
    refine run_buildSlice (P := Tryd.prog) w 39 47 1 _ _ ie _ Tryd.underlying39 hie hI.2 (by rw [hI.1]; omega) (by rw [hI.1]; omega) ?_
    rw [hI.1]
    refine (Great.fill_whole (s := 4) (by omega) [Value.agg (actCells x)] _ (fun v hv => ?_) (by simp)).trans (by simp [Value.cells])
    simp only [List.mem_singleton] at hv
    subst hv
    rfl
theorem wpList_build_act {ops : Array Oper} {Q : Exit → Act → World → Prop} {a : Act} {w : World} {rest : List Oper} {o : Oper} (hw : Region.wanted o (yielded ops a.tmps) = true)
    (x : Operand) (ho : o.op = .buildSlice 39 1 #[(0, x)]) (d : ActT) (hx : a.eval x = .agg (actCells d))
    (h : wpList Tryd.prog ops Q rest (a.put o.dst (.slice (some ⟨w.heap.size, 0, none⟩) 1 1)) (w.alloc (.cells (actCells d) 47))) : wpList Tryd.prog ops Q (o :: rest) a w :=
  wpList_wanted hw fun _ hK => by
    unfold Oper.wp execOp
    simp only [ho, Sem.run_bind, List.map_toArray, List.map_cons, List.map_nil, hx, run_build_act w d, Result.andThen_ok]
    exact hK _ _ h
/-- Two finders and a row of acts, apart from one another. -/
structure OStI (B : Nat) (w wr : World) (ownf owng : Nat → Prop) (pf pg : Nat) (Ff Fg : By → Option By) (bf bg : Nat) (v : Value) (ls : List ActT) : Prop where
  f : FK ownf wr pf Ff bf
  g : FK owng wr pg Fg bg
  lf : ∀ k, ownf k → B ≤ k
  lg : ∀ k, owng k → B ≤ k
  ap : ∀ k, ownf k → ¬ owng k
  row : ARow B wr v ls
  rf : ∀ k, v.ownBlock = some k → ¬ ownf k
  rg : ∀ k, v.ownBlock = some k → ¬ owng k
  b : Below B w wr
  le : B ≤ wr.heap.size
def OSt (B : Nat) (w wr : World) (pf pg : Nat) (Ff Fg : By → Option By) (bf bg : Nat) (v : Value) (ls : List ActT) : Prop := ∃ ownf owng, OStI B w wr ownf owng pf pg Ff Fg bf bg v ls
section
variable {B : Nat} {w wr w' : World} {ownf owng : Nat → Prop} {pf pg : Nat} {Ff Fg : By → Option By} {bf bg : Nat} {v : Value} {ls : List ActT}
theorem OStI.on (h : OStI B w wr ownf owng pf pg Ff Fg bf bg v ls) (hb : Below wr.heap.size wr w') : OStI B w w' ownf owng pf pg Ff Fg bf bg v ls where
  f := h.f.on hb
  g := h.g.on hb
  lf := h.lf
  lg := h.lg
  ap := h.ap
  row := row_of h.row fun g hg => hb.block g (World.ownsRow.lt h.row g hg).2
  rf := h.rf
  rg := h.rg
  b := h.b.trans (hb.mono h.le)
  le := Nat.le_trans h.le hb.size
theorem OSt.on (h : OSt B w wr pf pg Ff Fg bf bg v ls) (hb : Below wr.heap.size wr w') : OSt B w w' pf pg Ff Fg bf bg v ls := by
  obtain ⟨o1, o2, h⟩ := h
  exact ⟨o1, o2, h.on hb⟩
theorem OSt.below (h : OSt B w wr pf pg Ff Fg bf bg v ls) : Below B w wr ∧ B ≤ wr.heap.size := by
  obtain ⟨o1, o2, h⟩ := h
  exact ⟨h.b, h.le⟩
theorem OStI.addf (h : OStI B w wr ownf owng pf pg Ff Fg bf bg v ls) {F' : By → Option By} {b' : Nat} (hp : FKP ownf wr pf F' b' w') : OSt B w w' pf pg F' Fg b' bg v ls := by
  obtain ⟨own', k1, k2, k3, k4⟩ := hp
  refine ⟨own', owng, k1, h.g.turn k2 (fun g hg hf => h.ap g hf hg), fun g hg => ?_, h.lg, fun g hg hh => ?_, ?_, fun g hg hh => ?_, h.rg, ?_, Nat.le_trans h.le k2.size⟩
  · rcases k4 g hg with x | x
    · exact h.lf g x
    · exact Nat.le_trans h.le x
  · rcases k4 g hg with x | x
    · exact h.ap g x hh
    · have := h.g.low g hh; omega
  · exact row_of h.row fun g hg => k2.block g (World.ownsRow.lt h.row g hg).2 (h.rf g hg)
  · rcases k4 g hh with x | x
    · exact h.rf g hg x
    · have := (World.ownsRow.lt h.row g hg).2; omega
  · exact h.b.trans (k2.below h.lf h.le)
theorem OStI.addg (h : OStI B w wr ownf owng pf pg Ff Fg bf bg v ls) {F' : By → Option By} {b' : Nat} (hp : FKP owng wr pg F' b' w') : OSt B w w' pf pg Ff F' bf b' v ls := by
  obtain ⟨own', k1, k2, k3, k4⟩ := hp
  refine ⟨ownf, own', h.f.turn k2 (fun g hg hf => h.ap g hg hf), k1, h.lf, fun g hg => ?_, fun g hg hh => ?_, ?_, h.rf, fun g hg hh => ?_, ?_, Nat.le_trans h.le k2.size⟩
  · rcases k4 g hg with x | x
    · exact h.lg g x
    · exact Nat.le_trans h.le x
  · rcases k4 g hh with x | x
    · exact h.ap g hg x
    · have := h.f.low g hg; omega
  · exact row_of h.row fun g hg => k2.block g (World.ownsRow.lt h.row g hg).2 (h.rg g hg)
  · rcases k4 g hh with x | x
    · exact h.rg g hg x
    · have := (World.ownsRow.lt h.row g hg).2; omega
  · exact h.b.trans (k2.below h.lg h.le)
theorem OSt.app (h : OSt B w wr pf pg Ff Fg bf bg v ls) (x : ActT) (hn : ls.length ≤ 1000) :
    ∃ v' w', (Builtin.append_ #[39, 39] 39 #[v, .slice (some ⟨wr.heap.size, 0, none⟩) 1 1]).run Tryd.prog (wr.alloc (.cells (actCells x) 47)) = .ok v' w' ∧ OSt B w w' pf pg Ff Fg bf bg v' (ls ++ [x]) := by
  obtain ⟨ownf, owng, h⟩ := h
  have hb : Below wr.heap.size wr (wr.alloc (.cells (actCells x) 47)) := (Below.refl _ _).alloc (Nat.le_refl _) _
  have h2 := h.on hb
  obtain ⟨v', w', hr, ha, hg, hv⟩ := append_act _ B v ls h2.row x wr.heap.size (Has.fresh wr 47 _) hn h2.le 39
  have hsz := hg.size
  have hvn : ∀ k, v'.ownBlock = some k → (v.ownBlock = some k ∨ wr.heap.size < k) := fun k hk => by
    rcases hv with e | e
    · exact .inl (e ▸ hk)
    · rw [e] at hk; injection hk with hk; simp at hk; exact .inr (by omega)
  refine ⟨v', w', hr, ownf, owng, ?_, ?_, h.lf, h.lg, h.ap, ha, fun k hk hh => ?_, fun k hk hh => ?_, ?_, Nat.le_trans h2.le hsz⟩
  · exact h2.f.kept hsz fun g ho => hg.block g (h2.f.low g ho) (fun e => h.rf g e.symm ho)
  · exact h2.g.kept hsz fun g ho => hg.block g (h2.g.low g ho) (fun e => h.rg g e.symm ho)
  · rcases hvn k hk with e | e
    · exact h.rf k e hh
    · have := h.f.low k hh; omega
  · rcases hvn k hk with e | e
    · exact h.rg k e hh
    · have := h.g.low k hh; omega
  · exact h2.b.grown hg h2.le (fun g hg => (World.ownsRow.lt h2.row g hg).1)
end
end Go.Proofs.YtlcdkponegmcdaaDoor
