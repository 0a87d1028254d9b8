/- Several texts in one: YA, YB, YC. Conditions: those said at each. -/
import Derived.Test.YtlbeemlnbpchgaaGreatQL
import Derived.Test.YtlbeemlnbpchgaaGreatQM
import Derived.Test.YtlbeemlnbpchgaaGreatQN
import Derived.Great.BuildSlice
import Derived.Great.FillDense
/- The document's trees: nodes in a row, in the order of paths; a row made longer. No conditions but the ones said. -/
namespace Go.Proofs.YtlbeemlnbpchgaaGreat
open Go.RowKit Go.Maps
abbrev At : Type := By × Nd
def at0 : At := ([], n0)
def atCells (x : At) : Array Value := #[kS x.1, .int .i64 x.2.kind, kS x.2.data, kS x.2.target, .int .i64 x.2.time]
def tcells (L : Tr) : List Value := L.flatMap fun x => (atCells x).toList
def TRow (B : Nat) (w : World) (v : Value) (L : Tr) : Prop := w.ownsRow B 93 5 v L.length (tcells L)
theorem tcells_snoc (L : Tr) (x : At) : tcells (L ++ [x]) = tcells L ++ (atCells x).toList := by simp [tcells]
theorem tcells_at (L : Tr) (k : Nat) (hk : k < L.length) (j : Nat) (hj : j < 5) : (tcells L)[k * 5 + j]? = (atCells (L.getD k at0)).toList[j]? := by
  induction L generalizing k with
  | nil => simp at hk
  | cons x r ih =>
    show ((atCells x).toList ++ tcells r)[k * 5 + j]? = _
    cases k with
    | zero =>
      rw [List.getElem?_append_left (by show 0 * 5 + j < 5; omega)]
      simp [List.getD]
    | succ k =>
      rw [List.getElem?_append_right (by show 5 ≤ (k + 1) * 5 + j; omega)]
      rw [show (k + 1) * 5 + j - (atCells x).toList.length = k * 5 + j by show (k + 1) * 5 + j - 5 = _; omega]
      rw [ih k (by simpa using hk)]
      simp [List.getD]
theorem TRow.nil (B : Nat) (w : World) : TRow B w (.slice none 0 0) [] := World.ownsRow_nil _ _ _ _
theorem TRow.form {B : Nat} {w : World} {v : Value} {L : Tr} (h : TRow B w v L) : ∃ A c, v = .slice A L.length c := by
  rcases h.2 with ⟨h1, h2⟩ | ⟨g, c, cur, h1, _⟩
  · exact ⟨none, 0, by rw [h1, h2]⟩
  · exact ⟨some ⟨g, 0, none⟩, c, h1⟩
theorem TRow.mono {B B' : Nat} {w : World} {v : Value} {L : Tr} (h : TRow B w v L) (hb : B' ≤ B) : TRow B' w v L := by
  refine ⟨h.1, ?_⟩
  rcases h.2 with h1 | ⟨g, c, cur, h1, h2, h3⟩
  · exact .inl h1
  · exact .inr ⟨g, c, cur, h1, Nat.le_trans hb h2, h3⟩
theorem TRow.on {B : Nat} {w w' : World} {v : Value} {L : Tr} (h : TRow B w v L) (hb : Below w.heap.size w w') : TRow B w' v L := row_of h fun g hg => hb.block g (World.ownsRow.lt h g hg).2
/-- A node lies there. -/
structure AtAt (w : World) (g o : Nat) (x : At) : Prop where
  c0 : w.cell? ⟨g, o, none⟩ = some (kS x.1)
  c1 : w.cell? ⟨g, o + 1, none⟩ = some (.int .i64 x.2.kind)
  c2 : w.cell? ⟨g, o + 2, none⟩ = some (kS x.2.data)
  c3 : w.cell? ⟨g, o + 3, none⟩ = some (kS x.2.target)
  c4 : w.cell? ⟨g, o + 4, none⟩ = some (.int .i64 x.2.time)
set_option maxRecDepth 100000 in
theorem AtAt.load {w : World} {g o : Nat} {x : At} (h : AtAt w g o x) : (loadVar 93 ⟨g, o, none⟩).run Tryz.prog w = .ok (.agg (atCells x)) w := by
  refine run_loadVar_mid (P := Tryz.prog) w g o 93 (atCells x).toList _ (fun j u hj => ?_) Tryz.underlying93 rfl (by show _ = some 5; kernel_rfl)
  match j, hj with
  | 0, hj => obtain rfl := Option.some.inj hj; exact h.c0
  | 1, hj => obtain rfl := Option.some.inj hj; exact h.c1
  | 2, hj => obtain rfl := Option.some.inj hj; exact h.c2
  | 3, hj => obtain rfl := Option.some.inj hj; exact h.c3
  | 4, hj => obtain rfl := Option.some.inj hj; exact h.c4
  | j + 5, hj => simp [atCells] at hj
set_option maxRecDepth 100000 in
theorem AtAt.node {w : World} {g o : Nat} {x : At} (h : AtAt w g o x) : (loadVar 64 ⟨g, o + 1, none⟩).run Tryz.prog w = .ok (.agg (ndA x.2.kind x.2.data x.2.target x.2.time)) w := by
  refine run_loadVar_mid (P := Tryz.prog) w g (o + 1) 64 (ndA x.2.kind x.2.data x.2.target x.2.time).toList _ (fun j u hj => ?_) Tryz.underlying64 rfl (by show _ = some 4; kernel_rfl)
  match j, hj with
  | 0, hj => obtain rfl := Option.some.inj hj; exact h.c1
  | 1, hj => obtain rfl := Option.some.inj hj; exact h.c2
  | 2, hj => obtain rfl := Option.some.inj hj; exact h.c3
  | 3, hj => obtain rfl := Option.some.inj hj; exact h.c4
  | j + 4, hj => simp at hj
theorem AtAt.on {w w' : World} {g o : Nat} {x : At} (h : AtAt w g o x) (hb : Below w.heap.size w w') : AtAt w' g o x := by
  have k : g < w.heap.size := block_lt_of_cell (a := ⟨g, o, none⟩) h.c0
  exact ⟨(hb.cell (p := ⟨g, o, none⟩) k).trans h.c0, (hb.cell (p := ⟨g, o + 1, none⟩) k).trans h.c1, (hb.cell (p := ⟨g, o + 2, none⟩) k).trans h.c2, (hb.cell (p := ⟨g, o + 3, none⟩) k).trans h.c3, (hb.cell (p := ⟨g, o + 4, none⟩) k).trans h.c4⟩
theorem TRow.at_ {B : Nat} {w : World} {v : Value} {L : Tr} (h : TRow B w v L) (k : Nat) (hk : k < L.length) : ∃ g c, v = .slice (some ⟨g, 0, none⟩) L.length c ∧ B ≤ g ∧ AtAt w g (k * 5) (L.getD k at0) := by
  rcases h.2 with ⟨_, h3⟩ | ⟨g, c, cur, h3, hB, h4, h5⟩
  · omega
  · refine ⟨g, c, h3, hB, ?_⟩
    subst h3
    have hc : ∀ j, j < 5 → ∀ u, (atCells (L.getD k at0)).toList[j]? = some u → w.cell? ⟨g, k * 5 + j, none⟩ = some u := fun j hj u hu => by
      have := World.ownsRow.cells (g := g) h rfl (k * 5 + j) u (by rw [tcells_at L k hk j hj]; exact hu)
      rwa [add_at, Nat.zero_add] at this
    exact ⟨hc 0 (by omega) _ rfl, hc 1 (by omega) _ rfl, hc 2 (by omega) _ rfl, hc 3 (by omega) _ rfl, hc 4 (by omega) _ rfl⟩
theorem infoAt : (Tryz.prog.info? 93).map (fun i => (i.zero, i.size, i.bytes)) = some (some (.agg #[.string ⟨#[]⟩, .int .i64 0, .string ⟨#[]⟩, .string ⟨#[]⟩, .int .i64 0]), 5, 64) := by kernel_rfl
theorem append_at (w : World) (B : Nat) (v : Value) (L : Tr) (h : TRow B w v L) (x : At) (g : Nat) (hg : Has w g 93 (atCells x)) (hn : L.length ≤ 100000) (hB : B ≤ w.heap.size) (ty : TypeId) :
    ∃ v' w', (Builtin.append_ #[74, 74] ty #[v, .slice (some ⟨g, 0, none⟩) 1 1]).run Tryz.prog w = .ok v' w' ∧ TRow B w' v' (L ++ [x]) ∧ w.grownBy w' v.ownBlock := by
  obtain ⟨i0, hi, hz0, hz1, hz2⟩ := info_parts infoAt
  obtain ⟨v', w', hr, ho, hg', _, hv⟩ := run_append_own_at (P := Tryz.prog) w B 74 ty 93 i0 _ 5 64 Tryz.underlying74 hi hz0 hz1 hz2 (by simp [Value.cells]) (by omega) v L.length (tcells L) h ⟨g, 0, none⟩ 1 1 (atCells x).toList rfl
    (fun j u hj => by
      rw [add_at, Nat.zero_add, hg.at_ j]
      rw [← Array.getElem?_toList]; exact hj) (fun u hu => by
      simp only [atCells, List.mem_cons, List.not_mem_nil, or_false] at hu
      rcases hu with rfl | rfl | rfl | rfl | rfl <;> rfl) (by unfold maxLen; omega) (by omega) hB
  refine ⟨v', w', hr, ?_, hg'⟩
  unfold TRow
  rw [tcells_snoc, List.length_append]; exact ho
theorem run_build_at (w : World) (x : At) :
    (Instr.buildSlice 74 1 #[(0, Value.agg (atCells x))]).run Tryz.prog w = .ok (.slice (some ⟨w.heap.size, 0, none⟩) 1 1) (w.alloc (.cells (atCells x) 93)) := by
  have hI : (Tryz.prog.info? 93).map (fun i => (i.size, i.zero)) = some (5, some (.agg #[.string ⟨#[]⟩, .int .i64 0, .string ⟨#[]⟩, .string ⟨#[]⟩, .int .i64 0])) := by kernel_rfl
  cases hie : Tryz.prog.info? 93 with
  | none => rw [hie] at hI; cases hI
  | some ie =>
    rw [hie] at hI
    simp only [Option.map_some, Option.some.injEq, Prod.mk.injEq] at hI
    refine run_buildSlice (P := Tryz.prog) w 74 93 1 _ _ ie _ Tryz.underlying74 hie hI.2 (by rw [hI.1]; omega) (by rw [hI.1]; omega) ?_
    rw [hI.1]
    refine (Great.fill_whole (s := 5) (by omega) [Value.agg (atCells x)] _ (fun v hv => ?_) (by simp)).trans (by simp [Value.cells])
    simp only [List.mem_singleton] at hv
    subst hv
    rfl
section
variable {ops : Array Oper} {o : Oper} {a : Act}
theorem step_build_at {w : World} {K : Act → World → Prop} {Q : Exit → Act → World → Prop} {E : Prop} (hw : Region.wanted o (yielded ops a.tmps) = true)
    (y : Operand) (ho : o.op = .buildSlice 74 1 #[(0, y)]) (x : At) (hx : a.eval y = .agg (atCells x))
    (h : K (a.put o.dst (.slice (some ⟨w.heap.size, 0, none⟩) 1 1)) (w.alloc (.cells (atCells x) 93))) : if Region.wanted o (yielded ops a.tmps) = true then Oper.wp Tryz.prog o a w K Q else E := by
  rw [if_pos hw]
  unfold Oper.wp execOp
  simp only [ho, Sem.run_bind, List.map_toArray, List.map_cons, List.map_nil, hx, run_build_at w x, Result.andThen_ok]
  exact h
end
/-- A tree of the document's: its block, its row. It never turns. -/
structure TreeR (w : World) (t : Nat) (L : Tr) (room : Nat) : Prop where
  ex : ∃ v, Has w t 76 #[v, .int .i64 (room : Int)] ∧ TRow 0 w v L
theorem TreeR.on {w w' : World} {t : Nat} {L : Tr} {room : Nat} (h : TreeR w t L room) (hb : Below w.heap.size w w') : TreeR w' t L room := by
  obtain ⟨v, h1, h2⟩ := h.ex
  exact ⟨v, h1.kept hb h1.inside, h2.on hb⟩
/-- A tree none of whose blocks lies below. -/
structure TreeF (B : Nat) (w : World) (t : Nat) (L : Tr) (room : Nat) : Prop where
  ex : ∃ v, Has w t 76 #[v, .int .i64 (room : Int)] ∧ TRow B w v L
  low : B ≤ t
theorem TreeF.tree {B : Nat} {w : World} {t : Nat} {L : Tr} {room : Nat} (h : TreeF B w t L room) : TreeR w t L room := by
  obtain ⟨v, h1, h2⟩ := h.ex
  exact ⟨v, h1, h2.mono (Nat.zero_le _)⟩
theorem TreeF.mono {B B' : Nat} {w : World} {t : Nat} {L : Tr} {room : Nat} (h : TreeF B w t L room) (hb : B' ≤ B) : TreeF B' w t L room := by
  obtain ⟨v, h1, h2⟩ := h.ex
  exact ⟨⟨v, h1, h2.mono hb⟩, Nat.le_trans hb h.low⟩
theorem TreeF.on {B : Nat} {w w' : World} {t : Nat} {L : Tr} {room : Nat} (h : TreeF B w t L room) (hb : Below w.heap.size w w') : TreeF B w' t L room := by
  obtain ⟨v, h1, h2⟩ := h.ex
  exact ⟨⟨v, h1.kept hb h1.inside, h2.on hb⟩, h.low⟩
/-- What a walk reads of a tree. -/
structure TV (w : World) (t : Nat) (A : Option Addr) (n c : Nat) (L : Tr) (room : Nat) : Prop where
  c0 : w.cell? ⟨t, 0, none⟩ = some (.slice A n c)
  c1 : w.cell? ⟨t, 1, none⟩ = some (.int .i64 (room : Int))
  len : L.length = n
  row : 0 < n → ∃ g, A = some ⟨g, 0, none⟩ ∧ ∀ k, k < n → AtAt w g (k * 5) (L.getD k at0)
theorem TreeR.view {w : World} {t : Nat} {L : Tr} {room : Nat} (h : TreeR w t L room) : ∃ A n c, TV w t A n c L room := by
  obtain ⟨v, h1, h2⟩ := h.ex
  obtain ⟨A, c, rfl⟩ := h2.form
  refine ⟨A, L.length, c, h1.at_ 0, h1.at_ 1, rfl, fun h0 => ?_⟩
  obtain ⟨g, c', e, _, _⟩ := h2.at_ 0 h0
  injection e with e1 _ _
  refine ⟨g, e1, fun k hk => ?_⟩
  obtain ⟨g', c2, e', _, ha⟩ := h2.at_ k hk
  injection e' with e2 _ _
  have : g = g' := by rw [e1] at e2; injection e2 with e2; injection e2
  subst this
  exact ha
theorem TV.on {w w' : World} {t : Nat} {A : Option Addr} {n c : Nat} {L : Tr} {room : Nat} (h : TV w t A n c L room) (hb : Below w.heap.size w w') : TV w' t A n c L room := by
  have k : t < w.heap.size := block_lt_of_cell (a := ⟨t, 0, none⟩) h.c0
  refine ⟨(hb.cell (p := ⟨t, 0, none⟩) k).trans h.c0, (hb.cell (p := ⟨t, 1, none⟩) k).trans h.c1, h.len, fun h0 => ?_⟩
  obtain ⟨g, e, ha⟩ := h.row h0
  exact ⟨g, e, fun k hk => (ha k hk).on hb⟩
theorem getD_at {L : Tr} {k : Nat} (hk : k < L.length) : L.getD k at0 = L[k] := by rw [List.getD, List.getElem?_eq_getElem hk]; rfl
theorem take_succD {L : Tr} {k : Nat} (hk : k < L.length) : L.take (k + 1) = L.take k ++ [L.getD k at0] := by rw [getD_at hk]; exact List.take_succ_eq_append_getElem hk
theorem drop_D {L : Tr} {k : Nat} (hk : k < L.length) : L.drop k = L.getD k at0 :: L.drop (k + 1) := by rw [getD_at hk]; exact List.drop_eq_getElem_cons hk
theorem memD {L : Tr} {k : Nat} (hk : k < L.length) : L.getD k at0 ∈ L := by rw [getD_at hk]; exact List.getElem_mem hk
theorem lookD {L : Tr} (hs : Srt L) {k : Nat} (hk : k < L.length) : look L (L.getD k at0).1 = some (L.getD k at0).2 := mem_look hs (memD hk)
theorem used_takeD {L : Tr} {k : Nat} (hk : k < L.length) : usedL (L.take (k + 1)) = usedL (L.take k) + (64 + (L.getD k at0).2.data.length) := by
  rw [getD_at hk]; exact used_take hk
end Go.Proofs.YtlbeemlnbpchgaaGreat
/- The document's trees: find, Kind, parent, home, Used. Conditions: paths of at most 4000 bytes. -/
namespace Go.Proofs.YtlbeemlnbpchgaaGreat
open Go.RowKit Go.Maps
theorem eqS (x p : By) : ((ba x).toList == (ba p).toList) = decide (x = p) := by
  rw [toList_tl, toList_tl, tl_ba, tl_ba]
  by_cases h : x = p
  · subst h; simp
  · rw [decide_eq_false h]; simpa using h
/-- What find answers. -/
def FindR (L : Tr) (p : By) (r : Int) : Prop := (r = -1 ∧ look L p = none) ∨ ∃ i, i < L.length ∧ r = (i : Int) ∧ look L p = some (L.getD i at0).2
theorem look_skip {L : Tr} {p : By} {k : Nat} (h : ∀ x ∈ L.take k, x.1 ≠ p) : look L p = look (L.drop k) p := by
  induction L generalizing k with
  | nil => simp
  | cons x L ih =>
    cases k with
    | zero => rfl
    | succ k =>
      obtain ⟨q, n⟩ := x
      rw [look, if_neg (h (q, n) (by simp)), List.drop_succ_cons]
      exact ih fun y hy => h y (by simp [hy])
theorem take_next {L : Tr} {p : By} {k : Nat} (hk : k < L.length) (h : ∀ x ∈ L.take k, x.1 ≠ p) (hn : (L.getD k at0).1 ≠ p) : ∀ x ∈ L.take (k + 1), x.1 ≠ p := by
  rw [take_succD hk]
  intro x hx
  rcases List.mem_append.1 hx with e | e
  · exact h x e
  · rw [List.mem_singleton] at e; rw [e]; exact hn
set_option maxRecDepth 100000 in
set_option maxHeartbeats 4000000 in
theorem rfind_any {w : World} {t : Nat} {L : Tr} {room : Nat} (h : TreeR w t L room) (p : By) (hl : L.length ≤ 100000) :
    Calls Tryz.prog 97 #[.pointer (some ⟨t, 0, none⟩), kS p] w fun e w' => ∃ r, e = .returned (.int .i64 r) ∧ FindR L p r ∧ w = w' := by
  obtain ⟨A, n, c, hv⟩ := h.view
  have c0 := hv.c0
  have HL := hid hv.len
  have HR := hid hv.row
  have hn : n ≤ 100000 := by rw [← hv.len]; exact hl
  clear h hv hl
  go_enter Tryz.func97, Tryz.ntmps97
  go_wp2
  go_loopw [5] (fun v5 wr => ∃ k : Nat, v5 = .int .i64 (k : Int) ∧ k ≤ n ∧ Hid (∀ x ∈ L.take k, x.1 ≠ p) ∧ wr = w) (fun v5 _ => n - (intOf v5).toNat)
  case atStart => exact ⟨0, rfl, by omega, by intro x hx; simp at hx, rfl⟩
  case round =>
    obtain ⟨k, rfl, hk, J1, rfl⟩ := hrel
    by_cases hlt : k < n
    · obtain ⟨g, hA, hat⟩ := HR.out (by omega)
      subst hA
      have hkl : k < L.length := by rw [HL.out]; exact hlt
      have ha := hat k hlt
      have d0 := ha.c0
      have HN := hid (fun e => take_next hkl J1.out e)
      have HF : Hid ((L.getD k at0).1 = p → look L p = some (L.getD k at0).2) := fun e => by
        rw [look_skip J1.out, drop_D hkl]
        exact if_pos e
      have HK := hid hkl
      obtain ⟨x, hx⟩ : ∃ x, x = L.getD k at0 := ⟨_, rfl⟩
      rw [← hx] at HN HF d0
      have hlt' : (k : Int) < (n : Int) := by omega
      have h0 : (0 : Int) ≤ (k : Int) := by omega
      have w1 : IntKind.i64.wrap ((k : Int) + 1) = (k : Int) + 1 := i64in _ (by omega) (by omega)
      have HX := hid hx
      by_cases hxp : x.1 = p
      · have q : ((ba x.1).toList == (ba p).toList) = true := by rw [eqS, decide_eq_true hxp]
        have HXP := hid hxp
        clear hxp hx ha hkl hat
        go_wp2
        go_ret
        exact ⟨_, rfl, .inr ⟨k, HK.out, rfl, by rw [HF.out HXP.out, HX.out]⟩, rfl⟩
      · have q : ((ba x.1).toList == (ba p).toList) = false := by rw [eqS, decide_eq_false hxp]
        have HXP := hid hxp
        clear hxp hx ha hkl hat
        go_wp2
        go_roundw
        case rel => exact ⟨k + 1, by go_num, by omega, HN.out HXP.out, trivial⟩
        case measure => simp [intOf]; omega
    · have HE : Hid (look L p = none) := by
        show _ = _
        rw [look_skip J1.out, List.drop_of_length_le (by rw [HL.out]; omega)]; rfl
      go_wp2
      go_ret
      exact ⟨_, rfl, .inl ⟨rfl, HE.out⟩, rfl⟩
set_option maxRecDepth 100000 in
set_option maxHeartbeats 4000000 in
theorem rKind_any {w : World} {t : Nat} {L : Tr} {room : Nat} (h : TreeR w t L room) (p : By) (hl : L.length ≤ 100000) :
    Calls Tryz.prog 98 #[.pointer (some ⟨t, 0, none⟩), kS p] w fun e w' => e = .returned (.int .i64 (kindP L p)) ∧ w = w' := by
  have C1 := hid (rfind_any h p hl)
  obtain ⟨A, n, c, hv⟩ := h.view
  have HV := hid hv
  by_cases hp : p = []
  · have z1 : (ba p).toList = [] := by rw [toList_tl, tl_ba, hp]
    have HK : Hid (kindP L p = 2) := by show _ = _; unfold kindP; rw [if_pos hp]
    clear hv h hp hl
    go_enter Tryz.func98, Tryz.ntmps98
    go_wp2
    go_ret
    exact ⟨by rw [HK.out]; rfl, rfl⟩
  · have z1 : ¬ (ba p).toList = [] := by rw [toList_tl, tl_ba]; exact hp
    have z2 : (ba p).toList.isEmpty = false := by simpa using z1
    have HK : Hid (kindP L p = match look L p with | some n => n.kind | none => 0) := by show _ = _; unfold kindP; rw [if_neg hp]; cases look L p <;> rfl
    clear hv h hp hl
    go_enter Tryz.func98, Tryz.ntmps98
    go_wp2_with fail
    refine C1.out.mono ?_; rintro e1 w1 ⟨r, rfl, hf, rfl⟩
    rcases hf with ⟨rfl, hl⟩ | ⟨i, hi, rfl, hl⟩
    · have HKK : Hid (kindP L p = 0) := by show _ = _; rw [HK.out, hl]
      clear hl
      go_wp2
      go_ret
      exact ⟨by rw [HKK.out]; rfl, rfl⟩
    · have HKK : Hid (kindP L p = (L.getD i at0).2.kind) := by show _ = _; rw [HK.out, hl]
      have hin : i < n := by rw [← HV.out.len]; exact hi
      obtain ⟨g, hA, hat⟩ := HV.out.row (by omega)
      subst hA
      have c0 := HV.out.c0
      have d1 := (hat i hin).c1
      have hlt' : (i : Int) < (n : Int) := by omega
      have h0 : (0 : Int) ≤ (i : Int) := by omega
      have h1 : ¬ (i : Int) < 0 := by omega
      clear hl hat hi
      go_wp2
      go_ret
      exact ⟨by rw [HKK.out]; rfl, rfl⟩
set_option maxRecDepth 100000 in
set_option maxHeartbeats 4000000 in
theorem rparent9_any (p : By) (hp : p.length ≤ 4000) (w : World) : Calls Tryz.prog 99 #[kS p] w fun e w' => e = .returned (kS (findV p).1) ∧ Below w.heap.size w w' := by
  have C1 := hid (Rf.rparent_any (ba p) w (by rw [ba_size]; exact hp))
  rw [tl_ba] at C1
  clear hp
  go_enter Tryz.func99, Tryz.ntmps99
  go_wp2_with fail
  refine C1.out.mono ?_; rintro e1 w1 ⟨rfl, hb⟩
  have B1 := hid hb
  clear hb
  go_wp2
  go_ret
  exact ⟨rfl, B1.out⟩
theorem home_kind {room : Nat} {L : Tr} (h : WFT room L) (p : By) : homeE L p = if kindP L (aheadL p) = 0 then 5 else if kindP L (aheadL p) = 2 then 0 else 12 := by
  unfold homeE noDirE
  by_cases h2 : kindP L (aheadL p) = 2
  · rw [if_pos h2, h2]; rfl
  · rw [if_neg h2, if_neg h2]
    unfold kindP at h2 ⊢
    by_cases h0 : aheadL p = []
    · rw [if_pos h0] at h2; exact absurd rfl h2
    · rw [if_neg h0] at h2 ⊢
      cases hl : look L (aheadL p) with
      | none => rfl
      | some n =>
        have hk := h.kind _ n hl
        rw [hl] at h2
        simp only at h2 ⊢
        have hk0 : n.kind ≠ 0 := by rcases hk with e | e | e <;> rw [e] <;> decide
        rw [if_neg hk0]; rfl
set_option maxRecDepth 100000 in
set_option maxHeartbeats 4000000 in
theorem rhome_any {w : World} {t : Nat} {L : Tr} {room : Nat} (h : TreeR w t L room) (hW : WFT room L) (p : By) (hm : mayB p = true) (hp : p.length ≤ 4000) (hl : L.length ≤ 100000) :
    Calls Tryz.prog 103 #[.pointer (some ⟨t, 0, none⟩), kS p] w fun e w' => e = .returned (.int .i64 (homeE L p)) ∧ Below w.heap.size w w' := by
  have C1 : Hid (Calls Tryz.prog 99 #[kS p] w fun e w' => e = .returned (kS (aheadL p)) ∧ Below w.heap.size w w') := by
    have := rparent9_any p hp w
    rw [findV_yes hm] at this; exact this
  have C2 : Hid (∀ W, Below w.heap.size w W → Calls Tryz.prog 98 #[.pointer (some ⟨t, 0, none⟩), kS (aheadL p)] W fun e w' => e = .returned (.int .i64 (kindP L (aheadL p))) ∧ W = w') := fun W hb => rKind_any (h.on hb) _ hl
  have HH := hid (home_kind hW p)
  obtain ⟨k, HK⟩ : ∃ k, Hid (kindP L (aheadL p) = k) := ⟨_, rfl⟩
  rw [HK.out] at C2 HH
  clear h hW hm hp hl
  go_enter Tryz.func103, Tryz.ntmps103
  go_wp2_with fail
  refine C1.out.mono ?_; rintro e1 w1 ⟨rfl, hb⟩
  have B1 := hid hb
  clear hb
  go_wp2_with fail
  refine (C2.out _ B1.out).mono ?_; rintro e2 w2 ⟨rfl, rfl⟩
  by_cases h0 : k = 0
  · have q0 : (k == 0) = true := by simpa using h0
    have HE : Hid (homeE L p = 5) := by show _ = _; rw [HH.out, if_pos h0]
    clear h0
    go_wp2
    go_ret
    exact ⟨by rw [HE.out]; rfl, B1.out⟩
  · have q0 : (k == 0) = false := by simpa using h0
    by_cases h2 : k = 2
    · have q2 : (k != 2) = false := by simp [h2]
      have HE : Hid (homeE L p = 0) := by show _ = _; rw [HH.out, if_neg h0, if_pos h2]
      clear h0 h2
      go_wp2
      go_ret
      exact ⟨by rw [HE.out]; rfl, B1.out⟩
    · have q2 : (k != 2) = true := by simpa using h2
      have HE : Hid (homeE L p = 12) := by show _ = _; rw [HH.out, if_neg h0, if_neg h2]
      clear h0 h2
      go_wp2
      go_ret
      exact ⟨by rw [HE.out]; rfl, B1.out⟩
set_option maxRecDepth 100000 in
set_option maxHeartbeats 4000000 in
theorem rUsed_any {w : World} {t : Nat} {L : Tr} {room : Nat} (h : TreeR w t L room) (hu : usedL L ≤ 1000000000) :
    Calls Tryz.prog 53 #[.pointer (some ⟨t, 0, none⟩)] w fun e w' => e = .returned (.int .i64 ((usedL L : Nat) : Int)) ∧ w = w' := by
  obtain ⟨A, n, c, hv⟩ := h.view
  have c0 := hv.c0
  have HL := hid hv.len
  have HR := hid hv.row
  have hn : n ≤ 1000000000 := by
    rw [← hv.len]
    have h1 := used_len (L := L)
    omega
  have HU := hid hu
  clear h hv hu
  go_enter Tryz.func53, Tryz.ntmps53
  go_wp2
  go_loopw [3, 4] (fun v3 v4 wr => ∃ k : Nat, v3 = .int .i64 ((usedL (L.take k) : Nat) : Int) ∧ v4 = .int .i64 (k : Int) ∧ k ≤ n ∧ wr = w) (fun _ v4 _ => n - (intOf v4).toNat)
  case atStart => exact ⟨0, rfl, rfl, by omega, rfl⟩
  case round =>
    obtain ⟨k, rfl, rfl, hk, rfl⟩ := hrel
    by_cases hlt : k < n
    · obtain ⟨g, hA, hat⟩ := HR.out (by omega)
      subst hA
      have hkl : k < L.length := by rw [HL.out]; exact hlt
      have ha := hat k hlt
      have d2 := ha.c2
      have hus := used_takeD hkl
      have hle : usedL (L.take (k + 1)) ≤ 1000000000 := Nat.le_trans (used_take_le L _) HU.out
      obtain ⟨d, hd⟩ : ∃ d, d = (L.getD k at0).2.data := ⟨_, rfl⟩
      rw [← hd] at hus d2
      obtain ⟨u, HUK⟩ : ∃ u, Hid (usedL (L.take k) = u) := ⟨_, rfl⟩
      rw [HUK.out] at hus ⊢
      have HUS : Hid (usedL (L.take (k + 1)) = u + (64 + d.length)) := hus
      have hub : u + 64 + d.length ≤ 1000000000 := by rw [hus] at hle; omega
      have hlt' : (k : Int) < (n : Int) := by omega
      have h0 : (0 : Int) ≤ (k : Int) := by omega
      have w1 : IntKind.i64.wrap ((k : Int) + 1) = (k : Int) + 1 := i64in _ (by omega) (by omega)
      have w2 : IntKind.i64.wrap ((u : Int) + 64) = (u : Int) + 64 := i64in _ (by omega) (by omega)
      have w3 : IntKind.i64.wrap ((u : Int) + 64 + (d.length : Int)) = (u : Int) + 64 + (d.length : Int) := i64in _ (by omega) (by omega)
      have zd : (ba d).size = d.length := ba_size d
      clear hus hle hd ha hkl hat
      go_wp2
      go_roundw
      case rel => exact ⟨k + 1, by rw [HUS.out]; go_num, by go_num, by omega, trivial⟩
      case measure => simp [intOf]; omega
    · have HE : Hid (usedL (L.take k) = usedL L) := by show _ = _; rw [List.take_of_length_le (by rw [HL.out]; omega)]
      rw [HE.out]
      go_wp2
      go_ret
      exact ⟨rfl, rfl⟩
end Go.Proofs.YtlbeemlnbpchgaaGreat
/- The document's trees: without, with. Conditions: at most a hundred thousand nodes. -/
namespace Go.Proofs.YtlbeemlnbpchgaaGreat
open Go.RowKit Go.Maps
/-- A tree under way: its block, its row; older blocks are as they were. -/
structure OutR (w0 wr : World) (o room : Nat) (K : Tr) (v : Value) : Prop where
  has : Has wr o 76 #[v, .int .i64 (room : Int)]
  row : TRow (o + 1) wr v K
  bl : Below w0.heap.size w0 wr
  io : w0.heap.size ≤ o
theorem OutR.start (w : World) (room : Nat) : OutR w (w.alloc (.cells #[.slice none 0 0, .int .i64 (room : Int)] 76)) w.heap.size room [] (.slice none 0 0) :=
  ⟨Has.fresh _ _ _, TRow.nil _ _, (Below.refl _ _).alloc (Nat.le_refl _) _, Nat.le_refl _⟩
theorem OutR.drew {w0 wr : World} {o room : Nat} {K : Tr} {v : Value} (h : OutR w0 wr o room K v) : OutR w0 wr.drew o room K v := ⟨h.has, h.row, h.bl.drew, h.io⟩
theorem OutR.on {w0 wr w' : World} {o room : Nat} {K : Tr} {v : Value} (h : OutR w0 wr o room K v) (hb : Below wr.heap.size wr w') : OutR w0 w' o room K v :=
  ⟨h.has.kept hb h.has.inside, h.row.on hb, h.bl.trans (hb.mono h.bl.size), h.io⟩
theorem OutR.tree {w0 wr : World} {o room : Nat} {K : Tr} {v : Value} (h : OutR w0 wr o room K v) : TreeF w0.heap.size wr o K room := ⟨⟨v, h.has, h.row.mono (by have := h.io; omega)⟩, h.io⟩
/-- A node more. -/
theorem OutR.app {w0 wr : World} {o room : Nat} {K : Tr} {v : Value} (h : OutR w0 wr o room K v) (x : At) (hn : K.length ≤ 100000) :
    ∃ v' w', (Builtin.append_ #[74, 74] 74 #[v, .slice (some ⟨wr.heap.size, 0, none⟩) 1 1]).run Tryz.prog (wr.alloc (.cells (atCells x) 93)) = .ok v' w' ∧ OutR w0 (w'.setCell ⟨o, 0, none⟩ v') o room (K ++ [x]) v' ∧ Has w' o 76 #[v, .int .i64 (room : Int)] ∧ Below w0.heap.size w0 w' ∧ ∃ A c, v' = .slice A (K.length + 1) c := by
  have hb : Below wr.heap.size wr (wr.alloc (.cells (atCells x) 93)) := (Below.refl _ _).alloc (Nat.le_refl _) _
  have ho := h.has.inside
  obtain ⟨v', w', k1, k2, k3⟩ := append_at _ (o + 1) v K (h.row.on hb) x wr.heap.size (Has.fresh wr 93 _) hn (by have := hb.size; omega) 74
  have hb2 : Below (o + 1) wr w' := (hb.mono (by omega)).grown k3 (by have := hb.size; omega) (fun g hg => (World.ownsRow.lt h.row g hg).1)
  have hh : Has w' o 76 #[v, .int .i64 (room : Int)] := h.has.kept hb2 (Nat.lt_succ_self _)
  have hbl : Below w0.heap.size w0 w' := h.bl.trans (hb2.mono (by have := h.io; omega))
  obtain ⟨A, c, rfl⟩ := k2.form
  refine ⟨_, w', k1, ⟨hh.put 0 _, row_of k2 fun g hg => ?_, hbl.setCell h.io _, h.io⟩, hh, hbl, A, c, by rw [List.length_append]; rfl⟩
  have := (World.ownsRow.lt k2 g hg).1
  exact Below.heap_setCell w' ⟨o, 0, none⟩ _ g (by show g ≠ o; omega)
/-- Another tree. -/
def NewT (w : World) (K : Tr) (room : Nat) (e : Ending) (w' : World) : Prop := ∃ o, e = .returned (.pointer (some ⟨o, 0, none⟩)) ∧ TreeF w.heap.size w' o K room ∧ Below w.heap.size w w'
theorem del_snoc (L : Tr) (x : At) (p : By) : del (L ++ [x]) p = if x.1 = p then del L p else del L p ++ [x] := by
  unfold del
  rw [List.filter_append]
  by_cases h : x.1 = p
  · simp [h]
  · simp [h]
theorem del_cons (x : At) (L : Tr) (p : By) : del (x :: L) p = if x.1 = p then del L p else x :: del L p := by
  unfold del
  by_cases h : x.1 = p
  · simp [h]
  · simp [h]
theorem del_len (L : Tr) (p : By) : (del L p).length ≤ L.length := List.length_filter_le _ _
/-- What a region that lays a node behind the tree under way leans on: the tree that is read, the node. -/
structure RdT (t : Nat) (A : Option Addr) (n c g k : Nat) (x : At) (W : World) : Prop where
  c0 : W.cell? ⟨t, 0, none⟩ = some (.slice A n c)
  at_ : AtAt W g (k * 5) x
structure RdN (b : Nat) (cs : Array Value) (W : World) : Prop where
  h : Has W b 64 cs
theorem RdN.on {b : Nat} {cs : Array Value} {W W' : World} (h : RdN b cs W) (hb : Below W.heap.size W W') : RdN b cs W' := ⟨h.h.kept hb h.h.inside⟩
theorem RdT.on {t : Nat} {A : Option Addr} {n c g k : Nat} {x : At} {W W' : World} (h : RdT t A n c g k x W) (hb : Below W.heap.size W W') : RdT t A n c g k x W' :=
  ⟨(hb.cell (p := ⟨t, 0, none⟩) (block_lt_of_cell (a := ⟨t, 0, none⟩) h.c0)).trans h.c0, h.at_.on hb⟩
set_option maxRecDepth 100000 in
set_option maxHeartbeats 16000000 in
theorem rwithout_any {w : World} {t : Nat} {L : Tr} {room : Nat} (h : TreeR w t L room) (p : By) (hl : L.length ≤ 100000) :
    Calls Tryz.prog 102 #[.pointer (some ⟨t, 0, none⟩), kS p] w fun e w' => NewT w (del L p) room e w' := by
  obtain ⟨A, n, c, hv⟩ := h.view
  have c1 := hv.c1
  have HC0 := hid hv.c0
  have HL := hid hv.len
  have HR := hid hv.row
  have HT0 := hid (block_lt_of_cell (a := ⟨t, 0, none⟩) hv.c0)
  have hn : n ≤ 100000 := by rw [← hv.len]; exact hl
  have O0 := hid (OutR.start w room)
  clear h hv hl
  go_enter Tryz.func102, Tryz.ntmps102
  go_wp2
  clear c1
  go_loopw [6] (fun v6 wr => ∃ (k : Nat) (A' : Option Addr) (c' m : Nat) (K : Tr), v6 = .int .i64 (k : Int) ∧ k ≤ n ∧ m ≤ k ∧ Hid (OutR w wr w.heap.size room K (.slice A' m c')) ∧ Hid (K.length = m) ∧ Hid (K = del (L.take k) p)) (fun v6 _ => n - (intOf v6).toNat)
  case atStart => exact ⟨0, none, 0, 0, [], rfl, by omega, by omega, O0.out, rfl, by show _ = _; rw [List.take_zero]; rfl⟩
  case round =>
    obtain ⟨k, A', c', m, K, rfl, hk, hmk, J, HM, HK⟩ := hrel
    have c0 : wr.cell? ⟨t, 0, none⟩ = some (.slice A n c) := (J.out.bl.cell (p := ⟨t, 0, none⟩) HT0.out).trans HC0.out
    by_cases hlt : k < n
    · have hA9 := HR.out (by omega)
      obtain ⟨g, hA, hat⟩ := hA9
      subst hA
      have hkl : k < L.length := by rw [HL.out]; exact hlt
      have ha := hat k hlt
      obtain ⟨x, hx⟩ : ∃ x, x = L.getD k at0 := ⟨_, rfl⟩
      rw [← hx] at ha
      have HX := hid hx
      have HT := hid ha
      have HKL := hid hkl
      have hlt' : (k : Int) < (n : Int) := by omega
      have h0 : (0 : Int) ≤ (k : Int) := by omega
      have w1 : IntKind.i64.wrap ((k : Int) + 1) = (k : Int) + 1 := i64in _ (by omega) (by omega)
      have d0 : wr.cell? ⟨g, k * 5, none⟩ = some (kS x.1) := (ha.on J.out.bl).c0
      have HNX : Hid (del (L.take (k + 1)) p = if x.1 = p then K else K ++ [x]) := by
        show _ = _
        rw [take_succD hkl, del_snoc, ← HX.out, ← HK.out]
      clear hx ha hkl hat
      by_cases hxp : x.1 = p
      · have q : ((ba x.1).toList == (ba p).toList) = true := by rw [eqS, decide_eq_true hxp]
        have q2 : ((ba x.1).toList != (ba p).toList) = false := by rw [bne, q]; rfl
        have HN2 : Hid (K = del (L.take (k + 1)) p) := by show _ = _; rw [HNX.out, if_pos hxp]
        clear hxp
        go_wp2
        go_roundw
        case rel => exact ⟨k + 1, A', c', m, K, by go_num, by omega, by omega, J.out, HM.out, HN2.out⟩
        case measure => simp [intOf]; omega
      · have q : ((ba x.1).toList == (ba p).toList) = false := by rw [eqS, decide_eq_false hxp]
        have q2 : ((ba x.1).toList != (ba p).toList) = true := by rw [bne, q]; rfl
        have HN2 : Hid (K ++ [x] = del (L.take (k + 1)) p) := by show _ = _; rw [HNX.out, if_neg hxp]
        have SD0 : Hid (RdT t (some ⟨g, 0, none⟩) n c g k x w) := ⟨HC0.out, HT.out⟩
        clear hxp
        obtain ⟨v5, w5, hr5, ho5, hh5, hb5, A5, c5, hv5⟩ := J.out.drew.app x (by rw [HM.out]; omega)
        subst hv5
        have R5 := hid hr5
        have O5 := hid ho5
        have H5 := hid hh5
        have B5 := hid hb5
        have SD3 : Hid (RdT t (some ⟨g, 0, none⟩) n c g k x wr.drew) := SD0.out.on J.out.bl.drew
        have OD := hid J.out.drew
        clear hr5 ho5 hh5 hb5
        go_wp2
        refine wp_region_noPanic ?_
        refine wp_region_held_drew (S := RdT t (some ⟨g, 0, none⟩) n c g k x) (by kernel_rfl) (SD3.out) (fun hS => ?_)
        generalize wr.drew = w3 at *
        refine wpAnyH_take (i := 0) (v := ?_) (by simp only [List.getElem?_toArray, List.getElem?_cons_zero]; rfl) (by kernel_rfl) (by kernel_rfl) (by kernel_rfl) (fun _ _ _ h => h) (Or.inl ⟨by rfl, ?_⟩) (by assumption) ?_
        rotate_left 1
        · intro w hSw
          go_simp
          with_reducible rfl
        simp only [Act.put, List.setIfInBounds_toArray, List.set_cons_zero, List.set_cons_succ]
        refine wpAnyH_take (i := 1) (v := ?_) (by simp only [List.getElem?_toArray, List.getElem?_cons_zero, List.getElem?_cons_succ]; rfl) (by kernel_rfl) (by kernel_rfl) (by kernel_rfl) (fun _ _ _ h => h) (Or.inl ⟨by rfl, ?_⟩) (by assumption) ?_
        rotate_left 1
        · intro w hSw
          go_simp
          with_reducible rfl
        simp only [Act.put, List.setIfInBounds_toArray, List.set_cons_zero, List.set_cons_succ]
        refine wpAnyH_take (i := 2) (v := ?_) (by simp only [List.getElem?_toArray, List.getElem?_cons_zero, List.getElem?_cons_succ]; rfl) (by kernel_rfl) (by kernel_rfl) (by kernel_rfl) (fun _ _ _ h => h) (Or.inl ⟨by rfl, ?_⟩) (by assumption) ?_
        rotate_left 1
        · intro w hSw
          go_simp
          with_reducible rfl
        simp only [Act.put, List.setIfInBounds_toArray, List.set_cons_zero, List.set_cons_succ]
        refine wpAnyH_take (i := 3) (v := ?_) (by simp only [List.getElem?_toArray, List.getElem?_cons_zero, List.getElem?_cons_succ]; rfl) (by kernel_rfl) (by kernel_rfl) (by kernel_rfl) (fun _ _ _ h => h) (Or.inl ⟨by rfl, ?_⟩) (by assumption) ?_
        rotate_left 1
        · intro w hSw
          go_simp
          with_reducible rfl
        simp only [Act.put, List.setIfInBounds_toArray, List.set_cons_zero, List.set_cons_succ]
        refine wpAnyH_take (i := 5) (v := ?_) (by simp only [List.getElem?_toArray, List.getElem?_cons_zero, List.getElem?_cons_succ]; rfl) (by kernel_rfl) (by kernel_rfl) (by kernel_rfl) (fun _ _ _ h => h) (Or.inl ⟨by rfl, ?_⟩) (by assumption) ?_
        rotate_left 1
        · intro w hSw
          go_simp
          with_reducible rfl
        simp only [Act.put, List.setIfInBounds_toArray, List.set_cons_zero, List.set_cons_succ]
        refine wpAnyH_take (i := 6) (v := ?_) (by simp only [List.getElem?_toArray, List.getElem?_cons_zero, List.getElem?_cons_succ]; rfl) (by kernel_rfl) (by kernel_rfl) (by kernel_rfl) (fun _ _ _ h => h) (Or.inl ⟨by rfl, ?_⟩) (by assumption) ?_
        rotate_left 1
        · intro w hSw
          go_simp
          with_reducible rfl
        simp only [Act.put, List.setIfInBounds_toArray, List.set_cons_zero, List.set_cons_succ]
        refine wpAnyH_take (i := 7) (v := ?_) (by simp only [List.getElem?_toArray, List.getElem?_cons_zero, List.getElem?_cons_succ]; rfl) (by kernel_rfl) (by kernel_rfl) (by kernel_rfl) (fun _ _ _ h => h) (Or.inl ⟨by rfl, ?_⟩) (by assumption) ?_
        rotate_left 1
        · intro w hSw
          go_simp
          with_reducible rfl
        simp only [Act.put, List.setIfInBounds_toArray, List.set_cons_zero, List.set_cons_succ]
        refine wpAnyH_take (i := 8) (v := ?_) (by simp only [List.getElem?_toArray, List.getElem?_cons_zero, List.getElem?_cons_succ]; rfl) (by kernel_rfl) (by kernel_rfl) (by kernel_rfl) (fun _ _ _ h => h) (Or.inl ⟨by rfl, ?_⟩) (by assumption) ?_
        rotate_left 1
        · intro w hSw
          have hc := hSw.c0
          go_simp
          with_reducible rfl
        simp only [Act.put, List.setIfInBounds_toArray, List.set_cons_zero, List.set_cons_succ]
        refine wpAnyH_take (i := 9) (v := ?_) (by simp only [List.getElem?_toArray, List.getElem?_cons_zero, List.getElem?_cons_succ]; rfl) (by kernel_rfl) (by kernel_rfl) (by kernel_rfl) (fun _ _ _ h => h) (Or.inl ⟨by rfl, ?_⟩) (by assumption) ?_
        rotate_left 1
        · intro w hSw
          go_simp
          with_reducible rfl
        simp only [Act.put, List.setIfInBounds_toArray, List.set_cons_zero, List.set_cons_succ]
        refine wpAnyH_take (i := 10) (v := ?_) (by simp only [List.getElem?_toArray, List.getElem?_cons_zero, List.getElem?_cons_succ]; rfl) (by kernel_rfl) (by kernel_rfl) (by kernel_rfl) (fun _ _ _ h => h) (Or.inl ⟨by rfl, ?_⟩) (by assumption) ?_
        rotate_left 1
        · intro w hSw
          go_simp
          with_reducible rfl
        simp only [Act.put, List.setIfInBounds_toArray, List.set_cons_zero, List.set_cons_succ]
        refine' wpAnyH_take (i := 11) (v := _) (by simp only [List.getElem?_toArray, List.getElem?_cons_zero, List.getElem?_cons_succ]; rfl) (by kernel_rfl) (by kernel_rfl) (by kernel_rfl) (fun _ _ _ h => h) (yields_loadA (by rfl) 93 (.tmp 42) rfl g (k * 5) rfl (atCells x) (fun w hSw => hSw.at_.load)) (by assumption) ?_
        simp only [Act.put, List.setIfInBounds_toArray, List.set_cons_zero, List.set_cons_succ]
        refine wpAnyH_ready (rs := [4, 12]) (by kernel_rfl) (by simp) ?_
        refine AllReadyH.cons (by simp only [List.getElem?_toArray, List.getElem?_cons_zero, List.getElem?_cons_succ]; rfl) (fun K hK => ?_) (AllReadyH.cons (by simp only [List.getElem?_toArray, List.getElem?_cons_zero, List.getElem?_cons_succ]; rfl) (fun K hK => ?_) (AllReadyH.nil))
        · have hc := OD.out.has.at_ 0
          go_simp
          refine hK.out _ _ SD3.out (fun hS => ?_)
          clear hK K
          refine wpAnyH_ready (rs := [12]) (by kernel_rfl) (by simp) ?_
          refine AllReadyH.cons (by simp only [List.getElem?_toArray, List.getElem?_cons_zero, List.getElem?_cons_succ]; rfl) (fun K hK => ?_) (AllReadyH.nil)
          refine step_build_at (by rfl) (.tmp 43) rfl x rfl ?_
          refine hK.out _ _ (SD3.out.on ((Below.refl _ _).alloc (Nat.le_refl _) _)) (fun hS => ?_)
          clear hK K
          refine wpAnyH_ready (rs := [13]) (by kernel_rfl) (by simp) ?_
          refine AllReadyH.cons (by simp only [List.getElem?_toArray, List.getElem?_cons_zero, List.getElem?_cons_succ]; rfl) (fun K hK => ?_) (AllReadyH.nil)
          refine step_append_run (by rfl) (.tmp 36) (.tmp 44) 74 74 rfl (.slice A' m c') (.slice (some ⟨w3.heap.size, 0, none⟩) 1 1) rfl rfl R5.out ?_
          refine hK.out _ _ (SD0.out.on B5.out) (fun hS => ?_)
          clear hK K
          refine wpAnyH_take (i := 14) (v := ?_) (by simp only [List.getElem?_toArray, List.getElem?_cons_zero, List.getElem?_cons_succ]; rfl) (by kernel_rfl) (by kernel_rfl) (by kernel_rfl) (fun _ _ _ h => h) (Or.inl ⟨by rfl, ?_⟩) (by assumption) ?_
          rotate_left 1
          · intro w hSw
            go_simp
            with_reducible rfl
          simp only [Act.put, List.setIfInBounds_toArray, List.set_cons_zero, List.set_cons_succ]
          refine wpAnyH_take (i := 15) (v := ?_) (by simp only [List.getElem?_toArray, List.getElem?_cons_zero, List.getElem?_cons_succ]; rfl) (by kernel_rfl) (by kernel_rfl) (by kernel_rfl) (fun _ _ _ h => h) (Or.inl ⟨by rfl, ?_⟩) (by assumption) ?_
          rotate_left 1
          · intro w hSw
            go_simp
            with_reducible rfl
          simp only [Act.put, List.setIfInBounds_toArray, List.set_cons_zero, List.set_cons_succ]
          refine wpAnyH_ready (rs := [16]) (by kernel_rfl) (by simp) ?_
          refine AllReadyH.cons (by simp only [List.getElem?_toArray, List.getElem?_cons_zero, List.getElem?_cons_succ]; rfl) (fun K hK => ?_) (AllReadyH.nil)
          have hc5 := H5.out.at_ 0
          have hf5 := H5.out.free 0
          go_simp
          refine hK.out _ _ (SD0.out.on O5.out.bl) (fun hS => ?_)
          clear hK K hc5 hf5
          refine wpAnyH_done (by kernel_rfl) ?_ _
          refine NoPanic.normal ?_
          go_wp2
          go_roundw
          case rel =>
            refine ⟨k + 1, A5, c5, m + 1, K ++ [x], by go_num, by omega, by omega, ?_, ?_, HN2.out⟩
            · rw [← HM.out]; exact O5.out
            · show _ = _; rw [List.length_append, HM.out]; rfl
          case measure => simp [intOf]; omega
        · refine step_build_at (by rfl) (.tmp 43) rfl x rfl ?_
          refine hK.out _ _ (SD3.out.on ((Below.refl _ _).alloc (Nat.le_refl _) _)) (fun hS => ?_)
          clear hK K
          refine wpAnyH_ready (rs := [4]) (by kernel_rfl) (by simp) ?_
          refine AllReadyH.cons (by simp only [List.getElem?_toArray, List.getElem?_cons_zero, List.getElem?_cons_succ]; rfl) (fun K hK => ?_) (AllReadyH.nil)
          have hc := (OD.out.has.more (.cells (atCells x) 93)).at_ 0
          go_simp
          refine hK.out _ _ (SD3.out.on ((Below.refl _ _).alloc (Nat.le_refl _) _)) (fun hS => ?_)
          clear hK K
          refine wpAnyH_ready (rs := [13]) (by kernel_rfl) (by simp) ?_
          refine AllReadyH.cons (by simp only [List.getElem?_toArray, List.getElem?_cons_zero, List.getElem?_cons_succ]; rfl) (fun K hK => ?_) (AllReadyH.nil)
          refine step_append_run (by rfl) (.tmp 36) (.tmp 44) 74 74 rfl (.slice A' m c') (.slice (some ⟨w3.heap.size, 0, none⟩) 1 1) rfl rfl R5.out ?_
          refine hK.out _ _ (SD0.out.on B5.out) (fun hS => ?_)
          clear hK K
          refine wpAnyH_take (i := 14) (v := ?_) (by simp only [List.getElem?_toArray, List.getElem?_cons_zero, List.getElem?_cons_succ]; rfl) (by kernel_rfl) (by kernel_rfl) (by kernel_rfl) (fun _ _ _ h => h) (Or.inl ⟨by rfl, ?_⟩) (by assumption) ?_
          rotate_left 1
          · intro w hSw
            go_simp
            with_reducible rfl
          simp only [Act.put, List.setIfInBounds_toArray, List.set_cons_zero, List.set_cons_succ]
          refine wpAnyH_take (i := 15) (v := ?_) (by simp only [List.getElem?_toArray, List.getElem?_cons_zero, List.getElem?_cons_succ]; rfl) (by kernel_rfl) (by kernel_rfl) (by kernel_rfl) (fun _ _ _ h => h) (Or.inl ⟨by rfl, ?_⟩) (by assumption) ?_
          rotate_left 1
          · intro w hSw
            go_simp
            with_reducible rfl
          simp only [Act.put, List.setIfInBounds_toArray, List.set_cons_zero, List.set_cons_succ]
          refine wpAnyH_ready (rs := [16]) (by kernel_rfl) (by simp) ?_
          refine AllReadyH.cons (by simp only [List.getElem?_toArray, List.getElem?_cons_zero, List.getElem?_cons_succ]; rfl) (fun K hK => ?_) (AllReadyH.nil)
          have hc5 := H5.out.at_ 0
          have hf5 := H5.out.free 0
          go_simp
          refine hK.out _ _ (SD0.out.on O5.out.bl) (fun hS => ?_)
          clear hK K hc5 hf5
          refine wpAnyH_done (by kernel_rfl) ?_ _
          refine NoPanic.normal ?_
          go_wp2
          go_roundw
          case rel =>
            refine ⟨k + 1, A5, c5, m + 1, K ++ [x], by go_num, by omega, by omega, ?_, ?_, HN2.out⟩
            · rw [← HM.out]; exact O5.out
            · show _ = _; rw [List.length_append, HM.out]; rfl
          case measure => simp [intOf]; omega
    · have HE : Hid (del (L.take k) p = del L p) := by show _ = _; rw [List.take_of_length_le (by rw [HL.out]; omega)]
      go_wp2
      go_ret
      have ht := J.out.tree
      rw [HK.out, HE.out] at ht
      exact ⟨_, rfl, ht, J.out.bl⟩
end Go.Proofs.YtlbeemlnbpchgaaGreat
