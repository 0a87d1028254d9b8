/- Maps of nodes by what stands at each path; copied, gone through. Conditions: paths that are texts at all. -/
import Derived.Test.YtlbeemlnbpchgaaGreatWQ
import Derived.Maps.OwnSet
import Derived.Maps.RangeWalk
import Derived.Sort.KeysCollected
import Derived.WideKeyEntry
import Derived.Shelf.SlMaps.Clone
namespace Go.Proofs.YtlbeemlnbpchgaaGreat
open Go.RowKit Go.Maps Go.MapKept Go.WideElems
open Go.ChangeMaps (setBlock heap_setBlock_same heap_setBlock_other)
abbrev kS (s : By) : Value := .string (ba s)
theorem ba_inj {a b : By} (h : ba a = ba b) : a = b := by
  have := congrArg tl h
  simpa [tl_ba] using this
def nodeV (n : Nd) : Value := .agg #[.int .i64 n.kind, kS n.data, kS n.target, .int .i64 n.time]
def Rv (v : Value) : Option (DataW Value × List MemPlace) := some (.held v, [])
theorem str_keyed : Keyed Tryz.prog 9 := string_keyed Tryz.underlying9
theorem str_law : WideMaps.KeyLaw Tryz.prog 9 := WideMaps.string_law Tryz.underlying9
theorem str_key (s : By) (hs : s.length ≤ maxLen) : keyOf Tryz.prog 9 (kS s) = some (.string s) := by
  rw [keyOf_string Tryz.underlying9]
  simp [mapKey, Tryz.underlying9, ba_size, hs]
  rfl
theorem node_zero (w : World) : (zeroValue 64).run Tryz.prog w = .ok (nodeV n0) w := by kernel_rfl
/-- A map's entries are just what a tree says. -/
structure ObjT (es : Array MapEntry) (clock : Nat) (L : Tr) : Prop where
  fit : Fit Tryz.prog 9 Rv es clock
  size : es.size = L.length
  reads : ∀ p : By, p.length ≤ maxLen → has (DataW.map ((es.toList.map (rg Tryz.prog 9 Rv)).foldr DataW.insert [])) (.string p) = (look L p).isSome ∧ (DataW.map ((es.toList.map (rg Tryz.prog 9 Rv)).foldr DataW.insert [])).atKey (.string p) (.held (nodeV n0)) = .held (nodeV ((look L p).getD n0))
def MapT (w : World) (b : Nat) (L : Tr) : Prop := ∃ es clock, w.heap[b]? = some (.map es clock) ∧ ObjT es clock L
theorem MapT.kept {w w' : World} {b : Nat} {L : Tr} (h : MapT w b L) (he : w'.heap[b]? = w.heap[b]?) : MapT w' b L := by
  obtain ⟨es, clock, h1, h2⟩ := h; exact ⟨es, clock, he.trans h1, h2⟩
theorem MapT.inside {w : World} {b : Nat} {L : Tr} (h : MapT w b L) : b < w.heap.size := by
  obtain ⟨es, clock, h1, _⟩ := h; exact (Array.getElem?_eq_some_iff.1 h1).1
theorem MapT.own {w : World} {b : Nat} {L : Tr} (h : MapT w b L) : ∃ D, w.ownsMap Tryz.prog 9 Rv b L.length D ∧ size D = L.length ∧ ∀ p : By, p.length ≤ maxLen → has D (.string p) = (look L p).isSome ∧ D.atKey (.string p) (.held (nodeV n0)) = .held (nodeV ((look L p).getD n0)) := by
  obtain ⟨es, clock, h1, h2⟩ := h
  exact ⟨_, ⟨es, clock, h1, h2.fit, by rw [h2.size]; exact Nat.le_refl _, rfl⟩, by simp [size, length_sorted, h2.size], h2.reads⟩
theorem MapT.of_own {w : World} {b n : Nat} {L : Tr} {D : DataW Value} (h : w.ownsMap Tryz.prog 9 Rv b n D) (hs : size D = L.length) (hr : ∀ p : By, p.length ≤ maxLen → has D (.string p) = (look L p).isSome ∧ D.atKey (.string p) (.held (nodeV n0)) = .held (nodeV ((look L p).getD n0))) : MapT w b L := by
  obtain ⟨es, clock, h1, h2, _, rfl⟩ := h
  refine ⟨es, clock, h1, h2, ?_, hr⟩
  have e : size (DataW.map ((es.toList.map (rg Tryz.prog 9 Rv)).foldr DataW.insert [])) = es.size := by simp [size, length_sorted]
  omega
theorem MapT.made (w : World) : MapT (w.alloc (.map #[] 0)) w.heap.size [] :=
  .of_own (World.ownsMap_made w _ 9 Rv) rfl (fun _ _ => ⟨rfl, rfl⟩)
theorem MapT.same {w : World} {b : Nat} {L K : Tr} (h : MapT w b L) (hl : L.length = K.length) (hk : ∀ p, look L p = look K p) : MapT w b K := by
  obtain ⟨es, clock, h1, h2⟩ := h
  exact ⟨es, clock, h1, h2.fit, h2.size.trans hl, fun p hp => by rw [← hk]; exact h2.reads p hp⟩
section
variable {w : World} {b : Nat} {L : Tr}
theorem MapT.look (h : MapT w b L) {p : By} (hp : p.length ≤ maxLen) : (Instr.lookup 57 (.map (some b)) (kS p) false).run Tryz.prog w = .ok (nodeV ((look L p).getD n0)) w := by
  obtain ⟨D, h1, _, h3⟩ := h.own
  obtain ⟨v, ps, hr, hv⟩ := h1.lookup str_keyed Tryz.underlying57 (node_zero w) (zd := .held (nodeV n0)) (zp := []) rfl (str_key p hp)
  rw [(h3 p hp).2] at hv
  simp only [Rv, Option.some.injEq, Prod.mk.injEq, DataW.held.injEq] at hv
  rw [hr, hv.1]
theorem MapT.lookOk (h : MapT w b L) {p : By} (hp : p.length ≤ maxLen) : (Instr.lookup 57 (.map (some b)) (kS p) true).run Tryz.prog w = .ok (.tuple #[nodeV ((Go.Proofs.YtlbeemlnbpchgaaGreat.look L p).getD n0), .bool (Go.Proofs.YtlbeemlnbpchgaaGreat.look L p).isSome]) w := by
  obtain ⟨D, h1, _, h3⟩ := h.own
  obtain ⟨v, ps, hr, hv⟩ := h1.look_ok str_keyed Tryz.underlying57 (node_zero w) (zd := .held (nodeV n0)) (zp := []) rfl (str_key p hp)
  rw [(h3 p hp).2] at hv
  simp only [Rv, Option.some.injEq, Prod.mk.injEq, DataW.held.injEq] at hv
  rw [hr, hv.1, (h3 p hp).1]
theorem put_reads {L : Tr} (hs : Srt L) {D D' : DataW Value} {p : By} {n : Nd} (hD : D' = D.put (.string p) (.held (nodeV n))) (hm : IsMap D) (ht : Tidy D) (h2 : size D = L.length) (hp : p.length ≤ maxLen)
    (h3 : ∀ p : By, p.length ≤ maxLen → has D (.string p) = (Go.Proofs.YtlbeemlnbpchgaaGreat.look L p).isSome ∧ D.atKey (.string p) (.held (nodeV n0)) = .held (nodeV ((Go.Proofs.YtlbeemlnbpchgaaGreat.look L p).getD n0))) :
    size D' = (ins p n L).length ∧ ∀ q : By, q.length ≤ maxLen → has D' (.string q) = (Go.Proofs.YtlbeemlnbpchgaaGreat.look (ins p n L) q).isSome ∧ D'.atKey (.string q) (.held (nodeV n0)) = .held (nodeV ((Go.Proofs.YtlbeemlnbpchgaaGreat.look (ins p n L) q).getD n0)) := by
  subst hD
  have hK : WideAt.IsKeyLit (.string p) := trivial
  refine ⟨?_, ?_⟩
  · rw [size_put ht, (h3 p hp).1, h2, len_ins hs]
  · intro q hq
    rw [look_ins]
    by_cases e : q = p
    · subst e
      rw [if_pos rfl]
      exact ⟨has_put_same hm hK _, atKey_put_same hm hK _ _⟩
    · rw [if_neg e]
      have hne : Lit.string q ≠ Lit.string p := fun k => e (by injection k)
      rw [has_put_other hne, atKey_put_other hne]
      exact h3 q hq
theorem MapT.store (h : MapT w b L) (hs : Srt L) (hc : L.length < 1000000000) {p : By} (hp : p.length ≤ maxLen) (n : Nd) :
    ∃ w', (Instr.mapUpdate 57 (.map (some b)) (kS p) (nodeV n)).run Tryz.prog w = .ok () w' ∧ MapT w' b (ins p n L) ∧ w.grownBy w' (some b) := by
  obtain ⟨D, h1, h2, h3⟩ := h.own
  obtain ⟨w', hr, ho, hg⟩ := h1.update str_keyed Tryz.underlying57 (by unfold maxLen; omega) (d := .held (nodeV n)) (ps := []) (str_key p hp) rfl
  obtain ⟨a1, a2⟩ := put_reads hs rfl h1.isMap (h1.tidy str_keyed) h2 hp h3
  exact ⟨w', hr, .of_own ho a1 a2, hg⟩
theorem MapT.drop (h : MapT w b L) (hs : Srt L) {p : By} (hp : p.length ≤ maxLen) (ty : TypeId) :
    ∃ w', (Builtin.delete_ #[57, 9] ty #[.map (some b), kS p]).run Tryz.prog w = .ok (.tuple #[]) w' ∧ MapT w' b (del L p) ∧ w.grownBy w' (some b) := by
  obtain ⟨D, h1, h2, h3⟩ := h.own
  obtain ⟨w', hr, ho, hg⟩ := h1.drop str_keyed Tryz.underlying57 (str_key p hp) ty
  refine ⟨w', hr, .of_own ho ?_ ?_, hg.grown⟩
  · have hsz := size_del (k := .string p) (h1.tidy str_keyed)
    rw [(h3 p hp).1, h2] at hsz
    rw [len_del hs]
    split at hsz <;> simp_all <;> omega
  · intro q hq
    rw [look_del]
    by_cases e : q = p
    · subst e
      rw [if_pos rfl]
      exact ⟨has_del_same, atKey_del_same _⟩
    · rw [if_neg e]
      have hne : Lit.string q ≠ Lit.string p := fun k => e (by injection k)
      rw [has_del_other hne, atKey_del_other hne]
      exact h3 q hq
/-- A store in two steps: the entry, then what stands in it. -/
theorem MapT.entry (h : MapT w b L) (hs : Srt L) (hc : L.length < 1000000000) {p : By} (hp : p.length ≤ maxLen) (n : Nd) :
    ∃ v0 st w1, (Instr.mapEntry 57 (.map (some b)) (kS p)).run Tryz.prog w = .ok (.tuple #[v0, goInt st]) w1 ∧ w.grownBy w1 (some b) ∧
      ∀ w2 : World, w2.heap[b]? = w1.heap[b]? → ∃ w3, (Instr.entryStore 57 (.map (some b)) (goInt st) (nodeV n)).run Tryz.prog w2 = .ok () w3 ∧ MapT w3 b (ins p n L) ∧ w2.grownBy w3 (some b) := by
  obtain ⟨w', hr, hm, _⟩ := h.store hs hc hp n
  obtain ⟨es, clock, hb, hO⟩ := h
  obtain ⟨v0, st, es1, clock1, h1, _, h2⟩ := entry_then_store str_law Tryz.underlying57 (z := nodeV n0) node_zero hb hO.fit (str_key p hp)
  refine ⟨v0, st, _, h1, ⟨rfl, rfl, rfl, by simp [setBlock], fun i _ hi => heap_setBlock_other hb _ (fun e => hi (by rw [e]))⟩, fun w2 hw2 => ?_⟩
  have hw2' : w2.heap[b]? = some (.map es1 clock1) := hw2.trans (heap_setBlock_same hb _)
  obtain ⟨es', clock', h3, h4⟩ := h2 w2 (nodeV n) hw2'
  refine ⟨_, h3, ?_, ⟨rfl, rfl, rfl, by simp [setBlock], fun i _ hi => heap_setBlock_other hw2' _ (fun e => hi (by rw [e]))⟩⟩
  have e : w' = setBlock w b (.map es' clock') := by
    have := hr.symm.trans h4
    injection this
  obtain ⟨es2, ck2, h5, h6⟩ := hm
  rw [e, heap_setBlock_same hb] at h5
  injection h5 with h5
  injection h5 with h7 h8
  subst h7 h8
  exact ⟨_, _, heap_setBlock_same hw2' _, h6⟩
end
set_option maxRecDepth 100000 in
set_option maxHeartbeats 2000000 in
theorem clone_any (b : Nat) (L : Tr) (w : World) (h : MapT w b L) :
    Calls Tryz.prog 100 #[.map (some b)] w fun e w' => e = .returned (.map (some w.heap.size)) ∧ MapT w' w.heap.size L ∧ w'.heap.size = w.heap.size + 1 ∧ Below w.heap.size w w' := by
  obtain ⟨es, clock, hb, hO⟩ := h
  have hq := fun w => run_eql_map_nil_sl (P := Tryz.prog) w 57 _ _ (some b) Tryz.underlying57
  have HO := hid hO
  clear hO
  go_enter Tryz.func100, Tryz.ntmps100
  go_wp2
  rw [run_callFunc_extern Tryz.func130 (by kernel_rfl) (by kernel_rfl) (by kernel_rfl) (e := Extern.MapsClone.clone) (by kernel_rfl), run_maps_clone_sl w 57 hb]
  simp only [Result.andThen]
  rw [Oper.upon_value]
  go_wp2
  rw [run_typeAssert_map_sl _ 57 20 _ _ _ Tryz.underlying57]
  simp only [Result.andThen]
  rw [Oper.upon_value]
  go_wp2
  go_ret
  exact ⟨rfl, ⟨es, clock, (MapKept.heap_alloc w _).1, HO.out⟩, by simp, (Below.refl _ w).alloc (Nat.le_refl _) _⟩
end Go.Proofs.YtlbeemlnbpchgaaGreat
