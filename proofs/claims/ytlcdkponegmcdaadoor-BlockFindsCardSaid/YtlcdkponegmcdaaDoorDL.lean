/- slices.Insert of one place, whatever room there is. Conditions: a row of the call's own, fewer than 2 to the 30 places; the new place in a block of its own. Maps whose elements are slices, by what stands at each key. -/
import Derived.Test.YtlcdkponegmcdaaDoorDJ
import Derived.Test.YtlcdkponegmcdaaDoorDK
import Derived.Maps.OwnSet
import Derived.DeepKeys4
namespace Go.Proofs.YtlcdkponegmcdaaDoor
open Go.RowKit Go.Maps
theorem insert_any (B : Nat) (v : Value) (ps : List Pl) (q : Pl) (i gb : Nat) (w : World) (h : Pls B w v ps) (hq : Has w gb 54 (pcell q).toArray) (hne : v.ownBlock ≠ some gb) (hi : i ≤ ps.length) (hn : ps.length ≤ 1073741824) (hB : B ≤ w.heap.size) :
    Calls Tryd.prog 60 #[v, .int .i64 (i : Int), .slice (some ⟨gb, 0, none⟩) 1 1] w fun e w' => InsPost B w v (ps.take i ++ q :: ps.drop i) e w' := by
  rcases Nat.lt_or_ge i ps.length with h1 | h1
  · obtain ⟨g, cap, cur, rfl, hBg, hr⟩ := h.row (by omega)
    rcases Nat.lt_or_ge cap (ps.length + 1) with h2 | h2
    · exact insert_grow B g cap gb cur ps q i w hr hq h1 h2 hn hB
    · exact insert_room B g cap gb cur ps q i w hr hq (fun e => hne (by rw [e]; rfl)) h1 h2 hn hBg
  · obtain rfl : i = ps.length := by omega
    exact insert_end B v ps q gb w h hq hn hB
/-! ### maps by what stands at each key -/
/-- An element is read as itself. -/
def Rv (v : Value) : Option (DataW Value × List MemPlace) := some (.held v, [])
def nilV : Value := .slice none 0 0
theorem mapM_some {α β : Type} (f : α → Option β) : ∀ l : List α, (∀ x ∈ l, ∃ y, f x = some y) → ∃ ys, l.mapM f = some ys
  | [], _ => ⟨[], rfl⟩
  | a :: l, h => by
    obtain ⟨y, hy⟩ := h a (by simp)
    obtain ⟨ys, hys⟩ := mapM_some f l (fun x hx => h x (by simp [hx]))
    exact ⟨y :: ys, by simp [List.mapM_cons, hy, hys]⟩
theorem klArr {P : Program} {d : Nat} {t e : TypeId} {n : Nat} {cs : List Value} (h : P.underlying t = some (.array n e)) :
    P.keyLits (d + 1) t cs = if cs.length = P.cellsOf t then ((List.range n).mapM fun i => P.keyLits d e ((cs.drop (i * P.cellsOf e)).take (P.cellsOf e))).map List.flatten else none := by
  simp only [Program.keyLits, h]
theorem rowH : 27 < Tryd.prog.types.size := of_decide_eq_true (by kernel_rfl)
theorem hash_keyed : Keyed Tryd.prog 27 := Keyed.of_law (deep_law_laid (by kernel_rfl) (m := 2) (by omega) rowH (by kernel_rfl) (by kernel_rfl))
theorem str_keyed : Keyed Tryd.prog 9 := string_keyed Tryd.underlying9
theorem hash_key (d : List UInt8) (hd : d.length = 32) : ∃ kl, keyOf Tryd.prog 27 (.agg (hvec d)) = some kl := by
  have hk : Tryd.prog.keyType 27 = true := by kernel_rfl
  have hc : Tryd.prog.cellsOf 27 = 32 := by kernel_rfl
  have hc5 : Tryd.prog.cellsOf 5 = 1 := by kernel_rfl
  have hf : (Value.agg (hvec d)).formed Tryd.prog 27 = true := by
    simp only [Value.formed, Tryd.underlying27, hc, hvec_size, hd]; rfl
  obtain ⟨n, hn⟩ : ∃ n, Tryd.prog.types.size + 1 = n + 2 := ⟨Tryd.prog.types.size - 1, by have := rowH; omega⟩
  have hl : ∃ ls, Tryd.prog.keyLits (n + 2) 27 (d.map V8) = some ls := by
    have hm : ∃ ys, (List.range 32).mapM (fun i => Tryd.prog.keyLits (n + 1) 5 (((d.map V8).drop (i * 1)).take 1)) = some ys := mapM_some _ _ (fun i hi => by
      have hi : i < 32 := by simpa using hi
      have e : ((d.map V8).drop (i * 1)).take 1 = [V8 (at8 d i)] := by
        rw [Nat.mul_one, List.drop_eq_getElem_cons (by simp; omega), List.take_succ_cons, List.take_zero]
        simp [at8, List.getD, List.getElem?_eq_getElem (show i < d.length by omega)]
      rw [e]
      refine ⟨[.int .u8 (b8 (at8 d i))], ?_⟩
      have h0 := b8_nonneg (at8 d i)
      have h1 := b8_lt (at8 d i)
      simp only [Program.keyLits, Tryd.underlying5, V8, Lit.wf, IntKind.min, IntKind.max, IntKind.signed, IntKind.bits]
      simp
      omega)
    obtain ⟨ys, hys⟩ := hm
    refine ⟨ys.flatten, ?_⟩
    rw [klArr Tryd.underlying27, hc, hc5, List.length_map, hd, if_pos rfl, hys]; rfl
  obtain ⟨ls, hls⟩ := hl
  refine ⟨.string (keyBytes ls), ?_⟩
  have e : (Value.agg (hvec d)).cells.toList = d.map V8 := by simp [Value.cells, hvec]
  simp only [keyOf, Tryd.underlying27, hk, hf, Bool.and_self, if_true, e, hn, hls, Option.map_some]
theorem str_key (s : List UInt8) (hs : s.length ≤ maxLen) : keyOf Tryd.prog 9 (.string (ba s)) = some (.string s) := by
  rw [keyOf_string Tryd.underlying9]
  simp [mapKey, Tryd.underlying9, ba_size, hs]
  rfl
/-- Block b is a map that holds just what f says; c entries. -/
def MapIs (w : World) (k : TypeId) (b c : Nat) (f : Value → Option Value) : Prop :=
  ∃ D : DataW Value, w.ownsMap Tryd.prog k Rv b c D ∧ size D = c ∧ ∀ x kl, keyOf Tryd.prog k x = some kl → has D kl = (f x).isSome ∧ D.atKey kl (.held nilV) = .held ((f x).getD nilV)
theorem MapIs.kept {w w' : World} {k : TypeId} {b c : Nat} {f : Value → Option Value} (h : MapIs w k b c f) (he : w'.heap[b]? = w.heap[b]?) : MapIs w' k b c f := by
  obtain ⟨D, ⟨es, clock, hb, r⟩, h2⟩ := h
  exact ⟨D, ⟨es, clock, he.trans hb, r⟩, h2⟩
theorem MapIs.inside {w : World} {k : TypeId} {b c : Nat} {f : Value → Option Value} (h : MapIs w k b c f) : b < w.heap.size := by
  obtain ⟨D, h1, _⟩ := h; exact h1.lt
theorem MapIs.made (w : World) (k : TypeId) : MapIs (w.alloc (.map #[] 0)) k w.heap.size 0 (fun _ => none) :=
  ⟨.map [], World.ownsMap_made w _ k Rv, rfl, fun _ _ _ => ⟨rfl, rfl⟩⟩
section
variable {w : World} {k t e : TypeId} {b c : Nat} {f : Value → Option Value} (K : Keyed Tryd.prog k) (ht : Tryd.prog.underlying t = some (.map k e))
include K ht
theorem MapIs.look (h : MapIs w k b c f) (hz : (zeroValue e).run Tryd.prog w = .ok nilV w) {x : Value} {kl : Lit} (hk : keyOf Tryd.prog k x = some kl) :
    (Instr.lookup t (.map (some b)) x false).run Tryd.prog w = .ok ((f x).getD nilV) w := by
  obtain ⟨D, h1, _, h3⟩ := h
  obtain ⟨v, ps, hr, hv⟩ := h1.lookup K ht hz (zd := .held nilV) (zp := []) rfl hk
  rw [(h3 x kl hk).2] at hv
  simp only [Rv, Option.some.injEq, Prod.mk.injEq, DataW.held.injEq] at hv
  rw [hr, hv.1]
theorem MapIs.lookOk (h : MapIs w k b c f) (hz : (zeroValue e).run Tryd.prog w = .ok nilV w) {x : Value} {kl : Lit} (hk : keyOf Tryd.prog k x = some kl) :
    (Instr.lookup t (.map (some b)) x true).run Tryd.prog w = .ok (.tuple #[(f x).getD nilV, .bool (f x).isSome]) w := by
  obtain ⟨D, h1, _, h3⟩ := h
  obtain ⟨v, ps, hr, hv⟩ := h1.look_ok K ht hz (zd := .held nilV) (zp := []) rfl hk
  rw [(h3 x kl hk).2] at hv
  simp only [Rv, Option.some.injEq, Prod.mk.injEq, DataW.held.injEq] at hv
  rw [hr, hv.1, (h3 x kl hk).1]
omit K in
theorem MapIs.len (h : MapIs w k b c f) (ty : TypeId) : (Builtin.len_ #[t] ty #[.map (some b)]).run Tryd.prog w = .ok (.int .i64 (c : Int)) w := by
  obtain ⟨D, h1, h2, _⟩ := h
  rw [h1.len ht ty, h2]
open Classical in
theorem MapIs.store (h : MapIs w k b c f) (hc : c < 1000000000) {x v : Value} {kl : Lit} (hk : keyOf Tryd.prog k x = some kl) :
    ∃ w', (Instr.mapUpdate t (.map (some b)) x v).run Tryd.prog w = .ok () w' ∧ MapIs w' k b (if (f x).isSome then c else c + 1) (fun y => if y = x then some v else f y) ∧ Grw b w w' := by
  obtain ⟨D, h1, h2, h3⟩ := h
  obtain ⟨w', hr, ho, hg⟩ := h1.store K ht (by unfold maxLen; omega) (d := .held v) (ps := []) hk rfl
  refine ⟨w', hr, ⟨D.put kl (.held v), ?_, ?_, ?_⟩, hg.grown⟩
  · obtain ⟨es, clock, a1, a2, a3, a4⟩ := ho
    refine ⟨es, clock, a1, a2, ?_, a4⟩
    have hsz := size_put (k := kl) (h1.tidy K) (.held v)
    rw [(h3 x kl hk).1, h2] at hsz
    rw [← hsz, a4]
    simp [size, length_sorted]
  · have hsz := size_put (k := kl) (h1.tidy K) (.held v)
    rw [(h3 x kl hk).1, h2] at hsz
    exact hsz
  · intro y kl2 hk2
    by_cases hy : y = x
    · subst hy
      obtain rfl : kl = kl2 := Option.some.inj (hk.symm.trans hk2)
      simp only [if_pos]
      exact ⟨has_put_same h1.isMap (K.key hk) _, atKey_put_same h1.isMap (K.key hk) _ _⟩
    · have hne : kl2 ≠ kl := fun e0 => hy (K.inj hk2 (by rw [e0]; exact hk))
      simp only [if_neg hy]
      rw [has_put_other hne, atKey_put_other hne]
      exact h3 y kl2 hk2
open Classical in
theorem MapIs.drop (h : MapIs w k b c f) {x : Value} {kl : Lit} (hk : keyOf Tryd.prog k x = some kl) (ty : TypeId) :
    ∃ w', (Builtin.delete_ #[t, k] ty #[.map (some b), x]).run Tryd.prog w = .ok (.tuple #[]) w' ∧ MapIs w' k b (if (f x).isSome then c - 1 else c) (fun y => if y = x then none else f y) ∧ Grw b w w' := by
  obtain ⟨D, h1, h2, h3⟩ := h
  obtain ⟨w', hr, ho, hg⟩ := h1.drop K ht hk ty
  have hsz := size_del (k := kl) (h1.tidy K)
  rw [(h3 x kl hk).1, h2] at hsz
  have hsz2 : size (D.del kl) = if (f x).isSome then c - 1 else c := by split at hsz <;> simp_all <;> omega
  refine ⟨w', hr, ⟨D.del kl, ?_, hsz2, ?_⟩, hg.grown⟩
  · obtain ⟨es, clock, a1, a2, a3, a4⟩ := ho
    refine ⟨es, clock, a1, a2, ?_, a4⟩
    rw [← hsz2, a4]
    simp [size, length_sorted]
  · intro y kl2 hk2
    by_cases hy : y = x
    · subst hy
      obtain rfl : kl = kl2 := Option.some.inj (hk.symm.trans hk2)
      simp only [if_pos]
      exact ⟨has_del_same, atKey_del_same _⟩
    · have hne : kl2 ≠ kl := fun e0 => hy (K.inj hk2 (by rw [e0]; exact hk))
      simp only [if_neg hy]
      rw [has_del_other hne, atKey_del_other hne]
      exact h3 y kl2 hk2
end
end Go.Proofs.YtlcdkponegmcdaaDoor
