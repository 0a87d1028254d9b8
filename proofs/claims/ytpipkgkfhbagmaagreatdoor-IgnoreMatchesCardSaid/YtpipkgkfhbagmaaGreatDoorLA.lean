/- Rows: what an append leaves of the old row; maps by what stands at each key. No program's call. -/
import Derived.Test.YtpipkgkfhbagmaaGreatDoorLP
import Derived.Laws.OwnMore
import Derived.Laws.AppendOwn
import Derived.Maps.AppendAt
import Derived.Maps.OwnSet
import Derived.DeepKeys4
namespace Go.Proofs.YtpipkgkfhbagmaaGreatDoor.Glob
open Go.RowKit Go.Maps
theorem own_len {w : World} {B : Nat} {e : TypeId} {s n : Nat} {v : Value} {xs : List Value} (h : w.ownsRow B e s v n xs) : xs.length = n * s := h.1
/-- A row that owns xs, seen from a world in which its block stands as it stood. -/
theorem own_stays {w w' : World} {B : Nat} {e : TypeId} {s n : Nat} {v : Value} {xs : List Value} (h : w.ownsRow B e s v n xs) (hk : ∀ k, v.ownBlock = some k → w'.heap[k]? = w.heap[k]?) : w'.ownsRow B e s v n xs := by
  refine ⟨h.1, ?_⟩
  rcases h.2 with h1 | ⟨g, c, cur, rfl, hB, h3, h4⟩
  · exact .inl h1
  · exact .inr ⟨g, c, cur, rfl, hB, (hk g rfl).trans h3, h4⟩
theorem own_below {w w' : World} {B : Nat} {e : TypeId} {s n : Nat} {v : Value} {xs : List Value} (h : w.ownsRow B e s v n xs) (hb : Below w.heap.size w w') : w'.ownsRow B e s v n xs := by
  refine own_stays h fun k hk => ?_
  rcases h.2 with ⟨rfl, _⟩ | ⟨g, c, cur, rfl, hB, h3, h4⟩
  · cases hk
  · obtain rfl := Option.some.inj hk
    exact hb.block g (Array.getElem?_eq_some_iff.1 h3).1
theorem own_inside {w : World} {B : Nat} {e : TypeId} {s n : Nat} {v : Value} {xs : List Value} (h : w.ownsRow B e s v n xs) : ∀ k, v.ownBlock = some k → B ≤ k ∧ k < w.heap.size := by
  intro k hk
  rcases h.2 with ⟨rfl, _⟩ | ⟨g, c, cur, rfl, hB, h3, h4⟩
  · cases hk
  · obtain rfl := Option.some.inj hk
    exact ⟨hB, (Array.getElem?_eq_some_iff.1 h3).1⟩
theorem own_form {w : World} {B : Nat} {e : TypeId} {s n : Nat} {v : Value} {xs : List Value} (h : w.ownsRow B e s v n xs) : ∃ A c, v = .slice A n c := by
  rcases h.2 with ⟨rfl, rfl⟩ | ⟨g, c, cur, rfl, _⟩
  · exact ⟨_, _, rfl⟩
  · exact ⟨_, _, rfl⟩
theorem own_mono {w : World} {B B' : Nat} {e : TypeId} {s n : Nat} {v : Value} {xs : List Value} (h : w.ownsRow B e s v n xs) (hb : B' ≤ B) : w.ownsRow B' e s v n xs := by
  refine ⟨h.1, ?_⟩
  rcases h.2 with h1 | ⟨g, c, cur, rfl, hB, h3⟩
  · exact .inl h1
  · exact .inr ⟨g, c, cur, rfl, by omega, h3⟩
/-- Each place's cells. -/
theorem own_cells {w : World} {B : Nat} {e : TypeId} {s n : Nat} {v : Value} {xs : List Value} (h : w.ownsRow B e s v n xs) (h0 : 0 < n) :
    ∃ g c, v = .slice (some ⟨g, 0, none⟩) n c ∧ B ≤ g ∧ g < w.heap.size ∧ n ≤ c ∧ (∀ j u, xs[j]? = some u → w.cell? ⟨g, j, none⟩ = some u) := by
  rcases h.2 with ⟨_, h2⟩ | ⟨g, c, cur, rfl, hB, h3, h4, h5, h6, h7⟩
  · omega
  · refine ⟨g, c, rfl, hB, (Array.getElem?_eq_some_iff.1 h3).1, h4, fun j u hj => ?_⟩
    have hh : Has w g e cur := h3
    rw [hh.at_, ← Array.getElem?_toList]
    rw [← h7] at hj
    have hj2 : j < n * s := by have := (List.getElem?_eq_some_iff.1 hj).1; simp at this; omega
    rw [List.getElem?_take_of_lt hj2] at hj
    exact hj
/-- What an append leaves: the row with the new places, and the old row as it was. -/
theorem append_old {w : World} {B : Nat} {t ty e : TypeId} {i : TypeInfo} {z : Value} {size bytes : Nat} (ht : Tryz.prog.underlying t = some (.slice e)) (hi : Tryz.prog.info? e = some i) (hz : i.zero = some z)
    (hsize : i.size = size) (hby : i.bytes = bytes) (hzs : z.cells.size = size) (hsz : 0 < size) {v : Value} {n : Nat} {xs : List Value} (hown : w.ownsRow B e size v n xs)
    {a : Addr} {m c : Nat} {news : List Value} (hl : news.length = m * size) (hnews : ∀ (j : Nat) u, news[j]? = some u → w.cell? (a.add j) = some u) (h1 : ∀ u ∈ news, u.oneCell' = true)
    (hb : (n + m) * bytes ≤ 140737488355328) (h63 : n + m ≤ 1000000) (hbase : B ≤ w.heap.size) :
    ∃ v' w', (Builtin.append_ #[t, t] ty #[v, .slice (some a) m c]).run Tryz.prog w = .ok v' w' ∧ w'.ownsRow B e size v' (n + m) (xs ++ news) ∧ w'.ownsRow B e size v n xs ∧ w.grownBy w' v.ownBlock ∧ (v'.ownBlock = v.ownBlock ∨ v'.ownBlock = some w.heap.size) := by
  obtain ⟨v', w', hr, ho, hg, _, hk⟩ := run_append_own_at (P := Tryz.prog) w B t ty e i z size bytes ht hi hz hsize hby hzs hsz v n xs hown a m c news hl hnews h1 (by unfold maxLen; omega) hb hbase
  refine ⟨v', w', hr, ho, ?_, hg, hk⟩
  rcases hown.2 with ⟨rfl, rfl⟩ | ⟨g, cap, cur, rfl, hbg, h3, hnc, hcm, hcs, htake⟩
  · exact ⟨hown.1, .inl ⟨rfl, rfl⟩⟩
  · by_cases hroom : n + m ≤ cap
    · obtain ⟨w2, hr2, ho2, hg2⟩ := run_append_fits (P := Tryz.prog) w B t ty e i size ht hi hsize g n cap xs hown a m c news hl hnews h1 hroom
      have e2 := hr.symm.trans hr2
      simp only [Result.ok.injEq] at e2
      obtain ⟨rfl, rfl⟩ := e2
      refine ⟨hown.1, .inr ?_⟩
      rcases ho2.2 with ⟨h, _⟩ | ⟨g', cap', cur', h, hB', h3', _, _, hcs', ht'⟩
      · simp at h
      · simp only [Value.slice.injEq, Option.some.injEq, Addr.mk.injEq, and_true, true_and] at h
        obtain ⟨rfl, rfl⟩ := h
        refine ⟨g, cap, cur', rfl, hbg, h3', hnc, hcm, hcs', ?_⟩
        have := congrArg (List.take (n * size)) ht'
        rw [List.take_take, Nat.min_eq_left (Nat.mul_le_mul_right _ (by omega)), ← hown.1, List.take_left] at this
        rw [← hown.1]; exact this
    · have hr2 := run_append_grow (P := Tryz.prog) w t ty e i z ht hi hz ⟨g, 0, none⟩ n cap xs (by rw [hown.1, hsize]) (hown.cells (g := g) rfl) a m c news (by rw [hl, hsize]) hnews (by omega) (by omega) (growslice_fits (by omega) (by rw [hby]; exact hb))
      have e2 := hr.symm.trans hr2
      simp only [Result.ok.injEq] at e2
      obtain ⟨rfl, rfl⟩ := e2
      exact ⟨hown.1, .inr ⟨g, cap, cur, rfl, hbg, (heap_alloc_old w.drew _ (Array.getElem?_eq_some_iff.1 h3).1).trans h3, hnc, hcm, hcs, htake⟩⟩
theorem grown_below {w w' : World} {row : Option Nat} {B : Nat} {a : World} (hg : w.grownBy w' row) (hb : Below B a w) (hr : ∀ k, row = some k → B ≤ k) (hB : B ≤ w.heap.size) : Below B a w' :=
  hb.trans ⟨hg.os, hg.tape, hg.output, hg.size, fun k hk => hg.block k (by omega) fun e => by have := hr k e.symm; omega⟩
/-! ### maps by what stands at each key -/
/-- An element is read as itself. -/
def Rv (v : Value) : Option (DataW Value × List MemPlace) := some (.held v, [])
theorem str_keyed : Keyed Tryz.prog 9 := string_keyed Tryz.underlying9
theorem str_key (s : By) (hs : s.length ≤ maxLen) : keyOf Tryz.prog 9 (.string (ba s)) = some (.string s) := by
  rw [keyOf_string Tryz.underlying9]
  simp [mapKey, Tryz.underlying9, ba_size, hs]
  rfl
/-- Block b is a map that holds just what f says, and elsewhere z; c entries. -/
def MapZ (w : World) (z : Value) (b c : Nat) (f : Value → Option Value) : Prop :=
  ∃ D : DataW Value, w.ownsMap Tryz.prog 9 Rv b c D ∧ size D = c ∧ ∀ x kl, keyOf Tryz.prog 9 x = some kl → has D kl = (f x).isSome ∧ D.atKey kl (.held z) = .held ((f x).getD z)
section
variable {w w' : World} {z : Value} {b c : Nat} {f : Value → Option Value} {t e : TypeId}
theorem MapZ.kept (h : MapZ w z b c f) (he : w'.heap[b]? = w.heap[b]?) : MapZ w' z b c f := by
  obtain ⟨D, ⟨es, clock, hb, r⟩, h2⟩ := h
  exact ⟨D, ⟨es, clock, he.trans hb, r⟩, h2⟩
theorem MapZ.inside (h : MapZ w z b c f) : b < w.heap.size := by
  obtain ⟨D, h1, _⟩ := h; exact h1.lt
theorem MapZ.made (w : World) (z : Value) : MapZ (w.alloc (.map #[] 0)) z w.heap.size 0 (fun _ => none) :=
  ⟨.map [], World.ownsMap_made w _ 9 Rv, rfl, fun _ _ _ => ⟨rfl, rfl⟩⟩
theorem MapZ.obj (h : MapZ w z b c f) : ∃ es clock, w.heap[b]? = some (.map es clock) := by
  obtain ⟨D, ⟨es, clock, hb, _⟩, _⟩ := h; exact ⟨es, clock, hb⟩
theorem MapZ.lookOk (ht : Tryz.prog.underlying t = some (.map 9 e)) (h : MapZ w z b c f) (hz : (zeroValue e).run Tryz.prog w = .ok z w) {x : Value} {kl : Lit} (hk : keyOf Tryz.prog 9 x = some kl) :
    (Instr.lookup t (.map (some b)) x true).run Tryz.prog w = .ok (.tuple #[(f x).getD z, .bool (f x).isSome]) w := by
  obtain ⟨D, h1, _, h3⟩ := h
  obtain ⟨v, ps, hr, hv⟩ := h1.look_ok str_keyed ht hz (zd := .held z) (zp := []) rfl hk
  rw [(h3 x kl hk).2] at hv
  simp only [Rv, Option.some.injEq, Prod.mk.injEq, DataW.held.injEq] at hv
  rw [hr, hv.1, (h3 x kl hk).1]
open Classical in
theorem MapZ.store (ht : Tryz.prog.underlying t = some (.map 9 e)) (h : MapZ w z b c f) (hc : c < 1000000000) {x v : Value} {kl : Lit} (hk : keyOf Tryz.prog 9 x = some kl) :
    ∃ w', (Instr.mapUpdate t (.map (some b)) x v).run Tryz.prog w = .ok () w' ∧ MapZ w' z b (if (f x).isSome then c else c + 1) (fun y => if y = x then some v else f y) ∧ w.grownBy w' (some b) := by
  obtain ⟨D, h1, h2, h3⟩ := h
  obtain ⟨w', hr, ho, hg⟩ := h1.store str_keyed ht (by unfold maxLen; omega) (d := .held v) (ps := []) hk rfl
  refine ⟨w', hr, ⟨D.put kl (.held v), ?_, ?_, ?_⟩, hg.grown⟩
  · obtain ⟨es, clock, a1, a2, a3, a4⟩ := ho
    refine ⟨es, clock, a1, a2, ?_, a4⟩
    have hsz := size_put (k := kl) (h1.tidy str_keyed) (.held v)
    rw [(h3 x kl hk).1, h2] at hsz
    rw [← hsz, a4]
    simp [size, length_sorted]
  · have hsz := size_put (k := kl) (h1.tidy str_keyed) (.held v)
    rw [(h3 x kl hk).1, h2] at hsz
    exact hsz
  · intro y kl2 hk2
    by_cases hy : y = x
    · subst hy
      obtain rfl : kl = kl2 := Option.some.inj (hk.symm.trans hk2)
      simp only [if_pos]
      exact ⟨has_put_same h1.isMap (str_keyed.key hk) _, atKey_put_same h1.isMap (str_keyed.key hk) _ _⟩
    · have hne : kl2 ≠ kl := fun e0 => hy (str_keyed.inj hk2 (by rw [e0]; exact hk))
      simp only [if_neg hy]
      rw [has_put_other hne, atKey_put_other hne]
      exact h3 y kl2 hk2
end
end Go.Proofs.YtpipkgkfhbagmaaGreatDoor.Glob
