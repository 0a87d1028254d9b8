/- Several texts in one. Conditions: those said at each. -/
import Derived.Laws.OwnMore
import Derived.DeepKeys4
import Derived.Test.YtahkcemdbfjilaaGreatDoorWb27
set_option linter.unusedSimpArgs false
set_option linter.unusedVariables false
set_option maxRecDepth 100000
namespace Go.Proofs.YtahkcemdbfjilaaGreatDoor.Glob
open Go.RowKit Go.Maps
theorem own_stays {w w' : World} {B : Nat} {e : TypeId} {s n : Nat} {v : Value} {xs : List Value} (h : w.ownsRow B e s v n xs) (hk : ∀ k, v.ownBlock = some k → w'.heap[k]? = w.heap[k]?) : w'.ownsRow B e s v n xs := by
 refine ⟨h.1, ?_⟩
 rcases h.2 with h1 | ⟨g, c, cur, rfl, hB, h3, h4⟩
 · exact .inl h1
 · exact .inr ⟨g, c, cur, rfl, hB, (hk g rfl).trans h3, h4⟩
theorem own_below {w w' : World} {B : Nat} {e : TypeId} {s n : Nat} {v : Value} {xs : List Value} (h : w.ownsRow B e s v n xs) (hb : Below w.heap.size w w') : w'.ownsRow B e s v n xs := by
 refine own_stays h fun k hk => ?_
 rcases h.2 with ⟨rfl, _⟩ | ⟨g, c, cur, rfl, hB, h3, h4⟩
 · cases hk
 · obtain rfl := Option.some.inj hk
   exact hb.block g (Array.getElem?_eq_some_iff.1 h3).1
theorem own_inside {w : World} {B : Nat} {e : TypeId} {s n : Nat} {v : Value} {xs : List Value} (h : w.ownsRow B e s v n xs) : ∀ k, v.ownBlock = some k → B ≤ k ∧ k < w.heap.size := by
 intro k hk
 rcases h.2 with ⟨rfl, _⟩ | ⟨g, c, cur, rfl, hB, h3, h4⟩
 · cases hk
 · obtain rfl := Option.some.inj hk
   exact ⟨hB, (Array.getElem?_eq_some_iff.1 h3).1⟩
theorem own_form {w : World} {B : Nat} {e : TypeId} {s n : Nat} {v : Value} {xs : List Value} (h : w.ownsRow B e s v n xs) : ∃ A c, v = .slice A n c := by
 rcases h.2 with ⟨rfl, rfl⟩ | ⟨g, c, cur, rfl, _⟩
 · exact ⟨_, _, rfl⟩
 · exact ⟨_, _, rfl⟩
theorem own_mono {w : World} {B B' : Nat} {e : TypeId} {s n : Nat} {v : Value} {xs : List Value} (h : w.ownsRow B e s v n xs) (hb : B' ≤ B) : w.ownsRow B' e s v n xs := by
 refine ⟨h.1, ?_⟩
 rcases h.2 with h1 | ⟨g, c, cur, rfl, hB, h3⟩
 · exact .inl h1
 · exact .inr ⟨g, c, cur, rfl, by omega, h3⟩
theorem own_cells {w : World} {B : Nat} {e : TypeId} {s n : Nat} {v : Value} {xs : List Value} (h : w.ownsRow B e s v n xs) (h0 : 0 < n) :
 ∃ g c, v = .slice (some ⟨g, 0, none⟩) n c ∧ B ≤ g ∧ g < w.heap.size ∧ n ≤ c ∧ (∀ j u, xs[j]? = some u → w.cell? ⟨g, j, none⟩ = some u) := by
 rcases h.2 with ⟨_, h2⟩ | ⟨g, c, cur, rfl, hB, h3, h4, h5, h6, h7⟩
 · omega
 · refine ⟨g, c, rfl, hB, (Array.getElem?_eq_some_iff.1 h3).1, h4, fun j u hj => ?_⟩
   have hh : Has w g e cur := h3
   rw [hh.at_, ← Array.getElem?_toList]
   rw [← h7] at hj
   have hj2 : j < n * s := by have := (List.getElem?_eq_some_iff.1 hj).1; simp at this; omega
   rw [List.getElem?_take_of_lt hj2] at hj
   exact hj
theorem append_old {w : World} {B : Nat} {t ty e : TypeId} {i : TypeInfo} {z : Value} {size bytes : Nat} (ht : Tryz.prog.underlying t = some (.slice e)) (hi : Tryz.prog.info? e = some i) (hz : i.zero = some z)
 (hsize : i.size = size) (hby : i.bytes = bytes) (hzs : z.cells.size = size) (hsz : 0 < size) {v : Value} {n : Nat} {xs : List Value} (hown : w.ownsRow B e size v n xs)
 {a : Addr} {m c : Nat} {news : List Value} (hl : news.length = m * size) (hnews : ∀ (j : Nat) u, news[j]? = some u → w.cell? (a.add j) = some u) (h1 : ∀ u ∈ news, u.oneCell' = true)
 (hb : (n + m) * bytes ≤ 140737488355328) (h63 : n + m ≤ 1000000) (hbase : B ≤ w.heap.size) :
 ∃ v' w', (Builtin.append_ #[t, t] ty #[v, .slice (some a) m c]).run Tryz.prog w = .ok v' w' ∧ w'.ownsRow B e size v' (n + m) (xs ++ news) ∧ w'.ownsRow B e size v n xs ∧ w.grownBy w' v.ownBlock ∧ (v'.ownBlock = v.ownBlock ∨ v'.ownBlock = some w.heap.size) := by
 obtain ⟨v', w', hr, ho, hg, _, hk⟩ := run_append_own_at (P := Tryz.prog) w B t ty e i z size bytes ht hi hz hsize hby hzs hsz v n xs hown a m c news hl hnews h1 (by unfold maxLen; omega) hb hbase
 refine ⟨v', w', hr, ho, ?_, hg, hk⟩
 rcases hown.2 with ⟨rfl, rfl⟩ | ⟨g, cap, cur, rfl, hbg, h3, hnc, hcm, hcs, htake⟩
 · exact ⟨hown.1, .inl ⟨rfl, rfl⟩⟩
 · by_cases hroom : n + m ≤ cap
   · obtain ⟨w2, hr2, ho2, hg2⟩ := run_append_fits (P := Tryz.prog) w B t ty e i size ht hi hsize g n cap xs hown a m c news hl hnews h1 hroom
     have e2 := hr.symm.trans hr2
     simp only [Result.ok.injEq] at e2
     obtain ⟨rfl, rfl⟩ := e2
     refine ⟨hown.1, .inr ?_⟩
     rcases ho2.2 with ⟨h, _⟩ | ⟨g', cap', cur', h, hB', h3', _, _, hcs', ht'⟩
     · simp at h
     · simp only [Value.slice.injEq, Option.some.injEq, Addr.mk.injEq, and_true, true_and] at h
       obtain ⟨rfl, rfl⟩ := h
       refine ⟨g, cap, cur', rfl, hbg, h3', hnc, hcm, hcs', ?_⟩
       have := congrArg (List.take (n * size)) ht'
       rw [List.take_take, Nat.min_eq_left (Nat.mul_le_mul_right _ (by omega)), ← hown.1, List.take_left] at this
       rw [← hown.1]; exact this
   · have hr2 := run_append_grow (P := Tryz.prog) w t ty e i z ht hi hz ⟨g, 0, none⟩ n cap xs (by rw [hown.1, hsize]) (hown.cells (g := g) rfl) a m c news (by rw [hl, hsize]) hnews (by omega) (by omega) (growslice_fits (by omega) (by rw [hby]; exact hb))
     have e2 := hr.symm.trans hr2
     simp only [Result.ok.injEq] at e2
     obtain ⟨rfl, rfl⟩ := e2
     exact ⟨hown.1, .inr ⟨g, cap, cur, rfl, hbg, (heap_alloc_old w.drew _ (Array.getElem?_eq_some_iff.1 h3).1).trans h3, hnc, hcm, hcs, htake⟩⟩
theorem grown_below {w w' : World} {row : Option Nat} {B : Nat} {a : World} (hg : w.grownBy w' row) (hb : Below B a w) (hr : ∀ k, row = some k → B ≤ k) (hB : B ≤ w.heap.size) : Below B a w' :=
 hb.trans ⟨hg.os, hg.tape, hg.output, hg.size, fun k hk => hg.block k (by omega) fun e => by have := hr k e.symm; omega⟩
def Rv (v : Value) : Option (DataW Value × List MemPlace) := some (.held v, [])
theorem str_keyed : Keyed Tryz.prog 9 := string_keyed Tryz.underlying9
theorem str_key (s : By) (hs : s.length ≤ maxLen) : keyOf Tryz.prog 9 (.string (ba s)) = some (.string s) := by
 rw [keyOf_string Tryz.underlying9]
 simp [mapKey, Tryz.underlying9, ba_size, hs]
 rfl
def MapZ (w : World) (z : Value) (b c : Nat) (f : Value → Option Value) : Prop :=
 ∃ D : DataW Value, w.ownsMap Tryz.prog 9 Rv b c D ∧ size D = c ∧ ∀ x kl, keyOf Tryz.prog 9 x = some kl → has D kl = (f x).isSome ∧ D.atKey kl (.held z) = .held ((f x).getD z)
section
variable {w w' : World} {z : Value} {b c : Nat} {f : Value → Option Value} {t e : TypeId}
theorem MapZ.kept (h : MapZ w z b c f) (he : w'.heap[b]? = w.heap[b]?) : MapZ w' z b c f := by
 obtain ⟨D, ⟨es, clock, hb, r⟩, h2⟩ := h
 exact ⟨D, ⟨es, clock, he.trans hb, r⟩, h2⟩
theorem MapZ.inside (h : MapZ w z b c f) : b < w.heap.size := by
 obtain ⟨D, h1, _⟩ := h; exact h1.lt
theorem MapZ.made (w : World) (z : Value) : MapZ (w.alloc (.map #[] 0)) z w.heap.size 0 (fun _ => none) :=
 ⟨.map [], World.ownsMap_made w _ 9 Rv, rfl, fun _ _ _ => ⟨rfl, rfl⟩⟩
theorem MapZ.obj (h : MapZ w z b c f) : ∃ es clock, w.heap[b]? = some (.map es clock) := by
 obtain ⟨D, ⟨es, clock, hb, _⟩, _⟩ := h; exact ⟨es, clock, hb⟩
theorem MapZ.lookOk (ht : Tryz.prog.underlying t = some (.map 9 e)) (h : MapZ w z b c f) (hz : (zeroValue e).run Tryz.prog w = .ok z w) {x : Value} {kl : Lit} (hk : keyOf Tryz.prog 9 x = some kl) :
 (Instr.lookup t (.map (some b)) x true).run Tryz.prog w = .ok (.tuple #[(f x).getD z, .bool (f x).isSome]) w := by
 obtain ⟨D, h1, _, h3⟩ := h
 obtain ⟨v, ps, hr, hv⟩ := h1.look_ok str_keyed ht hz (zd := .held z) (zp := []) rfl hk
 rw [(h3 x kl hk).2] at hv
 simp only [Rv, Option.some.injEq, Prod.mk.injEq, DataW.held.injEq] at hv
 rw [hr, hv.1, (h3 x kl hk).1]
open Classical in
theorem MapZ.store (ht : Tryz.prog.underlying t = some (.map 9 e)) (h : MapZ w z b c f) (hc : c < 1000000000) {x v : Value} {kl : Lit} (hk : keyOf Tryz.prog 9 x = some kl) :
 ∃ w', (Instr.mapUpdate t (.map (some b)) x v).run Tryz.prog w = .ok () w' ∧ MapZ w' z b (if (f x).isSome then c else c + 1) (fun y => if y = x then some v else f y) ∧ w.grownBy w' (some b) := by
 obtain ⟨D, h1, h2, h3⟩ := h
 obtain ⟨w', hr, ho, hg⟩ := h1.store str_keyed ht (by unfold maxLen; omega) (d := .held v) (ps := []) hk rfl
 refine ⟨w', hr, ⟨D.put kl (.held v), ?_, ?_, ?_⟩, hg.grown⟩
 · obtain ⟨es, clock, a1, a2, a3, a4⟩ := ho
   refine ⟨es, clock, a1, a2, ?_, a4⟩
   have hsz := size_put (k := kl) (h1.tidy str_keyed) (.held v)
   rw [(h3 x kl hk).1, h2] at hsz
   rw [← hsz, a4]
   simp [size, length_sorted]
 · have hsz := size_put (k := kl) (h1.tidy str_keyed) (.held v)
   rw [(h3 x kl hk).1, h2] at hsz
   exact hsz
 · intro y kl2 hk2
   by_cases hy : y = x
   · subst hy
     obtain rfl : kl = kl2 := Option.some.inj (hk.symm.trans hk2)
     simp only [if_pos]
     exact ⟨has_put_same h1.isMap (str_keyed.key hk) _, atKey_put_same h1.isMap (str_keyed.key hk) _ _⟩
   · have hne : kl2 ≠ kl := fun e0 => hy (str_keyed.inj hk2 (by rw [e0]; exact hk))
     simp only [if_neg hy]
     rw [has_put_other hne, atKey_put_other hne]
     exact h3 y kl2 hk2
end
end Go.Proofs.YtahkcemdbfjilaaGreatDoor.Glob
namespace Go.Proofs.YtahkcemdbfjilaaGreatDoor.Glob
open Go.RowKit
def blkSet : Array Value := Lib.setCells [32, 9]
theorem blkSet_at (x : UInt8) : blkSet[x.toNat]? = some (.bool (blk x)) := by
 unfold blkSet
 rw [Lib.setCells_at]
 have : ([32, 9] : By).contains x = blk x := by simp only [blk, List.contains, List.elem]; cases x == 32 <;> cases x == 9 <;> rfl
 rw [this]
theorem blkSet_size : blkSet.size = 256 := Lib.setCells_size _
theorem blkSet_one : blkSet.all (·.oneCell') = true := Lib.setCells_one _
attribute [irreducible] blkSet
def SetAt (w : World) (g : Nat) : Prop := ∀ x : UInt8, w.cell? ⟨g, x.toNat, none⟩ = some (.bool (blk x))
theorem SetAt.of {w : World} {g : Nat} (h : Has w g 203 blkSet) : SetAt w g := fun x => by rw [h.at_]; exact blkSet_at x
theorem setHas_any (g : Nat) (x : UInt8) (w : World) (h : SetAt w g) : Calls Tryz.prog 179 #[.pointer (some ⟨g, 0, none⟩), .int .u8 (b8 x)] w fun e w' => e = .returned (.bool (blk x)) ∧ w = w' :=
 (Tryz.asciiSet_contains g x (blk x) w (h x)).mono fun _ _ ⟨h1, h2⟩ => ⟨h1, h2.symm⟩
theorem trimL_any (s : By) (g : Nat) (w : World) (hs : s.length ≤ 100000) (hg : SetAt w g) :
 Calls Tryz.prog 142 #[.string (ba s), .pointer (some ⟨g, 0, none⟩)] w fun e w' => e = .returned (.string (ba (s.dropWhile blk))) ∧ w = w' := by
 have HG := hid hg
 clear hg
 go_enter Tryz.func142, Tryz.ntmps142
 go_wp2
 go_loopw [0] (fun s0 wr => ∃ t : By, s0 = .string (ba t) ∧ t.length ≤ 100000 ∧ Hid (s.dropWhile blk = t.dropWhile blk) ∧ w = wr)
  (fun s0 _ => match s0 with | .string x => x.size | _ => 0)
 case atStart => exact ⟨s, rfl, hs, rfl, rfl⟩
 case round =>
  obtain ⟨t, rfl, hl, HE, rfl⟩ := hrel
  have z := ba_size t
  cases t with
  | nil =>
   have g0 : ¬ ((0 : Int) < (([] : By).length : Int)) := by simp
   go_wp2
   go_ret
   exact ⟨by rw [HE.out]; rfl, rfl⟩
  | cons x u =>
   have g0 : (0 : Int) < ((x :: u).length : Int) := by simp only [List.length_cons]; omega
   have g1 : (1 : Int) ≤ ((x :: u).length : Int) := by simp only [List.length_cons]; omega
   have i0 : ∀ W, (Instr.index 9 (.string (ba (x :: u))) (.int .i64 0)).run Tryz.prog W = .ok (.int .u8 (b8 x)) W := idx0 (x :: u) (by simp)
   have zd : (ba (x :: u)).extract 1 (x :: u).length = ba u := ba_drop (x :: u) 1
   have HC := hid (setHas_any g x w HG.out)
   have HD : Hid ((x :: u).dropWhile blk = if blk x then u.dropWhile blk else x :: u) := by show _ = _; rw [List.dropWhile_cons]
   have HL : Hid (u.length ≤ 100000 ∧ u.length < (x :: u).length) := by simp only [List.length_cons] at hl ⊢; exact ⟨by omega, by omega⟩
   generalize blk x = b at HC HD
   generalize (x :: u).length = n at z g0 g1 zd HL
   generalize hX : ba (x :: u) = X at z i0 zd
   clear hl
   cases b with
   | false =>
    go_wp2_with (go_at_call 179; refine HC.out.mono ?_; rintro e1 w1 ⟨rfl, rfl⟩)
    go_ret
    refine ⟨?_, rfl⟩
    rw [HE.out, HD.out, if_neg (by decide), hX]; rfl
   | true =>
    go_wp2_with (go_at_call 179; refine HC.out.mono ?_; rintro e1 w1 ⟨rfl, rfl⟩)
    go_roundw
    case rel => exact ⟨u, rfl, HL.out.1, by show _ = _; rw [HE.out, HD.out]; rfl, trivial⟩
    case measure =>
     show (ba u).size < X.size
     rw [ba_size, z]; exact HL.out.2
theorem ba_mid (u : By) (x : UInt8) : (ba (u ++ [x])).extract 0 u.length = ba u := by rw [ba_take]; simp
theorem trimR_snoc (u : By) (x : UInt8) : trimR (u ++ [x]) = if blk x then trimR u else u ++ [x] := by
 unfold trimR
 rw [List.reverse_append, List.reverse_singleton, List.singleton_append, List.dropWhile_cons]
 split
 · rfl
 · simp
theorem trimR_any (s : By) (g : Nat) (w : World) (hs : s.length ≤ 100000) (hg : SetAt w g) :
 Calls Tryz.prog 143 #[.string (ba s), .pointer (some ⟨g, 0, none⟩)] w fun e w' => e = .returned (.string (ba (trimR s))) ∧ w = w' := by
 have HG := hid hg
 clear hg
 go_enter Tryz.func143, Tryz.ntmps143
 go_wp2
 go_loopw [0] (fun s0 wr => ∃ t : By, s0 = .string (ba t) ∧ t.length ≤ 100000 ∧ Hid (trimR s = trimR t) ∧ w = wr)
  (fun s0 _ => match s0 with | .string x => x.size | _ => 0)
 case atStart => exact ⟨s, rfl, hs, rfl, rfl⟩
 case round =>
  obtain ⟨t, rfl, hl, HE, rfl⟩ := hrel
  have z := ba_size t
  rcases List.eq_nil_or_concat t with rfl | ⟨u, x, rfl⟩
  · have g0 : ¬ ((0 : Int) < (([] : By).length : Int)) := by simp
    go_wp2
    go_ret
    exact ⟨by rw [HE.out]; rfl, rfl⟩
  · rw [List.concat_eq_append] at *
    have e0 : (u ++ [x]).length = u.length + 1 := by simp
    rw [e0] at z hl
    have i0 : ∀ W, (Instr.index 9 (.string (ba (u ++ [x]))) (.int .i64 (u.length : Int))).run Tryz.prog W = .ok (.int .u8 (b8 x)) W := fun W => by
     have := index_str (u ++ [x]) u.length (by simp) W
     rw [this]; simp [at8]
    have zd : (ba (u ++ [x])).extract 0 u.length = ba u := ba_mid u x
    have HC := hid (setHas_any g x w HG.out)
    have HD := hid (trimR_snoc u x)
    have zu := ba_size u
    generalize blk x = b at HC HD
    generalize hX : ba (u ++ [x]) = X at z i0 zd
    generalize hn : u.length = n at z hl zd zu i0
    have g0 : (0 : Int) < ((n + 1 : Nat) : Int) := by omega
    have g1 : ((n + 1 : Nat) : Int) - 1 = (n : Int) := by omega
    have HN := hid hl
    cases b with
    | false =>
     go_wp2_with (go_at_call 179; refine HC.out.mono ?_; rintro e1 w1 ⟨rfl, rfl⟩)
     go_ret
     refine ⟨?_, rfl⟩
     rw [HE.out, HD.out, if_neg (by decide), hX]; rfl
    | true =>
     go_wp2_with (go_at_call 179; refine HC.out.mono ?_; rintro e1 w1 ⟨rfl, rfl⟩)
     go_roundw
     case rel => exact ⟨u, rfl, by have := HN.out; omega, by show _ = _; rw [HE.out, HD.out]; rfl, trivial⟩
     case measure =>
      show (ba u).size < X.size
      rw [zu, z]; omega
theorem iSet : (Tryz.prog.info? 203).map (·.size) = some blkSet.size := by rw [blkSet_size]; kernel_rfl
theorem zeroSet : ∀ w, (zeroValue 203).run Tryz.prog w = .ok (.agg (Array.replicate 256 (.bool false))) w := fun w => by kernel_rfl
theorem mkSet_any (w : World) : Calls Tryz.prog 141 #[.string ⟨#[32, 9]⟩] w fun e w' => e = .returned (.tuple #[.agg blkSet, .bool true]) ∧ w' = w.alloc (.cells blkSet 203) := by
 have := Tryz.strings_makeASCIISet zeroSet ⟨#[32, 9]⟩ w (by decide) (fun j b h => by
  have h2 : ([32, 9] : By)[j]? = some b := h
  match j, h2 with
  | 0, h2 => simp at h2; subst h2; decide
  | 1, h2 => simp at h2; subst h2; decide
  | j + 2, h2 => simp at h2)
 unfold blkSet
 exact this
theorem zset_size : Tryz.zeroCells203.size = 256 := by kernel_rfl
theorem trim_any (s : By) (w : World) (hs : s.length ≤ 100000) :
 Calls Tryz.prog 91 #[.string (ba s), .string ⟨#[32, 9]⟩] w fun e w' => e = .returned (.string (ba (trimB s))) ∧ Below w.heap.size w w' := by
 have zs := toList_ba s
 by_cases h0 : s = []
 · subst h0
   go_enter Tryz.func91, Tryz.ntmps91
   go_wp2
   go_ret
   exact ⟨rfl, Below.refl _ _⟩
 · have hsne : ¬ ((ba s).toList = []) := by rw [zs]; exact h0
   have HSN := hid hsne
   clear hsne
   have HS := hid hs
   have HI := hid iSet
   have HZ := hid zset_size
   obtain ⟨W1, hW1⟩ : ∃ W1, w.alloc (.cells blkSet 203) = W1 := ⟨_, rfl⟩
   have B1 : Below w.heap.size w W1 := hW1 ▸ (Below.refl _ _).alloc (Nat.le_refl _) _
   have HM : Hid (Calls Tryz.prog 141 #[.string ⟨#[32, 9]⟩] w fun e w' => e = .returned (.tuple #[.agg blkSet, .bool true]) ∧ W1 = w') := (mkSet_any w).mono fun _ _ ⟨h1, h2⟩ => ⟨h1, by rw [h2, hW1]⟩
   have HB := hid B1
   clear hW1 B1 hs h0 zs
   generalize hT : blkSet = cs at HM HI
   go_enter Tryz.func91, Tryz.ntmps91
   go_wp2_with (first
    | (go_at_call 141; refine HM.out.mono ?_; rintro e1 w1 ⟨rfl, rfl⟩)
    | (refine wpList_store_row rfl 203 (.tmp 5) (.tmp 32) rfl W1.heap.size cs rfl rfl 203 Tryz.zeroCells203 (Has.fresh W1 203 Tryz.zeroCells203) HI.out (by rw [HZ.out, ← hT, blkSet_size]) (by rw [← hT]; exact blkSet_one) ?_
       generalize hG : World.setRow _ _ _ = W2
       have HA : Hid (SetAt W2 W1.heap.size ∧ Below w.heap.size w W2) := ⟨SetAt.of (by rw [← hG, hT]; exact (Has.fresh W1 203 Tryz.zeroCells203).row), by rw [← hG]; exact ((HB.out.alloc HB.out.size _).rowG HB.out.size _)⟩
       clear hG)
    | (go_at_call 143; refine (trimR_any s _ _ HS.out HA.out.1).mono ?_; rintro e2 w2 ⟨rfl, rfl⟩)
    | (go_at_call 142; refine (trimL_any (trimR s) _ _ (Nat.le_trans (trimR_len s) HS.out) HA.out.1).mono ?_; rintro e3 w3 ⟨rfl, rfl⟩))
   · exact absurd (List.isEmpty_iff.1 ‹(ba s).toList.isEmpty = true›) HSN.out
   · go_ret
     exact ⟨rfl, HA.out.2⟩
theorem nl_any (s p q : By) (m : Bool) (h : Hid (cutN s = (p, q, m))) (w : World) (hG : Gd w) (hs : s.length ≤ 100000) :
 Calls Tryz.prog 90 #[.string (ba s), .string ⟨#[10]⟩] w fun e w' => e = .returned (.tuple #[.string (ba p), .string (ba q), .bool m]) ∧ ∃ n, w' = w.drewN n := by
 refine (Tryz.strings_Cut_shaped (ba s) ⟨#[10]⟩ w hG.1 (by rw [ba_size]; omega)).mono fun e w' ⟨h1, h2⟩ => ⟨?_, h2⟩
 have e2 : Lib.cut (tl (ba s)) [10] = (p, q, m) := (cut_ten _).trans h.out
 rw [h1]
 show Ending.returned (.tuple #[.string (ba (Lib.cut (tl (ba s)) [10]).1), .string (ba (Lib.cut (tl (ba s)) [10]).2.1), .bool (Lib.cut (tl (ba s)) [10]).2.2]) = _
 rw [e2]
end Go.Proofs.YtahkcemdbfjilaaGreatDoor.Glob
namespace Go.Proofs.YtahkcemdbfjilaaGreatDoor.Glob
open Go.RowKit Go.Maps
def fcells (fs : Fl) : List Value := fs.flatMap fun f => [.string (ba f.1), .string (ba f.2)]
theorem fcells_cons (f : By × By) (fs : Fl) : fcells (f :: fs) = [.string (ba f.1), .string (ba f.2)] ++ fcells fs := by simp [fcells]
theorem fcells_at (fs : Fl) (k : Nat) (h : k < fs.length) : (fcells fs)[k * 2]? = some (.string (ba fs[k].1)) ∧ (fcells fs)[k * 2 + 1]? = some (.string (ba fs[k].2)) := by
 induction fs generalizing k with
 | nil => simp at h
 | cons r rs ih =>
  rw [fcells_cons]
  cases k with
  | zero => simp
  | succ k =>
   simp only [List.length_cons] at h
   have := ih k (by omega)
   rw [show (k + 1) * 2 = k * 2 + 2 by omega, show k * 2 + 2 + 1 = (k * 2 + 1) + 2 by omega]
   simpa using this
def FilesIs (w : World) (v : Value) (fs : Fl) : Prop := ∃ (A : Option Addr) (c bb off : Nat), v = .slice A fs.length c ∧ (0 < fs.length → A = some ⟨bb, off, none⟩ ∧ bb < w.heap.size) ∧
 ∀ k (hk : k < fs.length), w.cell? ⟨bb, off + k * 2, none⟩ = some (.string (ba fs[k].1)) ∧ w.cell? ⟨bb, off + k * 2 + 1, none⟩ = some (.string (ba fs[k].2))
theorem FilesIs.stays {w w' : World} {v : Value} {fs : Fl} (h : FilesIs w v fs) (hb : Below w.heap.size w w') : FilesIs w' v fs := by
 obtain ⟨A, c, bb, off, h1, h2, h3⟩ := h
 refine ⟨A, c, bb, off, h1, fun h0 => ⟨(h2 h0).1, Nat.lt_of_lt_of_le (h2 h0).2 hb.size⟩, fun k hk => ?_⟩
 have hg := (h2 (by omega)).2
 exact ⟨(hb.cell (p := ⟨bb, off + k * 2, none⟩) hg).trans (h3 k hk).1, (hb.cell (p := ⟨bb, off + k * 2 + 1, none⟩) hg).trans (h3 k hk).2⟩
theorem FilesIs.form {w : World} {v : Value} {fs : Fl} (h : FilesIs w v fs) : ∃ A c, v = .slice A fs.length c := by
 obtain ⟨A, c, _, _, h1, _⟩ := h; exact ⟨A, c, h1⟩
theorem FilesIs.row {w : World} {v : Value} {fs : Fl} (h : FilesIs w v fs) (h0 : 0 < fs.length) : ∃ g o c, v = .slice (some ⟨g, o, none⟩) fs.length c ∧ g < w.heap.size ∧ ∀ k (hk : k < fs.length), w.cell? ⟨g, o + k * 2, none⟩ = some (.string (ba fs[k].1)) ∧ w.cell? ⟨g, o + k * 2 + 1, none⟩ = some (.string (ba fs[k].2)) := by
 obtain ⟨A, c, bb, off, h1, h2, h3⟩ := h
 exact ⟨bb, off, c, by rw [h1, (h2 h0).1], (h2 h0).2, h3⟩
theorem FilesIs.of_own {w : World} {v : Value} {fs : Fl} (h : w.ownsRow 0 91 2 v fs.length (fcells fs)) : FilesIs w v fs := by
 obtain ⟨A, c, hv⟩ := own_form h
 rcases Nat.eq_zero_or_pos fs.length with h0 | h0
 · exact ⟨A, c, 0, 0, hv, fun k => absurd k (by omega), fun k hk => absurd hk (by omega)⟩
 · obtain ⟨g, c, h1, _, h3, _, h5⟩ := own_cells h h0
   refine ⟨_, c, g, 0, h1, fun _ => ⟨rfl, h3⟩, fun k hk => ?_⟩
   rw [Nat.zero_add]
   exact ⟨h5 _ _ (fcells_at fs k hk).1, h5 _ _ (fcells_at fs k hk).2⟩
open Classical in
noncomputable def plF : Fl → Nat → Value → Option Value
 | [], _, _ => none
 | f :: fs, i, y => if y = .string (ba f.1) then some (.int .i64 (i : Int)) else plF fs (i + 1) y
open Classical in
theorem plF_snoc (fs : Fl) (f : By × By) : ∀ i y, plF (fs ++ [f]) i y = match plF fs i y with | some v => some v | none => if y = .string (ba f.1) then some (.int .i64 ((i + fs.length : Nat) : Int)) else none := by
 induction fs with
 | nil => intro i y; simp [plF]
 | cons r rs ih =>
  intro i y
  rw [List.cons_append, plF, plF]
  by_cases h : y = .string (ba r.1)
  · rw [if_pos h, if_pos h]
  · rw [if_neg h, if_neg h, ih, List.length_cons, show i + 1 + rs.length = i + (rs.length + 1) by omega]
theorem ba_str {a b : By} : Value.string (ba a) = .string (ba b) ↔ a = b := ⟨fun h => ba_inj (by simpa using h), fun h => by rw [h]⟩
theorem plF_none {fs : Fl} {name : By} (h : findF fs name = none) : ∀ i, plF fs i (.string (ba name)) = none := by
 induction fs with
 | nil => intro i; rfl
 | cons r rs ih =>
  intro i
  unfold findF at h
  rw [List.find?_cons] at h
  cases hr : r.1 == name with
  | true => rw [hr] at h; cases h
  | false =>
   rw [hr] at h
   unfold plF
   rw [if_neg (fun e => by rw [ba_str] at e; simp [e] at hr)]
   exact ih h (i + 1)
theorem plF_some {fs : Fl} {name t : By} (h : findF fs name = some t) : ∀ i, ∃ k, ∃ hk : k < fs.length, plF fs i (.string (ba name)) = some (.int .i64 ((i + k : Nat) : Int)) ∧ fs[k].2 = t := by
 induction fs with
 | nil => intro i; cases h
 | cons r rs ih =>
  intro i
  unfold findF at h
  rw [List.find?_cons] at h
  cases hr : r.1 == name with
  | true =>
   rw [hr] at h
   simp only [Option.some.injEq] at h
   refine ⟨0, by simp, ?_, h⟩
   unfold plF
   rw [if_pos (by rw [ba_str]; exact (beq_iff_eq.1 hr).symm)]
   simp
  | false =>
   rw [hr] at h
   obtain ⟨k, hk, h1, h2⟩ := ih h (i + 1)
   refine ⟨k + 1, by simp; omega, ?_, by simpa using h2⟩
   unfold plF
   rw [if_neg (fun e => by rw [ba_str] at e; simp [e] at hr), h1, show i + 1 + k = i + (k + 1) by omega]
theorem zero_int (w : World) : (zeroValue 3).run Tryz.prog w = .ok (.int .i64 0) w := by kernel_rfl
open Classical in
theorem plF_skip {fs : Fl} {k : Nat} (hk : k < fs.length) {v : Value} (h : plF (fs.take k) 0 (.string (ba fs[k].1)) = some v) : plF (fs.take (k + 1)) 0 = plF (fs.take k) 0 := by
 funext y
 rw [List.take_succ_eq_append_getElem hk, plF_snoc]
 cases hy : plF (fs.take k) 0 y with
 | some u => rfl
 | none =>
  simp only
  rw [if_neg]
  intro e
  rw [e, h] at hy
  cases hy
open Classical in
theorem plF_put {fs : Fl} {k : Nat} (hk : k < fs.length) (h : plF (fs.take k) 0 (.string (ba fs[k].1)) = none) : (fun y => if y = Value.string (ba fs[k].1) then some (Value.int .i64 (k : Int)) else plF (fs.take k) 0 y) = plF (fs.take (k + 1)) 0 := by
 funext y
 rw [List.take_succ_eq_append_getElem hk, plF_snoc]
 by_cases e : y = .string (ba fs[k].1)
 · rw [if_pos e, e, h]
   simp only [if_true]
   rw [List.length_take, Nat.min_eq_left (by omega), Nat.zero_add]
 · rw [if_neg e]
   cases plF (fs.take k) 0 y with
   | some u => rfl
   | none => simp only; rw [if_neg e]
set_option maxHeartbeats 1000000 in
theorem places_any (v : Value) (fs : Fl) (w : World) (hf : FilesIs w v fs) (hn : fs.length ≤ 1000) (hl : ∀ k (hk : k < fs.length), fs[k].1.length ≤ 100000) :
 Calls Tryz.prog 41 #[v] w fun e w' => (∃ b c, e = .returned (.map (some b)) ∧ w.heap.size ≤ b ∧ MapZ w' (.int .i64 0) b c (plF fs 0)) ∧ Below w.heap.size w w' := by
 have hmm := @run_makeMap Tryz.prog
 have HF := hid hf
 have HL := hid hl
 have HN := hid hn
 obtain ⟨n, HNL⟩ : ∃ n, Hid (fs.length = n) := ⟨_, rfl⟩
 obtain ⟨A, cp, hv⟩ := hf.form
 rw [HNL.out] at hv hn
 subst hv
 obtain ⟨W1, hW1⟩ : ∃ W1, w.alloc (.map #[] 0) = W1 := ⟨_, rfl⟩
 have HM1 : Hid (MapZ W1 (.int .i64 0) w.heap.size 0 (plF (fs.take 0) 0)) := hW1 ▸ MapZ.made w _
 have HB1 : Hid (Below w.heap.size w W1) := hW1 ▸ (Below.refl _ _).alloc (Nat.le_refl _) _
 have HW : Hid (w.heap.size < W1.heap.size) := by show _ < _; rw [← hW1]; simp
 clear hf hl
 go_enter Tryz.func41, Tryz.ntmps41
 go_wp2
 go_loopw [11] (fun i wr => ∃ (k c : Nat), i = .int .i64 (k : Int) ∧ k ≤ n ∧ c ≤ k ∧ Hid (MapZ wr (.int .i64 0) w.heap.size c (plF (fs.take k) 0)) ∧ Hid (Below w.heap.size w wr))
  (fun i _ => n - (intOf i).toNat)
 case atStart => exact ⟨0, 0, rfl, by omega, Nat.le_refl _, HM1, HB1⟩
 case round =>
  obtain ⟨k, c, rfl, hk, hc, HM, HB⟩ := hrel
  by_cases hlt : k < n
  · have hlt2 : k < fs.length := by rw [HNL.out]; exact hlt
    obtain ⟨g, o0, cp2, hve, hg, hcell⟩ := HF.out.row (by omega)
    rw [HNL.out] at hve
    simp only [Value.slice.injEq, true_and] at hve
    obtain ⟨rfl, rfl⟩ := hve
    have c0 := (HB.out.cell (p := ⟨g, o0 + k * 2, none⟩) hg).trans (hcell k hlt2).1
    have c1 := (HB.out.cell (p := ⟨g, o0 + k * 2 + 1, none⟩) hg).trans (hcell k hlt2).2
    have HK := hid (str_key fs[k].1 (by have := HL.out k hlt2; unfold maxLen; omega))
    obtain ⟨Wa, hWa⟩ : ∃ Wa, wr.alloc (.cells #[.string (ba fs[k].1), .string (ba fs[k].2)] 91) = Wa := ⟨_, rfl⟩
    have HBa : Hid (Below w.heap.size w Wa) := hWa ▸ HB.out.alloc HB.out.size _
    have HMa : Hid (MapZ Wa (.int .i64 0) w.heap.size c (plF (fs.take k) 0)) := hWa ▸ HM.out.kept ((Below.refl wr.heap.size wr).alloc (Nat.le_refl _) _ |>.block _ HM.out.inside)
    have hlook := HMa.out.lookOk Tryz.underlying101 (zero_int _) HK.out
    have a0 : Wa.cell? ⟨wr.heap.size, 0, none⟩ = some (.string (ba fs[k].1)) := hWa ▸ (Has.fresh wr 91 _).at_ 0
    cases hp : plF (fs.take k) 0 (.string (ba fs[k].1)) with
    | some u =>
     rw [hp] at hlook
     simp only [Option.getD_some, Option.isSome_some] at hlook
     have HS := hid (plF_skip hlt2 hp)
     generalize fs[k].1 = nm at c0 hlook a0 hWa
     generalize fs[k].2 = tx at c1 hWa
     clear hp hcell
     go_wp2
     exact ⟨⟨k + 1, c, by go_num, by omega, by omega, by rw [HS.out]; exact HMa, HBa⟩, by simp [intOf]; omega⟩
    | none =>
     obtain ⟨Wb, hst, hmb, hgb⟩ := HMa.out.store Tryz.underlying101 (by omega) (v := .int .i64 (k : Int)) HK.out
     rw [hp] at hlook
     simp only [Option.getD_none, Option.isSome_none] at hlook
     rw [plF_put hlt2 hp, hp] at hmb
     have HMb := hid hmb
     have HBb : Hid (Below w.heap.size w Wb) := grown_below hgb HBa.out (fun j hj => by simp at hj; omega) HBa.out.size
     generalize fs[k].1 = nm at c0 hlook a0 hWa hst
     generalize fs[k].2 = tx at c1 hWa
     clear hp hcell hmb hgb
     go_wp2
     exact ⟨⟨k + 1, c + 1, by go_num, by omega, by omega, HMb, HBb⟩, by simp [intOf]; omega⟩
  · have HK : Hid (k = fs.length) := by show _ = _; rw [HNL.out]; omega
    have HM2 : Hid (MapZ wr (.int .i64 0) w.heap.size c (plF fs 0)) := by have := HM.out; rw [HK.out, List.take_length] at this; exact this
    go_wp2
    go_ret
    exact ⟨⟨_, c, rfl, Nat.le_refl _, HM2.out⟩, HB.out⟩
end Go.Proofs.YtahkcemdbfjilaaGreatDoor.Glob
