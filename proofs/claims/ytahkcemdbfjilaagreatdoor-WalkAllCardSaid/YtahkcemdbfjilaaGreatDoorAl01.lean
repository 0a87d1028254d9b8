/- Several texts in one. Conditions: those said at each. -/
import Derived.Test.YtahkcemdbfjilaaGreatDoorWb45
set_option linter.unusedSimpArgs false
set_option linter.unusedVariables false
set_option maxRecDepth 100000
namespace Go.Proofs.YtahkcemdbfjilaaGreatDoor
open Go.RowKit Go.Maps
def dirsL (l : Tr) : List By := (l.filter fun x => decide (x.2.kind = 2)).map (·.1)
theorem dirsL_snoc (l : Tr) (x : At) : dirsL (l ++ [x]) = if x.2.kind = 2 then dirsL l ++ [x.1] else dirsL l := by
 unfold dirsL
 rw [List.filter_append, List.map_append, List.filter_cons]
 by_cases h : x.2.kind = 2
 · rw [if_pos h, if_pos (decide_eq_true h)]; rfl
 · rw [if_neg h, if_neg (by simp [h])]; simp
theorem dirsL_len (l : Tr) : (dirsL l).length ≤ l.length := by
 unfold dirsL; rw [List.length_map]; exact List.length_filter_le _ _
theorem isL_snoc (ls : List By) (q p : By) : isL (ls ++ [q]) p = isL ls p + (if q = p then 1 else 0) := by
 unfold isL; rw [List.filter_append, List.length_append]
 congr 1
 rw [List.filter_cons]
 by_cases h : q = p
 · rw [if_pos h, if_pos (decide_eq_true h)]; rfl
 · rw [if_neg h, if_neg (by simp [h])]; rfl
structure AllOk (M : Mo) (root : By) (X : Fnd) : Prop where
 len : X.items.length ≤ 100000
 may : ∀ x ∈ X.items, mayB x.1 = true
 up : ∀ i (hi : i < X.items.length), aheadL (X.items[i]).1 = [] ∨ howL (dirsL (X.items.take i)) (aheadL (X.items[i]).1) ≠ 0
 temp : ∀ x ∈ X.items, isTempB x.1 = false
 item : ∀ x ∈ X.items, itemM M.now root x.1 = (0, x.2)
 siz : ∀ x ∈ X.items, x.2.data.length ≤ 4096
 one : ∀ x ∈ inL M.now root, isL (X.items.map (·.1)) x.1 + howL X.temps x.1 + howL X.ign x.1 + howL X.bad x.1 = 1
 le : X.items.length ≤ (inL M.now root).length
 lens : ∀ k, (lsOf X k).length ≤ 100000
 ps : ∀ k, ∀ q ∈ lsOf X k, q.length ≤ 4000
 inlen : (inL M.now root).length ≤ 100000
 inm : ∀ x ∈ inL M.now root, x.1.length ≤ 160
theorem how_pos {ls : List By} {p : By} (h : p ∈ ls) : howL ls p ≠ 0 := by
 unfold howL
 have : p ∈ ls.filter fun q => decide (q = p) || withinB p q := List.mem_filter.2 ⟨h, by simp⟩
 intro e
 rw [List.length_eq_zero_iff.1 e] at this
 cases this
theorem part_why {ig : By → Bool} {l : Tr} {k : Nat} {x : At} (h : x ∈ partF ig l l k) : x ∈ l ∧ whyB ig x = k := by
 unfold partF at h
 have := List.mem_filter.1 h
 refine ⟨this.1, ?_⟩
 have h2 := this.2
 simp only [Bool.and_eq_true, decide_eq_true_eq] at h2
 exact h2.2
theorem all_ok {own : Nat → Prop} {w : World} {p : Nat} {M : Mo} (h : Dsk own w p M) (hDG : DG M.now) (lo : Option (List By)) (root : By) (hc : rootE M.now root = 0) : AllOk M root (foundM lo M.now root) := by
 unfold foundM
 rw [if_pos hc]
 have hW := in_wft h.good.w1 root
 have hD := hDG.inR root
 have hlen : (inL M.now root).length ≤ 100000 := by
  obtain ⟨m1, m2, sv, vs, h'⟩ := h
  have e1 := h'.tr1.len
  have e2 := len_in M.now root
  omega
 rw [walk_is hW hD]
 generalize hig : igB lo = ig
 have hm : ∀ x ∈ (fndF ig (inL M.now root) (inL M.now root)).items, x ∈ inL M.now root ∧ whyB ig x = 0 := fun x hx => part_why hx
 have hbad : ∀ x, whyB ig x = 0 → isTempB x.1 = false ∧ badN x.2 = false := fun x hx => by
  unfold whyB at hx
  split at hx
  · omega
  · rename_i h1
    split at hx
    · omega
    · split at hx
      · omega
      · rename_i h3
        exact ⟨by simpa using h1, by simpa using h3⟩
 have hls : ∀ k, (partF ig (inL M.now root) (inL M.now root) k).length ≤ 100000 := fun k => Nat.le_trans (List.length_filter_le _ _) hlen
 have hlq : ∀ k, ∀ q ∈ (partF ig (inL M.now root) (inL M.now root) k).map (·.1), q.length ≤ 4000 := fun k q hq => by
  obtain ⟨y, hy, rfl⟩ := List.mem_map.1 hq
  have := (may_parts (mem_may hW (part_mem hy))).1; omega
 refine ⟨hls 0, fun x hx => mem_may hW (hm x hx).1, fun i hi => ?_, fun x hx => (hbad x (hm x hx).2).1, fun x hx => ?_, fun x hx => ?_, fun x hx => all_one hW ig hx, List.length_filter_le _ _, fun k => ?_, fun k q hq => ?_, hlen, fun x hx => (may_parts (mem_may hW hx)).1⟩
 · by_cases h0 : aheadL ((fndF ig (inL M.now root) (inL M.now root)).items[i]).1 = []
   · exact .inl h0
   · right
     obtain ⟨q, hq, e1, e2⟩ := item_up hW ig (pre := (fndF ig (inL M.now root) (inL M.now root)).items.take i) (rest := (fndF ig (inL M.now root) (inL M.now root)).items.drop (i + 1)) (x := (fndF ig (inL M.now root) (inL M.now root)).items[i]) (by rw [← List.drop_eq_getElem_cons hi, List.take_append_drop]) h0
     refine how_pos ?_
     rw [← e1]
     exact List.mem_map.2 ⟨q, List.mem_filter.2 ⟨hq, decide_eq_true e2⟩, rfl⟩
 · have hx2 := mem_in.1 (hm x hx).1
   have k1 := mem_look h.good.w1.srt hx2
   have k2 : mayB (root ++ 47 :: x.1) = true := h.good.w1.may _ (by rw [k1]; rfl)
   unfold itemM
   rw [if_pos k2, k1]
   simp only [(hbad x (hm x hx).2).2]
   rfl
 · have := (hbad x (hm x hx).2).2
   unfold badN at this
   simpa using this
 · unfold lsOf
   split
   · show ((partF _ _ _ 1).map (·.1)).length ≤ _; rw [List.length_map]; exact hls 1
   · split
     · show ((partF _ _ _ 2).map (·.1)).length ≤ _; rw [List.length_map]; exact hls 2
     · split
       · show ((partF _ _ _ 3).map (·.1)).length ≤ _; rw [List.length_map]; exact hls 3
       · exact Nat.zero_le _
 · unfold lsOf at hq
   split at hq
   · exact hlq 1 q hq
   · split at hq
     · exact hlq 2 q hq
     · split at hq
       · exact hlq 3 q hq
       · cases hq
structure ASt (w7 W : World) (b : Nat) (D F : List By) (dv fv : Value) : Prop where
 f : Has W b 34 #[fv]
 d : StrR (b + 1) W dv D
 g : StrR (b + 1) W fv F
 ap : ∀ k, dv.ownBlock = some k → fv.ownBlock ≠ some k
 bl : Below b w7 W
 hb : b ≤ w7.heap.size
section
variable {w7 W : World} {b : Nat} {D F : List By} {dv fv : Value}
theorem ASt.on (h : ASt w7 W b D F dv fv) {W' : World} (hb : Below W.heap.size W W') : ASt w7 W' b D F dv fv :=
 ⟨h.f.kept hb h.f.inside, h.d.kq (Kq.of_below hb), h.g.kq (Kq.of_below hb), h.ap, h.bl.trans (hb.mono (Nat.le_of_lt h.f.inside)), h.hb⟩
theorem append_text (W : World) (b : Nat) (v : Value) (L : List By) (h : StrR (b + 1) W v L) (hb : b < W.heap.size) (p : By) (hn : L.length ≤ 100000) :
 ∃ A c W2, (Builtin.append_ #[34, 34] 34 #[v, .slice (some ⟨W.heap.size, 0, none⟩) 1 1]).run Tryz.prog (W.alloc (.cells #[kS p] 9)) = .ok (.slice A (L.length + 1) c) W2 ∧
  StrR (b + 1) W2 (.slice A (L.length + 1) c) (L ++ [p]) ∧ ((Value.slice A (L.length + 1) c).ownBlock = v.ownBlock ∨ (Value.slice A (L.length + 1) c).ownBlock = some (W.heap.size + 1)) ∧
  (∀ g, g < W.heap.size → v.ownBlock ≠ some g → W2.heap[g]? = W.heap[g]?) ∧ Below (b + 1) W W2 := by
 obtain ⟨i0, hi, hz0, hz1, hz2⟩ := info_parts infoStr
 have hb0 : Below W.heap.size W (W.alloc (.cells #[kS p] 9)) := (Below.refl _ _).alloc (Nat.le_refl _) _
 have hr0 : StrR (b + 1) (W.alloc (.cells #[kS p] 9)) v L := h.kq (Kq.of_below hb0)
 obtain ⟨v', W2, hr, ho, hg, _, hv⟩ := run_append_own_at (P := Tryz.prog) (W.alloc (.cells #[kS p] 9)) (b + 1) 34 34 9 i0 (.string ⟨#[]⟩) 1 16 Tryz.underlying34 hi hz0 hz1 hz2 rfl (by decide) v L.length (L.map kS) hr0 ⟨W.heap.size, 0, none⟩ 1 1 [kS p] rfl
  (fun j u hj => by rw [add_at, Nat.zero_add, (Has.fresh W 9 #[kS p]).at_ j, ← Array.getElem?_toList]; exact hj) (kS_one p) (by unfold maxLen; omega) (by omega) (by simp; omega)
 have ho' : StrR (b + 1) W2 v' (L ++ [p]) := by unfold StrR; rw [List.length_append, List.map_append]; exact ho
 obtain ⟨A, c, rfl⟩ := ho'.form
 have hlen : (L ++ [p]).length = L.length + 1 := by simp
 rw [hlen] at hr ho' hv
 refine ⟨A, c, W2, hr, ho', ?_, fun g hg1 hn => (hg.block g (by simp; omega) (fun e => hn e.symm)).trans (hb0.block g hg1), ?_⟩
 · rcases hv with k | k
   · exact .inl k
   · refine .inr ?_
     rw [k]; simp
 · exact (hb0.mono (by omega)).grown hg (by simp; omega) (fun g hg1 => (World.ownsRow.lt hr0 g hg1).1)
theorem ASt.appD (h : ASt w7 W b D F dv fv) (p : By) (hn : D.length ≤ 100000) :
 ∃ A c W2, (Builtin.append_ #[34, 34] 34 #[dv, .slice (some ⟨W.heap.size, 0, none⟩) 1 1]).run Tryz.prog (W.alloc (.cells #[kS p] 9)) = .ok (.slice A (D.length + 1) c) W2 ∧
  ASt w7 W2 b (D ++ [p]) F (.slice A (D.length + 1) c) fv ∧ (∀ g t cs, Has W g t cs → t ≠ 9 → Has W2 g t cs) ∧ (∀ g, g < W.heap.size → dv.ownBlock ≠ some g → W2.heap[g]? = W.heap[g]?) ∧ Below (b + 1) W W2 := by
 obtain ⟨A, c, W2, h1, h2, h3, h4, h5⟩ := append_text W b dv D h.d h.f.inside p hn
 have keepH : ∀ (g : Nat) (t : TypeId) (cs : Array Value), Has W g t cs → t ≠ 9 → Has W2 g t cs := fun g t cs hh ht => (h4 _ hh.inside (apart_has h.d hh (fun e => ht e.symm))).trans hh
 refine ⟨A, c, W2, h1, ⟨keepH _ _ _ h.f (by decide), h2, row_of h.g fun k hk => h4 k (World.ownsRow.lt h.g k hk).2 (fun e => h.ap k e hk), ?_, h.bl.trans (h5.mono (by omega)), h.hb⟩, keepH, h4, h5⟩
 intro k hk hk2
 rcases h3 with e | e
 · rw [e] at hk; exact h.ap k hk hk2
 · rw [e] at hk
   injection hk with hk
   have := (World.ownsRow.lt h.g k hk2).2
   omega
theorem ASt.appF (h : ASt w7 W b D F dv fv) (p : By) (hn : F.length ≤ 100000) :
 ∃ A c W2, (Builtin.append_ #[34, 34] 34 #[fv, .slice (some ⟨W.heap.size, 0, none⟩) 1 1]).run Tryz.prog (W.alloc (.cells #[kS p] 9)) = .ok (.slice A (F.length + 1) c) W2 ∧
  Has W2 b 34 #[fv] ∧ ASt w7 (W2.setCell ⟨b, 0, none⟩ (.slice A (F.length + 1) c)) b D (F ++ [p]) dv (.slice A (F.length + 1) c) := by
 obtain ⟨A, c, W2, h1, h2, h3, h4, h5⟩ := append_text W b fv F h.g h.f.inside p hn
 have f2 : Has W2 b 34 #[fv] := (h4 _ h.f.inside (apart_has h.g h.f (by decide))).trans h.f
 have d2 : StrR (b + 1) W2 dv D := row_of h.d fun k hk => h4 k (World.ownsRow.lt h.d k hk).2 (fun e => h.ap k hk e)
 refine ⟨A, c, W2, h1, f2, ⟨f2.put 0 _, row_of d2 fun k hk => Below.heap_setCell W2 ⟨b, 0, none⟩ _ k ?_, row_of h2 fun k hk => Below.heap_setCell W2 ⟨b, 0, none⟩ _ k ?_, ?_, ?_, h.hb⟩⟩
 · rintro rfl; have := (World.ownsRow.lt d2 _ hk).1; omega
 · rintro rfl; have := (World.ownsRow.lt h2 _ hk).1; omega
 · intro k hk hk2
   rcases h3 with e | e
   · rw [e] at hk2; exact h.ap k hk hk2
   · rw [e] at hk2
     injection hk2 with hk2
     have := (World.ownsRow.lt h.d k hk).2
     omega
 · exact (h.bl.trans (h5.mono (by omega))).setCell (p := ⟨b, 0, none⟩) (Nat.le_refl _) _
end
end Go.Proofs.YtahkcemdbfjilaaGreatDoor
