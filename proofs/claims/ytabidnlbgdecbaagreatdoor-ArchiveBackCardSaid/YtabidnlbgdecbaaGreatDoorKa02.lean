/- Several texts in one. Conditions: those said at each. -/
import Derived.Test.YtabidnlbgdecbaaGreatDoorKa00
import Derived.Test.YtabidnlbgdecbaaGreatDoorKa01
import Derived.Maps.OwnSet
import Derived.Maps.RangeWalk
import Derived.Sort.KeysCollected
import Derived.WideKeyEntry
import Derived.Shelf.SlMaps.Clone
import Derived.Deep.RegionHeld3
set_option linter.unusedSimpArgs false
set_option linter.unusedVariables false
set_option maxRecDepth 100000
namespace Go.Proofs.YtabidnlbgdecbaaGreatDoor
abbrev By := List UInt8
structure Nd where
 kind : Int
 data : By
 target : By
 time : Int
abbrev Tr := List (By × Nd)
def look : Tr → By → Option Nd
 | [], _ => none
 | (q, n) :: L, p => if q = p then some n else look L p
def del (L : Tr) (p : By) : Tr := L.filter fun x => decide (x.1 ≠ p)
def ins (p : By) (n : Nd) : Tr → Tr
 | [] => [(p, n)]
 | (q, m) :: L => if cmpL p q ≤ 0 then (p, n) :: del ((q, m) :: L) p else (q, m) :: ins p n L
def useN (n : Nd) : Nat := 64 + n.data.length
def usedL : Tr → Nat
 | [] => 0
 | (_, n) :: L => useN n + usedL L
def useP (L : Tr) (p : By) : Nat := match look L p with | some n => useN n | none => 0
def Srt (L : Tr) : Prop := L.Pairwise fun a b => cmpL a.1 b.1 = -1
theorem look_none {L : Tr} {p : By} : look L p = none ↔ ∀ x ∈ L, x.1 ≠ p := by
 induction L with
 | nil => simp [look]
 | cons a L ih =>
  obtain ⟨q, n⟩ := a
  rw [look]
  by_cases h : q = p
  · simp [h]
  · rw [if_neg h, ih]; simp [h]
theorem look_mem {L : Tr} {p : By} {n : Nd} (h : look L p = some n) : (p, n) ∈ L := by
 induction L with
 | nil => cases h
 | cons a L ih =>
  obtain ⟨q, m⟩ := a
  rw [look] at h
  split at h
  · rename_i e; obtain rfl := e; cases h; exact List.mem_cons_self
  · exact List.mem_cons_of_mem _ (ih h)
theorem cmpL_ne {a b : By} (h : cmpL a b = -1) : a ≠ b := by rintro rfl; rw [cmpL_self] at h; cases h
theorem look_del (L : Tr) (p q : By) : look (del L p) q = if q = p then none else look L q := by
 induction L with
 | nil => simp [del, look]
 | cons a L ih =>
  obtain ⟨x, m⟩ := a
  unfold del at ih ⊢
  by_cases h : x = p
  · rw [List.filter_cons, if_neg (by simp [h]), ih, look]
    by_cases e : q = p
    · rw [if_pos e, if_pos e]
    · rw [if_neg e, if_neg e, if_neg (by rw [h]; exact fun k => e k.symm)]
  · rw [List.filter_cons, if_pos (by simp [h]), look, look, ih]
    by_cases e : x = q
    · rw [if_pos e, if_pos e, if_neg (by rw [← e]; exact h)]
    · rw [if_neg e, if_neg e]
theorem look_ins (p : By) (n : Nd) (L : Tr) (q : By) : look (ins p n L) q = if q = p then some n else look L q := by
 induction L with
 | nil => simp only [ins, look, eq_comm]
 | cons a L ih =>
  obtain ⟨x, m⟩ := a
  rw [ins]
  by_cases h : cmpL p x ≤ 0
  · rw [if_pos h, look, look_del]
    by_cases e : q = p
    · rw [if_pos e.symm, if_pos e]
    · rw [if_neg (fun k => e k.symm), if_neg e, if_neg e]
  · rw [if_neg h, look, ih, look]
    have hne : x ≠ p := by rintro rfl; rw [cmpL_self] at h; exact h (Int.le_refl 0)
    by_cases e : x = q
    · rw [if_pos e, if_pos e, if_neg (by rw [← e]; exact hne)]
    · rw [if_neg e, if_neg e]
theorem srt_del {L : Tr} (h : Srt L) (p : By) : Srt (del L p) := h.filter _
theorem mem_ins {p : By} {n : Nd} {L : Tr} {x : By × Nd} (h : x ∈ ins p n L) : x = (p, n) ∨ x ∈ L := by
 induction L with
 | nil => rw [ins] at h; simp at h; exact .inl h
 | cons a L ih =>
  obtain ⟨q, m⟩ := a
  rw [ins] at h
  split at h
  · rcases List.mem_cons.1 h with e | e
    · exact .inl e
    · exact .inr (List.mem_filter.1 e).1
  · rcases List.mem_cons.1 h with e | e
    · exact .inr (by rw [e]; exact List.mem_cons_self)
    · rcases ih e with e | e
      · exact .inl e
      · exact .inr (List.mem_cons_of_mem _ e)
theorem srt_ins {L : Tr} (h : Srt L) (p : By) (n : Nd) : Srt (ins p n L) := by
 induction L with
 | nil => exact List.pairwise_singleton _ _
 | cons a L ih =>
  obtain ⟨q, m⟩ := a
  obtain ⟨h1, h2⟩ := List.pairwise_cons.1 h
  rw [ins]
  split
  · rename_i hc
    refine List.pairwise_cons.2 ⟨?_, srt_del h p⟩
    intro x hx
    obtain ⟨hm, hne⟩ := List.mem_filter.1 hx
    have hne : x.1 ≠ p := by simpa using hne
    have hpq : cmpL p q = -1 ∨ p = q := by
     rcases cmpL_vals p q with e | e | e
     · exact .inl e
     · exact .inr ((cmpL_zero _ _).1 e)
     · omega
    rcases List.mem_cons.1 hm with e | e
    · rcases hpq with k | k
      · rw [e]; exact k
      · exact absurd (by rw [e, k]) hne
    · rcases hpq with k | k
      · exact cmpL_trans _ _ _ k (h1 _ e)
      · rw [k]; exact h1 _ e
  · rename_i hc
    refine List.pairwise_cons.2 ⟨?_, ih h2⟩
    intro x hx
    rcases mem_ins hx with e | e
    · rw [e]
      have := cmpL_neg p q
      rcases cmpL_vals p q with k | k | k <;> (show cmpL q p = -1) <;> omega
    · exact h1 _ e
theorem del_same {L : Tr} {p : By} (h : look L p = none) : del L p = L := by
 unfold del
 rw [List.filter_eq_self]
 intro x hx
 simpa using look_none.1 h x hx
theorem used_del {L : Tr} (h : Srt L) (p : By) : usedL (del L p) + useP L p = usedL L := by
 induction L with
 | nil => rfl
 | cons a L ih =>
  obtain ⟨q, n⟩ := a
  obtain ⟨h1, h2⟩ := List.pairwise_cons.1 h
  have ih := ih h2
  by_cases e : q = p
  · subst e
    have hn : look L q = none := look_none.2 (fun x hx => (cmpL_ne (h1 x hx)).symm)
    have : del ((q, n) :: L) q = L := by
     show List.filter _ _ = _
     rw [List.filter_cons, if_neg (by simp)]; exact del_same hn
    rw [this, usedL, useP, look, if_pos rfl]; simp only; omega
  · have h3 : del ((q, n) :: L) p = (q, n) :: del L p := by
     show List.filter _ _ = _
     rw [List.filter_cons, if_pos (by simpa using e)]; rfl
    have h4 : useP ((q, n) :: L) p = useP L p := by rw [useP, useP, look, if_neg e]
    rw [h3, h4, usedL, usedL]; omega
theorem used_ins {L : Tr} (h : Srt L) (p : By) (n : Nd) : usedL (ins p n L) + useP L p = usedL L + useN n := by
 induction L with
 | nil => simp [ins, usedL, useP, look]
 | cons a L ih =>
  obtain ⟨q, m⟩ := a
  obtain ⟨h1, h2⟩ := List.pairwise_cons.1 h
  have ih := ih h2
  rw [ins]
  split
  · have := used_del h p
    rw [usedL]; omega
  · rename_i hc
    have e : q ≠ p := by rintro rfl; rw [cmpL_self] at hc; exact hc (Int.le_refl 0)
    have h4 : useP ((q, m) :: L) p = useP L p := by rw [useP, useP, look, if_neg e]
    rw [h4, usedL, usedL]; omega
theorem useP_le {L : Tr} (h : Srt L) (p : By) : useP L p ≤ usedL L := by have := used_del h p; omega
theorem len_del {L : Tr} (h : Srt L) (p : By) : (del L p).length = if (look L p).isSome then L.length - 1 else L.length := by
 induction L with
 | nil => rfl
 | cons a L ih =>
  obtain ⟨q, n⟩ := a
  obtain ⟨h1, h2⟩ := List.pairwise_cons.1 h
  have ih := ih h2
  by_cases e : q = p
  · subst e
    have hn : look L q = none := look_none.2 (fun x hx => (cmpL_ne (h1 x hx)).symm)
    have : del ((q, n) :: L) q = L := by
     show List.filter _ _ = _
     rw [List.filter_cons, if_neg (by simp)]; exact del_same hn
    rw [this, look, if_pos rfl]; simp
  · have h3 : del ((q, n) :: L) p = (q, n) :: del L p := by
     show List.filter _ _ = _
     rw [List.filter_cons, if_pos (by simpa using e)]; rfl
    rw [h3, look, if_neg e, List.length_cons, ih]
    cases hl : look L p with
    | none => simp
    | some m =>
     have : 0 < L.length := List.length_pos_of_mem (look_mem hl)
     simp; omega
theorem len_ins {L : Tr} (h : Srt L) (p : By) (n : Nd) : (ins p n L).length = if (look L p).isSome then L.length else L.length + 1 := by
 induction L with
 | nil => rfl
 | cons a L ih =>
  obtain ⟨q, m⟩ := a
  obtain ⟨h1, h2⟩ := List.pairwise_cons.1 h
  have ih := ih h2
  rw [ins]
  split
  · have := len_del h p
    rw [List.length_cons, this]
    split
    · rw [List.length_cons]; omega
    · rfl
  · rename_i hc
    have e : q ≠ p := by rintro rfl; rw [cmpL_self] at hc; exact hc (Int.le_refl 0)
    rw [look, if_neg e, List.length_cons, ih]
    split <;> simp
theorem used_len {L : Tr} : 64 * L.length ≤ usedL L := by
 induction L with
 | nil => exact Nat.le_refl 0
 | cons a L ih => obtain ⟨q, m⟩ := a; rw [usedL, List.length_cons, useN]; omega
end Go.Proofs.YtabidnlbgdecbaaGreatDoor
namespace Go.Proofs.YtabidnlbgdecbaaGreatDoor
def n0 : Nd := ⟨0, [], [], 0⟩
inductive Eff
 | write (p d : By) (t : Int)
 | append (p d : By)
 | mkdir (p : By)
 | link (p g : By) (t : Int)
 | rename (a b : By)
 | remove (p : By)
def kindP (L : Tr) (p : By) : Int := if p = [] then 2 else match look L p with | some n => n.kind | none => 0
def noDirE (L : Tr) (p : By) : Int := if kindP L p = 2 then 0 else if (look L p).isSome then 12 else 5
def homeE (L : Tr) (p : By) : Int := noDirE L (aheadL p)
def takenE (L : Tr) (p : By) : Int := match look L p with | some n => if n.kind = 2 then 12 else if n.kind = 3 then 11 else 0 | none => 0
def putE (room : Nat) (L : Tr) (p : By) (n : Nd) : Int × Tr := if usedL L + useN n ≤ room + useP L p then (0, ins p n L) else (7, L)
def timeB (t : Int) : Bool := decide (0 ≤ t) && decide (t ≤ 4294967295)
def addE (room : Nat) (L : Tr) (p : By) (n : Nd) : Int × Tr := if homeE L p = 0 then (if (look L p).isSome then (6, L) else putE room L p n) else (homeE L p, L)
def restsL (L : Tr) (b : By) : List By := L.filterMap fun x => if b.isPrefixOf x.1 then some (x.1.drop b.length) else none
def beginL (p : By) : By := if p = [] then [] else p ++ [47]
def innerL (L : Tr) (p : By) : List By := if kindP L p = 2 then restsL L (beginL p) else []
def mv1 (T : Tr) (a b : By) : Tr := del (ins b ((look T a).getD n0) T) a
def mvs (a b : By) (T : Tr) (rs : List By) : Tr := rs.foldl (fun T r => mv1 T (a ++ 47 :: r) (b ++ 47 :: r)) T
def mvAll (L : Tr) (a b : By) (rs : List By) : Tr := mvs a b (mv1 (del L b) a b) rs
def farB (b : By) (rs : List By) : Bool := rs.all fun r => mayB (b ++ 47 :: r)
def stepE (room : Nat) (L : Tr) : Eff → Int × Tr
 | .write p d t => if mayB p then (if timeB t then (if homeE L p = 0 then (if takenE L p = 0 then putE room L p ⟨1, d, [], t⟩ else (takenE L p, L)) else (homeE L p, L)) else (2, L)) else (10, L)
 | .append p d => if mayB p then (match look L p with | some n => if takenE L p = 0 then putE room L p ⟨n.kind, n.data ++ d, n.target, n.time⟩ else (takenE L p, L) | none => (5, L)) else (10, L)
 | .mkdir p => if mayB p then addE room L p ⟨2, [], [], 0⟩ else (10, L)
 | .link p g t => if mayB p then (if timeB t && decide (1 ≤ g.length) && decide (g.length ≤ 160) then addE room L p ⟨3, [], g, t⟩ else (2, L)) else (10, L)
 | .rename a b => if mayB a && mayB b then (if b = a ∨ withinB b a = true then (2, L) else if (look L a).isSome then (if homeE L b = 0 then (if kindP L b = 2 ∨ (kindP L a = 2 ∧ (look L b).isSome) then (12, L) else if farB b (innerL L a) then (0, mvAll L a b (innerL L a)) else (10, L)) else (homeE L b, L)) else (5, L)) else (10, L)
 | .remove p => if mayB p then (if (look L p).isSome then (if innerL L p = [] then (0, del L p) else (22, L)) else (5, L)) else (10, L)
structure WFT (room : Nat) (L : Tr) : Prop where
 srt : Srt L
 may : ∀ p, (look L p).isSome → mayB p = true
 kind : ∀ p n, look L p = some n → n.kind = 1 ∨ n.kind = 2 ∨ n.kind = 3
 par : ∀ p, (look L p).isSome → kindP L (aheadL p) = 2
 used : usedL L ≤ room
theorem WFT.nil (room : Nat) : WFT room [] := ⟨List.Pairwise.nil, fun p h => (by cases h), fun p n h => (by cases h), fun p h => (by cases h), Nat.zero_le _⟩
theorem may_ne {p : By} (h : mayB p = true) : p ≠ [] := by rintro rfl; rw [mayB_nil] at h; cases h
theorem ahead_behind (d r : By) : aheadL (d ++ 47 :: r) = if 47 ∈ r then d ++ 47 :: aheadL r else d := by
 have hp : ∀ d r : By, pieces (d ++ 47 :: r) = pieces d ++ pieces r := by
  intro d r
  induction d with
  | nil => show pieces (47 :: r) = [] :: pieces r; rw [pieces, if_pos rfl]
  | cons c d ih =>
   rw [List.cons_append, pieces, pieces, ih]
   by_cases hc : c = 47
   · rw [if_pos hc, if_pos hc]; rfl
   · rw [if_neg hc, if_neg hc]
     cases h : pieces d with
     | nil => exact absurd h (pieces_ne d)
     | cons x xs => rfl
 have hno : ∀ r : By, 47 ∉ r → pieces r = [r] := by
  intro r
  induction r with
  | nil => intro _; rfl
  | cons c r ih =>
   intro h
   rw [pieces, if_neg (by rintro rfl; exact h List.mem_cons_self), ih (fun k => h (List.mem_cons_of_mem _ k))]
 split
 · rename_i hm
   rcases split_last r with e | ⟨a, b, e1, e2⟩
   · exfalso
     have : ∀ (l : By), ∀ x ∈ pieces l, 47 ∉ x := by
      intro l
      induction l with
      | nil => intro x hx; simp [pieces] at hx; rw [hx]; simp
      | cons c l ih =>
       intro x hx
       rw [pieces] at hx
       split at hx
       · rcases List.mem_cons.1 hx with k | k
         · rw [k]; simp
         · exact ih x k
       · rename_i hc
         cases hq : pieces l with
         | nil => exact absurd hq (pieces_ne l)
         | cons y ys =>
          rw [hq] at hx ih
          simp only at hx
          rcases List.mem_cons.1 hx with k | k
          · rw [k]
            intro hh
            rcases List.mem_cons.1 hh with k2 | k2
            · exact hc k2.symm
            · exact ih y List.mem_cons_self k2
          · exact ih x (List.mem_cons_of_mem _ k)
     exact this r r (by rw [e]; exact List.mem_cons_self) hm
   · rw [aheadL_two e1 e2]
     refine aheadL_two (b := b) (by rw [e1]; simp) ?_
     rw [hp d r, e2, hp d a]; simp
 · rename_i hm
   exact aheadL_two rfl (by rw [hp, hno r hm])
theorem mem_rests {L : Tr} {b r : By} : r ∈ restsL L b ↔ (look L (b ++ r)).isSome := by
 unfold restsL
 rw [List.mem_filterMap]
 constructor
 · rintro ⟨x, hx, h⟩
   split at h
   · rename_i hp
     injection h with h
     obtain ⟨s, hs⟩ := List.isPrefixOf_iff_prefix.1 hp
     have : b ++ r = x.1 := by rw [← h, ← hs]; simp
     rw [this]
     cases hl : look L x.1 with
     | none => exact absurd rfl (look_none.1 hl x hx)
     | some _ => rfl
   · cases h
 · intro h
   cases hl : look L (b ++ r) with
   | none => rw [hl] at h; cases h
   | some n => exact ⟨_, look_mem hl, by rw [if_pos (List.isPrefixOf_iff_prefix.2 ⟨r, rfl⟩)]; simp⟩
theorem nodup_rests {L : Tr} (hs : Srt L) (b : By) : (restsL L b).Nodup := by
 induction L with
 | nil => exact List.nodup_nil
 | cons a L ih =>
  obtain ⟨h1, h2⟩ := List.pairwise_cons.1 hs
  have ih := ih h2
  unfold restsL at ih ⊢
  rw [List.filterMap_cons]
  split
  · exact ih
  · rename_i y hy
    refine List.nodup_cons.2 ⟨?_, ih⟩
    intro hm
    obtain ⟨x, hx, hxe⟩ := List.mem_filterMap.1 hm
    split at hy
    · rename_i p1
      split at hxe
      · rename_i p2
        injection hy with hy
        injection hxe with hxe
        obtain ⟨s1, e1⟩ := List.isPrefixOf_iff_prefix.1 p1
        obtain ⟨s2, e2⟩ := List.isPrefixOf_iff_prefix.1 p2
        have k1 : b ++ y = a.1 := by rw [← hy, ← e1]; simp
        have k2 : b ++ y = x.1 := by rw [← hxe, ← e2]; simp
        have : a.1 = x.1 := k1.symm.trans k2
        exact cmpL_ne (h1 x hx) this
      · cases hxe
    · cases hy
theorem WFT.anc {room : Nat} {L : Tr} (h : WFT room L) (d : By) (m : Nat) : ∀ r : By, r.length ≤ m → (look L (d ++ 47 :: r)).isSome → kindP L d = 2 := by
 induction m with
 | zero =>
  intro r hr hl
  obtain rfl := List.length_eq_zero_iff.1 (Nat.le_zero.1 hr)
  have := h.par _ hl
  rwa [ahead_behind, if_neg (by simp)] at this
 | succ m ih =>
  intro r hr hl
  have hp := h.par _ hl
  rw [ahead_behind] at hp
  split at hp
  · rename_i hm
    refine ih (aheadL r) ?_ ?_
    · have h1 : 0 < r.length := List.length_pos_of_mem hm
      have h2 : (aheadL r).length ≤ r.length - 1 := by rw [aheadL, List.length_take]; omega
      omega
    · unfold kindP at hp
      rw [if_neg (by simp)] at hp
      cases hq : look L (d ++ 47 :: aheadL r) with
      | none => rw [hq] at hp; cases hp
      | some n => rfl
  · exact hp
theorem kindP_some {L : Tr} {p : By} (hp : p ≠ []) (h : kindP L p = 2) : (look L p).isSome := by
 unfold kindP at h
 rw [if_neg hp] at h
 cases hl : look L p with
 | none => rw [hl] at h; cases h
 | some n => rfl
theorem begin_cons {p : By} (hp : p ≠ []) (r : By) : beginL p ++ r = p ++ 47 :: r := by rw [beginL, if_neg hp]; simp
theorem WFT.inner {room : Nat} {L : Tr} (h : WFT room L) {a : By} (ha : a ≠ []) (r : By) : r ∈ innerL L a ↔ (look L (a ++ 47 :: r)).isSome := by
 unfold innerL
 split
 · rw [mem_rests, begin_cons ha]
 · rename_i hk
   exact ⟨fun h => (by cases h), fun hl => absurd (h.anc a _ r (Nat.le_refl _) hl) hk⟩
theorem WFT.inner_nodup {room : Nat} {L : Tr} (h : WFT room L) (a : By) : (innerL L a).Nodup := by
 unfold innerL; split
 · exact nodup_rests h.srt _
 · exact List.nodup_nil
theorem ahead_lt {p : By} (h : p ≠ []) : (aheadL p).length < p.length := by
 have := List.length_pos_iff.2 h
 rw [aheadL, List.length_take]; omega
theorem kindP_ins {L : Tr} {p q : By} {n : Nd} (h : q ≠ p) : kindP (ins p n L) q = kindP L q := by
 unfold kindP; rw [look_ins, if_neg h]
theorem wft_put {room : Nat} {L : Tr} (h : WFT room L) {p : By} {n : Nd} (hm : mayB p = true) (hh : kindP L (aheadL p) = 2) (hp : kindP L p ≠ 2) (hk : n.kind = 1 ∨ n.kind = 2 ∨ n.kind = 3) (hu : usedL (ins p n L) ≤ room) : WFT room (ins p n L) where
 srt := srt_ins h.srt _ _
 may q hq := by
  rw [look_ins] at hq
  split at hq
  · rename_i e; rw [e]; exact hm
  · exact h.may q hq
 kind q m hq := by
  rw [look_ins] at hq
  split at hq
  · injection hq with hq; rw [← hq]; exact hk
  · exact h.kind q m hq
 par q hq := by
  have hlt := ahead_lt (may_ne hm)
  rw [look_ins] at hq
  split at hq
  · rename_i e; subst e
    rw [kindP_ins (fun k => by rw [k] at hlt; omega)]; exact hh
  · have h2 := h.par q hq
    rw [kindP_ins (fun k => hp (by rw [← k]; exact h2))]; exact h2
 used := hu
theorem put_wft {room : Nat} {L : Tr} (h : WFT room L) {p : By} {n : Nd} (hm : mayB p = true) (hh : kindP L (aheadL p) = 2) (hp : kindP L p ≠ 2) (hk : n.kind = 1 ∨ n.kind = 2 ∨ n.kind = 3) : WFT room (putE room L p n).2 := by
 unfold putE
 split
 · rename_i hc
   have := used_ins h.srt p n
   exact wft_put h hm hh hp hk (by omega)
 · exact h
theorem home_dir {L : Tr} {p : By} (h : homeE L p = 0) : kindP L (aheadL p) = 2 := by
 unfold homeE noDirE at h
 split at h
 · assumption
 · split at h <;> cases h
theorem add_wft {room : Nat} {L : Tr} (h : WFT room L) {p : By} {n : Nd} (hm : mayB p = true) (hk : n.kind = 1 ∨ n.kind = 2 ∨ n.kind = 3) : WFT room (addE room L p n).2 := by
 unfold addE
 split
 · rename_i hh
   split
   · exact h
   · rename_i hl
     refine put_wft h hm (home_dir hh) (fun k => ?_) hk
     exact hl (kindP_some (may_ne hm) k)
 · exact h
theorem taken_not {L : Tr} {p : By} (hm : mayB p = true) (h : takenE L p = 0) : kindP L p ≠ 2 := by
 unfold kindP
 unfold takenE at h
 rw [if_neg (may_ne hm)]
 cases hl : look L p with
 | none => simp
 | some n =>
  rw [hl] at h
  simp only at h ⊢
  intro hk
  rw [if_pos hk] at h; cases h
theorem wft_del {room : Nat} {L : Tr} (h : WFT room L) {p : By} (hi : innerL L p = []) (hp : p ≠ []) : WFT room (del L p) where
 srt := srt_del h.srt _
 may q hq := by
  rw [look_del] at hq
  split at hq
  · cases hq
  · exact h.may q hq
 kind q m hq := by
  rw [look_del] at hq
  split at hq
  · cases hq
  · exact h.kind q m hq
 par q hq := by
  rw [look_del] at hq
  split at hq
  · cases hq
  · have h2 := h.par q hq
    have hne : aheadL q ≠ p := by
     intro e
     rcases may_split (h.may q hq) with ⟨k, _⟩ | ⟨_, k, _⟩
     · exact hp (e.symm.trans k)
     · rw [e] at k
       have : lastP q ∈ innerL L p := (h.inner hp _).2 (by rw [← k]; exact hq)
       rw [hi] at this; cases this
    unfold kindP at h2 ⊢
    rw [look_del, if_neg hne]; exact h2
 used := by have := used_del h.srt p; have := h.used; omega
theorem look_mv1 {T : Tr} {a b : By} (_ : a ≠ b) (q : By) : look (mv1 T a b) q = if q = a then none else if q = b then some ((look T a).getD n0) else look T q := by
 unfold mv1
 rw [look_del, look_ins]
theorem behind_eq {a b r s : By} (h : a ++ 47 :: r = b ++ 47 :: s) : a = b ∨ (∃ x, b = a ++ 47 :: x) ∨ ∃ x, a = b ++ 47 :: x := by
 rcases List.append_eq_append_iff.1 h with ⟨x, h1, h2⟩ | ⟨x, h1, h2⟩
 · cases x with
   | nil => exact .inl (by simpa using h1.symm)
   | cons c x => simp at h2; exact .inr (.inl ⟨x, by rw [h1, ← h2.1]⟩)
 · cases x with
   | nil => exact .inl (by simpa using h1)
   | cons c x => simp at h2; exact .inr (.inr ⟨x, by rw [h1, ← h2.1]⟩)
structure Apart (a b : By) : Prop where
 ne : a ≠ b
 l : ∀ x, b ≠ a ++ 47 :: x
 r : ∀ x, a ≠ b ++ 47 :: x
theorem Apart.behind {a b : By} (h : Apart a b) (r s : By) : a ++ 47 :: r ≠ b ++ 47 :: s := fun e => by
 rcases behind_eq e with k | ⟨x, k⟩ | ⟨x, k⟩
 · exact h.ne k
 · exact h.l x k
 · exact h.r x k
open Classical in
theorem look_mvs {a b : By} (h : Apart a b) (rs : List By) : ∀ T : Tr, rs.Nodup → ∀ q, look (mvs a b T rs) q =
 if ∃ r ∈ rs, q = b ++ 47 :: r then some ((look T (a ++ 47 :: q.drop (b.length + 1))).getD n0) else if ∃ r ∈ rs, q = a ++ 47 :: r then none else look T q := by
 induction rs with
 | nil => intro T _ q; simp [mvs]
 | cons r rs ih =>
  intro T hn q
  obtain ⟨h1, h2⟩ := List.nodup_cons.1 hn
  show look (mvs a b (mv1 T (a ++ 47 :: r) (b ++ 47 :: r)) rs) q = _
  rw [ih _ h2 q]
  have hd : ∀ x : By, (b ++ 47 :: x).drop (b.length + 1) = x := fun x => by
   rw [show b ++ 47 :: x = (b ++ [47]) ++ x by simp, List.drop_left' (by simp)]
  by_cases c1 : ∃ s ∈ rs, q = b ++ 47 :: s
  · obtain ⟨s, hs, e⟩ := c1
    rw [if_pos ⟨s, hs, e⟩, if_pos ⟨s, List.mem_cons_of_mem _ hs, e⟩, e, hd, look_mv1 (h.behind r r), if_neg, if_neg (h.behind s r)]
    intro k
    have := List.append_cancel_left k
    injection this with _ k2
    exact h1 (k2 ▸ hs)
  · rw [if_neg c1]
    by_cases c2 : q = b ++ 47 :: r
    · rw [if_pos (⟨r, List.mem_cons_self, c2⟩ : ∃ s ∈ r :: rs, q = b ++ 47 :: s), if_neg (fun ⟨s, _, k⟩ => h.behind s r (k.symm.trans c2)), look_mv1 (h.behind r r), if_neg (fun k => h.behind r r (k.symm.trans c2)), if_pos c2, c2, hd]
    · rw [if_neg (fun ⟨s, hs, k⟩ => by rcases List.mem_cons.1 hs with e | e; exact c2 (by rw [k, e]); exact c1 ⟨s, e, k⟩ : ¬ ∃ s ∈ r :: rs, q = b ++ 47 :: s)]
      by_cases c3 : ∃ s ∈ rs, q = a ++ 47 :: s
      · obtain ⟨s, hs, e⟩ := c3
        rw [if_pos ⟨s, hs, e⟩, if_pos ⟨s, List.mem_cons_of_mem _ hs, e⟩]
      · rw [if_neg c3, look_mv1 (h.behind r r)]
        by_cases c4 : q = a ++ 47 :: r
        · rw [if_pos c4, if_pos ⟨r, List.mem_cons_self, c4⟩]
        · rw [if_neg c4, if_neg c2, if_neg (fun ⟨s, hs, k⟩ => by rcases List.mem_cons.1 hs with e | e; exact c4 (by rw [k, e]); exact c3 ⟨s, e, k⟩)]
theorem srt_mv1 {T : Tr} (h : Srt T) (a b : By) : Srt (mv1 T a b) := srt_del (srt_ins h _ _) _
theorem srt_mvs {a b : By} (rs : List By) : ∀ T : Tr, Srt T → Srt (mvs a b T rs) := by
 induction rs with
 | nil => intro T h; exact h
 | cons r rs ih => intro T h; exact ih _ (srt_mv1 h _ _)
theorem used_mv1 {T : Tr} (h : Srt T) {a b : By} (hab : a ≠ b) {n : Nd} (ha : look T a = some n) (hb : look T b = none) : usedL (mv1 T a b) = usedL T := by
 unfold mv1
 rw [ha, Option.getD_some]
 have h1 := used_ins h b n
 have h2 := used_del (srt_ins h b n) a
 have h3 : useP (ins b n T) a = useN n := by rw [useP, look_ins, if_neg hab, ha]
 have h4 : useP T b = 0 := by rw [useP, hb]
 omega
theorem used_mvs {a b : By} (h : Apart a b) (rs : List By) : ∀ T : Tr, Srt T → rs.Nodup → (∀ r ∈ rs, (look T (a ++ 47 :: r)).isSome) → (∀ r ∈ rs, look T (b ++ 47 :: r) = none) → usedL (mvs a b T rs) = usedL T := by
 induction rs with
 | nil => intro T _ _ _ _; rfl
 | cons r rs ih =>
  intro T hs hn h1 h2
  obtain ⟨k1, k2⟩ := List.nodup_cons.1 hn
  obtain ⟨n, hn'⟩ := Option.isSome_iff_exists.1 (h1 r List.mem_cons_self)
  show usedL (mvs a b (mv1 T (a ++ 47 :: r) (b ++ 47 :: r)) rs) = _
  have hne : ∀ x y s : By, s ∈ rs → x ++ 47 :: s ≠ x ++ 47 :: r := fun x y s hs e => by
   have := List.append_cancel_left e
   injection this with _ k
   exact k1 (k ▸ hs)
  rw [ih _ (srt_mv1 hs _ _) k2, used_mv1 hs (h.behind r r) hn' (h2 r List.mem_cons_self)]
  · intro s hs'
    rw [look_mv1 (h.behind r r), if_neg (hne a a s hs'), if_neg (h.behind s r)]
    exact h1 s (List.mem_cons_of_mem _ hs')
  · intro s hs'
    rw [look_mv1 (h.behind r r), if_neg (fun e => h.behind r s e.symm), if_neg (hne b b s hs')]
    exact h2 s (List.mem_cons_of_mem _ hs')
structure Moves (room : Nat) (L : Tr) (a b : By) : Prop where
 wft : WFT room L
 ma : mayB a = true
 mb : mayB b = true
 ne : b ≠ a
 out : withinB b a = false
 src : (look L a).isSome
 home : homeE L b = 0
 nd : kindP L b ≠ 2
 nr : ¬ (kindP L a = 2 ∧ (look L b).isSome)
theorem Moves.apart {room : Nat} {L : Tr} {a b : By} (h : Moves room L a b) : Apart a b where
 ne := h.ne.symm
 l x e := by
  have := withinB_mk h.mb h.ma ⟨x, e⟩
  rw [h.out] at this; cases this
 r x e := h.nd (h.wft.anc b _ x (Nat.le_refl _) (by rw [← e]; exact h.src))
theorem Moves.empty {room : Nat} {L : Tr} {a b : By} (h : Moves room L a b) (r : By) : look L (b ++ 47 :: r) = none := by
 cases hl : look L (b ++ 47 :: r) with
 | none => rfl
 | some n => exact absurd (h.wft.anc b _ r (Nat.le_refl _) (by rw [hl]; rfl)) h.nd
open Classical in
theorem Moves.look {room : Nat} {L : Tr} {a b : By} (h : Moves room L a b) {rs : List By} (hr : rs.Perm (innerL L a)) (q : By) :
 look (mvAll L a b rs) q = if q = b then look L a else if ∃ r, q = b ++ 47 :: r ∧ (look L (a ++ 47 :: r)).isSome then look L (a ++ 47 :: q.drop (b.length + 1)) else if q = a ∨ ∃ r, q = a ++ 47 :: r then none else look L q := by
 have hA := h.apart
 have hm : ∀ r, r ∈ rs ↔ (Go.Proofs.YtabidnlbgdecbaaGreatDoor.look L (a ++ 47 :: r)).isSome := fun r => by rw [hr.mem_iff, h.wft.inner (may_ne h.ma)]
 have hd : ∀ x : By, (b ++ 47 :: x).drop (b.length + 1) = x := fun x => by
  rw [show b ++ 47 :: x = (b ++ [47]) ++ x by simp, List.drop_left' (by simp)]
 have hT : ∀ q, Go.Proofs.YtabidnlbgdecbaaGreatDoor.look (mv1 (del L b) a b) q = if q = a then none else if q = b then some ((Go.Proofs.YtabidnlbgdecbaaGreatDoor.look L a).getD n0) else Go.Proofs.YtabidnlbgdecbaaGreatDoor.look L q := by
  intro q
  rw [look_mv1 hA.ne, look_del, if_neg hA.ne, look_del]
  split
  · rfl
  · split
    · rfl
    · rfl
 have hqb : ∀ x, b ++ 47 :: x ≠ b := fun x e => by have := congrArg List.length e; simp at this
 unfold mvAll
 rw [look_mvs hA rs _ (hr.nodup_iff.2 (h.wft.inner_nodup a))]
 obtain ⟨n, hn⟩ := Option.isSome_iff_exists.1 h.src
 by_cases c0 : q = b
 · rw [if_neg (fun ⟨r, _, k⟩ => hqb r (k.symm.trans c0)), if_neg (fun ⟨r, _, k⟩ => hA.l r (c0.symm.trans k)), hT, if_neg (fun k => hA.ne (k.symm.trans c0)), if_pos c0, if_pos c0, hn]; rfl
 · rw [if_neg c0]
   by_cases c1 : ∃ r, q = b ++ 47 :: r ∧ (Go.Proofs.YtabidnlbgdecbaaGreatDoor.look L (a ++ 47 :: r)).isSome
   · obtain ⟨r, e, hl⟩ := c1
     rw [if_pos ⟨r, (hm r).2 hl, e⟩, if_pos ⟨r, e, hl⟩, e, hd, hT, if_neg (fun k => by have := congrArg List.length k; simp at this), if_neg (fun k => hA.l r k.symm)]
     obtain ⟨m, hm'⟩ := Option.isSome_iff_exists.1 hl
     rw [hm']; rfl
   · rw [if_neg (fun ⟨r, hr', k⟩ => c1 ⟨r, k, (hm r).1 hr'⟩), if_neg c1]
     by_cases c2 : q = a ∨ ∃ r, q = a ++ 47 :: r
     · rw [if_pos c2]
       split
       · rfl
       · rename_i c3
         rw [hT]
         rcases c2 with k | ⟨r, k⟩
         · rw [if_pos k]
         · rw [if_neg (fun e => by rw [e] at k; have := congrArg List.length k; simp at this), if_neg c0]
           cases hl : Go.Proofs.YtabidnlbgdecbaaGreatDoor.look L q with
           | none => rfl
           | some m => exact absurd ⟨r, (hm r).2 (by rw [← k, hl]; rfl), k⟩ c3
     · rw [if_neg c2, if_neg (fun ⟨r, _, k⟩ => c2 (.inr ⟨r, k⟩)), hT, if_neg (fun k => c2 (.inl k)), if_neg c0]
theorem Moves.srt {room : Nat} {L : Tr} {a b : By} (h : Moves room L a b) (rs : List By) : Srt (mvAll L a b rs) := srt_mvs _ _ (srt_mv1 (srt_del h.wft.srt _) _ _)
theorem Moves.used {room : Nat} {L : Tr} {a b : By} (h : Moves room L a b) {rs : List By} (hr : rs.Perm (innerL L a)) : usedL (mvAll L a b rs) + useP L b = usedL L := by
 have hA := h.apart
 have hm : ∀ r, r ∈ rs ↔ (Go.Proofs.YtabidnlbgdecbaaGreatDoor.look L (a ++ 47 :: r)).isSome := fun r => by rw [hr.mem_iff, h.wft.inner (may_ne h.ma)]
 obtain ⟨n, hn⟩ := Option.isSome_iff_exists.1 h.src
 have h0 := used_del h.wft.srt b
 have h1 : usedL (mv1 (del L b) a b) = usedL (del L b) := used_mv1 (srt_del h.wft.srt _) hA.ne (n := n) (by rw [look_del, if_neg hA.ne, hn]) (by rw [look_del, if_pos rfl])
 have hT : ∀ r, Go.Proofs.YtabidnlbgdecbaaGreatDoor.look (mv1 (del L b) a b) (a ++ 47 :: r) = Go.Proofs.YtabidnlbgdecbaaGreatDoor.look L (a ++ 47 :: r) := fun r => by
  rw [look_mv1 hA.ne, if_neg (fun k => by have := congrArg List.length k; simp at this), if_neg (fun k => hA.l r k.symm), look_del, if_neg (fun k => hA.l r k.symm)]
 have hT2 : ∀ r, Go.Proofs.YtabidnlbgdecbaaGreatDoor.look (mv1 (del L b) a b) (b ++ 47 :: r) = none := fun r => by
  rw [look_mv1 hA.ne, if_neg (fun k => hA.r r k.symm), if_neg (fun k => by have := congrArg List.length k; simp at this), look_del, if_neg (fun k => by have := congrArg List.length k; simp at this), h.empty]
 have h2 := used_mvs hA rs (mv1 (del L b) a b) (srt_mv1 (srt_del h.wft.srt _) _ _) (hr.nodup_iff.2 (h.wft.inner_nodup a)) (fun r hr' => by rw [hT]; exact (hm r).1 hr') (fun r _ => hT2 r)
 unfold mvAll
 omega
theorem kindP_look {L K : Tr} {p q : By} (hp : p ≠ []) (hq : q ≠ []) (h : look L p = look K q) : kindP L p = kindP K q := by
 unfold kindP; rw [if_neg hp, if_neg hq, h]
theorem Moves.stays {room : Nat} {L : Tr} {a b : By} (h : Moves room L a b) (hf : farB b (innerL L a) = true) : WFT room (mvAll L a b (innerL L a)) := by
 have hA := h.apart
 have hL := h.look (List.Perm.refl _)
 have hfar : ∀ r, (Go.Proofs.YtabidnlbgdecbaaGreatDoor.look L (a ++ 47 :: r)).isSome → mayB (b ++ 47 :: r) = true := fun r hr => List.all_eq_true.1 hf r ((h.wft.inner (may_ne h.ma) r).2 hr)
 have hd : ∀ x : By, (b ++ 47 :: x).drop (b.length + 1) = x := fun x => by
  rw [show b ++ 47 :: x = (b ++ [47]) ++ x by simp, List.drop_left' (by simp)]
 have hnb : ∀ x : By, b ++ 47 :: x ≠ b := fun x e => by have := congrArg List.length e; simp at this
 -- what stands behind, told by cases
 have hcase : ∀ q n, Go.Proofs.YtabidnlbgdecbaaGreatDoor.look (mvAll L a b (innerL L a)) q = some n → (q = b ∧ Go.Proofs.YtabidnlbgdecbaaGreatDoor.look L a = some n) ∨ (∃ r, q = b ++ 47 :: r ∧ Go.Proofs.YtabidnlbgdecbaaGreatDoor.look L (a ++ 47 :: r) = some n) ∨ (q ≠ b ∧ q ≠ a ∧ (∀ r, q ≠ a ++ 47 :: r) ∧ (∀ r, q ≠ b ++ 47 :: r) ∧ Go.Proofs.YtabidnlbgdecbaaGreatDoor.look L q = some n) := by
  intro q n hq
  rw [hL] at hq
  split at hq
  · exact .inl ⟨‹_›, hq⟩
  · split at hq
    · rename_i c
      obtain ⟨r, e, hl⟩ := c
      rw [e, hd] at hq
      exact .inr (.inl ⟨r, e, hq⟩)
    · split at hq
      · cases hq
      · rename_i c0 c1 c2
        refine .inr (.inr ⟨c0, fun k => c2 (.inl k), fun r k => c2 (.inr ⟨r, k⟩), fun r k => ?_, hq⟩)
        rw [k, h.empty] at hq; cases hq
 have hB : ∀ q, q ≠ b → q ≠ a → (∀ r, q ≠ a ++ 47 :: r) → (∀ r, q ≠ b ++ 47 :: r) → Go.Proofs.YtabidnlbgdecbaaGreatDoor.look (mvAll L a b (innerL L a)) q = Go.Proofs.YtabidnlbgdecbaaGreatDoor.look L q := by
  intro q h1 h2 h3 h4
  rw [hL, if_neg h1, if_neg (fun ⟨r, k, _⟩ => h4 r k), if_neg (fun k => by rcases k with k | ⟨r, k⟩; exact h2 k; exact h3 r k)]
 have hBr : ∀ r, (Go.Proofs.YtabidnlbgdecbaaGreatDoor.look L (a ++ 47 :: r)).isSome → Go.Proofs.YtabidnlbgdecbaaGreatDoor.look (mvAll L a b (innerL L a)) (b ++ 47 :: r) = Go.Proofs.YtabidnlbgdecbaaGreatDoor.look L (a ++ 47 :: r) := by
  intro r hr
  rw [hL, if_neg (hnb r), if_pos ⟨r, rfl, hr⟩, hd]
 have hB0 : Go.Proofs.YtabidnlbgdecbaaGreatDoor.look (mvAll L a b (innerL L a)) b = Go.Proofs.YtabidnlbgdecbaaGreatDoor.look L a := by rw [hL, if_pos rfl]
 -- a directory that is none of those that moved
 have hdir : ∀ d, kindP L d = 2 → d ≠ a → (∀ r, d ≠ a ++ 47 :: r) → kindP (mvAll L a b (innerL L a)) d = 2 := by
  intro d hk h1 h2
  by_cases h0 : d = []
  · rw [h0]; rfl
  · rw [kindP_look h0 h0 (hB d (fun e => h.nd (e ▸ hk)) h1 h2 (fun r e => by have := kindP_some h0 hk; rw [e, h.empty] at this; cases this))]; exact hk
 refine ⟨h.srt _, ?_, ?_, ?_, ?_⟩
 · intro q hq
   obtain ⟨n, hq⟩ := Option.isSome_iff_exists.1 hq
   rcases hcase q n hq with ⟨e, _⟩ | ⟨r, e, hl⟩ | ⟨_, _, _, _, hl⟩
   · rw [e]; exact h.mb
   · rw [e]; exact hfar r (by rw [hl]; rfl)
   · exact h.wft.may q (by rw [hl]; rfl)
 · intro q n hq
   rcases hcase q n hq with ⟨_, hl⟩ | ⟨r, _, hl⟩ | ⟨_, _, _, _, hl⟩ <;> exact h.wft.kind _ n hl
 · intro q hq
   obtain ⟨n, hq⟩ := Option.isSome_iff_exists.1 hq
   rcases hcase q n hq with ⟨e, _⟩ | ⟨r, e, hl⟩ | ⟨h1, h2, h3, h4, hl⟩
   · subst e
     refine hdir _ (home_dir h.home) ?_ ?_
     · intro k
       rcases may_split h.mb with ⟨k2, _⟩ | ⟨_, k2, _⟩
       · exact may_ne h.ma (k.symm.trans k2)
       · rw [k] at k2; exact hA.l _ k2
     · intro r k
       rcases may_split h.mb with ⟨k2, _⟩ | ⟨_, k2, _⟩
       · rw [k2] at k; have := congrArg List.length k; simp at this
       · rw [k] at k2; exact hA.l (r ++ 47 :: lastP q) (k2.trans (by simp))
   · subst e
     have hp := h.wft.par _ (show (Go.Proofs.YtabidnlbgdecbaaGreatDoor.look L (a ++ 47 :: r)).isSome by rw [hl]; rfl)
     rw [ahead_behind] at hp ⊢
     split at hp
     · rename_i hm
       rw [if_pos hm]
       have hs := kindP_some (by simp) hp
       rw [kindP_look (by simp) (by simp) (hBr _ hs)]; exact hp
     · rename_i hm
       rw [if_neg hm, kindP_look (may_ne h.mb) (may_ne h.ma) hB0]; exact hp
   · have hp := h.wft.par q (by rw [hl]; rfl)
     have hs := h.wft.may q (by rw [hl]; rfl)
     refine hdir _ hp ?_ ?_
     · intro k
       rcases may_split hs with ⟨k2, _⟩ | ⟨_, k2, _⟩
       · exact may_ne h.ma (k.symm.trans k2)
       · rw [k] at k2; exact h3 _ k2
     · intro r k
       rcases may_split hs with ⟨k2, _⟩ | ⟨_, k2, _⟩
       · rw [k2] at k; have := congrArg List.length k; simp at this
       · rw [k] at k2; exact h3 (r ++ 47 :: lastP q) (k2.trans (by simp))
 · have := h.used (List.Perm.refl _); have := h.wft.used; omega
theorem step_wft {room : Nat} {L : Tr} (h : WFT room L) (x : Eff) : WFT room (stepE room L x).2 := by
 cases x with
 | write p d t =>
  simp only [stepE]
  split
  · rename_i hm
    split
    · split
      · rename_i hh
        split
        · exact put_wft h hm (home_dir hh) (taken_not hm ‹_›) (.inl rfl)
        · exact h
      · exact h
    · exact h
  · exact h
 | append p d =>
  simp only [stepE]
  split
  · rename_i hm
    split
    · rename_i n hl
      split
      · have hp := h.par p (by rw [hl]; rfl)
        exact put_wft h hm hp (taken_not hm ‹_›) (h.kind p n hl)
      · exact h
    · exact h
  · exact h
 | mkdir p =>
  simp only [stepE]
  split
  · exact add_wft h ‹_› (.inr (.inl rfl))
  · exact h
 | link p g t =>
  simp only [stepE]
  split
  · rename_i hm
    split
    · exact add_wft h hm (.inr (.inr rfl))
    · exact h
  · exact h
 | rename a b =>
  simp only [stepE]
  split
  · rename_i hm
    simp only [Bool.and_eq_true] at hm
    split
    · exact h
    · rename_i hw
      split
      · rename_i hs
        split
        · rename_i hh
          split
          · exact h
          · rename_i hk
            split
            · exact Moves.stays ⟨h, hm.1, hm.2, fun e => hw (.inl e), by simpa using fun e => hw (.inr e), hs, hh, fun e => hk (.inl e), fun e => hk (.inr e)⟩ ‹_›
            · exact h
        · exact h
      · exact h
  · exact h
 | remove p =>
  simp only [stepE]
  split
  · rename_i hm
    split
    · split
      · exact wft_del h ‹_› (may_ne hm)
      · exact h
    · exact h
  · exact h
end Go.Proofs.YtabidnlbgdecbaaGreatDoor
namespace Go.Proofs.YtabidnlbgdecbaaGreatDoor
def cutE : Eff → Nat → Eff
 | .write p d t, n => .write p (d.take n) t
 | .append p d, n => .append p (d.take n)
 | x, _ => x
def dataE : Eff → Nat
 | .write _ d _ => d.length
 | .append _ d => d.length
 | _ => 0
theorem cutE_all (x : Eff) (n : Nat) (h : dataE x ≤ n) : cutE x n = x := by
 cases x <;> simp only [cutE, dataE] at * <;> rw [List.take_of_length_le h]
structure Mo where
 now : Tr
 last : Tr
 since : List Eff
 fuse : Int
 room : Nat
def burnF (f : Int) : Int := if 0 < f then f - 1 else f
def doM (M : Mo) (x : Eff) : Int × Mo :=
 if M.fuse = 0 then (20, M) else if (stepE M.room M.now x).1 = 0 then (0, ⟨(stepE M.room M.now x).2, M.last, M.since ++ [x], burnF M.fuse, M.room⟩) else ((stepE M.room M.now x).1, M)
def newM (room : Nat) : Mo := ⟨[], [], [], -1, room⟩
def replay (room : Nat) (L : Tr) (xs : List Eff) : Tr := xs.foldl (fun T x => (stepE room T x).2) L
structure Good (M : Mo) : Prop where
 w1 : WFT M.room M.now
 w2 : WFT M.room M.last
 re : replay M.room M.last M.since = M.now
 f0 : -1 ≤ M.fuse
 f1 : M.fuse ≤ 9223372036854775807
theorem step_err {room : Nat} {L : Tr} (x : Eff) (h : (stepE room L x).1 ≠ 0) : (stepE room L x).2 = L := by
 cases x <;> simp only [stepE, addE, putE] at * <;> (repeat' split) <;> simp_all
theorem Good.new (room : Nat) : Good (newM room) := ⟨WFT.nil _, WFT.nil _, rfl, (by show (-1 : Int) ≤ -1; omega), (by show (-1 : Int) ≤ _; omega)⟩
theorem burn_le {f : Int} (h0 : -1 ≤ f) (h1 : f ≤ 9223372036854775807) : -1 ≤ burnF f ∧ burnF f ≤ 9223372036854775807 := by unfold burnF; split <;> omega
theorem Good.do {M : Mo} (h : Good M) (x : Eff) : Good (doM M x).2 := by
 unfold doM
 split
 · exact h
 · split
   · have hb := burn_le h.f0 h.f1
     exact ⟨step_wft h.w1 x, h.w2, by show replay _ _ (_ ++ [x]) = _; unfold replay; rw [List.foldl_append]; show (stepE _ (replay _ _ _) x).2 = _; rw [h.re], hb.1, hb.2⟩
   · exact h
end Go.Proofs.YtabidnlbgdecbaaGreatDoor
namespace Go.Proofs.YtabidnlbgdecbaaGreatDoor
open Go.RowKit Go.Maps Go.MapKept Go.WideElems
open Go.ChangeMaps (setBlock heap_setBlock_same heap_setBlock_other)
abbrev kS (s : By) : Value := .string (ba s)
theorem ba_inj {a b : By} (h : ba a = ba b) : a = b := by
 have := congrArg tl h
 simpa [tl_ba] using this
def nodeV (n : Nd) : Value := .agg #[.int .i64 n.kind, kS n.data, kS n.target, .int .i64 n.time]
def Rv (v : Value) : Option (DataW Value × List MemPlace) := some (.held v, [])
theorem str_keyed : Keyed Tryz.prog 9 := string_keyed Tryz.underlying9
theorem str_law : WideMaps.KeyLaw Tryz.prog 9 := WideMaps.string_law Tryz.underlying9
theorem str_key (s : By) (hs : s.length ≤ maxLen) : keyOf Tryz.prog 9 (kS s) = some (.string s) := by
 rw [keyOf_string Tryz.underlying9]
 simp [mapKey, Tryz.underlying9, ba_size, hs]
 rfl
theorem node_zero (w : World) : (zeroValue 44).run Tryz.prog w = .ok (nodeV n0) w := by kernel_rfl
structure ObjT (es : Array MapEntry) (clock : Nat) (L : Tr) : Prop where
 fit : Fit Tryz.prog 9 Rv es clock
 size : es.size = L.length
 reads : ∀ p : By, p.length ≤ maxLen → has (DataW.map ((es.toList.map (rg Tryz.prog 9 Rv)).foldr DataW.insert [])) (.string p) = (look L p).isSome ∧ (DataW.map ((es.toList.map (rg Tryz.prog 9 Rv)).foldr DataW.insert [])).atKey (.string p) (.held (nodeV n0)) = .held (nodeV ((look L p).getD n0))
def MapT (w : World) (b : Nat) (L : Tr) : Prop := ∃ es clock, w.heap[b]? = some (.map es clock) ∧ ObjT es clock L
theorem MapT.kept {w w' : World} {b : Nat} {L : Tr} (h : MapT w b L) (he : w'.heap[b]? = w.heap[b]?) : MapT w' b L := by
 obtain ⟨es, clock, h1, h2⟩ := h; exact ⟨es, clock, he.trans h1, h2⟩
theorem MapT.inside {w : World} {b : Nat} {L : Tr} (h : MapT w b L) : b < w.heap.size := by
 obtain ⟨es, clock, h1, _⟩ := h; exact (Array.getElem?_eq_some_iff.1 h1).1
theorem MapT.own {w : World} {b : Nat} {L : Tr} (h : MapT w b L) : ∃ D, w.ownsMap Tryz.prog 9 Rv b L.length D ∧ size D = L.length ∧ ∀ p : By, p.length ≤ maxLen → has D (.string p) = (look L p).isSome ∧ D.atKey (.string p) (.held (nodeV n0)) = .held (nodeV ((look L p).getD n0)) := by
 obtain ⟨es, clock, h1, h2⟩ := h
 exact ⟨_, ⟨es, clock, h1, h2.fit, by rw [h2.size]; exact Nat.le_refl _, rfl⟩, by simp [size, length_sorted, h2.size], h2.reads⟩
theorem MapT.of_own {w : World} {b n : Nat} {L : Tr} {D : DataW Value} (h : w.ownsMap Tryz.prog 9 Rv b n D) (hs : size D = L.length) (hr : ∀ p : By, p.length ≤ maxLen → has D (.string p) = (look L p).isSome ∧ D.atKey (.string p) (.held (nodeV n0)) = .held (nodeV ((look L p).getD n0))) : MapT w b L := by
 obtain ⟨es, clock, h1, h2, _, rfl⟩ := h
 refine ⟨es, clock, h1, h2, ?_, hr⟩
 have e : size (DataW.map ((es.toList.map (rg Tryz.prog 9 Rv)).foldr DataW.insert [])) = es.size := by simp [size, length_sorted]
 omega
theorem MapT.made (w : World) : MapT (w.alloc (.map #[] 0)) w.heap.size [] :=
 .of_own (World.ownsMap_made w _ 9 Rv) rfl (fun _ _ => ⟨rfl, rfl⟩)
section
variable {w : World} {b : Nat} {L : Tr}
theorem MapT.look (h : MapT w b L) {p : By} (hp : p.length ≤ maxLen) : (Instr.lookup 83 (.map (some b)) (kS p) false).run Tryz.prog w = .ok (nodeV ((look L p).getD n0)) w := by
 obtain ⟨D, h1, _, h3⟩ := h.own
 obtain ⟨v, ps, hr, hv⟩ := h1.lookup str_keyed Tryz.underlying83 (node_zero w) (zd := .held (nodeV n0)) (zp := []) rfl (str_key p hp)
 rw [(h3 p hp).2] at hv
 simp only [Rv, Option.some.injEq, Prod.mk.injEq, DataW.held.injEq] at hv
 rw [hr, hv.1]
theorem MapT.lookOk (h : MapT w b L) {p : By} (hp : p.length ≤ maxLen) : (Instr.lookup 83 (.map (some b)) (kS p) true).run Tryz.prog w = .ok (.tuple #[nodeV ((Go.Proofs.YtabidnlbgdecbaaGreatDoor.look L p).getD n0), .bool (Go.Proofs.YtabidnlbgdecbaaGreatDoor.look L p).isSome]) w := by
 obtain ⟨D, h1, _, h3⟩ := h.own
 obtain ⟨v, ps, hr, hv⟩ := h1.look_ok str_keyed Tryz.underlying83 (node_zero w) (zd := .held (nodeV n0)) (zp := []) rfl (str_key p hp)
 rw [(h3 p hp).2] at hv
 simp only [Rv, Option.some.injEq, Prod.mk.injEq, DataW.held.injEq] at hv
 rw [hr, hv.1, (h3 p hp).1]
theorem put_reads {L : Tr} (hs : Srt L) {D D' : DataW Value} {p : By} {n : Nd} (hD : D' = D.put (.string p) (.held (nodeV n))) (hm : IsMap D) (ht : Tidy D) (h2 : size D = L.length) (hp : p.length ≤ maxLen)
 (h3 : ∀ p : By, p.length ≤ maxLen → has D (.string p) = (Go.Proofs.YtabidnlbgdecbaaGreatDoor.look L p).isSome ∧ D.atKey (.string p) (.held (nodeV n0)) = .held (nodeV ((Go.Proofs.YtabidnlbgdecbaaGreatDoor.look L p).getD n0))) :
 size D' = (ins p n L).length ∧ ∀ q : By, q.length ≤ maxLen → has D' (.string q) = (Go.Proofs.YtabidnlbgdecbaaGreatDoor.look (ins p n L) q).isSome ∧ D'.atKey (.string q) (.held (nodeV n0)) = .held (nodeV ((Go.Proofs.YtabidnlbgdecbaaGreatDoor.look (ins p n L) q).getD n0)) := by
 subst hD
 have hK : WideAt.IsKeyLit (.string p) := trivial
 refine ⟨?_, ?_⟩
 · rw [size_put ht, (h3 p hp).1, h2, len_ins hs]
 · intro q hq
   rw [look_ins]
   by_cases e : q = p
   · subst e
     rw [if_pos rfl]
     exact ⟨has_put_same hm hK _, atKey_put_same hm hK _ _⟩
   · rw [if_neg e]
     have hne : Lit.string q ≠ Lit.string p := fun k => e (by injection k)
     rw [has_put_other hne, atKey_put_other hne]
     exact h3 q hq
theorem MapT.store (h : MapT w b L) (hs : Srt L) (hc : L.length < 1000000000) {p : By} (hp : p.length ≤ maxLen) (n : Nd) :
 ∃ w', (Instr.mapUpdate 83 (.map (some b)) (kS p) (nodeV n)).run Tryz.prog w = .ok () w' ∧ MapT w' b (ins p n L) ∧ w.grownBy w' (some b) := by
 obtain ⟨D, h1, h2, h3⟩ := h.own
 obtain ⟨w', hr, ho, hg⟩ := h1.update str_keyed Tryz.underlying83 (by unfold maxLen; omega) (d := .held (nodeV n)) (ps := []) (str_key p hp) rfl
 obtain ⟨a1, a2⟩ := put_reads hs rfl h1.isMap (h1.tidy str_keyed) h2 hp h3
 exact ⟨w', hr, .of_own ho a1 a2, hg⟩
theorem MapT.entry (h : MapT w b L) (hs : Srt L) (hc : L.length < 1000000000) {p : By} (hp : p.length ≤ maxLen) (n : Nd) :
 ∃ v0 st w1, (Instr.mapEntry 83 (.map (some b)) (kS p)).run Tryz.prog w = .ok (.tuple #[v0, goInt st]) w1 ∧ w.grownBy w1 (some b) ∧
  ∀ w2 : World, w2.heap[b]? = w1.heap[b]? → ∃ w3, (Instr.entryStore 83 (.map (some b)) (goInt st) (nodeV n)).run Tryz.prog w2 = .ok () w3 ∧ MapT w3 b (ins p n L) ∧ w2.grownBy w3 (some b) := by
 obtain ⟨w', hr, hm, _⟩ := h.store hs hc hp n
 obtain ⟨es, clock, hb, hO⟩ := h
 obtain ⟨v0, st, es1, clock1, h1, _, h2⟩ := entry_then_store str_law Tryz.underlying83 (z := nodeV n0) node_zero hb hO.fit (str_key p hp)
 refine ⟨v0, st, _, h1, ⟨rfl, rfl, rfl, by simp [setBlock], fun i _ hi => heap_setBlock_other hb _ (fun e => hi (by rw [e]))⟩, fun w2 hw2 => ?_⟩
 have hw2' : w2.heap[b]? = some (.map es1 clock1) := hw2.trans (heap_setBlock_same hb _)
 obtain ⟨es', clock', h3, h4⟩ := h2 w2 (nodeV n) hw2'
 refine ⟨_, h3, ?_, ⟨rfl, rfl, rfl, by simp [setBlock], fun i _ hi => heap_setBlock_other hw2' _ (fun e => hi (by rw [e]))⟩⟩
 have e : w' = setBlock w b (.map es' clock') := by
  have := hr.symm.trans h4
  injection this
 obtain ⟨es2, ck2, h5, h6⟩ := hm
 rw [e, heap_setBlock_same hb] at h5
 injection h5 with h5
 injection h5 with h7 h8
 subst h7 h8
 exact ⟨_, _, heap_setBlock_same hw2' _, h6⟩
end
set_option maxHeartbeats 2000000 in
theorem clone_any (b : Nat) (L : Tr) (w : World) (h : MapT w b L) :
 Calls Tryz.prog 132 #[.map (some b)] w fun e w' => e = .returned (.map (some w.heap.size)) ∧ MapT w' w.heap.size L ∧ w'.heap.size = w.heap.size + 1 ∧ Below w.heap.size w w' := by
 obtain ⟨es, clock, hb, hO⟩ := h
 have hq := fun w => run_eql_map_nil_sl (P := Tryz.prog) w 83 _ _ (some b) Tryz.underlying83
 have HO := hid hO
 clear hO
 go_enter Tryz.func132, Tryz.ntmps132
 go_wp2
 rw [run_callFunc_extern Tryz.func157 (by kernel_rfl) (by kernel_rfl) (by kernel_rfl) (e := Extern.MapsClone.clone) (by kernel_rfl), run_maps_clone_sl w 83 hb]
 simp only [Result.andThen]
 rw [Oper.upon_value]
 go_wp2
 rw [run_typeAssert_map_sl _ 83 20 _ _ _ Tryz.underlying83]
 simp only [Result.andThen]
 rw [Oper.upon_value]
 go_wp2
 go_ret
 exact ⟨rfl, ⟨es, clock, (MapKept.heap_alloc w _).1, HO.out⟩, by simp, (Below.refl _ w).alloc (Nat.le_refl _) _⟩
end Go.Proofs.YtabidnlbgdecbaaGreatDoor
namespace Go.Proofs.YtabidnlbgdecbaaGreatDoor
open Go.RowKit Go.Maps
structure TreeS (w : World) (g o m : Nat) (t : TypeId) (cs : Array Value) (L : Tr) (u room : Nat) : Prop where
 has : Has w g t cs
 k0 : cs[o]? = some (.map (some m))
 k1 : cs[o + 1]? = some (.int .i64 (u : Int))
 k2 : cs[o + 2]? = some (.int .i64 (room : Int))
 mp : MapT w m L
 srt : Srt L
 ne : m ≠ g
 len : L.length ≤ 100000
section
variable {w : World} {g o m : Nat} {t : TypeId} {cs : Array Value} {L : Tr} {u room : Nat}
theorem TreeS.c0 (h : TreeS w g o m t cs L u room) : w.cell? ⟨g, o, none⟩ = some (.map (some m)) := (h.has.at_ _).trans h.k0
theorem TreeS.c1 (h : TreeS w g o m t cs L u room) : w.cell? ⟨g, o + 1, none⟩ = some (.int .i64 (u : Int)) := (h.has.at_ _).trans h.k1
theorem TreeS.c2 (h : TreeS w g o m t cs L u room) : w.cell? ⟨g, o + 2, none⟩ = some (.int .i64 (room : Int)) := (h.has.at_ _).trans h.k2
theorem TreeS.kept {w' : World} (h : TreeS w g o m t cs L u room) (hg : w'.heap[g]? = w.heap[g]?) (hm : w'.heap[m]? = w.heap[m]?) : TreeS w' g o m t cs L u room :=
 ⟨hg.trans h.has, h.k0, h.k1, h.k2, h.mp.kept hm, h.srt, h.ne, h.len⟩
theorem TreeS.on {w' : World} {B : Nat} (h : TreeS w g o m t cs L u room) (hb : Below B w w') (hB : w.heap.size ≤ B) : TreeS w' g o m t cs L u room :=
 h.kept (hb.block g (Nat.lt_of_lt_of_le h.has.inside hB)) (hb.block m (Nat.lt_of_lt_of_le h.mp.inside hB))
end
def hasB (L : Tr) (p : By) : Bool := (look L p).isSome
def isDirB (L : Tr) (p : By) : Bool := decide (kindP L p = 2)
theorem maxLen_le {n : Nat} (h : n ≤ 4000) : n ≤ maxLen := by unfold maxLen; omega
theorem field_kind (n : Nd) (w : World) : (Instr.field 44 (nodeV n) 0).run Tryz.prog w = .ok (.int .i64 n.kind) w := by kernel_rfl
theorem field_data (n : Nd) (w : World) : (Instr.field 44 (nodeV n) 1).run Tryz.prog w = .ok (kS n.data) w := by kernel_rfl
set_option maxHeartbeats 2000000 in
theorem thas_any {w : World} {g o m : Nat} {t : TypeId} {cs : Array Value} {L : Tr} {u room : Nat} (h : TreeS w g o m t cs L u room) (p : By) (hp : p.length ≤ 4000) :
 Calls Tryz.prog 40 #[.pointer (some ⟨g, o, none⟩), kS p] w fun e w' => e = .returned (.bool (hasB L p)) ∧ Below w.heap.size w w' := by
 have c0 := h.c0
 have hl := h.mp.lookOk (p := p) (maxLen_le hp)
 obtain ⟨b, HB⟩ : ∃ b, Hid ((look L p).isSome = b) := ⟨_, rfl⟩
 obtain ⟨⟨k, d, x, tm⟩, HV⟩ : ∃ v, Hid ((look L p).getD n0 = v) := ⟨_, rfl⟩
 rw [HB.out, HV.out] at hl
 simp only [nodeV] at hl
 clear h
 go_enter Tryz.func40, Tryz.ntmps40
 go_wp2
 go_ret
 exact ⟨by rw [← HB.out]; rfl, (Below.refl _ _).alloc (Nat.le_refl _) _⟩
set_option maxHeartbeats 2000000 in
theorem tisDir_any {w : World} {g o m : Nat} {t : TypeId} {cs : Array Value} {L : Tr} {u room : Nat} (h : TreeS w g o m t cs L u room) (p : By) (hp : p.length ≤ 4000) :
 Calls Tryz.prog 110 #[.pointer (some ⟨g, o, none⟩), kS p] w fun e w' => e = .returned (.bool (isDirB L p)) ∧ w = w' := by
 have c0 := h.c0
 have hl := h.mp.look (p := p) (maxLen_le hp)
 clear h
 by_cases hp0 : p = []
 · have HP := hid hp0
   have e1 : (ba p).toList = [] := by rw [toList_tl, tl_ba, hp0]
   clear hp0
   go_enter Tryz.func110, Tryz.ntmps110
   go_wp2
   go_ret
   exact ⟨by rw [HP.out]; rfl, rfl⟩
 · obtain ⟨⟨k, d, x, tm⟩, HV⟩ : ∃ v, Hid ((look L p).getD n0 = v) := ⟨_, rfl⟩
   rw [HV.out] at hl
   have hf := field_kind ⟨k, d, x, tm⟩
   simp only at hf
   have hk : Hid (isDirB L p = (k == 2)) := by
    show _ = _
    have := HV.out
    unfold isDirB kindP
    rw [if_neg hp0]
    cases hq : look L p with
    | none => rw [hq] at this; simp only [Option.getD_none] at this; injection this with h1; subst h1; rfl
    | some n => rw [hq] at this; simp only [Option.getD_some] at this; rw [this]; rfl
   have e1 : ¬ (ba p).toList = [] := by rw [toList_tl, tl_ba]; exact hp0
   have e2 : (ba p).toList.isEmpty = false := by simpa using e1
   clear hp0 HV
   go_enter Tryz.func110, Tryz.ntmps110
   go_wp2
   go_ret
   exact ⟨by rw [hk.out]; rfl, rfl⟩
set_option maxHeartbeats 2000000 in
theorem tnoDir_any {w : World} {g o m : Nat} {t : TypeId} {cs : Array Value} {L : Tr} {u room : Nat} (h : TreeS w g o m t cs L u room) (p : By) (hp : p.length ≤ 4000) :
 Calls Tryz.prog 67 #[.pointer (some ⟨g, o, none⟩), kS p] w fun e w' => e = .returned (.int .i64 (noDirE L p)) ∧ Below w.heap.size w w' := by
 obtain ⟨a, HA⟩ : ∃ a, Hid (isDirB L p = a) := ⟨_, rfl⟩
 obtain ⟨b, HB⟩ : ∃ b, Hid (hasB L p = b) := ⟨_, rfl⟩
 have C1 : Hid (Calls Tryz.prog 110 #[.pointer (some ⟨g, o, none⟩), kS p] w fun e w' => e = .returned (.bool a) ∧ w = w') := by rw [← HA.out]; exact tisDir_any h p hp
 have C2 : Hid (Calls Tryz.prog 40 #[.pointer (some ⟨g, o, none⟩), kS p] w fun e w' => e = .returned (.bool b) ∧ Below w.heap.size w w') := by rw [← HB.out]; exact thas_any h p hp
 have HE : Hid (noDirE L p = if a then 0 else if b then 12 else 5) := by
  show _ = _
  rw [← HA.out, ← HB.out]; unfold noDirE isDirB hasB
  by_cases k : kindP L p = 2
  · simp [k]
  · simp [k]
 clear h
 cases a with
 | true =>
  go_enter Tryz.func67, Tryz.ntmps67
  go_wp2_with (go_at_call 110; refine C1.out.mono ?_; rintro e1 w1 ⟨rfl, rfl⟩)
  go_ret
  exact ⟨by rw [HE.out]; rfl, Below.refl _ _⟩
 | false =>
  cases b with
  | true =>
   go_enter Tryz.func67, Tryz.ntmps67
   go_wp2_with (first
    | (go_at_call 110; refine C1.out.mono ?_; rintro e1 w1 ⟨rfl, rfl⟩)
    | (go_at_call 40; refine C2.out.mono ?_; rintro e2 w2 ⟨rfl, hb2⟩; have B2 := hid hb2; clear hb2))
   go_ret
   exact ⟨by rw [HE.out]; rfl, B2.out⟩
  | false =>
   go_enter Tryz.func67, Tryz.ntmps67
   go_wp2_with (first
    | (go_at_call 110; refine C1.out.mono ?_; rintro e1 w1 ⟨rfl, rfl⟩)
    | (go_at_call 40; refine C2.out.mono ?_; rintro e2 w2 ⟨rfl, hb2⟩; have B2 := hid hb2; clear hb2))
   go_ret
   exact ⟨by rw [HE.out]; rfl, B2.out⟩
set_option maxHeartbeats 2000000 in
theorem tnoHome_any {w : World} {g o m : Nat} {t : TypeId} {cs : Array Value} {L : Tr} {u room : Nat} (h : TreeS w g o m t cs L u room) (hG : Gd w) (p : By) (hp : p.length ≤ 4000) (hm : mayB p = true) :
 Calls Tryz.prog 93 #[.pointer (some ⟨g, o, none⟩), kS p] w fun e w' => e = .returned (.int .i64 (homeE L p)) ∧ Below w.heap.size w w' := by
 have C1 : Hid (Calls Tryz.prog 135 #[kS p] w fun e w' => e = .returned (.tuple #[kS (aheadL p), .bool true]) ∧ Below w.heap.size w w') := by
  have := parent_any (ba p) w hG (by rw [ba_size]; exact hp)
  rw [tl_ba, findV_yes hm, hm] at this; exact this
 have C2 : Hid (∀ w', Below w.heap.size w w' → Calls Tryz.prog 67 #[.pointer (some ⟨g, o, none⟩), kS (aheadL p)] w' fun e w2 => e = .returned (.int .i64 (homeE L p)) ∧ Below w'.heap.size w' w2) :=
  fun w' hb => tnoDir_any (h.on hb (Nat.le_refl _)) _ (Nat.le_trans (aheadL_len p) hp)
 clear h hG
 go_enter Tryz.func93, Tryz.ntmps93
 go_wp2_with fail
 refine C1.out.mono ?_; rintro e1 w1 ⟨rfl, hb1⟩; have B1 := hid hb1; clear hb1
 go_wp2_with fail
 refine (C2.out _ B1.out).mono ?_; rintro e2 w2 ⟨rfl, hb2⟩; have B2 := hid (B1.out.trans (hb2.mono B1.out.size)); clear hb2
 go_wp2
 go_ret
 exact ⟨rfl, B2.out⟩
set_option maxHeartbeats 2000000 in
theorem ttaken_any {w : World} {g o m : Nat} {t : TypeId} {cs : Array Value} {L : Tr} {u room : Nat} (h : TreeS w g o m t cs L u room) (p : By) (hp : p.length ≤ 4000) :
 Calls Tryz.prog 94 #[.pointer (some ⟨g, o, none⟩), kS p] w fun e w' => e = .returned (.int .i64 (takenE L p)) ∧ w = w' := by
 have c0 := h.c0
 have hl := h.mp.look (p := p) (maxLen_le hp)
 clear h
 obtain ⟨⟨k, d, x, tm⟩, HV⟩ : ∃ v, Hid ((look L p).getD n0 = v) := ⟨_, rfl⟩
 rw [HV.out] at hl
 have hf := field_kind ⟨k, d, x, tm⟩
 simp only at hf
 have hk : Hid (takenE L p = if k = 2 then 12 else if k = 3 then 11 else 0) := by
  show _ = _
  have := HV.out
  unfold takenE
  cases hq : look L p with
  | none => rw [hq] at this; simp only [Option.getD_none] at this; injection this with h1; subst h1; rfl
  | some n => rw [hq] at this; simp only [Option.getD_some] at this; rw [this]
 clear HV
 by_cases k2 : k = 2
 · have q1 : (k == 2) = true := by simpa using k2
   have HK := hid k2
   clear k2
   go_enter Tryz.func94, Tryz.ntmps94
   go_wp2
   go_ret
   exact ⟨by rw [hk.out, if_pos HK.out]; rfl, rfl⟩
 · have q1 : (k == 2) = false := by simpa using k2
   by_cases k3 : k = 3
   · have q2 : (k == 3) = true := by simpa using k3
     have HK := hid k3
     have HK2 := hid k2
     clear k3 k2
     go_enter Tryz.func94, Tryz.ntmps94
     go_wp2
     go_ret
     exact ⟨by rw [hk.out, if_neg HK2.out, if_pos HK.out]; rfl, rfl⟩
   · have q2 : (k == 3) = false := by simpa using k3
     have HK := hid k3
     have HK2 := hid k2
     clear k3 k2
     go_enter Tryz.func94, Tryz.ntmps94
     go_wp2
     go_ret
     exact ⟨by rw [hk.out, if_neg HK2.out, if_neg HK.out]; rfl, rfl⟩
set_option maxHeartbeats 2000000 in
theorem tuse_any {w : World} {g o m : Nat} {t : TypeId} {cs : Array Value} {L : Tr} {u room : Nat} (h : TreeS w g o m t cs L u room) (p : By) (hp : p.length ≤ 4000) (hd : useP L p ≤ 100000000) :
 Calls Tryz.prog 136 #[.pointer (some ⟨g, o, none⟩), kS p] w fun e w' => e = .returned (.int .i64 ((useP L p : Nat) : Int)) ∧ Below w.heap.size w w' := by
 obtain ⟨b, HB⟩ : ∃ b, Hid (hasB L p = b) := ⟨_, rfl⟩
 have C2 : Hid (Calls Tryz.prog 40 #[.pointer (some ⟨g, o, none⟩), kS p] w fun e w' => e = .returned (.bool b) ∧ Below w.heap.size w w') := by rw [← HB.out]; exact thas_any h p hp
 obtain ⟨⟨k, d, x, tm⟩, HV⟩ : ∃ v, Hid ((look L p).getD n0 = v) := ⟨_, rfl⟩
 have C0 : Hid (∀ w', Below w.heap.size w w' → w'.cell? ⟨g, o, none⟩ = some (.map (some m)) ∧ (Instr.lookup 83 (.map (some m)) (kS p) false).run Tryz.prog w' = .ok (nodeV ⟨k, d, x, tm⟩) w') := by
  intro w' hb
  have h' := h.on hb (Nat.le_refl _)
  have := h'.mp.look (p := p) (maxLen_le hp)
  rw [HV.out] at this
  exact ⟨h'.c0, this⟩
 have hf := field_data ⟨k, d, x, tm⟩
 simp only at hf
 have HE : Hid (useP L p = if b then 64 + d.length else 0) := by
  show _ = _
  rw [← HB.out]
  have := HV.out
  unfold useP hasB
  cases hq : look L p with
  | none => rfl
  | some n => rw [hq] at this; simp only [Option.getD_some] at this; rw [this]; rfl
 clear h
 cases b with
 | false =>
  go_enter Tryz.func136, Tryz.ntmps136
  go_wp2_with (go_at_call 40; refine C2.out.mono ?_; rintro e2 w2 ⟨rfl, hb2⟩; have B2 := hid hb2; clear hb2)
  go_ret
  exact ⟨by rw [HE.out]; rfl, B2.out⟩
 | true =>
  have hz : d.length ≤ 100000000 := by have := HE.out; simp only [if_pos] at this; omega
  have hz1 : (ba d).size = d.length := ba_size d
  have hz2 : (ba d).size ≤ 100000000 := by omega
  have HZ := hid hz1
  clear hz1 hz hd
  go_enter Tryz.func136, Tryz.ntmps136
  go_wp2_with fail
  refine C2.out.mono ?_; rintro e2 w2 ⟨rfl, hb2⟩; have B2 := hid hb2; clear hb2
  obtain ⟨c0, hl⟩ := C0.out _ B2.out
  go_wp2
  go_ret
  refine ⟨?_, B2.out⟩
  have hE : useP L p = 64 + (ba d).size := by have := HE.out; simp only [if_true] at this; rw [this, HZ.out]
  rw [hE]
  exact ret_i64 (by simp)
end Go.Proofs.YtabidnlbgdecbaaGreatDoor
namespace Go.Proofs.YtabidnlbgdecbaaGreatDoor
open Go.RowKit Go.Maps
structure Turn (own : Nat → Prop) (w w' : World) : Prop where
 os : w'.os = w.os
 tape : w'.tape = w.tape
 output : w'.output = w.output
 size : w.heap.size ≤ w'.heap.size
 block : ∀ g, g < w.heap.size → ¬ own g → w'.heap[g]? = w.heap[g]?
theorem Turn.refl (own : Nat → Prop) (w : World) : Turn own w w := ⟨rfl, rfl, rfl, Nat.le_refl _, fun _ _ _ => rfl⟩
theorem Turn.of_below {own : Nat → Prop} {w w' : World} (h : Below w.heap.size w w') : Turn own w w' := ⟨h.os, h.tape, h.output, h.size, fun g hg _ => h.block g hg⟩
theorem Turn.of_grw {own : Nat → Prop} {w w' : World} {g : Nat} (h : w.grownBy w' (some g)) (ho : own g) : Turn own w w' := ⟨h.os, h.tape, h.output, h.size, fun k hk hn => h.block k hk (fun e => by injection e with e; subst e; exact hn ho)⟩
theorem Turn.trans {own own' : Nat → Prop} {a b c : World} (h : Turn own a b) (k : Turn own' b c) (ho : ∀ g, own' g → own g ∨ a.heap.size ≤ g) : Turn own a c :=
 ⟨k.os.trans h.os, k.tape.trans h.tape, k.output.trans h.output, Nat.le_trans h.size k.size, fun g hg hn => (k.block g (Nat.lt_of_lt_of_le hg h.size) (fun e => by rcases ho g e with e | e; exact hn e; omega)).trans (h.block g hg hn)⟩
theorem Turn.then {own : Nat → Prop} {a b c : World} (h : Turn own a b) (k : Turn own b c) : Turn own a c := h.trans k (fun _ e => .inl e)
theorem Turn.below {own : Nat → Prop} {w w' : World} {B : Nat} (h : Turn own w w') (ho : ∀ g, own g → B ≤ g) (hB : B ≤ w.heap.size) : Below B w w' := ⟨h.os, h.tape, h.output, h.size, fun g hg => h.block g (by omega) (fun e => by have := ho g e; omega)⟩
theorem Turn.set {own : Nat → Prop} (w : World) (g i : Nat) (v : Value) (ho : own g) : Turn own w (w.setCell ⟨g, i, none⟩ v) :=
 ⟨rfl, rfl, rfl, by simp, fun k _ hn => Below.heap_setCell w ⟨g, i, none⟩ v k (fun e => hn (by have e : k = g := e; rw [e]; exact ho))⟩
section
variable {ops : Array Oper} {S : World → Prop} {o : Oper} {a : Act}
theorem yields_load (hw : Region.wanted o (yielded ops a.tmps) = true) (T : TypeId) (x : Operand) (ho : o.op = .load T x) (g off : Nat) (hx : a.eval x = .pointer (some ⟨g, off, none⟩)) (r : Value)
 (hS : ∀ w, S w → (loadVar T ⟨g, off, none⟩).run Tryz.prog w = .ok r w) : YieldsIf Tryz.prog ops S o r a :=
 .inl ⟨hw, fun w hw' => by
  unfold execOp
  simp only [ho, hx, Instr.loadAt, Instr.sureAddr, Sem.run_bind, Sem.run_pure, Result.andThen_ok, hS w hw']⟩
theorem step_entry {w : World} {K : Act → World → Prop} {Q : Exit → Act → World → Prop} {E : Prop} (hw : Region.wanted o (yielded ops a.tmps) = true) {t : TypeId} (m x : Operand) (ho : o.op = .mapEntry t m x) (mv xv v : Value) (hm : a.eval m = mv) (hx : a.eval x = xv)
 {w' : World} (hr : (Instr.mapEntry t mv xv).run Tryz.prog w = .ok v w') (hK : K (a.put o.dst v) w') : if Region.wanted o (yielded ops a.tmps) = true then Oper.wp Tryz.prog o a w K Q else E := by
 rw [if_pos hw]
 unfold Oper.wp
 simp [execOp, ho, hm, hx, hr, Result.andThen]
 exact hK
theorem step_entryStore {w : World} {K : Act → World → Prop} {Q : Exit → Act → World → Prop} {E : Prop} (hw : Region.wanted o (yielded ops a.tmps) = true) {t : TypeId} (m s x : Operand) (ho : o.op = .entryStore t m s x) (mv sv xv : Value) (hm : a.eval m = mv) (hs : a.eval s = sv) (hx : a.eval x = xv)
 {w' : World} (hr : (Instr.entryStore t mv sv xv).run Tryz.prog w = .ok () w') (hK : K (a.put o.dst undef) w') : if Region.wanted o (yielded ops a.tmps) = true then Oper.wp Tryz.prog o a w K Q else E := by
 rw [if_pos hw]
 unfold Oper.wp
 simp [execOp, ho, hm, hs, hx, hr, Result.andThen]
 exact hK
end
theorem load_node {w : World} {g : Nat} {k : Int} {d x : By} {tm : Int} (h : Has w g 44 #[.int .i64 k, kS d, kS x, .int .i64 tm]) : (loadVar 44 ⟨g, 0, none⟩).run Tryz.prog w = .ok (nodeV ⟨k, d, x, tm⟩) w :=
 run_loadVar_row (P := Tryz.prog) w g 44 44 #[.int .i64 k, kS d, kS x, .int .i64 tm] (0, 0) _ h Tryz.underlying44 rfl (by kernel_rfl)
theorem TreeS.drew {w : World} {g o m : Nat} {t : TypeId} {cs : Array Value} {L : Tr} {u room : Nat} (h : TreeS w g o m t cs L u room) : TreeS w.drew g o m t cs L u room := h.kept rfl rfl
theorem TreeS.told {w : World} {g o m : Nat} {t : TypeId} {cs : Array Value} {L : Tr} {u room : Nat} (h : TreeS w g o m t cs L u room) (u' : Nat) :
 TreeS (w.setCell ⟨g, o + 1, none⟩ (.int .i64 (u' : Int))) g o m t (cs.setIfInBounds (o + 1) (.int .i64 (u' : Int))) L u' room := by
 have hlt : o + 1 < cs.size := (Array.getElem?_eq_some_iff.1 h.k1).1
 exact ⟨h.has.put _ _, by rw [Array.getElem?_setIfInBounds_ne (by omega)]; exact h.k0, by rw [Array.getElem?_setIfInBounds_self_of_lt hlt], by rw [Array.getElem?_setIfInBounds_ne (by omega)]; exact h.k2, h.mp.kept (Below.heap_setCell w _ _ m h.ne), h.srt, h.ne, h.len⟩
theorem TreeS.same {w : World} {g o m : Nat} {t : TypeId} {cs : Array Value} {L : Tr} {u room : Nat} (h : TreeS w g o m t cs L u room) : TreeS w g o m t (cs.setIfInBounds (o + 1) (.int .i64 (u : Int))) L u room := by
 have e : cs.setIfInBounds (o + 1) (.int .i64 (u : Int)) = cs := by
  apply Array.ext_getElem?
  intro i
  rw [Array.getElem?_setIfInBounds]
  split
  · rename_i hi
    subst hi
    split
    · exact h.k1.symm
    · rename_i hn
      rw [Array.getElem?_eq_none (by omega)]
  · rfl
 rw [e]; exact h
structure PS (w0 : World) (g o m : Nat) (t : TypeId) (cs : Array Value) (L : Tr) (u room bx : Nat) (nc : Array Value) (W : World) : Prop where
 tr : TreeS W g o m t cs L u room
 box : Has W bx 44 nc
 bl : Below w0.heap.size w0 W
theorem PS.drew {w0 W : World} {g o m : Nat} {t : TypeId} {cs : Array Value} {L : Tr} {u room bx : Nat} {nc : Array Value} (h : PS w0 g o m t cs L u room bx nc W) : PS w0 g o m t cs L u room bx nc W.drew :=
 ⟨h.tr.drew, h.box, h.bl.drew⟩
theorem PS.on {w0 W W' : World} {g o m : Nat} {t : TypeId} {cs : Array Value} {L : Tr} {u room bx : Nat} {nc : Array Value} (h : PS w0 g o m t cs L u room bx nc W) (hb : Below W.heap.size W W') : PS w0 g o m t cs L u room bx nc W' :=
 ⟨h.tr.on hb (Nat.le_refl _), h.box.kept hb h.box.inside, h.bl.trans (hb.mono h.bl.size)⟩
def Two (g m k : Nat) : Prop := k = g ∨ k = m
structure BS (g o m bx : Nat) (nc : Array Value) (W : World) : Prop where
 c0 : W.cell? ⟨g, o, none⟩ = some (.map (some m))
 box : Has W bx 44 nc
theorem TreeS.apart {w : World} {g o m : Nat} {t : TypeId} {cs : Array Value} {L : Tr} {u room bx : Nat} {tb : TypeId} {nc : Array Value} (h : TreeS w g o m t cs L u room) (hb : Has w bx tb nc) : bx ≠ m := fun e => by
 obtain ⟨es, ck, hh, _⟩ := h.mp
 unfold Has at hb
 rw [e, hh] at hb; cases hb
theorem grown_has {w w' : World} {m g : Nat} {t : TypeId} {cs : Array Value} (h : Has w g t cs) (hg : w.grownBy w' (some m)) (hne : g ≠ m) : Has w' g t cs := (hg.block g h.inside (fun e => hne (Option.some.inj e))).trans h
set_option maxHeartbeats 4000000 in
theorem tput_any {w : World} {g o m : Nat} {t : TypeId} {cs : Array Value} {L : Tr} {u room : Nat} (h : TreeS w g o m t cs L u room) (hu : u = usedL L) (hur : u ≤ room) (hr : room ≤ 1048576) (p : By) (hp : p.length ≤ 4000) (n : Nd) (hn : n.data.length ≤ 10000000) :
 Calls Tryz.prog 95 #[.pointer (some ⟨g, o, none⟩), kS p, nodeV n] w fun e w' => e = .returned (.int .i64 (putE room L p n).1) ∧ Turn (Two g m) w w' ∧ TreeS w' g o m t (cs.setIfInBounds (o + 1) (.int .i64 ((usedL (putE room L p n).2 : Nat) : Int))) (putE room L p n).2 (usedL (putE room L p n).2) room := by
 obtain ⟨k, d, x, tm⟩ := n
 simp only at hn
 have hz : (ba d).size = d.length := ba_size d
 have q1 := useP_le h.srt p
 have q3 := used_ins h.srt p ⟨k, d, x, tm⟩
 obtain ⟨q, HQ⟩ : ∃ q, Hid (useP L p = q) := ⟨_, rfl⟩
 have q2 : q ≤ u := by have := HQ.out; omega
 obtain ⟨s, HT⟩ : ∃ s, Hid (s = u - q + 64 + d.length) := ⟨_, rfl⟩
 have HN : Hid (useN ⟨k, d, x, tm⟩ = 64 + d.length) := rfl
 have hs : s ≤ 20000000 := by have := HT.out; omega
 have HS : Hid ((u : Int) - q + 64 + ((ba d).size : Int) = (s : Int)) := by show _ = _; have := HT.out; omega
 have HI : Hid (s ≤ room → usedL (ins p ⟨k, d, x, tm⟩ L) = s) := by intro _; have := HT.out; have := HQ.out; have := HN.out; omega
 have HP : Hid (s ≤ room → putE room L p ⟨k, d, x, tm⟩ = (0, ins p ⟨k, d, x, tm⟩ L)) := by
  intro hc; unfold putE; rw [if_pos]; have := HT.out; have := HQ.out; have := HN.out; omega
 have HP0 : Hid (¬ s ≤ room → putE room L p ⟨k, d, x, tm⟩ = (7, L)) := by
  intro hc; unfold putE; rw [if_neg]; have := HT.out; have := HQ.out; have := HN.out; omega
 have C0 : Hid (∀ W, TreeS W g o m t cs L u room → Calls Tryz.prog 136 #[.pointer (some ⟨g, o, none⟩), kS p] W fun e w' => e = .returned (.int .i64 (q : Int)) ∧ Below W.heap.size W w') := by
  intro W hW; rw [← HQ.out]; exact tuse_any hW p hp (by have := HQ.out; omega)
 have P0 : Hid (PS w g o m t cs L u room w.heap.size #[.int .i64 k, kS d, kS x, .int .i64 tm] (w.alloc (.cells #[.int .i64 k, kS d, kS x, .int .i64 tm] 44))) :=
  ⟨h.on ((Below.refl _ _).alloc (Nat.le_refl _) _) (Nat.le_refl _), Has.fresh _ _ _, (Below.refl _ _).alloc (Nat.le_refl _) _⟩
 have C1 := hid (C0.out _ P0.out.tr.drew)
 have hw1 : IntKind.i64.wrap ((u : Int) - q) = (u : Int) - q := IntWalk.i64_in _ (by omega)
 have hw2 : IntKind.i64.wrap ((u : Int) - q + 64) = (u : Int) - q + 64 := IntWalk.i64_in _ (by omega)
 have hw3 : IntKind.i64.wrap ((u : Int) - q + 64 + ((ba d).size : Int)) = (u : Int) - q + 64 + ((ba d).size : Int) := IntWalk.i64_in _ (by omega)
 have HU := hid hu
 have hlen := h.len
 have HG := hid h.has.inside
 clear hu hz h q1 q3
 show Calls Tryz.prog 95 #[.pointer (some ⟨g, o, none⟩), kS p, .agg #[.int .i64 k, kS d, kS x, .int .i64 tm]] w _
 by_cases hc : s ≤ room
 · have HE := hid (HP.out hc)
   have HI2 := hid (HI.out hc)
   have hb : decide (room < s) = false := by simpa using hc
   have hb2 : decide ((room : Int) < (s : Int)) = false := by simpa using hc
   go_enter Tryz.func95, Tryz.ntmps95
   go_wp2
   refine wp_region_noPanic ?_
   refine wp_region_held_drew (S := PS w g o m t cs L u room w.heap.size #[.int .i64 k, kS d, kS x, .int .i64 tm]) (by kernel_rfl) (P0.out.drew) (fun hS => ?_)
   refine tkH 0 (v := ?_) (by simp only [lkA, lkB]; rfl) (by kernel_rfl) (fun _ _ _ h => h) (by rfl) (by assumption) ?_ ?_
   rotate_left 1
   · intro w hSw
     go_simp
     with_reducible rfl
   simp only [Act.put, siA, siB, siC]
   refine tkH 1 (v := ?_) (by simp only [lkA, lkB, lkC]; rfl) (by kernel_rfl) (fun _ _ _ h => h) (by rfl) (by assumption) ?_ ?_
   rotate_left 1
   · intro w hSw
     go_simp
     with_reducible rfl
   simp only [Act.put, siA, siB, siC]
   refine tkH 2 (v := ?_) (by simp only [lkA, lkB, lkC]; rfl) (by kernel_rfl) (fun _ _ _ h => h) (by rfl) (by assumption) ?_ ?_
   rotate_left 1
   · intro w hSw
     go_simp
     with_reducible rfl
   simp only [Act.put, siA, siB, siC]
   refine tkH 3 (v := ?_) (by simp only [lkA, lkB, lkC]; rfl) (by kernel_rfl) (fun _ _ _ h => h) (by rfl) (by assumption) ?_ ?_
   rotate_left 1
   · intro w hSw
     have hc := hSw.tr.c1
     go_simp
     with_reducible rfl
   simp only [Act.put, siA, siB, siC]
   refine tkH 4 (v := ?_) (by simp only [lkA, lkB, lkC]; rfl) (by kernel_rfl) (fun _ _ _ h => h) (by rfl) (by assumption) ?_ ?_
   rotate_left 1
   · intro w hSw
     go_simp
     with_reducible rfl
   simp only [Act.put, siA, siB, siC]
   refine tkH 5 (v := ?_) (by simp only [lkA, lkB, lkC]; rfl) (by kernel_rfl) (fun _ _ _ h => h) (by rfl) (by assumption) ?_ ?_
   rotate_left 1
   · intro w hSw
     go_simp
     with_reducible rfl
   simp only [Act.put, siA, siB, siC]
   refine tkH 9 (v := ?_) (by simp only [lkA, lkB, lkC]; rfl) (by kernel_rfl) (fun _ _ _ h => h) (by rfl) (by assumption) ?_ ?_
   rotate_left 1
   · intro w hSw
     go_simp
     with_reducible rfl
   simp only [Act.put, siA, siB, siC]
   refine tkH 10 (v := ?_) (by simp only [lkA, lkB, lkC]; rfl) (by kernel_rfl) (fun _ _ _ h => h) (by rfl) (by assumption) ?_ ?_
   rotate_left 1
   · intro w hSw
     have hc := hSw.box.at_ 1
     go_simp
     with_reducible rfl
   simp only [Act.put, siA, siB, siC]
   refine tkH 11 (v := ?_) (by simp only [lkA, lkB, lkC]; rfl) (by kernel_rfl) (fun _ _ _ h => h) (by rfl) (by assumption) ?_ ?_
   rotate_left 1
   · intro w hSw
     go_simp
     with_reducible rfl
   simp only [Act.put, siA, siB, siC]
   refine wpAnyH_ready (rs := [6]) (by kernel_rfl) (by simp) ?_
   refine AllReadyH.cons (by simp only [lkA, lkB, lkC]; rfl) (fun K hK => ?_) AllReadyH.nil
   go_simp
   refine (C1.out).mono ?_
   rintro e1 w1 ⟨rfl, hb1⟩
   have hz1 := P0.out.drew.on hb1
   refine hK.out _ _ hz1 (fun hS => ?_)
   clear hK K hS
   refine tkH 7 (v := ?_) (by simp only [lkA, lkB, lkC]; rfl) (by kernel_rfl) (fun _ _ _ h => h) (by rfl) (by assumption) ?_ ?_
   rotate_left 1
   · intro w hSw
     go_simp
     with_reducible rfl
   simp only [Act.put, siA, siB, siC]
   refine tkH 8 (v := ?_) (by simp only [lkA, lkB, lkC]; rfl) (by kernel_rfl) (fun _ _ _ h => h) (by rfl) (by assumption) ?_ ?_
   rotate_left 1
   · intro w hSw
     go_simp
     with_reducible rfl
   simp only [Act.put, siA, siB, siC]
   refine tkH 12 (v := ?_) (by simp only [lkA, lkB, lkC]; rfl) (by kernel_rfl) (fun _ _ _ h => h) (by rfl) (by assumption) ?_ ?_
   rotate_left 1
   · intro w hSw
     go_simp
     with_reducible rfl
   simp only [Act.put, siA, siB, siC]
   refine tkH 13 (v := ?_) (by simp only [lkA, lkB, lkC]; rfl) (by kernel_rfl) (fun _ _ _ h => h) (by rfl) (by assumption) ?_ ?_
   rotate_left 1
   · intro w hSw
     go_simp
     with_reducible rfl
   simp only [Act.put, siA, siB, siC]
   refine wpAnyH_done (by kernel_rfl) ?_ _
   refine NoPanic.normal ?_
   have P1 := hid hz1
   have hc2 := hz1.tr.c2
   rw [HS.out]
   clear hz1 hb1 hw1 hw2 hw3
   go_wp2
   obtain ⟨v0, st, w5, e1, g1, e2⟩ := P1.out.tr.drew.mp.entry P1.out.tr.srt (by have := P1.out.tr.len; omega) (p := p) (maxLen_le hp) ⟨k, d, x, tm⟩
   have hbm := P1.out.tr.apart P1.out.box
   have hgm := P1.out.tr.ne
   have Bx5 := grown_has P1.out.drew.box g1 hbm
   have Hg5 := grown_has P1.out.tr.drew.has g1 (Ne.symm hgm)
   obtain ⟨w6, e3, m6, g6⟩ := e2 w5 rfl
   have Bx6 := grown_has Bx5 g6 hbm
   have Hg6 := grown_has Hg5 g6 (Ne.symm hgm)
   have B1 : Hid (BS g o m w.heap.size #[.int .i64 k, kS d, kS x, .int .i64 tm] w1.drew) := ⟨P1.out.tr.c0, P1.out.box⟩
   have B5 : Hid (BS g o m w.heap.size #[.int .i64 k, kS d, kS x, .int .i64 tm] w5) := ⟨(Hg5.at_ o).trans P1.out.tr.k0, Bx5⟩
   have B6 : Hid (BS g o m w.heap.size #[.int .i64 k, kS d, kS x, .int .i64 tm] w6) := ⟨(Hg6.at_ o).trans P1.out.tr.k0, Bx6⟩
   have hc6 : w6.cell? ⟨g, o + 1, none⟩ = some (.int .i64 (u : Int)) := (Hg6.at_ (o + 1)).trans P1.out.tr.k1
   have hf6 : w6.frozen? ⟨g, o + 1, none⟩ = false := Hg6.free (o + 1)
   have hbg : w.heap.size ≠ g := Nat.ne_of_gt HG.out
   have T6 : Hid (TreeS w6 g o m t cs (ins p ⟨k, d, x, tm⟩ L) u room) := ⟨Hg6, P1.out.tr.k0, P1.out.tr.k1, P1.out.tr.k2, m6, srt_ins P1.out.tr.srt _ _, hgm, by
    have h1 := used_len (L := ins p ⟨k, d, x, tm⟩ L)
    have h2 := HI2.out
    omega⟩
   have B7 : Hid (BS g o m w.heap.size #[.int .i64 k, kS d, kS x, .int .i64 tm] (w6.setCell ⟨g, o + 1, none⟩ (.int .i64 (s : Int)))) := ⟨(T6.out.told s).c0, Bx6.other (p := ⟨g, o + 1, none⟩) hbg _⟩
   have T7 : Hid (Turn (Two g m) w (w6.setCell ⟨g, o + 1, none⟩ (.int .i64 (s : Int)))) :=
    ((((Turn.of_below P1.out.bl.drew).then (Turn.of_grw g1 (.inr rfl))).then (Turn.of_grw g6 (.inr rfl))).then (Turn.set w6 g (o + 1) _ (.inl rfl)))
   have E1 := hid e1
   have E2 := hid e3
   clear e1 e2 e3 g1 g6 m6 Bx5 Bx6 Hg5 Hg6 hgm hbm hbg hc2 hlen
   refine wp_region_noPanic ?_
   refine wp_region_held_drew (S := BS g o m w.heap.size #[.int .i64 k, kS d, kS x, .int .i64 tm]) (by kernel_rfl) (B1.out) (fun hS => ?_)
   refine tkH 0 (v := ?_) (by simp only [lkA, lkB]; rfl) (by kernel_rfl) (fun _ _ _ h => h) (by rfl) (by assumption) ?_ ?_
   rotate_left 1
   · intro w hSw
     go_simp
     with_reducible rfl
   simp only [Act.put, siA, siB, siC]
   refine tkH 1 (v := ?_) (by simp only [lkA, lkB, lkC]; rfl) (by kernel_rfl) (fun _ _ _ h => h) (by rfl) (by assumption) ?_ ?_
   rotate_left 1
   · intro w hSw
     go_simp
     with_reducible rfl
   simp only [Act.put, siA, siB, siC]
   refine tkH 2 (v := ?_) (by simp only [lkA, lkB, lkC]; rfl) (by kernel_rfl) (fun _ _ _ h => h) (by rfl) (by assumption) ?_ ?_
   rotate_left 1
   · intro w hSw
     go_simp
     with_reducible rfl
   simp only [Act.put, siA, siB, siC]
   refine tkH 3 (v := ?_) (by simp only [lkA, lkB, lkC]; rfl) (by kernel_rfl) (fun _ _ _ h => h) (by rfl) (by assumption) ?_ ?_
   rotate_left 1
   · intro w hSw
     have hc := hSw.c0
     go_simp
     with_reducible rfl
   simp only [Act.put, siA, siB, siC]
   refine tkH 4 (v := ?_) (by simp only [lkA, lkB, lkC]; rfl) (by kernel_rfl) (fun _ _ _ h => h) (by rfl) (by assumption) ?_ ?_
   rotate_left 1
   · intro w hSw
     go_simp
     with_reducible rfl
   simp only [Act.put, siA, siB, siC]
   refine tkH 5 (v := ?_) (by simp only [lkA, lkB, lkC]; rfl) (by kernel_rfl) (fun _ _ _ h => h) (by rfl) (by assumption) ?_ ?_
   rotate_left 1
   · intro w hSw
     go_simp
     with_reducible rfl
   simp only [Act.put, siA, siB, siC]
   refine' wpAnyH_take (i := 6) (v := _) (by simp only [lkA, lkB, lkC]; rfl) (by kernel_rfl) (by kernel_rfl) (by kernel_rfl) (fun _ _ _ h => h) (yields_load (by rfl) 44 (.tmp 5) rfl w.heap.size 0 rfl (nodeV ⟨k, d, x, tm⟩) (fun w hS => load_node hS.box)) (by assumption) ?_
   simp only [Act.put, siA, siB, siC]
   refine tkH 7 (v := ?_) (by simp only [lkA, lkB, lkC]; rfl) (by kernel_rfl) (fun _ _ _ h => h) (by rfl) (by assumption) ?_ ?_
   rotate_left 1
   · intro w hSw
     go_simp
     with_reducible rfl
   simp only [Act.put, siA, siB, siC]
   refine wpAnyH_ready (rs := [8]) (by kernel_rfl) (by simp) ?_
   refine AllReadyH.cons (by simp only [lkA, lkB, lkC]; rfl) (fun K hK => ?_) AllReadyH.nil
   refine step_entry (by rfl) (.tmp 30) (.tmp 31) rfl (.map (some m)) (kS p) _ rfl rfl E1.out ?_
   simp only [Act.put, siA, siB, siC]
   refine hK.out _ _ B5.out (fun hS => ?_)
   clear hK K hS
   refine tkH 9 (v := ?_) (by simp only [lkA, lkB, lkC]; rfl) (by kernel_rfl) (fun _ _ _ h => h) (by rfl) (by assumption) ?_ ?_
   rotate_left 1
   · intro w hSw
     go_simp
     with_reducible rfl
   simp only [Act.put, siA, siB, siC]
   refine wpAnyH_ready (rs := [10]) (by kernel_rfl) (by simp) ?_
   refine AllReadyH.cons (by simp only [lkA, lkB, lkC]; rfl) (fun K hK => ?_) AllReadyH.nil
   refine step_entryStore (by rfl) (.tmp 30) (.tmp 36) (.tmp 33) rfl (.map (some m)) (goInt st) (nodeV ⟨k, d, x, tm⟩) rfl rfl rfl E2.out ?_
   simp only [Act.put, siA, siB, siC]
   refine hK.out _ _ B6.out (fun hS => ?_)
   clear hK K hS
   refine tkH 11 (v := ?_) (by simp only [lkA, lkB, lkC]; rfl) (by kernel_rfl) (fun _ _ _ h => h) (by rfl) (by assumption) ?_ ?_
   rotate_left 1
   · intro w hSw
     go_simp
     with_reducible rfl
   simp only [Act.put, siA, siB, siC]
   refine tkH 12 (v := ?_) (by simp only [lkA, lkB, lkC]; rfl) (by kernel_rfl) (fun _ _ _ h => h) (by rfl) (by assumption) ?_ ?_
   rotate_left 1
   · intro w hSw
     go_simp
     with_reducible rfl
   simp only [Act.put, siA, siB, siC]
   refine wpAnyH_ready (rs := [13]) (by kernel_rfl) (by simp) ?_
   refine AllReadyH.cons (by simp only [lkA, lkB, lkC]; rfl) (fun K hK => ?_) AllReadyH.nil
   go_simp
   refine hK.out _ _ B7.out (fun hS => ?_)
   clear hK K hS
   refine wpAnyH_done (by kernel_rfl) ?_ _
   refine NoPanic.normal ?_
   go_wp2
   go_ret
   rw [HE.out]
   simp only
   rw [HI2.out]
   exact ⟨rfl, T7.out, T6.out.told s⟩
 · have HE := hid (HP0.out hc)
   have hb : decide (room < s) = true := by simpa using hc
   have hb2 : decide ((room : Int) < (s : Int)) = true := by simpa using hc
   go_enter Tryz.func95, Tryz.ntmps95
   go_wp2
   refine wp_region_noPanic ?_
   refine wp_region_held_drew (S := PS w g o m t cs L u room w.heap.size #[.int .i64 k, kS d, kS x, .int .i64 tm]) (by kernel_rfl) (P0.out.drew) (fun hS => ?_)
   refine tkH 0 (v := ?_) (by simp only [lkA, lkB]; rfl) (by kernel_rfl) (fun _ _ _ h => h) (by rfl) (by assumption) ?_ ?_
   rotate_left 1
   · intro w hSw
     go_simp
     with_reducible rfl
   simp only [Act.put, siA, siB, siC]
   refine tkH 1 (v := ?_) (by simp only [lkA, lkB, lkC]; rfl) (by kernel_rfl) (fun _ _ _ h => h) (by rfl) (by assumption) ?_ ?_
   rotate_left 1
   · intro w hSw
     go_simp
     with_reducible rfl
   simp only [Act.put, siA, siB, siC]
   refine tkH 2 (v := ?_) (by simp only [lkA, lkB, lkC]; rfl) (by kernel_rfl) (fun _ _ _ h => h) (by rfl) (by assumption) ?_ ?_
   rotate_left 1
   · intro w hSw
     go_simp
     with_reducible rfl
   simp only [Act.put, siA, siB, siC]
   refine tkH 3 (v := ?_) (by simp only [lkA, lkB, lkC]; rfl) (by kernel_rfl) (fun _ _ _ h => h) (by rfl) (by assumption) ?_ ?_
   rotate_left 1
   · intro w hSw
     have hc := hSw.tr.c1
     go_simp
     with_reducible rfl
   simp only [Act.put, siA, siB, siC]
   refine tkH 4 (v := ?_) (by simp only [lkA, lkB, lkC]; rfl) (by kernel_rfl) (fun _ _ _ h => h) (by rfl) (by assumption) ?_ ?_
   rotate_left 1
   · intro w hSw
     go_simp
     with_reducible rfl
   simp only [Act.put, siA, siB, siC]
   refine tkH 5 (v := ?_) (by simp only [lkA, lkB, lkC]; rfl) (by kernel_rfl) (fun _ _ _ h => h) (by rfl) (by assumption) ?_ ?_
   rotate_left 1
   · intro w hSw
     go_simp
     with_reducible rfl
   simp only [Act.put, siA, siB, siC]
   refine tkH 9 (v := ?_) (by simp only [lkA, lkB, lkC]; rfl) (by kernel_rfl) (fun _ _ _ h => h) (by rfl) (by assumption) ?_ ?_
   rotate_left 1
   · intro w hSw
     go_simp
     with_reducible rfl
   simp only [Act.put, siA, siB, siC]
   refine tkH 10 (v := ?_) (by simp only [lkA, lkB, lkC]; rfl) (by kernel_rfl) (fun _ _ _ h => h) (by rfl) (by assumption) ?_ ?_
   rotate_left 1
   · intro w hSw
     have hc := hSw.box.at_ 1
     go_simp
     with_reducible rfl
   simp only [Act.put, siA, siB, siC]
   refine tkH 11 (v := ?_) (by simp only [lkA, lkB, lkC]; rfl) (by kernel_rfl) (fun _ _ _ h => h) (by rfl) (by assumption) ?_ ?_
   rotate_left 1
   · intro w hSw
     go_simp
     with_reducible rfl
   simp only [Act.put, siA, siB, siC]
   refine wpAnyH_ready (rs := [6]) (by kernel_rfl) (by simp) ?_
   refine AllReadyH.cons (by simp only [lkA, lkB, lkC]; rfl) (fun K hK => ?_) AllReadyH.nil
   go_simp
   refine (C1.out).mono ?_
   rintro e1 w1 ⟨rfl, hb1⟩
   have hz1 := P0.out.drew.on hb1
   refine hK.out _ _ hz1 (fun hS => ?_)
   clear hK K hS
   refine tkH 7 (v := ?_) (by simp only [lkA, lkB, lkC]; rfl) (by kernel_rfl) (fun _ _ _ h => h) (by rfl) (by assumption) ?_ ?_
   rotate_left 1
   · intro w hSw
     go_simp
     with_reducible rfl
   simp only [Act.put, siA, siB, siC]
   refine tkH 8 (v := ?_) (by simp only [lkA, lkB, lkC]; rfl) (by kernel_rfl) (fun _ _ _ h => h) (by rfl) (by assumption) ?_ ?_
   rotate_left 1
   · intro w hSw
     go_simp
     with_reducible rfl
   simp only [Act.put, siA, siB, siC]
   refine tkH 12 (v := ?_) (by simp only [lkA, lkB, lkC]; rfl) (by kernel_rfl) (fun _ _ _ h => h) (by rfl) (by assumption) ?_ ?_
   rotate_left 1
   · intro w hSw
     go_simp
     with_reducible rfl
   simp only [Act.put, siA, siB, siC]
   refine tkH 13 (v := ?_) (by simp only [lkA, lkB, lkC]; rfl) (by kernel_rfl) (fun _ _ _ h => h) (by rfl) (by assumption) ?_ ?_
   rotate_left 1
   · intro w hSw
     go_simp
     with_reducible rfl
   simp only [Act.put, siA, siB, siC]
   refine wpAnyH_done (by kernel_rfl) ?_ _
   refine NoPanic.normal ?_
   have P1 := hid hz1
   have hc2 := hz1.tr.c2
   rw [HS.out]
   clear hz1 hb1 hw1 hw2 hw3
   go_wp2
   go_ret
   rw [HE.out]
   simp only
   rw [← HU.out]
   exact ⟨rfl, Turn.of_below P1.out.bl, P1.out.tr.same⟩
end Go.Proofs.YtabidnlbgdecbaaGreatDoor
namespace Go.Proofs.YtabidnlbgdecbaaGreatDoor
open Go.RowKit Go.Maps
theorem Turn.drew {own : Nat → Prop} {w w' : World} (h : Turn own w w') : Turn own w w'.drew := ⟨h.os, h.tape, h.output, h.size, h.block⟩
end Go.Proofs.YtabidnlbgdecbaaGreatDoor
