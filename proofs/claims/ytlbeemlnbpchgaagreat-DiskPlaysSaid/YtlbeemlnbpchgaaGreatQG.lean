/- Several texts in one: WH. Conditions: those said at each. -/
import Derived.Test.YtlbeemlnbpchgaaGreatQF
/- A tree in a world: rename: as the plain model says. Conditions: paths of at most 4000 bytes. -/
namespace Go.Proofs.YtlbeemlnbpchgaaGreat
open Go.RowKit Go.Maps
/-- A row of texts lies there. -/
structure SRow (w : World) (A : Option Addr) (xs : List By) (g : Nat) : Prop where
  src : 0 < xs.length → A = some ⟨g, 0, none⟩
  at_ : ∀ i, i < xs.length → w.cell? ⟨g, i, none⟩ = some (kS (xs.getD i []))
  inside : g < w.heap.size
theorem srow_of_own {w : World} {B : Nat} {v : Value} {xs : List By} (h : w.ownsRow B 9 1 v xs.length (xs.map kS)) (hw : 0 < w.heap.size) : ∃ A c g, v = .slice A xs.length c ∧ SRow w A xs g ∧ (0 < xs.length → B ≤ g) := by
  rcases h.2 with ⟨k1, k2⟩ | ⟨g', c, cur, k1, k2, k3, _, _, _, k6⟩
  · refine ⟨none, 0, 0, by rw [k2]; exact k1, ⟨fun h0 => by omega, fun i hi => by omega, hw⟩, fun h0 => by omega⟩
  · refine ⟨some ⟨g', 0, none⟩, c, g', k1, ⟨fun _ => rfl, fun i hi => ?_, (Array.getElem?_eq_some_iff.1 k3).1⟩, fun _ => k2⟩
    rw [cell_of_row w g' i cur 9 (0, 0) k3]
    have e : cur.toList[i]? = (xs.map kS)[i]? := by rw [← k6, List.getElem?_take, if_pos (by omega)]
    rw [← Array.getElem?_toList, e, List.getElem?_map, List.getElem?_eq_getElem hi]
    simp [List.getD, List.getElem?_eq_getElem hi]
theorem SRow.keep {w w' : World} {A : Option Addr} {xs : List By} {g : Nat} (h : SRow w A xs g) (hg : w'.heap[g]? = w.heap[g]?) (hs : w.heap.size ≤ w'.heap.size) : SRow w' A xs g :=
  ⟨h.src, fun i hi => by rw [← h.at_ i hi]; simp only [World.cell?, hg], Nat.lt_of_lt_of_le h.inside hs⟩
theorem Moves.there {room : Nat} {L : Tr} {a b : By} (h : Moves room L a b) {rs : List By} (hr : rs.Perm (innerL L a)) (k : Nat) (hk : k < rs.length) :
    (Go.Proofs.YtlbeemlnbpchgaaGreat.look (mvs a b (mv1 (del L b) a b) (rs.take k)) (a ++ 47 :: rs.getD k [])).isSome := by
  have hA := h.apart
  have hn := hr.nodup_iff.2 (h.wft.inner_nodup a)
  have e : rs.getD k [] = rs[k] := by simp [List.getD, List.getElem?_eq_getElem hk]
  have hm : (Go.Proofs.YtlbeemlnbpchgaaGreat.look L (a ++ 47 :: rs[k])).isSome := (h.wft.inner (may_ne h.ma) _).1 (hr.mem_iff.1 (List.getElem_mem hk))
  rw [e, look_mvs hA _ _ (hn.sublist (List.take_sublist _ _)), if_neg (fun ⟨r, _, k2⟩ => hA.behind _ _ k2), if_neg, look_mv1 hA.ne, if_neg (fun k2 => by have := congrArg List.length k2; simp at this), if_neg (fun k2 => hA.l _ k2.symm), look_del, if_neg (fun k2 => hA.l _ k2.symm)]
  · exact hm
  · rintro ⟨r, hr2, k2⟩
    have e2 := List.append_cancel_left k2
    injection e2 with _ e2
    rw [← e2] at hr2
    have h9 := hn.sublist (List.take_sublist (k + 1) rs)
    rw [List.take_succ_eq_append_getElem hk, List.nodup_append] at h9
    exact h9.2.2 _ hr2 _ (List.mem_singleton.2 rfl) rfl
theorem mvs_snoc (a b : By) (T : Tr) (rs : List By) (r : By) : mvs a b T (rs ++ [r]) = mv1 (mvs a b T rs) (a ++ 47 :: r) (b ++ 47 :: r) := by
  unfold mvs; rw [List.foldl_append]; rfl
theorem take_getD (rs : List By) (k : Nat) (hk : k < rs.length) : rs.take (k + 1) = rs.take k ++ [rs.getD k []] := by
  rw [List.take_succ_eq_append_getElem hk]
  simp [List.getD, List.getElem?_eq_getElem hk]
theorem far_perm {b : By} {rs ss : List By} (h : rs.Perm ss) : farB b rs = farB b ss := by
  unfold farB
  rw [Bool.eq_iff_iff, List.all_eq_true, List.all_eq_true]
  exact ⟨fun k r hr => k r (h.mem_iff.2 hr), fun k r hr => k r (h.mem_iff.1 hr)⟩
theorem ba_slash (a r : By) : ba a ++ ⟨#[47]⟩ ++ ba r = ba (a ++ 47 :: r) := by
  rw [show (⟨#[47]⟩ : ByteArray) = ba [47] from rfl, ba_append, ba_append]; simp
theorem inner_le (L : Tr) (a : By) : (innerL L a).length ≤ L.length := by
  unfold innerL restsL
  split
  · exact List.length_filterMap_le _ _
  · simp
theorem SRow.turn {w w' : World} {A : Option Addr} {xs : List By} {gr g m : Nat} (h : SRow w A xs gr) (hu : Turn (Two g m) w w') (hne : 0 < xs.length → gr ≠ g ∧ gr ≠ m) : SRow w' A xs gr :=
  ⟨h.src, fun i hi => by
    rw [← h.at_ i hi]
    have := hu.block gr h.inside (fun k => by have k2 := hne (by omega); rcases k with k | k; exact k2.1 k; exact k2.2 k)
    simp only [World.cell?, this], Nat.lt_of_lt_of_le h.inside hu.size⟩
section
variable {w : World} {g o m : Nat} {t : TypeId} {cs : Array Value} {L : Tr} {room : Nat}
set_option maxRecDepth 100000 in
set_option maxHeartbeats 8000000 in
theorem trename_any (h : TreeS w g o m t cs L (usedL L) room) (hW : WFT room L) (hr : room ≤ 1048576) (hG : Gd w) (a b : By) (ha : a.length ≤ 4000) (hb : b.length ≤ 4000) :
    Calls Tryz.prog 69 #[.pointer (some ⟨g, o, none⟩), kS a, kS b] w fun e w' => SP w g o m t cs room (stepE room L (.rename a b)) e w' := by
  have H := hid h
  obtain ⟨ma, HMA⟩ : ∃ x, Hid (mayB a = x) := ⟨_, rfl⟩
  obtain ⟨mb, HMB⟩ : ∃ x, Hid (mayB b = x) := ⟨_, rfl⟩
  obtain ⟨wi, HWI⟩ : ∃ x, Hid (withinB b a = x) := ⟨_, rfl⟩
  obtain ⟨hs, HHS⟩ : ∃ x, Hid (hasB L a = x) := ⟨_, rfl⟩
  obtain ⟨c, HC⟩ : ∃ x, Hid (homeE L b = x) := ⟨_, rfl⟩
  have CA := hid (mayk_any a ma HMA.out w hG ha)
  have CB : Hid (∀ w1, Below w.heap.size w w1 → Calls Tryz.prog 70 #[kS b] w1 fun e w' => e = .returned (.bool mb) ∧ Below w1.heap.size w1 w') := fun w1 k => mayk_any b mb HMB.out w1 (hG.kept k) hb
  have CW : Hid (∀ w1, Below w.heap.size w w1 → Calls Tryz.prog 111 #[kS b, kS a] w1 fun e w' => e = .returned (.bool wi) ∧ Below w1.heap.size w1 w') := fun w1 k => by
    have := within_any (ba b) (ba a) w1 (hG.kept k) (by rw [ba_size]; exact hb) (by rw [ba_size]; exact ha)
    rw [tl_ba, tl_ba, HWI.out] at this; exact this
  have CH : Hid (∀ w1, Below w.heap.size w w1 → Calls Tryz.prog 90 #[.pointer (some ⟨g, o, none⟩), kS a] w1 fun e w' => e = .returned (.bool hs) ∧ Below w1.heap.size w1 w') := fun w1 k => by
    rw [← HHS.out]; exact thas_any (h.on k (Nat.le_refl _)) a ha
  have HG := hid hG
  have HPOS := hid hG.pos
  have HLI : Hid ((innerL L a).length ≤ 100000) := by show _ ≤ _; have := inner_le L a; have := h.len; omega
  have HB1 : Hid (mayB b = true → b.length ≤ 160) := fun k => (may_parts k).1
  have CI : Hid (∀ w1, Below w.heap.size w w1 → Calls Tryz.prog 75 #[.pointer (some ⟨g, o, none⟩), kS a] w1 fun e w' => InPost w1 (innerL L a) e w') := fun w1 k =>
    twithin_any (h.on k (Nat.le_refl _)) (fun q hq => by have := (may_parts (hW.may q hq)).1; omega) a ha
  have za : (ba a).size ≤ 4000 := by rw [ba_size]; exact ha
  have zb : (ba b).size ≤ 4000 := by rw [ba_size]; exact hb
  have HE : Hid (stepE room L (.rename a b) = if ma && mb then (if b = a ∨ wi = true then (2, L) else if hs then (if c = 0 then (if kindP L b = 2 ∨ (kindP L a = 2 ∧ (look L b).isSome) then (12, L) else if farB b (innerL L a) then (0, mvAll L a b (innerL L a)) else (10, L)) else (c, L)) else (5, L)) else (10, L)) := by
    show _ = _; rw [← HMA.out, ← HMB.out, ← HWI.out, ← HHS.out, ← HC.out]; rfl
  cases ma with
  | false =>
    clear h hW hG
    go_enter Tryz.func69, Tryz.ntmps69
    go_wp2_with (go_at_call 70; refine CA.out.mono ?_; rintro e1 w1 ⟨rfl, hb1⟩; have B1 := hid hb1; clear hb1)
    go_ret
    rw [HE.out]
    exact SP.err H.out B1.out 10
  | true =>
  cases mb with
  | false =>
    clear h hW hG
    go_enter Tryz.func69, Tryz.ntmps69
    go_wp2_with fail
    refine CA.out.mono ?_; rintro e1 w1 ⟨rfl, hb1⟩; have B1 := hid hb1; clear hb1
    go_wp2_with (go_at_call 70; refine (CB.out _ B1.out).mono ?_; rintro e2 w2 ⟨rfl, hb2⟩; have B2 := hid (B1.out.trans (hb2.mono B1.out.size)); clear hb2)
    go_ret
    rw [HE.out]
    exact SP.err H.out B2.out 10
  | true =>
  have CN : Hid (∀ w1, Below w.heap.size w w1 → Calls Tryz.prog 108 #[.pointer (some ⟨g, o, none⟩), kS b] w1 fun e w' => e = .returned (.int .i64 c) ∧ Below w1.heap.size w1 w') := fun w1 k => by
    rw [← HC.out]; exact tnoHome_any (h.on k (Nat.le_refl _)) (hG.kept k) b hb HMB.out
  by_cases hba : b = a
  · have HBA := hid hba
    have e2 : ((ba b).toList == (ba a).toList) = true := by simp [hba]
    clear h hW hG hba
    go_enter Tryz.func69, Tryz.ntmps69
    go_wp2_with fail
    refine CA.out.mono ?_; rintro e1 w1 ⟨rfl, hb1⟩; have B1 := hid hb1; clear hb1
    go_wp2_with fail
    refine (CB.out _ B1.out).mono ?_; rintro e2 w2 ⟨rfl, hb2⟩; have B2 := hid (B1.out.trans (hb2.mono B1.out.size)); clear hb2
    go_wp2
    go_ret
    rw [HE.out, if_pos (by trivial), if_pos (.inl HBA.out)]
    exact SP.err H.out B2.out 2
  · have HBA := hid hba
    have q0 : ((ba b).toList == (ba a).toList) = false := by
      simp only [beq_eq_false_iff_ne, ne_eq, toList_tl, tl_ba]; exact hba
    clear hba
    cases wi with
    | true =>
      clear h hW hG
      go_enter Tryz.func69, Tryz.ntmps69
      go_wp2_with fail
      refine CA.out.mono ?_; rintro e1 w1 ⟨rfl, hb1⟩; have B1 := hid hb1; clear hb1
      go_wp2_with fail
      refine (CB.out _ B1.out).mono ?_; rintro e2 w2 ⟨rfl, hb2⟩; have B2 := hid (B1.out.trans (hb2.mono B1.out.size)); clear hb2
      go_wp2_with fail
      refine (CW.out _ B2.out).mono ?_; rintro e3 w3 ⟨rfl, hb3⟩; have B3 := hid (B2.out.trans (hb3.mono B2.out.size)); clear hb3
      go_wp2
      go_ret
      rw [HE.out, if_pos (by trivial), if_pos (.inr (by trivial))]
      exact SP.err H.out B3.out 2
    | false =>
    have HE1 : Hid (stepE room L (.rename a b) = if hs then (if c = 0 then (if kindP L b = 2 ∨ (kindP L a = 2 ∧ (look L b).isSome) then (12, L) else if farB b (innerL L a) then (0, mvAll L a b (innerL L a)) else (10, L)) else (c, L)) else (5, L)) := by
      show _ = _; rw [HE.out, if_pos (by simp), if_neg (fun k => by rcases k with k | k; exact HBA.out k; cases k)]
    cases hs with
    | false =>
      clear h hW hG HE
      go_enter Tryz.func69, Tryz.ntmps69
      go_wp2_with fail
      refine CA.out.mono ?_; rintro e1 w1 ⟨rfl, hb1⟩; have B1 := hid hb1; clear hb1
      go_wp2_with fail
      refine (CB.out _ B1.out).mono ?_; rintro e2 w2 ⟨rfl, hb2⟩; have B2 := hid (B1.out.trans (hb2.mono B1.out.size)); clear hb2
      go_wp2_with fail
      refine (CW.out _ B2.out).mono ?_; rintro e3 w3 ⟨rfl, hb3⟩; have B3 := hid (B2.out.trans (hb3.mono B2.out.size)); clear hb3
      go_wp2_with fail
      refine (CH.out _ B3.out).mono ?_; rintro e4 w4 ⟨rfl, hb4⟩; have B4 := hid (B3.out.trans (hb4.mono B3.out.size)); clear hb4
      go_wp2
      go_ret
      rw [HE1.out, if_neg (by simp)]
      exact SP.err H.out B4.out 5
    | true =>
    by_cases hc : c = 0
    · subst hc
      have HE2 : Hid (stepE room L (.rename a b) = if kindP L b = 2 ∨ (kindP L a = 2 ∧ (look L b).isSome) then (12, L) else if farB b (innerL L a) then (0, mvAll L a b (innerL L a)) else (10, L)) := by
        show _ = _; rw [HE1.out, if_pos rfl, if_pos rfl]
      obtain ⟨d1, HD1⟩ : ∃ x, Hid (isDirB L b = x) := ⟨_, rfl⟩
      obtain ⟨d2, HD2⟩ : ∃ x, Hid (isDirB L a = x) := ⟨_, rfl⟩
      obtain ⟨h2, HH2⟩ : ∃ x, Hid (hasB L b = x) := ⟨_, rfl⟩
      have CD1 : Hid (∀ w1, Below w.heap.size w w1 → Calls Tryz.prog 112 #[.pointer (some ⟨g, o, none⟩), kS b] w1 fun e w' => e = .returned (.bool d1) ∧ w1 = w') := fun w1 k => by
        rw [← HD1.out]; exact tisDir_any (h.on k (Nat.le_refl _)) b hb
      have CD2 : Hid (∀ w1, Below w.heap.size w w1 → Calls Tryz.prog 112 #[.pointer (some ⟨g, o, none⟩), kS a] w1 fun e w' => e = .returned (.bool d2) ∧ w1 = w') := fun w1 k => by
        rw [← HD2.out]; exact tisDir_any (h.on k (Nat.le_refl _)) a ha
      have CH2 : Hid (∀ w1, Below w.heap.size w w1 → Calls Tryz.prog 90 #[.pointer (some ⟨g, o, none⟩), kS b] w1 fun e w' => e = .returned (.bool h2) ∧ Below w1.heap.size w1 w') := fun w1 k => by
        rw [← HH2.out]; exact thas_any (h.on k (Nat.le_refl _)) b hb
      cases d1 with
      | true =>
        have HK : Hid (kindP L b = 2) := by have := HD1.out; unfold isDirB at this; show _ = _; simpa using this
        clear h hW hG HE HE1
        go_enter Tryz.func69, Tryz.ntmps69
        go_wp2_with fail
        refine CA.out.mono ?_; rintro e1 w1 ⟨rfl, hb1⟩; have B1 := hid hb1; clear hb1
        go_wp2_with fail
        refine (CB.out _ B1.out).mono ?_; rintro e2 w2 ⟨rfl, hb2⟩; have B2 := hid (B1.out.trans (hb2.mono B1.out.size)); clear hb2
        go_wp2_with fail
        refine (CW.out _ B2.out).mono ?_; rintro e3 w3 ⟨rfl, hb3⟩; have B3 := hid (B2.out.trans (hb3.mono B2.out.size)); clear hb3
        go_wp2_with fail
        refine (CH.out _ B3.out).mono ?_; rintro e4 w4 ⟨rfl, hb4⟩; have B4 := hid (B3.out.trans (hb4.mono B3.out.size)); clear hb4
        go_wp2_with fail
        refine (CN.out _ B4.out).mono ?_; rintro e5 w5 ⟨rfl, hb5⟩; have B5 := hid (B4.out.trans (hb5.mono B4.out.size)); clear hb5
        go_wp2_with (go_at_call 112; refine (CD1.out _ B5.out).mono ?_; rintro e6 w6 ⟨rfl, rfl⟩)
        go_ret
        rw [HE2.out, if_pos (.inl HK.out)]
        exact SP.err H.out B5.out 12
      | false =>
      have HK : Hid (kindP L b ≠ 2) := by have := HD1.out; unfold isDirB at this; show ¬ _; simpa using this
      cases d2 with
      | true =>
        have HK2 : Hid (kindP L a = 2) := by have := HD2.out; unfold isDirB at this; show _ = _; simpa using this
        cases h2 with
        | true =>
          clear h hW hG HE HE1
          go_enter Tryz.func69, Tryz.ntmps69
          go_wp2_with fail
          refine CA.out.mono ?_; rintro e1 w1 ⟨rfl, hb1⟩; have B1 := hid hb1; clear hb1
          go_wp2_with fail
          refine (CB.out _ B1.out).mono ?_; rintro e2 w2 ⟨rfl, hb2⟩; have B2 := hid (B1.out.trans (hb2.mono B1.out.size)); clear hb2
          go_wp2_with fail
          refine (CW.out _ B2.out).mono ?_; rintro e3 w3 ⟨rfl, hb3⟩; have B3 := hid (B2.out.trans (hb3.mono B2.out.size)); clear hb3
          go_wp2_with fail
          refine (CH.out _ B3.out).mono ?_; rintro e4 w4 ⟨rfl, hb4⟩; have B4 := hid (B3.out.trans (hb4.mono B3.out.size)); clear hb4
          go_wp2_with fail
          refine (CN.out _ B4.out).mono ?_; rintro e5 w5 ⟨rfl, hb5⟩; have B5 := hid (B4.out.trans (hb5.mono B4.out.size)); clear hb5
          go_wp2_with fail
          refine (CD1.out _ B5.out).mono ?_; rintro e6 w6 ⟨rfl, rfl⟩
          go_wp2_with fail
          refine (CD2.out _ B5.out).mono ?_; rintro e6 w6 ⟨rfl, rfl⟩
          go_wp2_with fail
          refine (CH2.out _ B5.out).mono ?_; rintro e7 w7 ⟨rfl, hb7⟩; have B7 := hid (B5.out.trans (hb7.mono B5.out.size)); clear hb7
          go_wp2
          go_ret
          rw [HE2.out, if_pos (.inr ⟨HK2.out, HH2.out⟩)]
          exact SP.err H.out B7.out 12
        | false =>
          have M : Hid (Moves room L a b) := ⟨hW, HMA.out, HMB.out, HBA.out, HWI.out, HHS.out, HC.out, HK.out, fun k => by have := HH2.out; unfold hasB at this; rw [this] at k; cases k.2⟩
          have HND : Hid (¬ (kindP L b = 2 ∨ (kindP L a = 2 ∧ (look L b).isSome))) := fun k => by rcases k with k | k; exact HK.out k; exact M.out.nr k
          clear HE HE1 h hW hG
          go_enter Tryz.func69, Tryz.ntmps69
          go_wp2_with fail
          refine CA.out.mono ?_; rintro e1 w1 ⟨rfl, hb1⟩; have B1 := hid hb1; clear hb1
          go_wp2_with fail
          refine (CB.out _ B1.out).mono ?_; rintro e2 w2 ⟨rfl, hb2⟩; have B2 := hid (B1.out.trans (hb2.mono B1.out.size)); clear hb2
          go_wp2_with fail
          refine (CW.out _ B2.out).mono ?_; rintro e3 w3 ⟨rfl, hb3⟩; have B3 := hid (B2.out.trans (hb3.mono B2.out.size)); clear hb3
          go_wp2_with fail
          refine (CH.out _ B3.out).mono ?_; rintro e4 w4 ⟨rfl, hb4⟩; have B4 := hid (B3.out.trans (hb4.mono B3.out.size)); clear hb4
          go_wp2_with fail
          refine (CN.out _ B4.out).mono ?_; rintro e5 w5 ⟨rfl, hb5⟩; have B5 := hid (B4.out.trans (hb5.mono B4.out.size)); clear hb5
          go_wp2_with fail
          refine (CD1.out _ B5.out).mono ?_; rintro e6 w6 ⟨rfl, rfl⟩
          go_wp2_with fail
          refine (CD2.out _ B5.out).mono ?_; rintro e6 w6 ⟨rfl, rfl⟩
          go_wp2_with fail
          refine (CH2.out _ B5.out).mono ?_; rintro e7 w7 ⟨rfl, hb7⟩; have B7 := hid (B5.out.trans (hb7.mono B5.out.size)); clear hb7
          go_wp2_with fail
          refine (CI.out _ B7.out).mono ?_; rintro e8 w8 ⟨v, xs, rfl, hx, ho, hb8⟩
          have B8 := hid (B7.out.trans (hb8.mono B7.out.size))
          obtain ⟨A, cp, g', rfl, hrow, hge⟩ := srow_of_own ho (Nat.lt_of_lt_of_le HPOS.out (Nat.le_trans B8.out.size (Nat.le_refl _)))
          have HX := hid hx
          have HR := hid hrow
          have HGE : Hid (0 < xs.length → g' ≠ g ∧ g' ≠ m) := fun h0 => by
            have h1 := hge h0; have h2 := B7.out.size; have h3 := H.out.has.inside; have h4 := H.out.mp.inside
            exact ⟨by omega, by omega⟩
          have hxl : xs.length ≤ 100000 := by rw [hx.length_eq]; exact HLI.out
          have HXS : Hid (∀ i, i < xs.length → (look L (a ++ 47 :: xs.getD i [])).isSome) := fun i hi => by
            refine (M.out.wft.inner (may_ne M.out.ma) _).1 (HX.out.mem_iff.1 ?_)
            rw [show xs.getD i [] = xs[i] by simp [List.getD, List.getElem?_eq_getElem hi]]
            exact List.getElem_mem hi
          have HXL : Hid (∀ i, i < xs.length → (xs.getD i []).length ≤ 160) := fun i hi => by
            have h1 := (may_parts (M.out.wft.may _ (HXS.out i hi))).1
            rw [List.length_append, List.length_cons] at h1; omega
          clear hx ho hb8 hrow hge
          obtain ⟨n, HN⟩ : ∃ n, Hid (xs.length = n) := ⟨_, rfl⟩
          rw [HN.out]
          have hnl : n ≤ 100000 := by have := HN.out; omega
          clear hxl
          go_wp2
          go_loopw [56] (fun i wr => ∃ k : Nat, i = .int .i64 (k : Int) ∧ k ≤ n ∧ Hid (∀ j, j < k → mayB (b ++ 47 :: xs.getD j []) = true) ∧ Hid (Below w.heap.size w wr) ∧ Hid (SRow wr A xs g'))
            (fun i _ => n - (intOf i).toNat)
          case atStart => exact ⟨0, rfl, Nat.zero_le _, fun j hj => by omega, B8, HR⟩
          case round =>
            obtain ⟨k, rfl, hk, HF, BW, RW⟩ := hrel
            by_cases hlt : k < n
            · have hA : A = some ⟨g', 0, none⟩ := RW.out.src (by have := HN.out; omega)
              subst hA
              have hc := RW.out.at_ k (by have := HN.out; omega)
              have hz0 := HXL.out k (by have := HN.out; omega)
              obtain ⟨r, HRR⟩ : ∃ r, Hid (xs.getD k [] = r) := ⟨_, rfl⟩
              rw [HRR.out] at hc hz0
              have hz1 : (ba r).size ≤ 160 := by rw [ba_size]; exact hz0
              have HZ0 := hid hz0
              clear hz0
              cases hm : mayB (b ++ 47 :: r) with
              | false =>
                have CM := hid (mayk_any (b ++ 47 :: r) false hm wr (HG.out.kept BW.out) (by rw [List.length_append, List.length_cons]; have := HZ0.out; have := HB1.out M.out.mb; omega))
                have HFF : Hid (farB b (innerL L a) = false) := by
                  show _ = _
                  rw [← far_perm HX.out]
                  unfold farB
                  rw [List.all_eq_false]
                  refine ⟨r, ?_, by rw [hm]; decide⟩
                  rw [← HRR.out, show xs.getD k [] = xs[k]'(by have := HN.out; omega) by simp [List.getD, List.getElem?_eq_getElem (show k < xs.length by have := HN.out; omega)]]
                  exact List.getElem_mem _
                clear hm
                go_wp2_with fail
                rw [ba_slash]
                refine CM.out.mono ?_; rintro e9 w9 ⟨rfl, hb9⟩; have B9 := hid (BW.out.trans (hb9.mono BW.out.size)); clear hb9
                go_wp2
                go_ret
                rw [HE2.out, if_neg HND.out, if_neg (by rw [HFF.out]; decide)]
                exact SP.err H.out B9.out 10
              | true =>
                have CM := hid (mayk_any (b ++ 47 :: r) true hm wr (HG.out.kept BW.out) (by rw [List.length_append, List.length_cons]; have := HZ0.out; have := HB1.out M.out.mb; omega))
                have HM2 := hid hm
                clear hm
                go_wp2_with fail
                rw [ba_slash]
                refine CM.out.mono ?_; rintro e9 w9 ⟨rfl, hb9⟩; have B9 := hid hb9; clear hb9
                go_wp2
                go_roundw
                case rel =>
                  refine ⟨k + 1, by go_num, by omega, fun j hj => ?_, BW.out.trans (B9.out.mono BW.out.size), RW.out.keep (B9.out.block _ RW.out.inside) B9.out.size⟩
                  rcases Nat.lt_or_ge j k with h1 | h1
                  · exact HF.out j h1
                  · obtain rfl : j = k := by omega
                    rw [HRR.out]; exact HM2.out
                case measure => simp [intOf]; omega
            · have HKN : Hid (k = n) := by show _ = _; omega
              have HFT : Hid (farB b (innerL L a) = true) := by
                show _ = _
                rw [← far_perm HX.out]
                unfold farB
                rw [List.all_eq_true]
                intro r hr
                obtain ⟨j, hj, rfl⟩ := List.getElem_of_mem hr
                have := HF.out j (by have := HN.out; have := HKN.out; omega)
                rwa [show xs.getD j [] = xs[j] by simp [List.getD, List.getElem?_eq_getElem hj]] at this
              have CDR := hid (tdrop_any (H.out.on BW.out (Nat.le_refl _)) rfl (by have := M.out.wft.used; omega) b hb)
              go_wp2_with fail
              refine CDR.out.mono ?_; rintro e9 w9 ⟨rfl, hu9, ht9⟩
              have U9 := hid hu9
              have T9 := hid ht9
              have CMV := hid (tmove_any T9.out a b ha hb M.out.apart.ne (by rw [look_del, if_neg M.out.apart.ne]; exact M.out.src))
              clear hu9 ht9
              go_wp2_with fail
              refine CMV.out.mono ?_; rintro e10 w10 ⟨rfl, hu10, ht10⟩
              have UX := hid (((Turn.of_below BW.out).then U9.out).then hu10)
              have TX := hid ht10
              have RX : Hid (SRow w10 A xs g') := (RW.out.turn U9.out HGE.out).turn hu10 HGE.out
              clear hu10 ht10 hlt hk
              go_wp2
              go_loopw [76] (fun i wr => ∃ k : Nat, i = .int .i64 (k : Int) ∧ k ≤ n ∧ Hid (Turn (Two g m) w wr) ∧ Hid (TreeS wr g o m t (cs.setIfInBounds (o + 1) (.int .i64 ((usedL (del L b) : Nat) : Int))) (mvs a b (mv1 (del L b) a b) (xs.take k)) (usedL (del L b)) room) ∧ Hid (SRow wr A xs g'))
                (fun i _ => n - (intOf i).toNat)
              case atStart => exact ⟨0, rfl, Nat.zero_le _, UX, TX, RX⟩
              case round =>
                obtain ⟨k2, rfl, hk2, UW, TW, RW2⟩ := hrel
                by_cases hlt2 : k2 < n
                · have hA : A = some ⟨g', 0, none⟩ := RW2.out.src (by have := HN.out; omega)
                  subst hA
                  have hc := RW2.out.at_ k2 (by have := HN.out; omega)
                  have hz0 := HXL.out k2 (by have := HN.out; omega)
                  have hz5 := (may_parts (M.out.wft.may _ (HXS.out k2 (by have := HN.out; omega)))).1
                  have hth := M.out.there HX.out k2 (by have := HN.out; omega)
                  have htk := take_getD xs k2 (by have := HN.out; omega)
                  obtain ⟨r, HRR⟩ : ∃ r, Hid (xs.getD k2 [] = r) := ⟨_, rfl⟩
                  rw [HRR.out] at hc hz0 hz5 hth htk
                  have hz1 : (ba r).size ≤ 160 := by rw [ba_size]; exact hz0
                  have CM2 := hid (tmove_any TW.out (a ++ 47 :: r) (b ++ 47 :: r) (by omega) (by rw [List.length_append, List.length_cons]; have := HB1.out M.out.mb; omega) (M.out.apart.behind r r) hth)
                  have HTK := hid htk
                  clear hz0 hz5 hth htk
                  go_wp2_with fail
                  rw [ba_slash, ba_slash]
                  refine CM2.out.mono ?_; rintro e11 w11 ⟨rfl, hu11, ht11⟩
                  have U11 := hid hu11
                  have T11 := hid ht11
                  clear hu11 ht11
                  go_wp2
                  go_roundw
                  case rel =>
                    refine ⟨k2 + 1, by go_num, by omega, UW.out.then U11.out, ?_, RW2.out.turn U11.out HGE.out⟩
                    show TreeS _ _ _ _ _ _ _ _ _
                    rw [HTK.out, mvs_snoc]; exact T11.out
                  case measure => simp [intOf]; omega
                · have HK2N : Hid (k2 = n) := by show _ = _; omega
                  have HTA : Hid (xs.take k2 = xs) := by show _ = _; rw [HK2N.out, ← HN.out, List.take_length]
                  go_wp2
                  go_ret
                  rw [HE2.out, if_neg HND.out, if_pos HFT.out]
                  have h1 := M.out.used (List.Perm.refl _)
                  have h2 := used_del M.out.wft.srt b
                  have h3 : usedL (del L b) = usedL (mvAll L a b (innerL L a)) := by omega
                  have h4 := TW.out
                  rw [HTA.out, h3] at h4
                  have h5 : mvs a b (mv1 (del L b) a b) xs = mvAll L a b (innerL L a) := M.out.perm HX.out
                  rw [h5] at h4
                  exact ⟨rfl, UW.out, h4⟩
      | false =>
        have M : Hid (Moves room L a b) := ⟨hW, HMA.out, HMB.out, HBA.out, HWI.out, HHS.out, HC.out, HK.out, fun k => by have := HD2.out; unfold isDirB at this; simp at this; exact this k.1⟩
        have HND : Hid (¬ (kindP L b = 2 ∨ (kindP L a = 2 ∧ (look L b).isSome))) := fun k => by rcases k with k | k; exact HK.out k; exact M.out.nr k
        clear HE HE1 h hW hG
        go_enter Tryz.func69, Tryz.ntmps69
        go_wp2_with fail
        refine CA.out.mono ?_; rintro e1 w1 ⟨rfl, hb1⟩; have B1 := hid hb1; clear hb1
        go_wp2_with fail
        refine (CB.out _ B1.out).mono ?_; rintro e2 w2 ⟨rfl, hb2⟩; have B2 := hid (B1.out.trans (hb2.mono B1.out.size)); clear hb2
        go_wp2_with fail
        refine (CW.out _ B2.out).mono ?_; rintro e3 w3 ⟨rfl, hb3⟩; have B3 := hid (B2.out.trans (hb3.mono B2.out.size)); clear hb3
        go_wp2_with fail
        refine (CH.out _ B3.out).mono ?_; rintro e4 w4 ⟨rfl, hb4⟩; have B4 := hid (B3.out.trans (hb4.mono B3.out.size)); clear hb4
        go_wp2_with fail
        refine (CN.out _ B4.out).mono ?_; rintro e5 w5 ⟨rfl, hb5⟩; have B5 := hid (B4.out.trans (hb5.mono B4.out.size)); clear hb5
        go_wp2_with fail
        refine (CD1.out _ B5.out).mono ?_; rintro e6 w6 ⟨rfl, rfl⟩
        go_wp2_with fail
        refine (CD2.out _ B5.out).mono ?_; rintro e6 w6 ⟨rfl, rfl⟩
        go_wp2_with fail
        refine (CI.out _ B5.out).mono ?_; rintro e8 w8 ⟨v, xs, rfl, hx, ho, hb8⟩
        have B8 := hid (B5.out.trans (hb8.mono B5.out.size))
        obtain ⟨A, cp, g', rfl, hrow, hge⟩ := srow_of_own ho (Nat.lt_of_lt_of_le HPOS.out (Nat.le_trans B8.out.size (Nat.le_refl _)))
        have HX := hid hx
        have HR := hid hrow
        have HGE : Hid (0 < xs.length → g' ≠ g ∧ g' ≠ m) := fun h0 => by
          have h1 := hge h0; have h2 := B5.out.size; have h3 := H.out.has.inside; have h4 := H.out.mp.inside
          exact ⟨by omega, by omega⟩
        have hxl : xs.length ≤ 100000 := by rw [hx.length_eq]; exact HLI.out
        have HXS : Hid (∀ i, i < xs.length → (look L (a ++ 47 :: xs.getD i [])).isSome) := fun i hi => by
          refine (M.out.wft.inner (may_ne M.out.ma) _).1 (HX.out.mem_iff.1 ?_)
          rw [show xs.getD i [] = xs[i] by simp [List.getD, List.getElem?_eq_getElem hi]]
          exact List.getElem_mem hi
        have HXL : Hid (∀ i, i < xs.length → (xs.getD i []).length ≤ 160) := fun i hi => by
          have h1 := (may_parts (M.out.wft.may _ (HXS.out i hi))).1
          rw [List.length_append, List.length_cons] at h1; omega
        clear hx ho hb8 hrow hge
        obtain ⟨n, HN⟩ : ∃ n, Hid (xs.length = n) := ⟨_, rfl⟩
        rw [HN.out]
        have hnl : n ≤ 100000 := by have := HN.out; omega
        clear hxl
        go_wp2
        go_loopw [56] (fun i wr => ∃ k : Nat, i = .int .i64 (k : Int) ∧ k ≤ n ∧ Hid (∀ j, j < k → mayB (b ++ 47 :: xs.getD j []) = true) ∧ Hid (Below w.heap.size w wr) ∧ Hid (SRow wr A xs g'))
          (fun i _ => n - (intOf i).toNat)
        case atStart => exact ⟨0, rfl, Nat.zero_le _, fun j hj => by omega, B8, HR⟩
        case round =>
          obtain ⟨k, rfl, hk, HF, BW, RW⟩ := hrel
          by_cases hlt : k < n
          · have hA : A = some ⟨g', 0, none⟩ := RW.out.src (by have := HN.out; omega)
            subst hA
            have hc := RW.out.at_ k (by have := HN.out; omega)
            have hz0 := HXL.out k (by have := HN.out; omega)
            obtain ⟨r, HRR⟩ : ∃ r, Hid (xs.getD k [] = r) := ⟨_, rfl⟩
            rw [HRR.out] at hc hz0
            have hz1 : (ba r).size ≤ 160 := by rw [ba_size]; exact hz0
            have HZ0 := hid hz0
            clear hz0
            cases hm : mayB (b ++ 47 :: r) with
            | false =>
              have CM := hid (mayk_any (b ++ 47 :: r) false hm wr (HG.out.kept BW.out) (by rw [List.length_append, List.length_cons]; have := HZ0.out; have := HB1.out M.out.mb; omega))
              have HFF : Hid (farB b (innerL L a) = false) := by
                show _ = _
                rw [← far_perm HX.out]
                unfold farB
                rw [List.all_eq_false]
                refine ⟨r, ?_, by rw [hm]; decide⟩
                rw [← HRR.out, show xs.getD k [] = xs[k]'(by have := HN.out; omega) by simp [List.getD, List.getElem?_eq_getElem (show k < xs.length by have := HN.out; omega)]]
                exact List.getElem_mem _
              clear hm
              go_wp2_with fail
              rw [ba_slash]
              refine CM.out.mono ?_; rintro e9 w9 ⟨rfl, hb9⟩; have B9 := hid (BW.out.trans (hb9.mono BW.out.size)); clear hb9
              go_wp2
              go_ret
              rw [HE2.out, if_neg HND.out, if_neg (by rw [HFF.out]; decide)]
              exact SP.err H.out B9.out 10
            | true =>
              have CM := hid (mayk_any (b ++ 47 :: r) true hm wr (HG.out.kept BW.out) (by rw [List.length_append, List.length_cons]; have := HZ0.out; have := HB1.out M.out.mb; omega))
              have HM2 := hid hm
              clear hm
              go_wp2_with fail
              rw [ba_slash]
              refine CM.out.mono ?_; rintro e9 w9 ⟨rfl, hb9⟩; have B9 := hid hb9; clear hb9
              go_wp2
              go_roundw
              case rel =>
                refine ⟨k + 1, by go_num, by omega, fun j hj => ?_, BW.out.trans (B9.out.mono BW.out.size), RW.out.keep (B9.out.block _ RW.out.inside) B9.out.size⟩
                rcases Nat.lt_or_ge j k with h1 | h1
                · exact HF.out j h1
                · obtain rfl : j = k := by omega
                  rw [HRR.out]; exact HM2.out
              case measure => simp [intOf]; omega
          · have HKN : Hid (k = n) := by show _ = _; omega
            have HFT : Hid (farB b (innerL L a) = true) := by
              show _ = _
              rw [← far_perm HX.out]
              unfold farB
              rw [List.all_eq_true]
              intro r hr
              obtain ⟨j, hj, rfl⟩ := List.getElem_of_mem hr
              have := HF.out j (by have := HN.out; have := HKN.out; omega)
              rwa [show xs.getD j [] = xs[j] by simp [List.getD, List.getElem?_eq_getElem hj]] at this
            have CDR := hid (tdrop_any (H.out.on BW.out (Nat.le_refl _)) rfl (by have := M.out.wft.used; omega) b hb)
            go_wp2_with fail
            refine CDR.out.mono ?_; rintro e9 w9 ⟨rfl, hu9, ht9⟩
            have U9 := hid hu9
            have T9 := hid ht9
            have CMV := hid (tmove_any T9.out a b ha hb M.out.apart.ne (by rw [look_del, if_neg M.out.apart.ne]; exact M.out.src))
            clear hu9 ht9
            go_wp2_with fail
            refine CMV.out.mono ?_; rintro e10 w10 ⟨rfl, hu10, ht10⟩
            have UX := hid (((Turn.of_below BW.out).then U9.out).then hu10)
            have TX := hid ht10
            have RX : Hid (SRow w10 A xs g') := (RW.out.turn U9.out HGE.out).turn hu10 HGE.out
            clear hu10 ht10 hlt hk
            go_wp2
            go_loopw [76] (fun i wr => ∃ k : Nat, i = .int .i64 (k : Int) ∧ k ≤ n ∧ Hid (Turn (Two g m) w wr) ∧ Hid (TreeS wr g o m t (cs.setIfInBounds (o + 1) (.int .i64 ((usedL (del L b) : Nat) : Int))) (mvs a b (mv1 (del L b) a b) (xs.take k)) (usedL (del L b)) room) ∧ Hid (SRow wr A xs g'))
              (fun i _ => n - (intOf i).toNat)
            case atStart => exact ⟨0, rfl, Nat.zero_le _, UX, TX, RX⟩
            case round =>
              obtain ⟨k2, rfl, hk2, UW, TW, RW2⟩ := hrel
              by_cases hlt2 : k2 < n
              · have hA : A = some ⟨g', 0, none⟩ := RW2.out.src (by have := HN.out; omega)
                subst hA
                have hc := RW2.out.at_ k2 (by have := HN.out; omega)
                have hz0 := HXL.out k2 (by have := HN.out; omega)
                have hz5 := (may_parts (M.out.wft.may _ (HXS.out k2 (by have := HN.out; omega)))).1
                have hth := M.out.there HX.out k2 (by have := HN.out; omega)
                have htk := take_getD xs k2 (by have := HN.out; omega)
                obtain ⟨r, HRR⟩ : ∃ r, Hid (xs.getD k2 [] = r) := ⟨_, rfl⟩
                rw [HRR.out] at hc hz0 hz5 hth htk
                have hz1 : (ba r).size ≤ 160 := by rw [ba_size]; exact hz0
                have CM2 := hid (tmove_any TW.out (a ++ 47 :: r) (b ++ 47 :: r) (by omega) (by rw [List.length_append, List.length_cons]; have := HB1.out M.out.mb; omega) (M.out.apart.behind r r) hth)
                have HTK := hid htk
                clear hz0 hz5 hth htk
                go_wp2_with fail
                rw [ba_slash, ba_slash]
                refine CM2.out.mono ?_; rintro e11 w11 ⟨rfl, hu11, ht11⟩
                have U11 := hid hu11
                have T11 := hid ht11
                clear hu11 ht11
                go_wp2
                go_roundw
                case rel =>
                  refine ⟨k2 + 1, by go_num, by omega, UW.out.then U11.out, ?_, RW2.out.turn U11.out HGE.out⟩
                  show TreeS _ _ _ _ _ _ _ _ _
                  rw [HTK.out, mvs_snoc]; exact T11.out
                case measure => simp [intOf]; omega
              · have HK2N : Hid (k2 = n) := by show _ = _; omega
                have HTA : Hid (xs.take k2 = xs) := by show _ = _; rw [HK2N.out, ← HN.out, List.take_length]
                go_wp2
                go_ret
                rw [HE2.out, if_neg HND.out, if_pos HFT.out]
                have h1 := M.out.used (List.Perm.refl _)
                have h2 := used_del M.out.wft.srt b
                have h3 : usedL (del L b) = usedL (mvAll L a b (innerL L a)) := by omega
                have h4 := TW.out
                rw [HTA.out, h3] at h4
                have h5 : mvs a b (mv1 (del L b) a b) xs = mvAll L a b (innerL L a) := M.out.perm HX.out
                rw [h5] at h4
                exact ⟨rfl, UW.out, h4⟩
    · have q1 : (c == 0) = false := by simpa using hc
      have q2 : (c != 0) = true := by simpa using hc
      have HCN := hid hc
      clear hc h hW hG HE
      go_enter Tryz.func69, Tryz.ntmps69
      go_wp2_with fail
      refine CA.out.mono ?_; rintro e1 w1 ⟨rfl, hb1⟩; have B1 := hid hb1; clear hb1
      go_wp2_with fail
      refine (CB.out _ B1.out).mono ?_; rintro e2 w2 ⟨rfl, hb2⟩; have B2 := hid (B1.out.trans (hb2.mono B1.out.size)); clear hb2
      go_wp2_with fail
      refine (CW.out _ B2.out).mono ?_; rintro e3 w3 ⟨rfl, hb3⟩; have B3 := hid (B2.out.trans (hb3.mono B2.out.size)); clear hb3
      go_wp2_with fail
      refine (CH.out _ B3.out).mono ?_; rintro e4 w4 ⟨rfl, hb4⟩; have B4 := hid (B3.out.trans (hb4.mono B3.out.size)); clear hb4
      go_wp2_with fail
      refine (CN.out _ B4.out).mono ?_; rintro e5 w5 ⟨rfl, hb5⟩; have B5 := hid (B4.out.trans (hb5.mono B4.out.size)); clear hb5
      go_wp2
      go_ret
      rw [HE1.out, if_pos (by trivial), if_neg HCN.out]
      exact SP.err H.out B5.out c
end
end Go.Proofs.YtlbeemlnbpchgaaGreat
