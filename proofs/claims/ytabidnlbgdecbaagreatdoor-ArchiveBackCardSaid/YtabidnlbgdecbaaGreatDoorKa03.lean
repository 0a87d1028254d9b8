/- Several texts in one. Conditions: those said at each. -/
import Derived.Test.YtabidnlbgdecbaaGreatDoorKa00
import Derived.Maps.AppendAt
import Derived.Laws.AppendOwn
import Derived.Test.YtabidnlbgdecbaaGreatDoorKa02
set_option linter.unusedSimpArgs false
set_option linter.unusedVariables false
set_option maxRecDepth 100000
namespace Go.Proofs.YtabidnlbgdecbaaGreatDoor
open Go.RowKit Go.Maps
theorem infoStr : (Tryz.prog.info? 9).map (fun i => (i.zero, i.size, i.bytes)) = some (some (.string ⟨#[]⟩), 1, 16) := by kernel_rfl
theorem kS_one (b : By) : ∀ u ∈ [kS b], u.oneCell' = true := by
 intro u hu
 rw [List.mem_singleton] at hu
 subst hu; rfl
theorem ba_append (a b : By) : ba a ++ ba b = ba (a ++ b) := by
 apply ByteArray.ext
 simp [ba]
theorem cutPrefix_any (s b : By) (w : World) : Calls Tryz.prog 113 #[kS s, kS b] w fun e w' => e = .returned (.tuple #[kS (if b.isPrefixOf s then s.drop b.length else s), .bool (b.isPrefixOf s)]) ∧ w = w' :=
 (Tryz.strings_CutPrefix (ba s) (ba b) w).mono fun _ _ ⟨h1, h2⟩ => ⟨h1, h2.symm⟩
def restsOf (ss : List By) (b : By) : List By := ss.filterMap fun q => if b.isPrefixOf q then some (q.drop b.length) else none
theorem restsOf_snoc (ss : List By) (x b : By) : restsOf (ss ++ [x]) b = restsOf ss b ++ (if b.isPrefixOf x then [x.drop b.length] else []) := by
 unfold restsOf
 rw [List.filterMap_append]
 congr 1
 cases h : b.isPrefixOf x
 · simp only [List.filterMap_cons, List.filterMap_nil, h]; rfl
 · simp only [List.filterMap_cons, List.filterMap_nil, h]; rfl
theorem restsOf_le (ss : List By) (b : By) : (restsOf ss b).length ≤ ss.length := List.length_filterMap_le _ _
theorem rests_eq (L : Tr) (b : By) : restsL L b = restsOf (L.map (·.1)) b := by
 unfold restsL restsOf
 rw [List.filterMap_map]; rfl
theorem keys_perm {D : DataW Value} {L : Tr} (hs : Srt L) {left : Lit → Bool} {ss : List By} (hC : Collected D left ss) (hl : ∀ kl, left kl = false) (hr : ∀ p : By, p.length ≤ maxLen → has D (.string p) = (look L p).isSome)
 (hle : ∀ x, has D (.string x) = true → x.length ≤ maxLen) (hL : ∀ q, (look L q).isSome → q.length ≤ maxLen) : ss.Perm (L.map (·.1)) := by
 refine (List.perm_ext_iff_of_nodup hC.1 ?_).2 fun x => ?_
 · exact List.pairwise_map.2 (hs.imp fun h => cmpL_ne h)
 · rw [hC.2 x, hl]
   have hmem : x ∈ L.map (·.1) ↔ (look L x).isSome := by
    rw [List.mem_map]
    constructor
    · rintro ⟨y, hy, rfl⟩
      cases hq : look L y.1 with
      | none => exact absurd rfl (look_none.1 hq y hy)
      | some _ => rfl
    · intro h
      obtain ⟨n, hn⟩ := Option.isSome_iff_exists.1 h
      exact ⟨_, look_mem hn, rfl⟩
   rw [hmem]
   constructor
   · rintro ⟨h1, _⟩
     rw [← hr x (hle x h1)]; exact h1
   · intro h
     exact ⟨by rw [hr x (hL x h)]; exact h, rfl⟩
theorem has_le {w : World} {b n : Nat} {D : DataW Value} (h : w.ownsMap Tryz.prog 9 Rv b n D) (x : By) (hx : has D (.string x) = true) : x.length ≤ maxLen := by
 obtain ⟨es, rfl, hko⟩ := h.keysOf
 rw [has_eq, List.any_eq_true] at hx
 obtain ⟨p, hp, hs⟩ := hx
 obtain ⟨v, hv⟩ := hko p hp
 obtain ⟨y, _, hy, hl⟩ := Maps.keyOf_str Tryz.underlying9 hv
 rw [hy] at hs
 have : y = x := by simpa [Lit.sameKey] using hs
 rw [← this]; exact hl
def InPost (w : World) (l : List By) (e : Ending) (w' : World) : Prop := ∃ (v : Value) (xs : List By), e = .returned v ∧ xs.Perm l ∧ w'.ownsRow w.heap.size 9 1 v xs.length (xs.map kS) ∧ Below w.heap.size w w'
theorem rv_inv (v : Value) (y : DataW Value × List MemPlace) (_ : Rv v = some y) : ∃ c, v = id c := ⟨v, rfl⟩
set_option maxHeartbeats 4000000 in
theorem twithin_any {w : World} {g o m : Nat} {t : TypeId} {cs : Array Value} {L : Tr} {u room : Nat} (h : TreeS w g o m t cs L u room) (hL : ∀ q, (look L q).isSome → q.length ≤ 4000) (p : By) (hp : p.length ≤ 4000) :
 Calls Tryz.prog 71 #[.pointer (some ⟨g, o, none⟩), kS p] w fun e w' => InPost w (innerL L p) e w' := by
 obtain ⟨i0, hi, hz0, hz1, hz2⟩ := info_parts infoStr
 obtain ⟨a, HA⟩ : ∃ a, Hid (isDirB L p = a) := ⟨_, rfl⟩
 have C1 : Hid (Calls Tryz.prog 110 #[.pointer (some ⟨g, o, none⟩), kS p] w fun e w' => e = .returned (.bool a) ∧ w = w') := by rw [← HA.out]; exact tisDir_any h p hp
 have HI : Hid (innerL L p = if a then restsL L (beginL p) else []) := by
  show _ = _
  rw [← HA.out]; unfold innerL isDirB
  by_cases k : kindP L p = 2 <;> simp [k]
 have c0 := h.c0
 obtain ⟨D, hown, hsz, hrd⟩ := h.mp.own
 have HLE := hid (has_le hown)
 have HK := hid (fun ss left (hC : Collected D left ss) (hl : ∀ kl, left kl = false) => keys_perm h.srt hC hl (fun p hp => (hrd p hp).1) HLE.out (fun q hq => maxLen_le (hL q hq)))
 have hlen := h.len
 have HSZ := hid hsz
 have HM := hid h.mp.inside
 clear h hsz hrd hL
 cases a with
 | false =>
  go_enter Tryz.func71, Tryz.ntmps71
  go_wp2_with (go_at_call 110; refine C1.out.mono ?_; rintro e1 w1 ⟨rfl, rfl⟩)
  go_ret
  exact ⟨_, [], rfl, by rw [HI.out]; exact List.Perm.refl _, World.ownsRow_nil _ _ _ _, Below.refl _ _⟩
 | true =>
  by_cases hp0 : p = []
  · have e1 : (ba p).toList = [] := by rw [toList_tl, tl_ba, hp0]
    have e2 : (ba p).toList.isEmpty = true := by simpa using e1
    have z1 : (ba p).size ≤ 4000 := by rw [ba_size]; exact hp
    have HBG : Hid (beginL p = []) := by show _ = _; unfold beginL; rw [if_pos hp0]
    clear hp0
    go_enter Tryz.func71, Tryz.ntmps71
    go_wp2_with (first
     | (go_at_call 110; refine C1.out.mono ?_; rintro e1 w1 ⟨rfl, rfl⟩)
     | (at_range; refine wpList_range_own _ rfl _ 83 rfl 9 44 str_keyed Tryz.underlying83 _ m L.length _ rfl hown ?_; intro w0 hrg0 hg0 hs0)
     | go_in)
    clear hs0 hown
    go_frame
    go_loopw [6] (fun v wr => ∃ (left : Lit → Bool) (cnt : Nat) (ss : List By), Hid (wr.ranges Tryz.prog 9 Rv m w.heap.size L.length D left cnt) ∧ Hid (ss.length + cnt ≤ L.length) ∧
     Hid (wr.ownsRow w.heap.size 9 1 v (restsOf ss []).length ((restsOf ss []).map kS)) ∧ Hid (Collected D left ss) ∧ Hid (Below w.heap.size w wr))
     (fun _ wr => wr.rangeLeft m w.heap.size)
    case atStart => exact ⟨_, _, [], hrg0, by show _ ≤ _; rw [HSZ.out]; simp, World.ownsRow_nil _ _ _ _, Collected.start D, (Below.refl _ _).grown hg0 (Nat.le_refl _) (fun j hj => by cases hj)⟩
    case round =>
     obtain ⟨left, cnt, ss, hrg, hcs, hrow, hC, hnx⟩ := hrel
     clear hg0 hrg0
     go_wp2_with (first
      | (at_next; refine wpList_next_ranges _ rfl _ rfl 9 str_keyed Rv kS id (fun key kl hk => by obtain ⟨x, hx, _⟩ := Maps.keyOf_str Tryz.underlying9 hk; exact ⟨x, hx⟩) rv_inv m w.heap.size L.length _ _ _ rfl hrg.out ?_ ?_)
      | go_in)
     · intro hc0 hl0
       have HP := hid (HK.out ss left hC.out hl0)
       clear hl0 hc0
       go_wp2
       go_ret
       exact ⟨_, _, rfl, by rw [HI.out, if_pos trivial, HBG.out, rests_eq]; exact HP.out.filterMap _, hrow.out, hnx.out⟩
     · intro x c kl yd yp w2 cnt2 hkey hlk hv hat hrg2 hlt hg2 hs2 hen
       obtain ⟨x', ex, rfl, _⟩ := Maps.keyOf_str Tryz.underlying9 hkey
       obtain rfl : x = x' := encStr_inj ex
       have hrow2 := hid (hrow.out.kept hg2 (by
        rcases hrow.out.2 with ⟨k1, _⟩ | ⟨g', _, cur, k1, _, k3, _⟩
        · rw [k1]; exact .inl rfl
        · refine .inr (fun e => ?_)
          rw [k1] at e
          injection e with e
          have e : g' = w.heap.size := e
          obtain ⟨_, _, _, _, _, _, _, _, _, k5, _⟩ := hrg.out
          rw [← e, k3] at k5
          cases k5))
       have hnx2 := hid (hnx.out.grown hg2 hnx.out.size (fun j hj => by cases hj; exact Nat.le_refl _))
       have HR2 := hid hrg2
       have HC2 := hid (hC.out.step hlk hat)
       have HLT := hid hlt
       have HSB := hid (restsOf_le ss [])
       have HSN := hid (restsOf_snoc ss x [])
       have hm2 := HM.out
       clear hs2 hkey hlk hv hat hrg2 hg2 hlt ex
       cases hpx : ([] : By).isPrefixOf x with
       | false =>
        have HPX := hid hpx
        have CP : Hid (∀ W, Calls Tryz.prog 113 #[kS x, kS []] W fun e w' => e = .returned (.tuple #[kS x, .bool false]) ∧ W = w') := by
         intro W; have := cutPrefix_any x [] W; rw [hpx] at this; exact this
        clear hpx
        go_wp2_with (go_at_call 113; refine (CP.out _).mono ?_; rintro e2 w3 ⟨rfl, rfl⟩)
        go_roundw
        case rel =>
         refine ⟨_, cnt2, ss ++ [x], HR2, ?_, ?_, HC2, hnx2⟩
         · show _ ≤ _; have h1 := hcs.out; have h2 := HLT.out; simp; omega
         · show World.ownsRow _ _ _ _ _ _ _
           have e : restsOf (ss ++ [x]) [] = restsOf ss [] := by rw [HSN.out, HPX.out]; simp
           rw [e]; exact hrow2.out
        case measure => rw [HR2.out.left_eq, hrg.out.left_eq]; exact HLT.out
       | true =>
        have HPX := hid hpx
        have CP : Hid (∀ W, Calls Tryz.prog 113 #[kS x, kS []] W fun e w' => e = .returned (.tuple #[kS (x.drop (List.length ([] : By))), .bool true]) ∧ W = w') := by
         intro W; have := cutPrefix_any x [] W; rw [hpx] at this; exact this
        clear hpx
        have N2 : Hid ((restsOf ss []).length + 1 ≤ maxLen) := by show _ ≤ _; have := HSB.out; have := hcs.out; unfold maxLen; omega
        have N3 : Hid (((restsOf ss []).length + 1) * 16 ≤ 140737488355328) := by show _ ≤ _; have := HSB.out; have := hcs.out; omega
        have N4 : Hid (∀ o, w.heap.size ≤ (w2.alloc o).heap.size) := by intro o; have := hnx2.out.size; simp; omega
        go_wp2_with (first
         | (go_at_call 113; refine (CP.out _).mono ?_; rintro e2 w3 ⟨rfl, rfl⟩)
         | (at_builtin; refine wpList_append_own _ rfl _ _ 31 rfl w.heap.size 9 i0 (.string ⟨#[]⟩) 1 16 Tryz.underlying31 hi hz0 hz1 hz2 rfl (by decide) _ _ _ rfl (hrow2.out.alloc _) ⟨w2.heap.size, 0, none⟩ 1 1 [kS (x.drop (List.length ([] : By)))] rfl rfl (cell_one_new _ _ _) (kS_one _) N2.out N3.out (N4.out _) ?_; intro v' w3 hown' hg3 _)
         | go_in)
        have HO3 := hid hown'
        have HG3 := hid hg3
        clear hown' hg3
        go_wp2
        go_roundw
        case rel =>
         refine ⟨_, cnt2, ss ++ [x], (HR2.out.alloc _).kept HG3.out ?_ ?_, ?_, ?_, HC2, ?_⟩
         · rcases hrow2.out.2 with ⟨k1, _⟩ | ⟨g', _, cur, k1, k2, k3, _⟩
           · rw [k1]; intro e; cases e
           · rw [k1]; intro e; injection e with e; have e : m = g' := e; have h8 := k2; have h9 := HM.out; omega
         · rcases hrow2.out.2 with ⟨k1, _⟩ | ⟨g', _, cur, k1, k2, k3, _⟩
           · rw [k1]; intro e; cases e
           · rw [k1]
             intro e
             injection e with e
             obtain ⟨_, _, _, _, _, _, _, _, _, k5, _⟩ := HR2.out
             rw [e, k3] at k5
             cases k5
         · show _ ≤ _; have h1 := hcs.out; have h2 := HLT.out; simp; omega
         · show World.ownsRow _ _ _ _ _ _ _
           have e : restsOf (ss ++ [x]) [] = restsOf ss [] ++ [x.drop (List.length ([] : By))] := by rw [HSN.out, HPX.out]; simp
           rw [e, List.map_append, List.length_append]; exact HO3.out
         · exact (hnx2.out.alloc hnx2.out.size _).grown HG3.out (N4.out _) (fun j hj => (hrow2.out.lt j hj).1)
        case measure => rw [((HR2.out.alloc _).kept HG3.out (by
         rcases hrow2.out.2 with ⟨k1, _⟩ | ⟨g', _, cur, k1, k2, k3, _⟩
         · rw [k1]; intro e; cases e
         · rw [k1]; intro e; injection e with e; have e : m = g' := e; have h8 := k2; have h9 := HM.out; omega) (by
         rcases hrow2.out.2 with ⟨k1, _⟩ | ⟨g', _, cur, k1, k2, k3, _⟩
         · rw [k1]; intro e; cases e
         · rw [k1]
           intro e
           injection e with e
           obtain ⟨_, _, _, _, _, _, _, _, _, k5, _⟩ := HR2.out
           rw [e, k3] at k5
           cases k5)).left_eq, hrg.out.left_eq]; exact HLT.out
  · have e1 : ¬ (ba p).toList = [] := by rw [toList_tl, tl_ba]; exact hp0
    have e2 : (ba p).toList.isEmpty = false := by simpa using e1
    have z1 : (ba p).size ≤ 4000 := by rw [ba_size]; exact hp
    obtain ⟨b, HBG⟩ : ∃ b, Hid (beginL p = b) := ⟨_, rfl⟩
    have HB7 : Hid (ba p ++ ⟨#[47]⟩ = ba b) := by show _ = _; rw [← HBG.out]; unfold beginL; rw [if_neg hp0]; exact ba_append p [47]
    clear hp0
    go_enter Tryz.func71, Tryz.ntmps71
    go_wp2_with (first
     | (go_at_call 110; refine C1.out.mono ?_; rintro e1 w1 ⟨rfl, rfl⟩)
     | (at_range; refine wpList_range_own _ rfl _ 83 rfl 9 44 str_keyed Tryz.underlying83 _ m L.length _ rfl hown ?_; intro w0 hrg0 hg0 hs0)
     | go_in)
    clear hs0 hown
    go_frame
    rw [HB7.out]
    go_loopw [6] (fun v wr => ∃ (left : Lit → Bool) (cnt : Nat) (ss : List By), Hid (wr.ranges Tryz.prog 9 Rv m w.heap.size L.length D left cnt) ∧ Hid (ss.length + cnt ≤ L.length) ∧
     Hid (wr.ownsRow w.heap.size 9 1 v (restsOf ss b).length ((restsOf ss b).map kS)) ∧ Hid (Collected D left ss) ∧ Hid (Below w.heap.size w wr))
     (fun _ wr => wr.rangeLeft m w.heap.size)
    case atStart => exact ⟨_, _, [], hrg0, by show _ ≤ _; rw [HSZ.out]; simp, World.ownsRow_nil _ _ _ _, Collected.start D, (Below.refl _ _).grown hg0 (Nat.le_refl _) (fun j hj => by cases hj)⟩
    case round =>
     obtain ⟨left, cnt, ss, hrg, hcs, hrow, hC, hnx⟩ := hrel
     clear hg0 hrg0
     go_wp2_with (first
      | (at_next; refine wpList_next_ranges _ rfl _ rfl 9 str_keyed Rv kS id (fun key kl hk => by obtain ⟨x, hx, _⟩ := Maps.keyOf_str Tryz.underlying9 hk; exact ⟨x, hx⟩) rv_inv m w.heap.size L.length _ _ _ rfl hrg.out ?_ ?_)
      | go_in)
     · intro hc0 hl0
       have HP := hid (HK.out ss left hC.out hl0)
       clear hl0 hc0
       go_wp2
       go_ret
       exact ⟨_, _, rfl, by rw [HI.out, if_pos trivial, HBG.out, rests_eq]; exact HP.out.filterMap _, hrow.out, hnx.out⟩
     · intro x c kl yd yp w2 cnt2 hkey hlk hv hat hrg2 hlt hg2 hs2 hen
       obtain ⟨x', ex, rfl, _⟩ := Maps.keyOf_str Tryz.underlying9 hkey
       obtain rfl : x = x' := encStr_inj ex
       have hrow2 := hid (hrow.out.kept hg2 (by
        rcases hrow.out.2 with ⟨k1, _⟩ | ⟨g', _, cur, k1, _, k3, _⟩
        · rw [k1]; exact .inl rfl
        · refine .inr (fun e => ?_)
          rw [k1] at e
          injection e with e
          have e : g' = w.heap.size := e
          obtain ⟨_, _, _, _, _, _, _, _, _, k5, _⟩ := hrg.out
          rw [← e, k3] at k5
          cases k5))
       have hnx2 := hid (hnx.out.grown hg2 hnx.out.size (fun j hj => by cases hj; exact Nat.le_refl _))
       have HR2 := hid hrg2
       have HC2 := hid (hC.out.step hlk hat)
       have HLT := hid hlt
       have HSB := hid (restsOf_le ss b)
       have HSN := hid (restsOf_snoc ss x b)
       have hm2 := HM.out
       clear hs2 hkey hlk hv hat hrg2 hg2 hlt ex
       cases hpx : (b : By).isPrefixOf x with
       | false =>
        have HPX := hid hpx
        have CP : Hid (∀ W, Calls Tryz.prog 113 #[kS x, kS b] W fun e w' => e = .returned (.tuple #[kS x, .bool false]) ∧ W = w') := by
         intro W; have := cutPrefix_any x b W; rw [hpx] at this; exact this
        clear hpx
        go_wp2_with (go_at_call 113; refine (CP.out _).mono ?_; rintro e2 w3 ⟨rfl, rfl⟩)
        go_roundw
        case rel =>
         refine ⟨_, cnt2, ss ++ [x], HR2, ?_, ?_, HC2, hnx2⟩
         · show _ ≤ _; have h1 := hcs.out; have h2 := HLT.out; simp; omega
         · show World.ownsRow _ _ _ _ _ _ _
           have e : restsOf (ss ++ [x]) b = restsOf ss b := by rw [HSN.out, HPX.out]; simp
           rw [e]; exact hrow2.out
        case measure => rw [HR2.out.left_eq, hrg.out.left_eq]; exact HLT.out
       | true =>
        have HPX := hid hpx
        have CP : Hid (∀ W, Calls Tryz.prog 113 #[kS x, kS b] W fun e w' => e = .returned (.tuple #[kS (x.drop (List.length (b : By))), .bool true]) ∧ W = w') := by
         intro W; have := cutPrefix_any x b W; rw [hpx] at this; exact this
        clear hpx
        have N2 : Hid ((restsOf ss b).length + 1 ≤ maxLen) := by show _ ≤ _; have := HSB.out; have := hcs.out; unfold maxLen; omega
        have N3 : Hid (((restsOf ss b).length + 1) * 16 ≤ 140737488355328) := by show _ ≤ _; have := HSB.out; have := hcs.out; omega
        have N4 : Hid (∀ o, w.heap.size ≤ (w2.alloc o).heap.size) := by intro o; have := hnx2.out.size; simp; omega
        go_wp2_with (first
         | (go_at_call 113; refine (CP.out _).mono ?_; rintro e2 w3 ⟨rfl, rfl⟩)
         | (at_builtin; refine wpList_append_own _ rfl _ _ 31 rfl w.heap.size 9 i0 (.string ⟨#[]⟩) 1 16 Tryz.underlying31 hi hz0 hz1 hz2 rfl (by decide) _ _ _ rfl (hrow2.out.alloc _) ⟨w2.heap.size, 0, none⟩ 1 1 [kS (x.drop (List.length (b : By)))] rfl rfl (cell_one_new _ _ _) (kS_one _) N2.out N3.out (N4.out _) ?_; intro v' w3 hown' hg3 _)
         | go_in)
        have HO3 := hid hown'
        have HG3 := hid hg3
        clear hown' hg3
        go_wp2
        go_roundw
        case rel =>
         refine ⟨_, cnt2, ss ++ [x], (HR2.out.alloc _).kept HG3.out ?_ ?_, ?_, ?_, HC2, ?_⟩
         · rcases hrow2.out.2 with ⟨k1, _⟩ | ⟨g', _, cur, k1, k2, k3, _⟩
           · rw [k1]; intro e; cases e
           · rw [k1]; intro e; injection e with e; have e : m = g' := e; have h8 := k2; have h9 := HM.out; omega
         · rcases hrow2.out.2 with ⟨k1, _⟩ | ⟨g', _, cur, k1, k2, k3, _⟩
           · rw [k1]; intro e; cases e
           · rw [k1]
             intro e
             injection e with e
             obtain ⟨_, _, _, _, _, _, _, _, _, k5, _⟩ := HR2.out
             rw [e, k3] at k5
             cases k5
         · show _ ≤ _; have h1 := hcs.out; have h2 := HLT.out; simp; omega
         · show World.ownsRow _ _ _ _ _ _ _
           have e : restsOf (ss ++ [x]) b = restsOf ss b ++ [x.drop (List.length (b : By))] := by rw [HSN.out, HPX.out]; simp
           rw [e, List.map_append, List.length_append]; exact HO3.out
         · exact (hnx2.out.alloc hnx2.out.size _).grown HG3.out (N4.out _) (fun j hj => (hrow2.out.lt j hj).1)
        case measure => rw [((HR2.out.alloc _).kept HG3.out (by
         rcases hrow2.out.2 with ⟨k1, _⟩ | ⟨g', _, cur, k1, k2, k3, _⟩
         · rw [k1]; intro e; cases e
         · rw [k1]; intro e; injection e with e; have e : m = g' := e; have h8 := k2; have h9 := HM.out; omega) (by
         rcases hrow2.out.2 with ⟨k1, _⟩ | ⟨g', _, cur, k1, k2, k3, _⟩
         · rw [k1]; intro e; cases e
         · rw [k1]
           intro e
           injection e with e
           obtain ⟨_, _, _, _, _, _, _, _, _, k5, _⟩ := HR2.out
           rw [e, k3] at k5
           cases k5)).left_eq, hrg.out.left_eq]; exact HLT.out
end Go.Proofs.YtabidnlbgdecbaaGreatDoor
namespace Go.Proofs.YtabidnlbgdecbaaGreatDoor
open Go.RowKit Go.Maps
def SP (w : World) (g o m : Nat) (t : TypeId) (cs : Array Value) (room : Nat) (r : Int × Tr) (e : Ending) (w' : World) : Prop :=
 e = .returned (.int .i64 r.1) ∧ Turn (Two g m) w w' ∧ TreeS w' g o m t (cs.setIfInBounds (o + 1) (.int .i64 ((usedL r.2 : Nat) : Int))) r.2 (usedL r.2) room
section
variable {w : World} {g o m : Nat} {t : TypeId} {cs : Array Value} {L : Tr} {room : Nat}
theorem SP.err (h : TreeS w g o m t cs L (usedL L) room) {w' : World} (hb : Below w.heap.size w w') (c : Int) : SP w g o m t cs room (c, L) (.returned (.int .i64 c)) w' :=
 ⟨rfl, Turn.of_below hb, (h.on hb (Nat.le_refl _)).same⟩
theorem SP.ahead {w1 w2 : World} {r : Int × Tr} {e : Ending} (hb : Below w.heap.size w w1) (h : SP w1 g o m t cs room r e w2) : SP w g o m t cs room r e w2 :=
 ⟨h.1, (Turn.of_below hb).then h.2.1, h.2.2⟩
set_option maxHeartbeats 2000000 in
theorem isTime_any (tm : Int) (w : World) : Calls Tryz.prog 92 #[.int .i64 tm] w fun e w' => e = .returned (.bool (timeB tm)) ∧ w = w' := by
 by_cases h0 : 0 ≤ tm
 · by_cases h1 : tm ≤ 4294967295
   · have HT : Hid (timeB tm = true) := by show _ = _; simp [timeB, h0, h1]
     have d1 : decide (0 ≤ tm) = true := by simpa using h0
     have d2 : decide (tm ≤ 4294967295) = true := by simpa using h1
     go_enter Tryz.func92, Tryz.ntmps92
     go_wp2
     go_ret
     exact ⟨by rw [HT.out]; rfl, rfl⟩
   · have HT : Hid (timeB tm = false) := by show _ = _; simp [timeB, h1]
     have d1 : decide (0 ≤ tm) = true := by simpa using h0
     have d2 : decide (tm ≤ 4294967295) = false := by simpa using h1
     go_enter Tryz.func92, Tryz.ntmps92
     go_wp2
     go_ret
     exact ⟨by rw [HT.out]; rfl, rfl⟩
 · have HT : Hid (timeB tm = false) := by show _ = _; simp [timeB, h0]
   have d1 : decide (0 ≤ tm) = false := by simpa using h0
   go_enter Tryz.func92, Tryz.ntmps92
   go_wp2
   go_ret
   exact ⟨by rw [HT.out]; rfl, rfl⟩
theorem mayk_any (p : By) (b : Bool) (hb : mayB p = b) (w : World) (hG : Gd w) (hp : p.length ≤ 4000) : Calls Tryz.prog 39 #[kS p] w fun e w' => e = .returned (.bool b) ∧ Below w.heap.size w w' := by
 have := may_any (ba p) w hG (by rw [ba_size]; exact hp)
 rw [tl_ba, hb] at this; exact this
set_option maxHeartbeats 4000000 in
theorem tadd_any (h : TreeS w g o m t cs L (usedL L) room) (hW : WFT room L) (hr : room ≤ 1048576) (hG : Gd w) (p : By) (hp : p.length ≤ 4000) (hm : mayB p = true) (n : Nd) (hn : n.data.length ≤ 10000000) :
 Calls Tryz.prog 152 #[.pointer (some ⟨g, o, none⟩), kS p, nodeV n] w fun e w' => SP w g o m t cs room (addE room L p n) e w' := by
 obtain ⟨k, d, x, tm⟩ := n
 obtain ⟨w0, HW0⟩ : ∃ w0, Hid (w.alloc (.cells #[.int .i64 k, kS d, kS x, .int .i64 tm] 44) = w0) := ⟨_, rfl⟩
 have B0 : Hid (Below w.heap.size w w0) := by rw [← HW0.out]; exact (Below.refl _ _).alloc (Nat.le_refl _) _
 have X0 : Hid (Has w0 w.heap.size 44 #[.int .i64 k, kS d, kS x, .int .i64 tm]) := by rw [← HW0.out]; exact Has.fresh _ _ _
 have h0 := h.on B0.out (Nat.le_refl _)
 obtain ⟨c, HC⟩ : ∃ c, Hid (homeE L p = c) := ⟨_, rfl⟩
 obtain ⟨b, HB⟩ : ∃ b, Hid (hasB L p = b) := ⟨_, rfl⟩
 have C1 : Hid (Calls Tryz.prog 93 #[.pointer (some ⟨g, o, none⟩), kS p] w0 fun e w' => e = .returned (.int .i64 c) ∧ Below w0.heap.size w0 w') := by
  rw [← HC.out]; exact tnoHome_any h0 (hG.kept B0.out) p hp hm
 have C2 : Hid (∀ w1, Below w0.heap.size w0 w1 → Calls Tryz.prog 40 #[.pointer (some ⟨g, o, none⟩), kS p] w1 fun e w' => e = .returned (.bool b) ∧ Below w1.heap.size w1 w') := fun w1 hb => by
  rw [← HB.out]; exact thas_any (h0.on hb (Nat.le_refl _)) p hp
 have C3 : Hid (∀ w1, Below w0.heap.size w0 w1 → Calls Tryz.prog 95 #[.pointer (some ⟨g, o, none⟩), kS p, .agg #[.int .i64 k, kS d, kS x, .int .i64 tm]] w1 fun e w' => SP w1 g o m t cs room (putE room L p ⟨k, d, x, tm⟩) e w') := fun w1 hb =>
  tput_any (h0.on hb (Nat.le_refl _)) rfl hW.used hr p hp ⟨k, d, x, tm⟩ hn
 have HE : Hid (addE room L p ⟨k, d, x, tm⟩ = if c = 0 then (if b then (6, L) else putE room L p ⟨k, d, x, tm⟩) else (c, L)) := by
  show _ = _
  rw [← HC.out, ← HB.out]; rfl
 have H := hid h
 clear h h0 hW hG hm
 show Calls Tryz.prog 152 #[.pointer (some ⟨g, o, none⟩), kS p, .agg #[.int .i64 k, kS d, kS x, .int .i64 tm]] w _
 by_cases hc : c = 0
 · subst hc
   cases b with
   | true =>
    go_enter Tryz.func152, Tryz.ntmps152
    go_wp2_with fail
    rw [HW0.out]
    refine C1.out.mono ?_; rintro e1 w1 ⟨rfl, hb1⟩; have B1 := hid hb1; clear hb1
    go_wp2_with fail
    refine (C2.out _ B1.out).mono ?_; rintro e2 w2 ⟨rfl, hb2⟩; have B2 := hid hb2; clear hb2
    go_wp2
    go_ret
    rw [HE.out]
    exact SP.err H.out (B0.out.trans ((B1.out.trans (B2.out.mono B1.out.size)).mono B0.out.size)) 6
   | false =>
    go_enter Tryz.func152, Tryz.ntmps152
    go_wp2_with fail
    rw [HW0.out]
    refine C1.out.mono ?_; rintro e1 w1 ⟨rfl, hb1⟩; have B1 := hid hb1; clear hb1
    go_wp2_with fail
    refine (C2.out _ B1.out).mono ?_; rintro e2 w2 ⟨rfl, hb2⟩; have B2 := hid (B1.out.trans (hb2.mono B1.out.size)); clear hb2
    have X2 : Hid (Has w2 w.heap.size 44 #[.int .i64 k, kS d, kS x, .int .i64 tm]) := X0.out.kept B2.out X0.out.inside
    have x0 := X2.out.at_ 0
    have x1 := X2.out.at_ 1
    have x2 := X2.out.at_ 2
    have x3 := X2.out.at_ 3
    have hl := load_node X2.out
    go_wp2_with fail
    refine (C3.out _ B2.out).mono ?_; rintro e3 w3 hs3
    obtain ⟨r, HR⟩ : ∃ r, Hid (putE room L p ⟨k, d, x, tm⟩ = r) := ⟨_, rfl⟩
    rw [HR.out] at hs3
    obtain ⟨rfl, h2, h3⟩ := hs3
    have S3 : Hid (SP w2 g o m t cs room r (.returned (.int .i64 r.1)) w3) := ⟨rfl, h2, h3⟩
    clear h2 h3
    go_wp2
    go_ret
    rw [HE.out]
    simp only [if_true]
    rw [if_neg (by simp), HR.out]
    exact S3.out.ahead (B0.out.trans (B2.out.mono B0.out.size))
 · have q1 : (c == 0) = false := by simpa using hc
   have q2 : (c != 0) = true := by simpa using hc
   have HCN := hid hc
   clear hc
   go_enter Tryz.func152, Tryz.ntmps152
   go_wp2_with fail
   rw [HW0.out]
   refine C1.out.mono ?_; rintro e1 w1 ⟨rfl, hb1⟩; have B1 := hid hb1; clear hb1
   go_wp2
   go_ret
   rw [HE.out, if_neg HCN.out]
   exact SP.err H.out (B0.out.trans (B1.out.mono B0.out.size)) c
end
end Go.Proofs.YtabidnlbgdecbaaGreatDoor
namespace Go.Proofs.YtabidnlbgdecbaaGreatDoor
open Go.RowKit Go.Maps
section
variable {w : World} {g o m : Nat} {t : TypeId} {cs : Array Value} {L : Tr} {room : Nat}
theorem SP.split {w1 w2 : World} {r r' : Int × Tr} (hb : Below w.heap.size w w1) (h : SP w1 g o m t cs room r (.returned (.int .i64 r.1)) w2) (he : r' = r) : SP w g o m t cs room r' (.returned (.int .i64 r.1)) w2 := by
 subst he; exact h.ahead hb
set_option maxHeartbeats 4000000 in
theorem tmkdir_any (h : TreeS w g o m t cs L (usedL L) room) (hW : WFT room L) (hr : room ≤ 1048576) (hG : Gd w) (p : By) (hp : p.length ≤ 4000) :
 Calls Tryz.prog 129 #[.pointer (some ⟨g, o, none⟩), kS p] w fun e w' => SP w g o m t cs room (stepE room L (.mkdir p)) e w' := by
 have H := hid h
 cases hm : mayB p with
 | false =>
  have C1 := hid (mayk_any p false hm w hG hp)
  have HE : Hid (stepE room L (.mkdir p) = (10, L)) := by show _ = _; simp [stepE, hm]
  clear h hW hG hm
  go_enter Tryz.func129, Tryz.ntmps129
  go_wp2_with (go_at_call 39; refine C1.out.mono ?_; rintro e1 w1 ⟨rfl, hb1⟩; have B1 := hid hb1; clear hb1)
  go_ret
  rw [HE.out]
  exact SP.err H.out B1.out 10
 | true =>
  have C1 := hid (mayk_any p true hm w hG hp)
  have HE : Hid (stepE room L (.mkdir p) = addE room L p ⟨2, [], [], 0⟩) := by show _ = _; simp [stepE, hm]
  have C2 : Hid (∀ w1, Below w.heap.size w w1 → Calls Tryz.prog 152 #[.pointer (some ⟨g, o, none⟩), kS p, .agg #[.int .i64 2, .string ⟨#[]⟩, .string ⟨#[]⟩, .int .i64 0]] w1 fun e w' => SP w1 g o m t cs room (addE room L p ⟨2, [], [], 0⟩) e w') := fun w1 hb =>
   tadd_any (h.on hb (Nat.le_refl _)) hW hr (hG.kept hb) p hp hm ⟨2, [], [], 0⟩ (by simp)
  clear h hW hG hm
  obtain ⟨r, HR⟩ : ∃ r, Hid (addE room L p ⟨2, [], [], 0⟩ = r) := ⟨_, rfl⟩
  rw [HR.out] at C2 HE
  go_enter Tryz.func129, Tryz.ntmps129
  go_wp2_with fail
  refine C1.out.mono ?_; rintro e1 w1 ⟨rfl, hb1⟩; have B1 := hid hb1; clear hb1
  go_wp2_with fail
  refine (C2.out _ B1.out).mono ?_; rintro e2 w2 ⟨rfl, h2, h3⟩
  have S2 : Hid (SP w1 g o m t cs room r (.returned (.int .i64 r.1)) w2) := ⟨rfl, h2, h3⟩
  clear h2 h3
  go_wp2
  go_ret
  exact SP.split B1.out S2.out HE.out
set_option maxHeartbeats 4000000 in
theorem twrite_any (h : TreeS w g o m t cs L (usedL L) room) (hW : WFT room L) (hr : room ≤ 1048576) (hG : Gd w) (p d : By) (tm : Int) (hp : p.length ≤ 4000) (hd : d.length ≤ 1000000) :
 Calls Tryz.prog 52 #[.pointer (some ⟨g, o, none⟩), kS p, kS d, .int .i64 tm] w fun e w' => SP w g o m t cs room (stepE room L (.write p d tm)) e w' := by
 have H := hid h
 cases hm : mayB p with
 | false =>
  have C1 := hid (mayk_any p false hm w hG hp)
  have HE : Hid (stepE room L (.write p d tm) = (10, L)) := by show _ = _; simp [stepE, hm]
  clear h hW hG hm
  go_enter Tryz.func52, Tryz.ntmps52
  go_wp2_with (go_at_call 39; refine C1.out.mono ?_; rintro e1 w1 ⟨rfl, hb1⟩; have B1 := hid hb1; clear hb1)
  go_ret
  rw [HE.out]
  exact SP.err H.out B1.out 10
 | true =>
  have C1 := hid (mayk_any p true hm w hG hp)
  obtain ⟨b, HB⟩ : ∃ b, Hid (timeB tm = b) := ⟨_, rfl⟩
  obtain ⟨c, HC⟩ : ∃ c, Hid (homeE L p = c) := ⟨_, rfl⟩
  obtain ⟨k, HK⟩ : ∃ k, Hid (takenE L p = k) := ⟨_, rfl⟩
  have C2 : Hid (∀ W, Calls Tryz.prog 92 #[.int .i64 tm] W fun e w' => e = .returned (.bool b) ∧ W = w') := by
   intro W; rw [← HB.out]; exact isTime_any tm W
  have C3 : Hid (∀ w1, Below w.heap.size w w1 → Calls Tryz.prog 93 #[.pointer (some ⟨g, o, none⟩), kS p] w1 fun e w' => e = .returned (.int .i64 c) ∧ Below w1.heap.size w1 w') := fun w1 hb => by
   rw [← HC.out]; exact tnoHome_any (h.on hb (Nat.le_refl _)) (hG.kept hb) p hp hm
  have C4 : Hid (∀ w1, Below w.heap.size w w1 → Calls Tryz.prog 94 #[.pointer (some ⟨g, o, none⟩), kS p] w1 fun e w' => e = .returned (.int .i64 k) ∧ w1 = w') := fun w1 hb => by
   rw [← HK.out]; exact ttaken_any (h.on hb (Nat.le_refl _)) p hp
  have C5 : Hid (∀ w1, Below w.heap.size w w1 → Calls Tryz.prog 95 #[.pointer (some ⟨g, o, none⟩), kS p, .agg #[.int .i64 1, kS d, .string ⟨#[]⟩, .int .i64 tm]] w1 fun e w' => SP w1 g o m t cs room (putE room L p ⟨1, d, [], tm⟩) e w') := fun w1 hb =>
   tput_any (h.on hb (Nat.le_refl _)) rfl hW.used hr p hp ⟨1, d, [], tm⟩ (by simp only; omega)
  have HE : Hid (stepE room L (.write p d tm) = if b = true then (if c = 0 then (if k = 0 then putE room L p ⟨1, d, [], tm⟩ else (k, L)) else (c, L)) else (2, L)) := by
   show _ = _; rw [← HB.out, ← HC.out, ← HK.out]; simp only [stepE, hm, if_true]
  clear h hW hG hm
  cases b with
  | false =>
   go_enter Tryz.func52, Tryz.ntmps52
   go_wp2_with (first
    | (go_at_call 39; refine C1.out.mono ?_; rintro e1 w1 ⟨rfl, hb1⟩; have B1 := hid hb1; clear hb1)
    | (go_at_call 92; refine (C2.out _).mono ?_; rintro e1 w2 ⟨rfl, rfl⟩))
   go_ret
   rw [HE.out, if_neg (by simp)]
   exact SP.err H.out B1.out 2
  | true =>
   by_cases hc : c = 0
   · subst hc
     by_cases hk : k = 0
     · subst hk
       obtain ⟨r, HR⟩ : ∃ r, Hid (putE room L p ⟨1, d, [], tm⟩ = r) := ⟨_, rfl⟩
       have HQ : Hid (stepE room L (.write p d tm) = r) := by show _ = _; rw [HE.out, if_pos (by trivial), if_pos (by trivial), if_pos (by trivial), HR.out]
       rw [HR.out] at C5
       go_enter Tryz.func52, Tryz.ntmps52
       go_wp2_with (first
        | (go_at_call 39; refine C1.out.mono ?_; rintro e1 w1 ⟨rfl, hb1⟩; have B1 := hid hb1; clear hb1)
        | (go_at_call 92; refine (C2.out _).mono ?_; rintro e1 w2 ⟨rfl, rfl⟩)
        | (go_at_call 93; refine (C3.out _ B1.out).mono ?_; rintro e3 w3 ⟨rfl, hb3⟩; have B3 := hid (B1.out.trans (hb3.mono B1.out.size)); clear hb3)
        | (go_at_call 94; refine (C4.out _ B3.out).mono ?_; rintro e4 w4 ⟨rfl, rfl⟩)
        | (go_at_call 95; refine (C5.out _ B3.out).mono ?_; rintro e5 w5 ⟨rfl, h2, h3⟩))
       have S2 : Hid (SP w3 g o m t cs room r (.returned (.int .i64 r.1)) w5) := ⟨rfl, h2, h3⟩
       clear h2 h3
       go_ret
       exact SP.split B3.out S2.out HQ.out
     · have q1 : (k == 0) = false := by simpa using hk
       have q2 : (k != 0) = true := by simpa using hk
       have HKN := hid hk
       clear hk
       go_enter Tryz.func52, Tryz.ntmps52
       go_wp2_with (first
        | (go_at_call 39; refine C1.out.mono ?_; rintro e1 w1 ⟨rfl, hb1⟩; have B1 := hid hb1; clear hb1)
        | (go_at_call 92; refine (C2.out _).mono ?_; rintro e1 w2 ⟨rfl, rfl⟩)
        | (go_at_call 93; refine (C3.out _ B1.out).mono ?_; rintro e3 w3 ⟨rfl, hb3⟩; have B3 := hid (B1.out.trans (hb3.mono B1.out.size)); clear hb3)
        | (go_at_call 94; refine (C4.out _ B3.out).mono ?_; rintro e4 w4 ⟨rfl, rfl⟩))
       go_ret
       rw [HE.out, if_pos (by trivial), if_pos (by trivial), if_neg HKN.out]
       exact SP.err H.out B3.out k
   · have q1 : (c == 0) = false := by simpa using hc
     have q2 : (c != 0) = true := by simpa using hc
     have HCN := hid hc
     clear hc
     go_enter Tryz.func52, Tryz.ntmps52
     go_wp2_with (first
      | (go_at_call 39; refine C1.out.mono ?_; rintro e1 w1 ⟨rfl, hb1⟩; have B1 := hid hb1; clear hb1)
      | (go_at_call 92; refine (C2.out _).mono ?_; rintro e1 w2 ⟨rfl, rfl⟩)
      | (go_at_call 93; refine (C3.out _ B1.out).mono ?_; rintro e3 w3 ⟨rfl, hb3⟩; have B3 := hid (B1.out.trans (hb3.mono B1.out.size)); clear hb3))
     go_ret
     rw [HE.out, if_pos (by trivial), if_neg HCN.out]
     exact SP.err H.out B3.out c
end
end Go.Proofs.YtabidnlbgdecbaaGreatDoor
namespace Go.Proofs.YtabidnlbgdecbaaGreatDoor
open Go.RowKit Go.Maps
theorem inner_le (L : Tr) (a : By) : (innerL L a).length ≤ L.length := by
 unfold innerL restsL
 split
 · exact List.length_filterMap_le _ _
 · simp
end Go.Proofs.YtabidnlbgdecbaaGreatDoor
namespace Go.Proofs.YtabidnlbgdecbaaGreatDoor
open Go.RowKit Go.Maps
abbrev Firm (t : TypeId) : Prop := t = 9 ∨ t = 2
def Gx (w W : World) : Prop := w.heap.size ≤ W.heap.size ∧ ∀ (j : Nat) (cs : Array Value) (t : TypeId) (q : Nat × Nat), w.heap[j]? = some (Obj.cells cs t q) → Firm t → W.heap[j]? = some (Obj.cells cs t q)
theorem Gx.of_below {w W : World} (h : Below w.heap.size w W) : Gx w W :=
 ⟨h.size, fun j _ _ _ ho _ => (h.block j (Array.getElem?_eq_some_iff.1 ho).1).trans ho⟩
theorem Gx.refl (w : World) : Gx w w := Gx.of_below (Below.refl _ _)
theorem Gx.trans {a b c : World} (h : Gx a b) (k : Gx b c) : Gx a c := ⟨Nat.le_trans h.1 k.1, fun j cs t q ho hn => k.2 j cs t q (h.2 j cs t q ho hn) hn⟩
theorem Has.gx {w W : World} {g : Nat} {t : TypeId} {cs : Array Value} (h : Has w g t cs) (ht : Firm t) (hG : Gx w W) : Has W g t cs :=
 hG.2 g _ _ _ h ht
def Loose (w : World) (g : Nat) : Prop := ∀ (cs : Array Value) (t : TypeId) (q : Nat × Nat), w.heap[g]? = some (Obj.cells cs t q) → ¬ Firm t
theorem Gx.of_turn {own : Nat → Prop} {w W : World} (h : Turn own w W) (hl : ∀ g, own g → Loose w g) : Gx w W :=
 ⟨h.size, fun j cs t q ho hn => (h.block j (Array.getElem?_eq_some_iff.1 ho).1 (fun e => hl j e cs t q ho hn)).trans ho⟩
theorem MapT.loose {w : World} {m : Nat} {L : Tr} (h : MapT w m L) : Loose w m := fun cs t q ho => by
 obtain ⟨es, ck, hh, _⟩ := h
 rw [hh] at ho; cases ho
theorem Has.loose {w : World} {g : Nat} {t : TypeId} {cs : Array Value} (h : Has w g t cs) (ht : ¬ Firm t) : Loose w g := fun cs2 t2 q ho => by
 unfold Has at h
 rw [h] at ho
 injection ho with ho
 injection ho with _ ho
 rw [← ho]; exact ht
theorem TreeS.gx {w W : World} {g o m : Nat} {cs : Array Value} {L : Tr} {u room : Nat} (h : TreeS w g o m 88 cs L u room) (hu : Turn (Two g m) w W) : Gx w W :=
 Gx.of_turn hu (fun k hk => by rcases hk with e | e <;> rw [e]; exact h.has.loose (by decide); exact h.mp.loose)
def IsEff (w : World) (f : Value) (x : Eff) : Prop :=
 dataE x ≤ 1000000 ∧ ∃ k lb, f = .func (.func k) #[] lb ∧ (∀ (args : Array Value) (w : World), (callFunc k args).run Tryz.prog w = .ok (.enter k args) w) ∧
  ∀ (W : World) (g o m : Nat) (cs : Array Value) (L : Tr) (room most : Nat), Gx w W → TreeS W g o m 88 cs L (usedL L) room → WFT room L → room ≤ 1048576 → Gd W → most ≤ 9223372036854775807 →
   Calls Tryz.prog k (#[.pointer (some ⟨g, o, none⟩), .int .i64 (most : Int)] ++ lb) W fun e w' => SP W g o m 88 cs room (stepE room L (cutE x most)) e w'
theorem IsEff.gx {w w' : World} {f : Value} {x : Eff} (h : IsEff w f x) (hg : Gx w w') : IsEff w' f x := by
 obtain ⟨hd, k, lb, h1, h2, h3⟩ := h
 exact ⟨hd, k, lb, h1, h2, fun W g o m cs L room most hW => h3 W g o m cs L room most (hg.trans hW)⟩
theorem IsEff.one {w : World} {f : Value} {x : Eff} (h : IsEff w f x) : f.oneCell' = true := by
 obtain ⟨_, k, lb, rfl, _⟩ := h; rfl
theorem ba_take0 (s : By) (k : Nat) : (ba s).extract 0 k = ba (s.take k) := by
 apply ByteArray.ext; simp [ba]
set_option maxHeartbeats 2000000 in
theorem dcut_any (d : By) (most : Nat) (w : World) (hd : d.length ≤ 1000000) (hm : most ≤ 9223372036854775807) : Calls Tryz.prog 53 #[kS d, .int .i64 (most : Int)] w fun e w' => e = .returned (kS (d.take most)) ∧ w = w' := by
 have hz2 : (ba d).size ≤ 1000000 := by rw [ba_size]; exact hd
 have HT : Hid ((ba d).extract 0 (min ((ba d).size : Int) (most : Int)).toNat = ba (d.take most)) := by
  show _ = _
  rw [ba_take0, ba_size, show (min (d.length : Int) (most : Int)).toNat = min d.length most by omega]
  rcases Nat.le_total d.length most with h | h
  · rw [Nat.min_eq_left h, List.take_length, List.take_of_length_le h]
  · rw [Nat.min_eq_right h]
 go_enter Tryz.func53, Tryz.ntmps53
 go_wp2
 go_ret
 refine ⟨?_, rfl⟩
 show Ending.returned (.string ((ba d).extract 0 (min ((ba d).size : Int) (most : Int)).toNat)) = _
 rw [HT.out]
structure BxA (b1 b2 : Nat) (p d : By) (W : World) : Prop where
 x1 : Has W b1 9 #[kS p]
 x2 : Has W b2 9 #[kS d]
theorem BxA.gx {b1 b2 : Nat} {p d : By} {w W : World} (h : BxA b1 b2 p d w) (hg : Gx w W) : BxA b1 b2 p d W := ⟨h.x1.gx (.inl rfl) hg, h.x2.gx (.inl rfl) hg⟩
theorem BxA.drew {b1 b2 : Nat} {p d : By} {w : World} (h : BxA b1 b2 p d w) : BxA b1 b2 p d w.drew := ⟨h.x1, h.x2⟩
structure BxW (b1 b2 b3 : Nat) (p d : By) (tm : Int) (W : World) : Prop where
 x1 : Has W b1 9 #[kS p]
 x2 : Has W b2 9 #[kS d]
 x3 : Has W b3 2 #[.int .i64 tm]
theorem BxW.gx {b1 b2 b3 : Nat} {p d : By} {tm : Int} {w W : World} (h : BxW b1 b2 b3 p d tm w) (hg : Gx w W) : BxW b1 b2 b3 p d tm W := ⟨h.x1.gx (.inl rfl) hg, h.x2.gx (.inl rfl) hg, h.x3.gx (.inr rfl) hg⟩
theorem BxW.drew {b1 b2 b3 : Nat} {p d : By} {tm : Int} {w : World} (h : BxW b1 b2 b3 p d tm w) : BxW b1 b2 b3 p d tm w.drew := ⟨h.x1, h.x2, h.x3⟩
set_option maxHeartbeats 4000000 in
theorem writeC_any {W : World} {g o m : Nat} {cs : Array Value} {L : Tr} {room most : Nat} (h : TreeS W g o m 88 cs L (usedL L) room) (hW : WFT room L) (hr : room ≤ 1048576) (hG : Gd W) (hm : most ≤ 9223372036854775807)
 {b1 b2 b3 : Nat} {p d : By} {tm : Int} (hx : BxW b1 b2 b3 p d tm W) (hp : p.length ≤ 4000) (hd : d.length ≤ 1000000) :
 Calls Tryz.prog 51 #[.pointer (some ⟨g, o, none⟩), .int .i64 (most : Int), .pointer (some ⟨b1, 0, none⟩), .pointer (some ⟨b2, 0, none⟩), .pointer (some ⟨b3, 0, none⟩)] W fun e w' => SP W g o m 88 cs room (stepE room L (.write p (d.take most) tm)) e w' := by
 have S0 : Hid (BxW b1 b2 b3 p d tm W.drew) := hx.drew
 have TG := hid h.drew
 have CC := hid (dcut_any d most W.drew hd hm)
 have CW := hid (twrite_any h.drew hW hr (hG.kept (Below.refl _ W).drew) p (d.take most) tm hp (by rw [List.length_take]; omega))
 obtain ⟨r, HR⟩ : ∃ r, Hid (stepE room L (.write p (d.take most) tm) = r) := ⟨_, rfl⟩
 rw [HR.out] at CW
 rw [HR.out]
 clear h hx hG hW
 go_enter Tryz.func51, Tryz.ntmps51
 go_wp2
 refine wp_region_noPanic ?_
 refine wp_region_held_drew (S := BxW b1 b2 b3 p d tm) (by kernel_rfl) (S0.out) (fun hS => ?_)
 refine tkH 0 (v := ?_) (by simp only [lkA, lkB]; rfl) (by kernel_rfl) (fun _ _ _ h => h) (by rfl) (by assumption) ?_ ?_
 rotate_left 1
 · intro w hSw
   go_simp
   with_reducible rfl
 simp only [Act.put, siA, siB, siC]
 refine tkH 1 (v := ?_) (by simp only [lkA, lkB, lkC]; rfl) (by kernel_rfl) (fun _ _ _ h => h) (by rfl) (by assumption) ?_ ?_
 rotate_left 1
 · intro w hSw
   have hc := hSw.x1.at_ 0
   go_simp
   with_reducible rfl
 simp only [Act.put, siA, siB, siC]
 refine tkH 2 (v := ?_) (by simp only [lkA, lkB, lkC]; rfl) (by kernel_rfl) (fun _ _ _ h => h) (by rfl) (by assumption) ?_ ?_
 rotate_left 1
 · intro w hSw
   have hc := hSw.x2.at_ 0
   go_simp
   with_reducible rfl
 simp only [Act.put, siA, siB, siC]
 refine tkH 3 (v := ?_) (by simp only [lkA, lkB, lkC]; rfl) (by kernel_rfl) (fun _ _ _ h => h) (by rfl) (by assumption) ?_ ?_
 rotate_left 1
 · intro w hSw
   go_simp
   with_reducible rfl
 simp only [Act.put, siA, siB, siC]
 refine tkH 5 (v := ?_) (by simp only [lkA, lkB, lkC]; rfl) (by kernel_rfl) (fun _ _ _ h => h) (by rfl) (by assumption) ?_ ?_
 rotate_left 1
 · intro w hSw
   have hc := hSw.x3.at_ 0
   go_simp
   with_reducible rfl
 simp only [Act.put, siA, siB, siC]
 refine wpAnyH_ready (rs := [4]) (by kernel_rfl) (by simp) ?_
 refine AllReadyH.cons (by simp only [lkA, lkB, lkC]; rfl) (fun K hK => ?_) AllReadyH.nil
 go_simp
 refine (CC.out).mono ?_
 rintro e1 w1 ⟨rfl, rfl⟩
 have hz1 := S0.out
 refine hK.out _ _ hz1 (fun hS => ?_)
 clear hK K hS
 refine wpAnyH_ready (rs := [6]) (by kernel_rfl) (by simp) ?_
 refine AllReadyH.cons (by simp only [lkA, lkB, lkC]; rfl) (fun K hK => ?_) AllReadyH.nil
 go_simp
 refine (CW.out).mono ?_
 rintro e2 w2 ⟨rfl, hu2, ht2⟩
 have hz2 := S0.out.gx (TG.out.gx hu2)
 refine hK.out _ _ hz2 (fun hS => ?_)
 clear hK K hS
 refine tkH 7 (v := ?_) (by simp only [lkA, lkB, lkC]; rfl) (by kernel_rfl) (fun _ _ _ h => h) (by rfl) (by assumption) ?_ ?_
 rotate_left 1
 · intro w hSw
   go_simp
   with_reducible rfl
 simp only [Act.put, siA, siB, siC]
 refine wpAnyH_done (by kernel_rfl) ?_ _
 refine NoPanic.normal ?_
 go_wp2
 go_ret
 exact ⟨rfl, (Turn.refl _ W).drew.then hu2, ht2⟩
set_option maxHeartbeats 4000000 in
theorem mkdirC_any {W : World} {g o m : Nat} {cs : Array Value} {L : Tr} {room most : Nat} (h : TreeS W g o m 88 cs L (usedL L) room) (hW : WFT room L) (hr : room ≤ 1048576) (hG : Gd W) (_hm : most ≤ 9223372036854775807)
 {b1 : Nat} {p : By} (hx : Has W b1 9 #[kS p]) (hp : p.length ≤ 4000) :
 Calls Tryz.prog 128 #[.pointer (some ⟨g, o, none⟩), .int .i64 (most : Int), .pointer (some ⟨b1, 0, none⟩)] W fun e w' => SP W g o m 88 cs room (stepE room L (.mkdir p)) e w' := by
 have c1 := hx.at_ 0
 have CW := hid (tmkdir_any h hW hr hG p hp)
 obtain ⟨r, HR⟩ : ∃ r, Hid (stepE room L (.mkdir p) = r) := ⟨_, rfl⟩
 rw [HR.out] at CW
 rw [HR.out]
 clear h hx hG hW
 go_enter Tryz.func128, Tryz.ntmps128
 go_wp2_with (go_at_call 129; refine CW.out.mono ?_; rintro e2 w2 ⟨rfl, hu2, ht2⟩)
 go_ret
 exact ⟨rfl, hu2, ht2⟩
theorem eff_write {w : World} {b1 b2 b3 : Nat} {p d : By} {tm : Int} (hx : BxW b1 b2 b3 p d tm w) (hp : p.length ≤ 4000) (hd : d.length ≤ 1000000) : IsEff w (.func (.func 51) #[] #[.pointer (some ⟨b1, 0, none⟩), .pointer (some ⟨b2, 0, none⟩), .pointer (some ⟨b3, 0, none⟩)]) (.write p d tm) :=
 ⟨hd, _, _, rfl, enters_of Tryz.func51 (by kernel_rfl) rfl, fun W g o m cs L room most hg h hW hr hG hm => writeC_any h hW hr hG hm (hx.gx hg) hp hd⟩
theorem eff_mkdir {w : World} {b1 : Nat} {p : By} (hx : Has w b1 9 #[kS p]) (hp : p.length ≤ 4000) : IsEff w (.func (.func 128) #[] #[.pointer (some ⟨b1, 0, none⟩)]) (.mkdir p) :=
 ⟨Nat.zero_le _, _, _, rfl, enters_of Tryz.func128 (by kernel_rfl) rfl, fun W g o m cs L room most hg h hW hr hG hm => mkdirC_any h hW hr hG hm (hx.gx (.inl rfl) hg) hp⟩
end Go.Proofs.YtabidnlbgdecbaaGreatDoor
namespace Go.Proofs.YtabidnlbgdecbaaGreatDoor
open Go.RowKit Go.Maps
theorem infoEff : (Tryz.prog.info? 147).map (fun i => (i.zero, i.size, i.bytes)) = some (some .nilFunc, 1, 8) := by kernel_rfl
def cellsD (m1 m2 : Nat) (sv : Value) (M : Mo) : Array Value :=
 #[.map (some m1), .int .i64 ((usedL M.now : Nat) : Int), .int .i64 (M.room : Int), .map (some m2), .int .i64 ((usedL M.last : Nat) : Int), .int .i64 (M.room : Int), sv, .int .i64 M.fuse]
def AllEff (w : World) (vs : List Value) (xs : List Eff) : Prop := vs.length = xs.length ∧ ∀ i (h1 : i < vs.length) (h2 : i < xs.length), IsEff w vs[i] xs[i]
theorem AllEff.gx {w w' : World} {vs : List Value} {xs : List Eff} (h : AllEff w vs xs) (hg : Gx w w') : AllEff w' vs xs := ⟨h.1, fun i h1 h2 => (h.2 i h1 h2).gx hg⟩
theorem AllEff.snoc {w : World} {vs : List Value} {xs : List Eff} (h : AllEff w vs xs) {v : Value} {x : Eff} (hv : IsEff w v x) : AllEff w (vs ++ [v]) (xs ++ [x]) := by
 refine ⟨by simp [h.1], fun i h1 h2 => ?_⟩
 rcases Nat.lt_or_ge i vs.length with k | k
 · rw [List.getElem_append_left k, List.getElem_append_left (by rw [← h.1]; exact k)]
   exact h.2 i k (by rw [← h.1]; exact k)
 · rw [List.length_append, List.length_singleton] at h1
   obtain rfl : i = vs.length := by omega
   rw [List.getElem_append_right (Nat.le_refl _), List.getElem_append_right (by rw [h.1]; exact Nat.le_refl _)]
   simpa using hv
structure DskI (own : Nat → Prop) (w : World) (p m1 m2 : Nat) (sv : Value) (vs : List Value) (M : Mo) : Prop where
 low : ∀ g, own g → g < w.heap.size
 loose : ∀ g, own g → Loose w g
 has : Has w p 88 (cellsD m1 m2 sv M)
 op : own p
 o1 : own m1
 o2 : own m2
 t1 : MapT w m1 M.now
 t2 : MapT w m2 M.last
 ne : m1 ≠ m2
 row : w.ownsRow 0 147 1 sv vs.length vs
 osv : ∀ b, sv.ownBlock = some b → own b
 effs : AllEff w vs M.since
 good : Good M
 r0 : 1024 ≤ M.room
 r1 : M.room ≤ 1048576
 len : M.since.length ≤ 100000
def Dsk (own : Nat → Prop) (w : World) (p : Nat) (M : Mo) : Prop := ∃ m1 m2 sv vs, DskI own w p m1 m2 sv vs M
theorem row_of {B : Nat} {w w' : World} {e : TypeId} {s n : Nat} {v : Value} {xs : List Value} (h : w.ownsRow B e s v n xs) (hs : ∀ g, v.ownBlock = some g → w'.heap[g]? = w.heap[g]?) : w'.ownsRow B e s v n xs := by
 refine ⟨h.1, ?_⟩
 rcases h.2 with h1 | ⟨g, c, cur, h1, h2, h3, h4⟩
 · exact .inl h1
 · exact .inr ⟨g, c, cur, h1, h2, (hs g (by rw [h1]; rfl)).trans h3, h4⟩
section
variable {own : Nat → Prop} {w : World} {p m1 m2 : Nat} {sv : Value} {vs : List Value} {M : Mo}
theorem DskI.pne1 (h : DskI own w p m1 m2 sv vs M) : m1 ≠ p := fun e => by
 obtain ⟨es, ck, hh, _⟩ := h.t1
 have := h.has
 unfold Has at this
 rw [← e, hh] at this; cases this
theorem DskI.pne2 (h : DskI own w p m1 m2 sv vs M) : m2 ≠ p := fun e => by
 obtain ⟨es, ck, hh, _⟩ := h.t2
 have := h.has
 unfold Has at this
 rw [← e, hh] at this; cases this
theorem len_room {room : Nat} {L : Tr} (h : WFT room L) (hr : room ≤ 1048576) : L.length ≤ 100000 := by
 have h1 := used_len (L := L)
 have h2 := h.used
 omega
theorem DskI.tr1 (h : DskI own w p m1 m2 sv vs M) : TreeS w p 0 m1 88 (cellsD m1 m2 sv M) M.now (usedL M.now) M.room :=
 ⟨h.has, rfl, rfl, rfl, h.t1, h.good.w1.srt, h.pne1, len_room h.good.w1 h.r1⟩
theorem DskI.tr2 (h : DskI own w p m1 m2 sv vs M) : TreeS w p 3 m2 88 (cellsD m1 m2 sv M) M.last (usedL M.last) M.room :=
 ⟨h.has, rfl, rfl, rfl, h.t2, h.good.w2.srt, h.pne2, len_room h.good.w2 h.r1⟩
theorem DskI.kept {w' : World} (h : DskI own w p m1 m2 sv vs M) (hg : Gx w w') (hb : ∀ g, own g → w'.heap[g]? = w.heap[g]?) : DskI own w' p m1 m2 sv vs M where
 low g hgo := Nat.lt_of_lt_of_le (h.low g hgo) hg.1
 loose g hgo cs t q ho := h.loose g hgo cs t q ((hb g hgo).symm.trans ho)
 has := (hb p h.op).trans h.has
 op := h.op
 o1 := h.o1
 o2 := h.o2
 t1 := h.t1.kept (hb _ h.o1)
 t2 := h.t2.kept (hb _ h.o2)
 ne := h.ne
 row := row_of h.row (fun g hgo => hb g (h.osv g hgo))
 osv := h.osv
 effs := h.effs.gx hg
 good := h.good
 r0 := h.r0
 r1 := h.r1
 len := h.len
theorem DskI.on {w' : World} (h : DskI own w p m1 m2 sv vs M) (hb : Below w.heap.size w w') : DskI own w' p m1 m2 sv vs M :=
 h.kept (Gx.of_below hb) (fun g hg => hb.block g (h.low g hg))
theorem Dsk.on {w' : World} (h : Dsk own w p M) (hb : Below w.heap.size w w') : Dsk own w' p M := by
 obtain ⟨m1, m2, sv, vs, h⟩ := h; exact ⟨m1, m2, sv, vs, h.on hb⟩
theorem Dsk.low (h : Dsk own w p M) : ∀ g, own g → g < w.heap.size := by obtain ⟨_, _, _, _, h⟩ := h; exact h.low
theorem Dsk.good (h : Dsk own w p M) : Good M := by obtain ⟨_, _, _, _, h⟩ := h; exact h.good
end
def DPost (own : Nat → Prop) (w : World) (p : Nat) (M : Mo) (w' : World) : Prop :=
 ∃ own', Dsk own' w' p M ∧ Turn own w w' ∧ ∀ g, own' g → own g ∨ w.heap.size ≤ g
theorem DPost.refl {own : Nat → Prop} {w w' : World} {p : Nat} {M : Mo} (h : Dsk own w p M) (hb : Below w.heap.size w w') : DPost own w p M w' :=
 ⟨own, h.on hb, Turn.of_below hb, fun _ h => .inl h⟩
theorem DPost.ahead {own : Nat → Prop} {w w1 w2 : World} {p : Nat} {M : Mo} (hb : Below w.heap.size w w1) (h : DPost own w1 p M w2) : DPost own w p M w2 := by
 obtain ⟨own', h1, h2, h4⟩ := h
 exact ⟨own', h1, (Turn.of_below hb).then h2, fun g hg => by rcases h4 g hg with k | k; exact .inl k; exact .inr (Nat.le_trans hb.size k)⟩
theorem Turn.mono {own own' : Nat → Prop} {w w' : World} (h : Turn own w w') (ho : ∀ g, own g → own' g) : Turn own' w w' :=
 ⟨h.os, h.tape, h.output, h.size, fun g hg hn => h.block g hg (fun k => hn (ho g k))⟩
theorem Turn.of_grown {own : Nat → Prop} {w w' : World} {r : Option Nat} (h : w.grownBy w' r) (ho : ∀ g, r = some g → own g) : Turn own w w' :=
 ⟨h.os, h.tape, h.output, h.size, fun g hg hn => h.block g hg (fun e => hn (ho g e.symm))⟩
theorem row_kind {w : World} {B n : Nat} {e : TypeId} {v : Value} {xs : List Value} (h : w.ownsRow B e 1 v n xs) {b : Nat} (hb : v.ownBlock = some b) : ∃ cur, w.heap[b]? = some (.cells cur e (0, 0)) := by
 rcases h.2 with ⟨k1, _⟩ | ⟨g', c, cur, k1, _, k3, _⟩
 · rw [k1] at hb; cases hb
 · rw [k1] at hb; injection hb with hb; exact ⟨cur, by rw [← hb]; exact k3⟩
theorem neqSome (m : Nat) (w : World) : (binOp .neq 83 (.map (some m)) (.map none)).run Tryz.prog w = .ok (.bool true) w := by kernel_rfl
set_option maxHeartbeats 2000000 in
theorem dmade_any {w : World} {p m1 : Nat} (c1 : w.cell? ⟨p, 0, none⟩ = some (.map (some m1))) :
 Calls Tryz.prog 38 #[.pointer (some ⟨p, 0, none⟩)] w fun e w' => e = .returned (.bool true) ∧ w = w' := by
 have q1 := neqSome m1
 go_enter Tryz.func38, Tryz.ntmps38
 go_wp2
 go_ret
 exact ⟨rfl, rfl⟩
set_option maxHeartbeats 2000000 in
theorem dOff_any {w : World} {p m1 : Nat} {f : Int} (c1 : w.cell? ⟨p, 0, none⟩ = some (.map (some m1))) (c7 : w.cell? ⟨p, 7, none⟩ = some (.int .i64 f)) :
 Calls Tryz.prog 134 #[.pointer (some ⟨p, 0, none⟩)] w fun e w' => e = .returned (.bool (f == 0)) ∧ w = w' := by
 have C1 := hid (dmade_any c1)
 clear c1
 go_enter Tryz.func134, Tryz.ntmps134
 go_wp2_with (go_at_call 38; refine C1.out.mono ?_; rintro e1 w1 ⟨rfl, rfl⟩)
 go_ret
 exact ⟨rfl, rfl⟩
def readyE (f : Int) : Int := if f = 0 then 20 else 0
theorem readyE_off {f : Int} (h : f = 0) : readyE f = 20 := if_pos h
theorem readyE_on {f : Int} (h : f ≠ 0) : readyE f = 0 := if_neg h
set_option maxHeartbeats 2000000 in
theorem dready_any {w : World} {p m1 : Nat} {f : Int} (c1 : w.cell? ⟨p, 0, none⟩ = some (.map (some m1))) (c7 : w.cell? ⟨p, 7, none⟩ = some (.int .i64 f)) :
 Calls Tryz.prog 90 #[.pointer (some ⟨p, 0, none⟩)] w fun e w' => e = .returned (.int .i64 (readyE f)) ∧ w = w' := by
 have C1 := hid (dmade_any c1)
 obtain ⟨b, HB⟩ : ∃ b, Hid ((f == 0) = b) := ⟨_, rfl⟩
 have C2 : Hid (Calls Tryz.prog 134 #[.pointer (some ⟨p, 0, none⟩)] w fun e w' => e = .returned (.bool b) ∧ w = w') := by rw [← HB.out]; exact dOff_any c1 c7
 clear c1 c7
 cases b with
 | true =>
  go_enter Tryz.func90, Tryz.ntmps90
  go_wp2_with (first
   | (go_at_call 38; refine C1.out.mono ?_; rintro e1 w1 ⟨rfl, rfl⟩)
   | (go_at_call 134; refine C2.out.mono ?_; rintro e1 w1 ⟨rfl, rfl⟩))
  go_ret
  exact ⟨by rw [readyE_off (by simpa using HB.out)]; rfl, rfl⟩
 | false =>
  go_enter Tryz.func90, Tryz.ntmps90
  go_wp2_with (first
   | (go_at_call 38; refine C1.out.mono ?_; rintro e1 w1 ⟨rfl, rfl⟩)
   | (go_at_call 134; refine C2.out.mono ?_; rintro e1 w1 ⟨rfl, rfl⟩))
  go_ret
  exact ⟨by rw [readyE_on (by simpa using HB.out)]; rfl, rfl⟩
def One (p k : Nat) : Prop := k = p
theorem set_same {cs : Array Value} {i : Nat} {v : Value} (h : cs[i]? = some v) : cs.setIfInBounds i v = cs := by
 apply Array.ext_getElem?
 intro j
 rw [Array.getElem?_setIfInBounds]
 split
 · rename_i hi
   subst hi
   split
   · exact h.symm
   · rename_i hn
     rw [Array.getElem?_eq_none (by omega)]
 · rfl
set_option maxHeartbeats 2000000 in
theorem dburn_any {w : World} {p : Nat} {cs : Array Value} {f : Int} (h : Has w p 88 cs) (h7 : cs[7]? = some (.int .i64 f)) (f0 : -1 ≤ f) (f1 : f ≤ 9223372036854775807) :
 Calls Tryz.prog 91 #[.pointer (some ⟨p, 0, none⟩)] w fun e w' => e = .returned (.tuple #[]) ∧ Turn (One p) w w' ∧ Has w' p 88 (cs.setIfInBounds 7 (.int .i64 (burnF f))) := by
 have c7 : w.cell? ⟨p, 7, none⟩ = some (.int .i64 f) := (h.at_ 7).trans h7
 have f7 := h.free 7
 have H := hid h
 have H7 := hid h7
 clear h h7
 by_cases hf : 0 < f
 · have hd : decide (0 < f) = true := by simpa using hf
   have HB : Hid (burnF f = f - 1) := by show _ = _; unfold burnF; rw [if_pos hf]
   go_enter Tryz.func91, Tryz.ntmps91
   go_wp2
   go_end0
   refine ⟨rfl, Turn.set w p 7 _ rfl, ?_⟩
   rw [HB.out]
   exact H.out.put 7 _
 · have hd : decide (0 < f) = false := by simpa using hf
   have HB : Hid (burnF f = f) := by show _ = _; unfold burnF; rw [if_neg hf]
   go_enter Tryz.func91, Tryz.ntmps91
   go_wp2
   go_end0
   refine ⟨rfl, Turn.refl _ _, ?_⟩
   rw [HB.out, set_same H7.out]
   exact H.out
end Go.Proofs.YtabidnlbgdecbaaGreatDoor
namespace Go.Proofs.YtabidnlbgdecbaaGreatDoor
open Go.RowKit Go.Maps
theorem DskI.ready {own : Nat → Prop} {w : World} {p m1 m2 : Nat} {sv : Value} {vs : List Value} {M : Mo} (h : DskI own w p m1 m2 sv vs M) :
 Calls Tryz.prog 90 #[.pointer (some ⟨p, 0, none⟩)] w fun e w' => e = .returned (.int .i64 (readyE M.fuse)) ∧ w = w' :=
 dready_any (h.has.at_ 0) (h.has.at_ 7)
theorem row_form {w : World} {B n : Nat} {e : TypeId} {v : Value} {xs : List Value} (h : w.ownsRow B e 1 v n xs) : ∃ A c, v = .slice A n c := by
 rcases h.2 with ⟨k1, k2⟩ | ⟨g', c, cur, k1, _⟩
 · exact ⟨_, _, by rw [k2]; exact k1⟩
 · exact ⟨_, _, k1⟩
theorem DskI.err {own : Nat → Prop} {w w2 : World} {p m1 m2 : Nat} {sv : Value} {vs : List Value} {M : Mo} (h : DskI own w p m1 m2 sv vs M) (hu : Turn (Two p m1) w w2) (hT : TreeS w2 p 0 m1 88 (cellsD m1 m2 sv M) M.now (usedL M.now) M.room) : DskI own w2 p m1 m2 sv vs M := by
 have hsv : ∀ b, sv.ownBlock = some b → ¬ Two p m1 b := by
  intro b hb
  obtain ⟨cur, hc⟩ := row_kind h.row hb
  rintro (e | e)
  · have := h.has
    unfold Has at this
    rw [← e, hc] at this
    injection this with this; injection this with _ this; revert this; decide
  · obtain ⟨es, ck, hh, _⟩ := h.t1
    rw [← e, hc] at hh; cases hh
 have hT2 : Turn own w w2 := hu.mono (fun g k => by rcases k with e | e <;> rw [e]; exact h.op; exact h.o1)
 refine ⟨fun g hg => Nat.lt_of_lt_of_le (h.low g hg) hu.size, fun g hg => ?_, hT.has, h.op, h.o1, h.o2, hT.mp, h.t2.kept (hu.block m2 h.t2.inside (fun k => by rcases k with k | k; exact h.pne2 k; exact h.ne k.symm)), h.ne,
  row_of h.row (fun b hb => hu.block b (h.low b (h.osv b hb)) (hsv b hb)), h.osv, h.effs.gx (Gx.of_turn hT2 h.loose), h.good, h.r0, h.r1, h.len⟩
 by_cases k : Two p m1 g
 · rcases k with e | e <;> rw [e]
   · exact hT.has.loose (by decide)
   · exact hT.mp.loose
 · intro cs t q ho
   exact h.loose g hg cs t q ((hu.block g (h.low g hg) k).symm.trans ho)
theorem DskI.done {own : Nat → Prop} {w w1 w2 w3 w4 : World} {p m1 m2 : Nat} {sv v' : Value} {vs : List Value} {M : Mo} (h : DskI own w p m1 m2 sv vs M) {v : Value} {x : Eff} (hv : IsEff w v x) {L' : Tr}
 (hn0 : M.fuse ≠ 0) (hs : stepE M.room M.now x = (0, L')) (u1 : Turn (Two p m1) w w1) (t1 : TreeS w1 p 0 m1 88 ((cellsD m1 m2 sv M).setIfInBounds 1 (.int .i64 ((usedL L' : Nat) : Int))) L' (usedL L') M.room)
 (b1 : Below w1.heap.size w1 w2) (hb2 : w1.heap.size < w2.heap.size) (hrow : w3.ownsRow 0 147 1 v' (vs.length + 1) (vs ++ [v])) (hg : w2.grownBy w3 sv.ownBlock) (hloc : v'.ownBlock = sv.ownBlock ∨ v'.ownBlock = some w2.heap.size)
 (u4 : Turn (One p) (w3.setCell ⟨p, 6, none⟩ v') w4) (h4 : Has w4 p 88 ((((cellsD m1 m2 sv M).setIfInBounds 1 (.int .i64 ((usedL L' : Nat) : Int))).setIfInBounds 6 v').setIfInBounds 7 (.int .i64 (burnF M.fuse)))) (hlen : M.since.length + 1 ≤ 100000) :
 DPost own w p (doM M x).2 w4 := by
 have hM : (doM M x).2 = ⟨L', M.last, M.since ++ [x], burnF M.fuse, M.room⟩ := by unfold doM; rw [if_neg hn0, hs, if_pos rfl]
 have hgood := h.good.do x
 rw [hM] at hgood ⊢
 -- the row of effects is no map and no disk
 have hsv : ∀ b, sv.ownBlock = some b → b ≠ p ∧ b ≠ m1 ∧ b ≠ m2 := by
  intro b hb
  obtain ⟨cur, hc⟩ := row_kind h.row hb
  refine ⟨fun e => ?_, fun e => ?_, fun e => ?_⟩
  · have := h.has
    unfold Has at this
    rw [← e, hc] at this
    injection this with this; injection this with _ this; revert this; decide
  · obtain ⟨es, ck, hh, _⟩ := h.t1
    rw [← e, hc] at hh; cases hh
  · obtain ⟨es, ck, hh, _⟩ := h.t2
    rw [← e, hc] at hh; cases hh
 have hpw1 : p < w1.heap.size := t1.has.inside
 have hm1w1 : m1 < w1.heap.size := t1.mp.inside
 have hm2w : m2 < w.heap.size := h.t2.inside
 have hm2w1 : m2 < w1.heap.size := Nat.lt_of_lt_of_le hm2w u1.size
 have s2 := b1.size
 have s3 := hg.size
 have hp3 : Has w3 p 88 ((cellsD m1 m2 sv M).setIfInBounds 1 (.int .i64 ((usedL L' : Nat) : Int))) :=
  ((hg.block p (by omega) (fun e => (hsv p e.symm).1 rfl)).trans (b1.block p hpw1)).trans t1.has
 have hv'3 : ∀ b, v'.ownBlock = some b → b ≠ p ∧ b ≠ m1 ∧ b ≠ m2 ∧ b < w3.heap.size := by
  intro b hb
  obtain ⟨cur, hc⟩ := row_kind hrow hb
  refine ⟨fun e => ?_, ?_, ?_, (Array.getElem?_eq_some_iff.1 hc).1⟩
  · have := hp3
    unfold Has at this
    rw [← e, hc] at this
    injection this with this; injection this with _ this; revert this; decide
  · rcases hloc with k | k
    · exact (hsv b (k ▸ hb)).2.1
    · rw [hb] at k; injection k with k; omega
  · rcases hloc with k | k
    · exact (hsv b (k ▸ hb)).2.2
    · rw [hb] at k; injection k with k; omega
 have hT : Turn own w w4 := by
  have a1 : Turn own w w1 := u1.mono (fun g k => by rcases k with e | e <;> rw [e]; exact h.op; exact h.o1)
  have a2 : Turn own w1 w2 := Turn.of_below b1
  have a3 : Turn own w2 w3 := Turn.of_grown hg (fun g k => h.osv g k)
  have a4 : Turn own w3 (w3.setCell ⟨p, 6, none⟩ v') := Turn.set w3 p 6 v' h.op
  have a5 : Turn own (w3.setCell ⟨p, 6, none⟩ v') w4 := u4.mono (fun g k => by rw [k]; exact h.op)
  exact (((a1.then a2).then a3).then a4).then a5
 have h34 : ∀ g, g < w3.heap.size → g ≠ p → w4.heap[g]? = w3.heap[g]? := fun g hg3 hne =>
  (u4.block g (by simpa using hg3) (fun k => hne k)).trans (Below.heap_setCell w3 ⟨p, 6, none⟩ v' g hne)
 have s4 : w3.heap.size ≤ w4.heap.size := by have := u4.size; simpa using this
 have t1' : MapT w4 m1 L' := t1.mp.kept (((h34 m1 (by omega) h.pne1).trans (hg.block m1 (by omega) (fun e => (hsv m1 e.symm).2.1 rfl))).trans (b1.block m1 hm1w1))
 have t2' : MapT w4 m2 M.last := h.t2.kept ((((h34 m2 (by omega) h.pne2).trans (hg.block m2 (by omega) (fun e => (hsv m2 e.symm).2.2 rfl))).trans (b1.block m2 hm2w1)).trans (u1.block m2 hm2w (fun k => by rcases k with k | k; exact h.pne2 k; exact h.ne k.symm)))
 have hcs : (((cellsD m1 m2 sv M).setIfInBounds 1 (.int .i64 ((usedL L' : Nat) : Int))).setIfInBounds 6 v').setIfInBounds 7 (.int .i64 (burnF M.fuse)) = cellsD m1 m2 v' ⟨L', M.last, M.since ++ [x], burnF M.fuse, M.room⟩ := rfl
 rw [hcs] at h4
 refine ⟨fun g => g = p ∨ g = m1 ∨ g = m2 ∨ v'.ownBlock = some g, ⟨m1, m2, v', vs ++ [v], ?_⟩, hT, ?_⟩
 · refine ⟨?_, ?_, h4, .inl rfl, .inr (.inl rfl), .inr (.inr (.inl rfl)), t1', t2', h.ne, ?_, fun b hb => .inr (.inr (.inr hb)), ?_, hgood, h.r0, h.r1, by simp; omega⟩
   · rintro g (e | e | e | e)
     · rw [e]; exact h4.inside
     · rw [e]; exact t1'.inside
     · rw [e]; exact t2'.inside
     · have := (hv'3 g e).2.2.2; omega
   · rintro g (e | e | e | e)
     · rw [e]; exact h4.loose (by decide)
     · rw [e]; exact t1'.loose
     · rw [e]; exact t2'.loose
     · obtain ⟨cur, hc⟩ := row_kind hrow e
       have hb := hv'3 g e
       have hc4 : Has w4 g 147 cur := (h34 g hb.2.2.2 hb.1).trans hc
       exact hc4.loose (by decide)
   · rw [List.length_append, List.length_singleton]
     exact row_of hrow (fun g hb => h34 g (hv'3 g hb).2.2.2 (hv'3 g hb).1)
   · exact (h.effs.gx (Gx.of_turn hT h.loose)).snoc (hv.gx (Gx.of_turn hT h.loose))
 · rintro g (e | e | e | e)
   · rw [e]; exact .inl h.op
   · rw [e]; exact .inl h.o1
   · rw [e]; exact .inl h.o2
   · rcases hloc with k | k
     · exact .inl (h.osv g (k ▸ e))
     · rw [e] at k; injection k with k
       have := u1.size
       exact .inr (by omega)
set_option maxHeartbeats 8000000 in
theorem ddo_any {own : Nat → Prop} {w : World} {p : Nat} {M : Mo} (h : Dsk own w p M) (hG : Gd w) (v : Value) (x : Eff) (hv : IsEff w v x) (hlen : M.since.length + 1 ≤ 100000) :
 Calls Tryz.prog 50 #[.pointer (some ⟨p, 0, none⟩), v] w fun e w' => e = .returned (.int .i64 (doM M x).1) ∧ DPost own w p (doM M x).2 w' := by
 obtain ⟨m1, m2, sv, vs, h⟩ := h
 have C1 := hid h.ready
 have H := hid h
 have HV := hid hv
 have HL := hid hlen
 by_cases hf : M.fuse = 0
 · have HR : Hid (readyE M.fuse = 20) := readyE_off hf
   have HD : Hid (doM M x = (20, M)) := by show _ = _; unfold doM; rw [if_pos hf]
   rw [HR.out] at C1
   clear h hv hf hG hlen
   go_enter Tryz.func50, Tryz.ntmps50
   go_wp2_with (go_at_call 90; refine C1.out.mono ?_; rintro e1 w1 ⟨rfl, rfl⟩)
   go_ret
   rw [HD.out]
   exact ⟨rfl, DPost.refl ⟨_, _, _, _, H.out⟩ (Below.refl _ _)⟩
 · have HR : Hid (readyE M.fuse = 0) := readyE_on hf
   obtain ⟨hd, k, lb, rfl, ek, hk⟩ := hv
   have CK := hid (hk w p 0 m1 _ M.now M.room 9223372036854775807 (Gx.refl _) h.tr1 h.good.w1 h.r1 hG (by omega))
   rw [cutE_all x _ (by omega)] at CK
   obtain ⟨⟨c, L'⟩, HS⟩ : ∃ r, Hid (stepE M.room M.now x = r) := ⟨_, rfl⟩
   rw [HS.out] at CK
   rw [HR.out] at C1
   by_cases hc : c = 0
   · subst hc
     have HD : Hid ((doM M x).1 = 0) := by show _ = _; unfold doM; rw [if_neg hf, HS.out, if_pos rfl]
     have HF := hid hf
     have HSV : Hid (∀ b, sv.ownBlock = some b → b ≠ p) := fun b hb => by
      obtain ⟨cur, hc⟩ := row_kind h.row hb
      intro e
      have := h.has
      unfold Has at this
      rw [← e, hc] at this
      injection this with this; injection this with _ this; revert this; decide
     obtain ⟨i0, hi, hz0, hz1, hz2⟩ := info_parts infoEff
     have HONE := hid HV.out.one
     have hvl : vs.length + 1 ≤ 100000 := by rw [h.effs.1]; exact hlen
     have F0 := hid h.good.f0
     have F1 := hid h.good.f1
     obtain ⟨n, HN⟩ : ∃ n, Hid (vs.length = n) := ⟨_, rfl⟩
     have hrow0 := h.row
     rw [HN.out] at hvl
     have N2 : Hid (n + 1 ≤ maxLen) := by show _ ≤ _; unfold maxLen; omega
     have N3 : Hid ((n + 1) * 8 ≤ 140737488355328) := by show _ ≤ _; omega
     have HR0 := hid hrow0
     clear h hf hG hlen hk hrow0 hvl hd
     go_enter Tryz.func50, Tryz.ntmps50
     go_wp2_with fail
     refine C1.out.mono ?_; rintro e1 w1 ⟨rfl, rfl⟩
     go_wp2_with fail
     refine CK.out.mono ?_; rintro e2 w2 ⟨rfl, hu2, ht2⟩
     have U2 := hid hu2
     have T2 := hid ht2
     have hc6 : w2.cell? ⟨p, 6, none⟩ = some sv := (T2.out.has.at_ 6).trans rfl
     have R2 : Hid (w2.ownsRow 0 147 1 sv n vs) := by
      have hr := HR0.out
      rw [HN.out] at hr
      exact row_of hr (fun b hb => U2.out.block b (H.out.low b (H.out.osv b hb)) (fun k => by
       rcases k with k | k
       · exact HSV.out b hb k
       · obtain ⟨cur, hc⟩ := row_kind HR0.out hb
         obtain ⟨es, ck, hh, _⟩ := H.out.t1
         rw [← k, hc] at hh; cases hh))
     have HP3 : Hid (∀ w3, (w2.alloc (.cells #[Value.func (.func k) #[] lb] 147)).grownBy w3 sv.ownBlock → Has w3 p 88 ((cellsD m1 m2 sv M).setIfInBounds 1 (.int .i64 ((usedL L' : Nat) : Int)))) := fun w3 hg =>
      ((hg.block p (by simp; have := T2.out.has.inside; omega) (fun e => HSV.out p e.symm rfl)).trans (Below.heap_alloc w2 _ p T2.out.has.inside)).trans T2.out.has
     clear hu2 ht2
     go_wp2_with (first
      | (at_builtin; refine wpList_append_own_at _ rfl _ _ 86 rfl 0 147 i0 .nilFunc 1 8 Tryz.underlying86 hi hz0 hz1 hz2 rfl (by decide) _ _ _ rfl (R2.out.alloc _) ⟨w2.heap.size, 0, none⟩ 1 1 [Value.func (.func k) #[] lb] rfl rfl (cell_one_new _ _ _) (fun u hu => by rw [List.mem_singleton] at hu; rw [hu]; exact HONE.out) N2.out N3.out (Nat.zero_le _) ?_; intro v' w3 hown' hg3 hnil3 hloc3; obtain ⟨A3, c3, rfl⟩ := row_form hown'; have HO3 := hid hown'; have HG3 : Hid ((w2.alloc (.cells #[Value.func (.func k) #[] lb] 147)).grownBy w3 sv.ownBlock) := hg3; have HL3 : Hid ((Value.slice A3 (n + 1) c3).ownBlock = sv.ownBlock ∨ (Value.slice A3 (n + 1) c3).ownBlock = some (w2.alloc (.cells #[Value.func (.func k) #[] lb] 147)).heap.size) := hloc3; have P3 := hid (HP3.out w3 hg3); have hc63 := P3.out.at_ 6; have hf63 := P3.out.free 6; clear hown' hg3 hnil3 hloc3)
      | fail)
     have CB := hid (dburn_any (P3.out.put 6 (.slice A3 (n + 1) c3)) (f := M.fuse) rfl F0.out F1.out)
     refine CB.out.mono ?_; rintro e4 w4 ⟨rfl, hu4, h4⟩
     have U4 := hid hu4
     have H4 := hid h4
     clear hu4 h4
     go_wp2
     go_ret
     have hD := H.out.done HV.out HF.out HS.out U2.out T2.out ((Below.refl _ _).alloc (Nat.le_refl _) _) (by simp) (by rw [HN.out]; exact HO3.out) HG3.out HL3.out U4.out H4.out HL.out
     exact ⟨by rw [HD.out]; rfl, hD⟩
   · have q1 : (c == 0) = false := by simpa using hc
     have q2 : (c != 0) = true := by simpa using hc
     have HD : Hid (doM M x = (c, M)) := by show _ = _; unfold doM; rw [if_neg hf, HS.out, if_neg hc]
     have HLE : Hid (L' = M.now) := by show _ = _; have := step_err (room := M.room) (L := M.now) x (by rw [HS.out]; exact hc); rw [HS.out] at this; exact this
     clear h hf hG hlen hc hk
     go_enter Tryz.func50, Tryz.ntmps50
     go_wp2_with fail
     refine C1.out.mono ?_; rintro e1 w1 ⟨rfl, rfl⟩
     go_wp2_with fail
     refine CK.out.mono ?_; rintro e2 w2 ⟨rfl, hu2, ht2⟩
     have U2 := hid hu2
     have T2 := hid ht2
     clear hu2 ht2
     go_wp2
     go_ret
     rw [HD.out]
     have hT := T2.out
     rw [HLE.out] at hT
     have hu : Turn own w w2 := U2.out.mono (fun g k => by rcases k with e | e <;> rw [e]; exact H.out.op; exact H.out.o1)
     have hcs : (cellsD m1 m2 sv M).setIfInBounds (0 + 1) (.int .i64 ((usedL M.now : Nat) : Int)) = cellsD m1 m2 sv M := rfl
     rw [hcs] at hT
     have hD : DskI own w2 p m1 m2 sv vs M := H.out.err U2.out hT
     exact ⟨rfl, own, ⟨_, _, _, _, hD⟩, hu, fun _ k => .inl k⟩
end Go.Proofs.YtabidnlbgdecbaaGreatDoor
namespace Go.Proofs.YtabidnlbgdecbaaGreatDoor
open Go.RowKit Go.Maps
set_option maxHeartbeats 2000000 in
theorem strClone_any (s : By) (w : World) (hs : s.length ≤ 1000000) : Calls Tryz.prog 49 #[kS s] w fun e w' => e = .returned (kS s) ∧ Below w.heap.size w w' := by
 have C := hid (Tryz.stringslite_Clone (ba s) w (by rw [ba_size]; omega))
 go_enter Tryz.func49, Tryz.ntmps49
 go_wp2_with (go_at_call 89; refine C.out.mono ?_; rintro e1 w1 ⟨rfl, hb1⟩)
 go_ret
 exact ⟨rfl, hb1⟩
theorem Has.again {w : World} {g : Nat} {t : TypeId} {v : Value} (h : Has w g t #[v]) : Has (w.setCell ⟨g, 0, none⟩ v) g t #[v] := h.put 0 v
theorem Has.again2 {w : World} {g k : Nat} {t t2 : TypeId} {v u : Value} (h : Has w g t #[v]) (hk : Has w k t2 #[u]) : Has (w.setCell ⟨k, 0, none⟩ u) g t #[v] := by
 by_cases e : g = k
 · subst e
   unfold Has at h hk
   rw [h] at hk
   injection hk with hk
   injection hk with h1 h2
   injection h1 with h1
   injection h1 with h1 _
   subst h1
   exact Has.again h
 · exact h.other e u
structure CL (w : World) (b1 b2 : Nat) (p d : By) (W : World) : Prop where
 bx : BxA b1 b2 p d W
 bl : Below w.heap.size w W
theorem CL.drew {w W : World} {b1 b2 : Nat} {p d : By} (h : CL w b1 b2 p d W) : CL w b1 b2 p d W.drew := ⟨h.bx.drew, h.bl.drew⟩
theorem CL.on {w W W' : World} {b1 b2 : Nat} {p d : By} (h : CL w b1 b2 p d W) (hb : Below W.heap.size W W') : CL w b1 b2 p d W' := ⟨h.bx.gx (Gx.of_below hb), h.bl.trans (hb.mono h.bl.size)⟩
theorem CL.set1 {w W : World} {b1 b2 : Nat} {p d : By} (h : CL w b1 b2 p d W) (h1 : w.heap.size ≤ b1) : CL w b1 b2 p d (W.setCell ⟨b1, 0, none⟩ (kS p)) := ⟨⟨h.bx.x1.again, h.bx.x2.again2 h.bx.x1⟩, h.bl.setCell h1 _⟩
theorem CL.set2 {w W : World} {b1 b2 : Nat} {p d : By} (h : CL w b1 b2 p d W) (h2 : w.heap.size ≤ b2) : CL w b1 b2 p d (W.setCell ⟨b2, 0, none⟩ (kS d)) := ⟨⟨h.bx.x1.again2 h.bx.x2, h.bx.x2.again⟩, h.bl.setCell h2 _⟩
set_option maxHeartbeats 8000000 in
theorem dWrite_any {own : Nat → Prop} {w : World} {q : Nat} {M : Mo} (h : Dsk own w q M) (hG : Gd w) (p d : By) (tm : Int) (hp : p.length ≤ 4000) (hd : d.length ≤ 1000000) (hlen : M.since.length + 1 ≤ 100000) :
 Calls Tryz.prog 21 #[.pointer (some ⟨q, 0, none⟩), kS p, kS d, .int .i64 tm] w fun e w' => e = .returned (.int .i64 (doM M (.write p d tm)).1) ∧ DPost own w q (doM M (.write p d tm)).2 w' := by
 have H := hid h
 have HG := hid hG
 have HL := hid hlen
 have P0 : Hid (CL w w.heap.size (w.heap.size + 1) p d ((((w.alloc (.cells #[kS p] 9)).alloc (.cells #[kS d] 9)).alloc (.cells #[.int .i64 tm] 2)))) := by
  refine ⟨⟨?_, ?_⟩, ?_⟩
  · exact ((Has.fresh w _ _).more _).more _
  · exact (Has.fresh' (w.alloc _) _ _ (by simp)).more _
  · exact (((Below.refl _ _).alloc (Nat.le_refl _) _).alloc (by simp) _).alloc (by simp; omega) _
 have X3 : Hid (Has ((((w.alloc (.cells #[kS p] 9)).alloc (.cells #[kS d] 9)).alloc (.cells #[.int .i64 tm] 2))).drew (w.heap.size + 2) 2 #[.int .i64 tm]) := Has.fresh' _ _ _ (by simp)
 have C1 := hid (fun W => strClone_any p W (by omega))
 have C2 := hid (fun W => strClone_any d W (by omega))
 clear h hG hlen
 go_enter Tryz.func21, Tryz.ntmps21
 go_wp2
 refine wp_region_noPanic ?_
 refine wp_region_held_drew (S := CL w w.heap.size (w.heap.size + 1) p d) (by kernel_rfl) (P0.out.drew) (fun hS => ?_)
 refine tkH 0 (v := ?_) (by simp only [lkA, lkB]; rfl) (by kernel_rfl) (fun _ _ _ h => h) (by rfl) (by assumption) ?_ ?_
 rotate_left 1
 · intro w hSw
   have hc := hSw.bx.x1.at_ 0
   go_simp
   with_reducible rfl
 simp only [Act.put, siA, siB, siC]
 refine tkH 2 (v := ?_) (by simp only [lkA, lkB, lkC]; rfl) (by kernel_rfl) (fun _ _ _ h => h) (by rfl) (by assumption) ?_ ?_
 rotate_left 1
 · intro w hSw
   have hc := hSw.bx.x2.at_ 0
   go_simp
   with_reducible rfl
 simp only [Act.put, siA, siB, siC]
 refine wpAnyH_ready (rs := [1]) (by kernel_rfl) (by simp) ?_
 refine AllReadyH.cons (by simp only [lkA, lkB, lkC]; rfl) (fun K hK => ?_) AllReadyH.nil
 go_simp
 refine (C1.out _).mono ?_
 rintro e1 w1 ⟨rfl, hb1⟩
 have hz1 := P0.out.drew.on hb1
 refine hK.out _ _ hz1 (fun hS => ?_)
 clear hK K hS
 refine wpAnyH_ready (rs := [3]) (by kernel_rfl) (by simp) ?_
 refine AllReadyH.cons (by simp only [lkA, lkB, lkC]; rfl) (fun K hK => ?_) AllReadyH.nil
 go_simp
 refine (C2.out _).mono ?_
 rintro e2 w2 ⟨rfl, hb2⟩
 have hz2 := hz1.on hb2
 refine hK.out _ _ hz2 (fun hS => ?_)
 clear hK K hS
 have X3b : Hid (Has w2 (w.heap.size + 2) 2 #[.int .i64 tm]) := (X3.out.gx (.inr rfl) (Gx.of_below hb1)).gx (.inr rfl) (Gx.of_below hb2)
 have P2 := hid hz2
 clear hz1 hz2 hb1 hb2
 have hc1 := P2.out.bx.x1.at_ 0
 have hf1 := P2.out.bx.x1.free 0
 refine wpAnyH_ready (rs := [4]) (by kernel_rfl) (by simp) ?_
 refine AllReadyH.cons (by simp only [lkA, lkB, lkC]; rfl) (fun K hK => ?_) AllReadyH.nil
 go_simp
 refine hK.out _ _ (P2.out.set1 (Nat.le_refl _)) (fun hS => ?_)
 clear hK K hS
 have P3 := hid (P2.out.set1 (Nat.le_refl _))
 have hc2 := P3.out.bx.x2.at_ 0
 have hf2 := P3.out.bx.x2.free 0
 refine wpAnyH_ready (rs := [5]) (by kernel_rfl) (by simp) ?_
 refine AllReadyH.cons (by simp only [lkA, lkB, lkC]; rfl) (fun K hK => ?_) AllReadyH.nil
 go_simp
 refine hK.out _ _ (P3.out.set2 (Nat.le_succ _)) (fun hS => ?_)
 clear hK K hS
 refine wpAnyH_done (by kernel_rfl) ?_ _
 refine NoPanic.normal ?_
 have P4 := hid (P3.out.set2 (Nat.le_succ _))
 have X4 : Hid (Has ((w2.setCell ⟨w.heap.size, 0, none⟩ (kS p)).setCell ⟨w.heap.size + 1, 0, none⟩ (kS d)) (w.heap.size + 2) 2 #[.int .i64 tm]) := (X3b.out.other (p := ⟨w.heap.size, 0, none⟩) (by show _ ≠ w.heap.size; omega) _).other (p := ⟨w.heap.size + 1, 0, none⟩) (by show _ ≠ w.heap.size + 1; omega) _
 clear hc1 hf1 hc2 hf2
 have CD := hid (ddo_any (H.out.on P4.out.bl) (HG.out.kept P4.out.bl) _ (.write p d tm) (eff_write ⟨P4.out.bx.x1, P4.out.bx.x2, X4.out⟩ hp hd) HL.out)
 go_wp2_with fail
 refine CD.out.mono ?_; rintro e3 w3 ⟨rfl, h3⟩
 have H3 := hid h3
 clear h3
 go_wp2
 go_ret
 exact ⟨rfl, DPost.ahead P4.out.bl H3.out⟩
set_option maxHeartbeats 8000000 in
theorem dMkdir_any {own : Nat → Prop} {w : World} {q : Nat} {M : Mo} (h : Dsk own w q M) (hG : Gd w) (p : By) (hp : p.length ≤ 4000) (hlen : M.since.length + 1 ≤ 100000) :
 Calls Tryz.prog 83 #[.pointer (some ⟨q, 0, none⟩), kS p] w fun e w' => e = .returned (.int .i64 (doM M (.mkdir p)).1) ∧ DPost own w q (doM M (.mkdir p)).2 w' := by
 have H := hid h
 have HG := hid hG
 have HL := hid hlen
 have X0 : Hid (Has (w.alloc (.cells #[kS p] 9)) w.heap.size 9 #[kS p]) := Has.fresh _ _ _
 have B0 : Hid (Below w.heap.size w (w.alloc (.cells #[kS p] 9))) := (Below.refl _ _).alloc (Nat.le_refl _) _
 have C1 := hid (strClone_any p (w.alloc (.cells #[kS p] 9)) (by omega))
 clear h hG hlen
 go_enter Tryz.func83, Tryz.ntmps83
 go_wp2_with fail
 refine C1.out.mono ?_; rintro e1 w1 ⟨rfl, hb1⟩
 have X1 : Hid (Has w1 w.heap.size 9 #[kS p]) := X0.out.gx (.inl rfl) (Gx.of_below hb1)
 have B1 := hid (B0.out.trans (hb1.mono B0.out.size))
 have hc1 := X1.out.at_ 0
 have hf1 := X1.out.free 0
 clear hb1
 go_wp2_with fail
 have B2 : Hid (Below w.heap.size w (w1.setCell ⟨w.heap.size, 0, none⟩ (kS p))) := B1.out.setCell (Nat.le_refl _) _
 have CD := hid (ddo_any (H.out.on B2.out) (HG.out.kept B2.out) _ (.mkdir p) (eff_mkdir X1.out.again hp) HL.out)
 refine CD.out.mono ?_; rintro e3 w3 ⟨rfl, h3⟩
 have H3 := hid h3
 clear h3
 go_wp2
 go_ret
 exact ⟨rfl, DPost.ahead B2.out H3.out⟩
end Go.Proofs.YtabidnlbgdecbaaGreatDoor
