/- A tree in a world: within: what lies within a path, in whatever order. Conditions: paths of at most 4000 bytes. -/
import Derived.Test.YtlbeemlnbpchgaaGreatWD
import Derived.Maps.AppendAt
import Derived.Laws.AppendOwn
namespace Go.Proofs.YtlbeemlnbpchgaaGreat
open Go.RowKit Go.Maps
theorem infoStr : (Tryz.prog.info? 9).map (fun i => (i.zero, i.size, i.bytes)) = some (some (.string ⟨#[]⟩), 1, 16) := by kernel_rfl
theorem kS_one (b : By) : ∀ u ∈ [kS b], u.oneCell' = true := by
  intro u hu
  rw [List.mem_singleton] at hu
  subst hu; rfl
theorem ba_append (a b : By) : ba a ++ ba b = ba (a ++ b) := by
  apply ByteArray.ext
  simp [ba]
theorem cutPrefix_any (s b : By) (w : World) : Calls Tryz.prog 117 #[kS s, kS b] w fun e w' => e = .returned (.tuple #[kS (if b.isPrefixOf s then s.drop b.length else s), .bool (b.isPrefixOf s)]) ∧ w = w' :=
  (Tryz.strings_CutPrefix (ba s) (ba b) w).mono fun _ _ ⟨h1, h2⟩ => ⟨h1, h2.symm⟩
def restsOf (ss : List By) (b : By) : List By := ss.filterMap fun q => if b.isPrefixOf q then some (q.drop b.length) else none
theorem restsOf_snoc (ss : List By) (x b : By) : restsOf (ss ++ [x]) b = restsOf ss b ++ (if b.isPrefixOf x then [x.drop b.length] else []) := by
  unfold restsOf
  rw [List.filterMap_append]
  congr 1
  cases h : b.isPrefixOf x
  · simp only [List.filterMap_cons, List.filterMap_nil, h]; rfl
  · simp only [List.filterMap_cons, List.filterMap_nil, h]; rfl
theorem restsOf_le (ss : List By) (b : By) : (restsOf ss b).length ≤ ss.length := List.length_filterMap_le _ _
theorem rests_eq (L : Tr) (b : By) : restsL L b = restsOf (L.map (·.1)) b := by
  unfold restsL restsOf
  rw [List.filterMap_map]; rfl
theorem keys_perm {D : DataW Value} {L : Tr} (hs : Srt L) {left : Lit → Bool} {ss : List By} (hC : Collected D left ss) (hl : ∀ kl, left kl = false) (hr : ∀ p : By, p.length ≤ maxLen → has D (.string p) = (look L p).isSome)
    (hle : ∀ x, has D (.string x) = true → x.length ≤ maxLen) (hL : ∀ q, (look L q).isSome → q.length ≤ maxLen) : ss.Perm (L.map (·.1)) := by
  refine (List.perm_ext_iff_of_nodup hC.1 ?_).2 fun x => ?_
  · exact List.pairwise_map.2 (hs.imp fun h => cmpL_ne h)
  · rw [hC.2 x, hl]
    have hmem : x ∈ L.map (·.1) ↔ (look L x).isSome := by
      rw [List.mem_map]
      constructor
      · rintro ⟨y, hy, rfl⟩
        cases hq : look L y.1 with
        | none => exact absurd rfl (look_none.1 hq y hy)
        | some _ => rfl
      · intro h
        obtain ⟨n, hn⟩ := Option.isSome_iff_exists.1 h
        exact ⟨_, look_mem hn, rfl⟩
    rw [hmem]
    constructor
    · rintro ⟨h1, _⟩
      rw [← hr x (hle x h1)]; exact h1
    · intro h
      exact ⟨by rw [hr x (hL x h)]; exact h, rfl⟩
theorem has_le {w : World} {b n : Nat} {D : DataW Value} (h : w.ownsMap Tryz.prog 9 Rv b n D) (x : By) (hx : has D (.string x) = true) : x.length ≤ maxLen := by
  obtain ⟨es, rfl, hko⟩ := h.keysOf
  rw [has_eq, List.any_eq_true] at hx
  obtain ⟨p, hp, hs⟩ := hx
  obtain ⟨v, hv⟩ := hko p hp
  obtain ⟨y, _, hy, hl⟩ := Maps.keyOf_str Tryz.underlying9 hv
  rw [hy] at hs
  have : y = x := by simpa [Lit.sameKey] using hs
  rw [← this]; exact hl
/-- What within leaves: a new row of what lies within. -/
def InPost (w : World) (l : List By) (e : Ending) (w' : World) : Prop := ∃ (v : Value) (xs : List By), e = .returned v ∧ xs.Perm l ∧ w'.ownsRow w.heap.size 9 1 v xs.length (xs.map kS) ∧ Below w.heap.size w w'
theorem rv_inv (v : Value) (y : DataW Value × List MemPlace) (_ : Rv v = some y) : ∃ c, v = id c := ⟨v, rfl⟩
set_option maxRecDepth 100000 in
set_option maxHeartbeats 4000000 in
theorem twithin_any {w : World} {g o m : Nat} {t : TypeId} {cs : Array Value} {L : Tr} {u room : Nat} (h : TreeS w g o m t cs L u room) (hL : ∀ q, (look L q).isSome → q.length ≤ 4000) (p : By) (hp : p.length ≤ 4000) :
    Calls Tryz.prog 75 #[.pointer (some ⟨g, o, none⟩), kS p] w fun e w' => InPost w (innerL L p) e w' := by
  obtain ⟨i0, hi, hz0, hz1, hz2⟩ := info_parts infoStr
  obtain ⟨a, HA⟩ : ∃ a, Hid (isDirB L p = a) := ⟨_, rfl⟩
  have C1 : Hid (Calls Tryz.prog 112 #[.pointer (some ⟨g, o, none⟩), kS p] w fun e w' => e = .returned (.bool a) ∧ w = w') := by rw [← HA.out]; exact tisDir_any h p hp
  have HI : Hid (innerL L p = if a then restsL L (beginL p) else []) := by
    show _ = _
    rw [← HA.out]; unfold innerL isDirB
    by_cases k : kindP L p = 2 <;> simp [k]
  have c0 := h.c0
  obtain ⟨D, hown, hsz, hrd⟩ := h.mp.own
  have HLE := hid (has_le hown)
  have HK := hid (fun ss left (hC : Collected D left ss) (hl : ∀ kl, left kl = false) => keys_perm h.srt hC hl (fun p hp => (hrd p hp).1) HLE.out (fun q hq => maxLen_le (hL q hq)))
  have hlen := h.len
  have HSZ := hid hsz
  have HM := hid h.mp.inside
  clear h hsz hrd hL
  cases a with
  | false =>
    go_enter Tryz.func75, Tryz.ntmps75
    go_wp2_with (go_at_call 112; refine C1.out.mono ?_; rintro e1 w1 ⟨rfl, rfl⟩)
    go_ret
    exact ⟨_, [], rfl, by rw [HI.out]; exact List.Perm.refl _, World.ownsRow_nil _ _ _ _, Below.refl _ _⟩
  | true =>
    by_cases hp0 : p = []
    · have e1 : (ba p).toList = [] := by rw [toList_tl, tl_ba, hp0]
      have e2 : (ba p).toList.isEmpty = true := by simpa using e1
      have z1 : (ba p).size ≤ 4000 := by rw [ba_size]; exact hp
      have HBG : Hid (beginL p = []) := by show _ = _; unfold beginL; rw [if_pos hp0]
      clear hp0
      go_enter Tryz.func75, Tryz.ntmps75
      go_wp2_with (first
        | (go_at_call 112; refine C1.out.mono ?_; rintro e1 w1 ⟨rfl, rfl⟩)
        | (at_range; refine wpList_range_own _ rfl _ 57 rfl 9 64 str_keyed Tryz.underlying57 _ m L.length _ rfl hown ?_; intro w0 hrg0 hg0 hs0)
        | go_in)
      clear hs0 hown
      go_frame
      go_loopw [6] (fun v wr => ∃ (left : Lit → Bool) (cnt : Nat) (ss : List By), Hid (wr.ranges Tryz.prog 9 Rv m w.heap.size L.length D left cnt) ∧ Hid (ss.length + cnt ≤ L.length) ∧
          Hid (wr.ownsRow w.heap.size 9 1 v (restsOf ss []).length ((restsOf ss []).map kS)) ∧ Hid (Collected D left ss) ∧ Hid (Below w.heap.size w wr))
        (fun _ wr => wr.rangeLeft m w.heap.size)
      case atStart => exact ⟨_, _, [], hrg0, by show _ ≤ _; rw [HSZ.out]; simp, World.ownsRow_nil _ _ _ _, Collected.start D, (Below.refl _ _).grown hg0 (Nat.le_refl _) (fun j hj => by cases hj)⟩
      case round =>
        obtain ⟨left, cnt, ss, hrg, hcs, hrow, hC, hnx⟩ := hrel
        clear hg0 hrg0
        go_wp2_with (first
          | (at_next; refine wpList_next_ranges _ rfl _ rfl 9 str_keyed Rv kS id (fun key kl hk => by obtain ⟨x, hx, _⟩ := Maps.keyOf_str Tryz.underlying9 hk; exact ⟨x, hx⟩) rv_inv m w.heap.size L.length _ _ _ rfl hrg.out ?_ ?_)
          | go_in)
        · intro hc0 hl0
          have HP := hid (HK.out ss left hC.out hl0)
          clear hl0 hc0
          go_wp2
          go_ret
          exact ⟨_, _, rfl, by rw [HI.out, if_pos trivial, HBG.out, rests_eq]; exact HP.out.filterMap _, hrow.out, hnx.out⟩
        · intro x c kl yd yp w2 cnt2 hkey hlk hv hat hrg2 hlt hg2 hs2 hen
          obtain ⟨x', ex, rfl, _⟩ := Maps.keyOf_str Tryz.underlying9 hkey
          obtain rfl : x = x' := encStr_inj ex
          have hrow2 := hid (hrow.out.kept hg2 (by
            rcases hrow.out.2 with ⟨k1, _⟩ | ⟨g', _, cur, k1, _, k3, _⟩
            · rw [k1]; exact .inl rfl
            · refine .inr (fun e => ?_)
              rw [k1] at e
              injection e with e
              have e : g' = w.heap.size := e
              obtain ⟨_, _, _, _, _, _, _, _, _, k5, _⟩ := hrg.out
              rw [← e, k3] at k5
              cases k5))
          have hnx2 := hid (hnx.out.grown hg2 hnx.out.size (fun j hj => by cases hj; exact Nat.le_refl _))
          have HR2 := hid hrg2
          have HC2 := hid (hC.out.step hlk hat)
          have HLT := hid hlt
          have HSB := hid (restsOf_le ss [])
          have HSN := hid (restsOf_snoc ss x [])
          have hm2 := HM.out
          clear hs2 hkey hlk hv hat hrg2 hg2 hlt ex
          cases hpx : ([] : By).isPrefixOf x with
          | false =>
            have HPX := hid hpx
            have CP : Hid (∀ W, Calls Tryz.prog 117 #[kS x, kS []] W fun e w' => e = .returned (.tuple #[kS x, .bool false]) ∧ W = w') := by
              intro W; have := cutPrefix_any x [] W; rw [hpx] at this; exact this
            clear hpx
            go_wp2_with (go_at_call 117; refine (CP.out _).mono ?_; rintro e2 w3 ⟨rfl, rfl⟩)
            go_roundw
            case rel =>
              refine ⟨_, cnt2, ss ++ [x], HR2, ?_, ?_, HC2, hnx2⟩
              · show _ ≤ _; have h1 := hcs.out; have h2 := HLT.out; simp; omega
              · show World.ownsRow _ _ _ _ _ _ _
                have e : restsOf (ss ++ [x]) [] = restsOf ss [] := by rw [HSN.out, HPX.out]; simp
                rw [e]; exact hrow2.out
            case measure => rw [HR2.out.left_eq, hrg.out.left_eq]; exact HLT.out
          | true =>
            have HPX := hid hpx
            have CP : Hid (∀ W, Calls Tryz.prog 117 #[kS x, kS []] W fun e w' => e = .returned (.tuple #[kS (x.drop (List.length ([] : By))), .bool true]) ∧ W = w') := by
              intro W; have := cutPrefix_any x [] W; rw [hpx] at this; exact this
            clear hpx
            have N2 : Hid ((restsOf ss []).length + 1 ≤ maxLen) := by show _ ≤ _; have := HSB.out; have := hcs.out; unfold maxLen; omega
            have N3 : Hid (((restsOf ss []).length + 1) * 16 ≤ 140737488355328) := by show _ ≤ _; have := HSB.out; have := hcs.out; omega
            have N4 : Hid (∀ o, w.heap.size ≤ (w2.alloc o).heap.size) := by intro o; have := hnx2.out.size; simp; omega
            go_wp2_with (first
              | (go_at_call 117; refine (CP.out _).mono ?_; rintro e2 w3 ⟨rfl, rfl⟩)
              | (at_builtin; refine wpList_append_own _ rfl _ _ 49 rfl w.heap.size 9 i0 (.string ⟨#[]⟩) 1 16 Tryz.underlying49 hi hz0 hz1 hz2 rfl (by decide) _ _ _ rfl (hrow2.out.alloc _) ⟨w2.heap.size, 0, none⟩ 1 1 [kS (x.drop (List.length ([] : By)))] rfl rfl (cell_one_new _ _ _) (kS_one _) N2.out N3.out (N4.out _) ?_; intro v' w3 hown' hg3 _)
              | go_in)
            have HO3 := hid hown'
            have HG3 := hid hg3
            clear hown' hg3
            go_wp2
            go_roundw
            case rel =>
              refine ⟨_, cnt2, ss ++ [x], (HR2.out.alloc _).kept HG3.out ?_ ?_, ?_, ?_, HC2, ?_⟩
              · rcases hrow2.out.2 with ⟨k1, _⟩ | ⟨g', _, cur, k1, k2, k3, _⟩
                · rw [k1]; intro e; cases e
                · rw [k1]; intro e; injection e with e; have e : m = g' := e; have h8 := k2; have h9 := HM.out; omega
              · rcases hrow2.out.2 with ⟨k1, _⟩ | ⟨g', _, cur, k1, k2, k3, _⟩
                · rw [k1]; intro e; cases e
                · rw [k1]
                  intro e
                  injection e with e
                  obtain ⟨_, _, _, _, _, _, _, _, _, k5, _⟩ := HR2.out
                  rw [e, k3] at k5
                  cases k5
              · show _ ≤ _; have h1 := hcs.out; have h2 := HLT.out; simp; omega
              · show World.ownsRow _ _ _ _ _ _ _
                have e : restsOf (ss ++ [x]) [] = restsOf ss [] ++ [x.drop (List.length ([] : By))] := by rw [HSN.out, HPX.out]; simp
                rw [e, List.map_append, List.length_append]; exact HO3.out
              · exact (hnx2.out.alloc hnx2.out.size _).grown HG3.out (N4.out _) (fun j hj => (hrow2.out.lt j hj).1)
            case measure => rw [((HR2.out.alloc _).kept HG3.out (by
                rcases hrow2.out.2 with ⟨k1, _⟩ | ⟨g', _, cur, k1, k2, k3, _⟩
                · rw [k1]; intro e; cases e
                · rw [k1]; intro e; injection e with e; have e : m = g' := e; have h8 := k2; have h9 := HM.out; omega) (by
                rcases hrow2.out.2 with ⟨k1, _⟩ | ⟨g', _, cur, k1, k2, k3, _⟩
                · rw [k1]; intro e; cases e
                · rw [k1]
                  intro e
                  injection e with e
                  obtain ⟨_, _, _, _, _, _, _, _, _, k5, _⟩ := HR2.out
                  rw [e, k3] at k5
                  cases k5)).left_eq, hrg.out.left_eq]; exact HLT.out
    · have e1 : ¬ (ba p).toList = [] := by rw [toList_tl, tl_ba]; exact hp0
      have e2 : (ba p).toList.isEmpty = false := by simpa using e1
      have z1 : (ba p).size ≤ 4000 := by rw [ba_size]; exact hp
      obtain ⟨b, HBG⟩ : ∃ b, Hid (beginL p = b) := ⟨_, rfl⟩
      have HB7 : Hid (ba p ++ ⟨#[47]⟩ = ba b) := by show _ = _; rw [← HBG.out]; unfold beginL; rw [if_neg hp0]; exact ba_append p [47]
      clear hp0
      go_enter Tryz.func75, Tryz.ntmps75
      go_wp2_with (first
        | (go_at_call 112; refine C1.out.mono ?_; rintro e1 w1 ⟨rfl, rfl⟩)
        | (at_range; refine wpList_range_own _ rfl _ 57 rfl 9 64 str_keyed Tryz.underlying57 _ m L.length _ rfl hown ?_; intro w0 hrg0 hg0 hs0)
        | go_in)
      clear hs0 hown
      go_frame
      rw [HB7.out]
      go_loopw [6] (fun v wr => ∃ (left : Lit → Bool) (cnt : Nat) (ss : List By), Hid (wr.ranges Tryz.prog 9 Rv m w.heap.size L.length D left cnt) ∧ Hid (ss.length + cnt ≤ L.length) ∧
          Hid (wr.ownsRow w.heap.size 9 1 v (restsOf ss b).length ((restsOf ss b).map kS)) ∧ Hid (Collected D left ss) ∧ Hid (Below w.heap.size w wr))
        (fun _ wr => wr.rangeLeft m w.heap.size)
      case atStart => exact ⟨_, _, [], hrg0, by show _ ≤ _; rw [HSZ.out]; simp, World.ownsRow_nil _ _ _ _, Collected.start D, (Below.refl _ _).grown hg0 (Nat.le_refl _) (fun j hj => by cases hj)⟩
      case round =>
        obtain ⟨left, cnt, ss, hrg, hcs, hrow, hC, hnx⟩ := hrel
        clear hg0 hrg0
        go_wp2_with (first
          | (at_next; refine wpList_next_ranges _ rfl _ rfl 9 str_keyed Rv kS id (fun key kl hk => by obtain ⟨x, hx, _⟩ := Maps.keyOf_str Tryz.underlying9 hk; exact ⟨x, hx⟩) rv_inv m w.heap.size L.length _ _ _ rfl hrg.out ?_ ?_)
          | go_in)
        · intro hc0 hl0
          have HP := hid (HK.out ss left hC.out hl0)
          clear hl0 hc0
          go_wp2
          go_ret
          exact ⟨_, _, rfl, by rw [HI.out, if_pos trivial, HBG.out, rests_eq]; exact HP.out.filterMap _, hrow.out, hnx.out⟩
        · intro x c kl yd yp w2 cnt2 hkey hlk hv hat hrg2 hlt hg2 hs2 hen
          obtain ⟨x', ex, rfl, _⟩ := Maps.keyOf_str Tryz.underlying9 hkey
          obtain rfl : x = x' := encStr_inj ex
          have hrow2 := hid (hrow.out.kept hg2 (by
            rcases hrow.out.2 with ⟨k1, _⟩ | ⟨g', _, cur, k1, _, k3, _⟩
            · rw [k1]; exact .inl rfl
            · refine .inr (fun e => ?_)
              rw [k1] at e
              injection e with e
              have e : g' = w.heap.size := e
              obtain ⟨_, _, _, _, _, _, _, _, _, k5, _⟩ := hrg.out
              rw [← e, k3] at k5
              cases k5))
          have hnx2 := hid (hnx.out.grown hg2 hnx.out.size (fun j hj => by cases hj; exact Nat.le_refl _))
          have HR2 := hid hrg2
          have HC2 := hid (hC.out.step hlk hat)
          have HLT := hid hlt
          have HSB := hid (restsOf_le ss b)
          have HSN := hid (restsOf_snoc ss x b)
          have hm2 := HM.out
          clear hs2 hkey hlk hv hat hrg2 hg2 hlt ex
          cases hpx : (b : By).isPrefixOf x with
          | false =>
            have HPX := hid hpx
            have CP : Hid (∀ W, Calls Tryz.prog 117 #[kS x, kS b] W fun e w' => e = .returned (.tuple #[kS x, .bool false]) ∧ W = w') := by
              intro W; have := cutPrefix_any x b W; rw [hpx] at this; exact this
            clear hpx
            go_wp2_with (go_at_call 117; refine (CP.out _).mono ?_; rintro e2 w3 ⟨rfl, rfl⟩)
            go_roundw
            case rel =>
              refine ⟨_, cnt2, ss ++ [x], HR2, ?_, ?_, HC2, hnx2⟩
              · show _ ≤ _; have h1 := hcs.out; have h2 := HLT.out; simp; omega
              · show World.ownsRow _ _ _ _ _ _ _
                have e : restsOf (ss ++ [x]) b = restsOf ss b := by rw [HSN.out, HPX.out]; simp
                rw [e]; exact hrow2.out
            case measure => rw [HR2.out.left_eq, hrg.out.left_eq]; exact HLT.out
          | true =>
            have HPX := hid hpx
            have CP : Hid (∀ W, Calls Tryz.prog 117 #[kS x, kS b] W fun e w' => e = .returned (.tuple #[kS (x.drop (List.length (b : By))), .bool true]) ∧ W = w') := by
              intro W; have := cutPrefix_any x b W; rw [hpx] at this; exact this
            clear hpx
            have N2 : Hid ((restsOf ss b).length + 1 ≤ maxLen) := by show _ ≤ _; have := HSB.out; have := hcs.out; unfold maxLen; omega
            have N3 : Hid (((restsOf ss b).length + 1) * 16 ≤ 140737488355328) := by show _ ≤ _; have := HSB.out; have := hcs.out; omega
            have N4 : Hid (∀ o, w.heap.size ≤ (w2.alloc o).heap.size) := by intro o; have := hnx2.out.size; simp; omega
            go_wp2_with (first
              | (go_at_call 117; refine (CP.out _).mono ?_; rintro e2 w3 ⟨rfl, rfl⟩)
              | (at_builtin; refine wpList_append_own _ rfl _ _ 49 rfl w.heap.size 9 i0 (.string ⟨#[]⟩) 1 16 Tryz.underlying49 hi hz0 hz1 hz2 rfl (by decide) _ _ _ rfl (hrow2.out.alloc _) ⟨w2.heap.size, 0, none⟩ 1 1 [kS (x.drop (List.length (b : By)))] rfl rfl (cell_one_new _ _ _) (kS_one _) N2.out N3.out (N4.out _) ?_; intro v' w3 hown' hg3 _)
              | go_in)
            have HO3 := hid hown'
            have HG3 := hid hg3
            clear hown' hg3
            go_wp2
            go_roundw
            case rel =>
              refine ⟨_, cnt2, ss ++ [x], (HR2.out.alloc _).kept HG3.out ?_ ?_, ?_, ?_, HC2, ?_⟩
              · rcases hrow2.out.2 with ⟨k1, _⟩ | ⟨g', _, cur, k1, k2, k3, _⟩
                · rw [k1]; intro e; cases e
                · rw [k1]; intro e; injection e with e; have e : m = g' := e; have h8 := k2; have h9 := HM.out; omega
              · rcases hrow2.out.2 with ⟨k1, _⟩ | ⟨g', _, cur, k1, k2, k3, _⟩
                · rw [k1]; intro e; cases e
                · rw [k1]
                  intro e
                  injection e with e
                  obtain ⟨_, _, _, _, _, _, _, _, _, k5, _⟩ := HR2.out
                  rw [e, k3] at k5
                  cases k5
              · show _ ≤ _; have h1 := hcs.out; have h2 := HLT.out; simp; omega
              · show World.ownsRow _ _ _ _ _ _ _
                have e : restsOf (ss ++ [x]) b = restsOf ss b ++ [x.drop (List.length (b : By))] := by rw [HSN.out, HPX.out]; simp
                rw [e, List.map_append, List.length_append]; exact HO3.out
              · exact (hnx2.out.alloc hnx2.out.size _).grown HG3.out (N4.out _) (fun j hj => (hrow2.out.lt j hj).1)
            case measure => rw [((HR2.out.alloc _).kept HG3.out (by
                rcases hrow2.out.2 with ⟨k1, _⟩ | ⟨g', _, cur, k1, k2, k3, _⟩
                · rw [k1]; intro e; cases e
                · rw [k1]; intro e; injection e with e; have e : m = g' := e; have h8 := k2; have h9 := HM.out; omega) (by
                rcases hrow2.out.2 with ⟨k1, _⟩ | ⟨g', _, cur, k1, k2, k3, _⟩
                · rw [k1]; intro e; cases e
                · rw [k1]
                  intro e
                  injection e with e
                  obtain ⟨_, _, _, _, _, _, _, _, _, k5, _⟩ := HR2.out
                  rw [e, k3] at k5
                  cases k5)).left_eq, hrg.out.left_eq]; exact HLT.out
end Go.Proofs.YtlbeemlnbpchgaaGreat
