/- The law VectorNew: what its call does. Conditions: sixteen counters each. -/
import Derived.Test.YtmmbnobbpnndkaaVL
namespace Go.Proofs.Ytmmbnobbpnndkaa
open Go.RowKit
theorem bumpV_err (l : List (BitVec 32)) (dev time : Int) (h : (bumpV l dev time).2 ≠ 0) : (bumpV l dev time).1 = zero16 := by
  unfold bumpV at h ⊢
  split
  · rfl
  · split
    · rfl
    · rename_i h1 h2; rw [if_neg h1, if_neg h2] at h; exact absurd rfl h
/-- What is raised: its place, and that it is above what was there, and not below the time. -/
theorem bumpV_ok (l : List (BitVec 32)) (dev time : Int) (h : (bumpV l dev time).2 = 0) :
    ∃ (d : Nat) (x : BitVec 32), (bumpV l dev time).1 = l.set d x ∧ dev - 1 = (d : Int) ∧ 1 ≤ dev ∧ dev ≤ 16 ∧ u (at32 l d) < u x ∧ time ≤ u x := by
  unfold bumpV at h ⊢
  split at h
  · cases h
  · split at h
    · cases h
    · rename_i h1 h2
      rw [if_neg h1, if_neg h2]
      refine ⟨(dev - 1).toNat, _, rfl, by omega, by omega, by omega, ?_⟩
      have hr := raised_u (at32 l (dev - 1).toNat) time (fun e => h2 (.inl e)) (fun e => h2 (.inr e)) (by omega)
      rw [hr]
      split <;> omega
theorem set_at (l : List (BitVec 32)) (hl : l.length = 16) (d : Nat) (hd : d < 16) (x : BitVec 32) (k : Nat) : at32 (l.set d x) k = if k = d then x else at32 l k := by
  by_cases h : k = d
  · subst h; rw [if_pos rfl, at32_set_same _ _ _ (by omega)]
  · rw [if_neg h, at32_set_other _ _ _ _ (fun e => h e.symm)]
theorem set_above (l : List (BitVec 32)) (hl : l.length = 16) (d : Nat) (hd : d < 16) (x : BitVec 32) (h : u (at32 l d) < u x) (i : Nat) : u (at32 l i) ≤ u (at32 (l.set d x) i) := by
  rw [set_at l hl d hd]
  split
  · rename_i e; subst e; omega
  · exact Int.le_refl _
theorem cmp_new (l : List (BitVec 32)) (hl : l.length = 16) (d : Nat) (hd : d < 16) (x : BitVec 32) (h : u (at32 l d) < u x) : cmpV (l.set d x) l = 1 := by
  have hn : (l.set d x).length = 16 := by rw [List.length_set, hl]
  rw [cmp_counts _ _ hn hl]
  unfold rcmpV
  have g1 : gtN l (l.set d x) 16 = 0 := (gtYtmmbnobbpnndkaazero _ _ _).2 fun i _ => set_above l hl d hd x h i
  have g2 : gtN (l.set d x) l 16 ≠ 0 := fun e => by
    have := (gtYtmmbnobbpnndkaazero _ _ _).1 e d hd
    rw [set_at l hl d hd, if_pos rfl] at this
    omega
  rw [g1, if_neg (by omega), if_pos (by omega)]
theorem cmp_new_other (l b : List (BitVec 32)) (hl : l.length = 16) (hb : b.length = 16) (d : Nat) (hd : d < 16) (x : BitVec 32) (h : u (at32 l d) < u x) (hc : cmpV l b = 2) : cmpV (l.set d x) b = 2 ∨ cmpV (l.set d x) b = 1 := by
  have hn : (l.set d x).length = 16 := by rw [List.length_set, hl]
  rw [cmp_counts _ _ hl hb] at hc
  rw [cmp_counts _ _ hn hb]
  unfold rcmpV at hc ⊢
  have g1 : gtN l b 16 ≠ 0 := fun e => by rw [e] at hc; simp at hc; split at hc <;> omega
  have g2 : gtN (l.set d x) b 16 ≠ 0 := fun e => g1 ((gtYtmmbnobbpnndkaazero _ _ _).2 fun i hi => Int.le_trans (set_above l hl d hd x h i) ((gtYtmmbnobbpnndkaazero _ _ _).1 e i hi))
  by_cases h3 : 0 < gtN b (l.set d x) 16
  · left; rw [if_pos ⟨by omega, h3⟩]
  · right; rw [if_neg (fun e => h3 e.2), if_pos (by omega)]
theorem many_next (d k : Nat) : (if d < k + 1 then (1 : Int) else 0) = if k = d then 1 else if d < k then 1 else 0 := by
  by_cases h : k = d
  · rw [if_pos h, if_pos (by omega)]
  · rw [if_neg h]
    by_cases h2 : d < k
    · rw [if_pos h2, if_pos (by omega)]
    · rw [if_neg h2, if_neg (by omega)]
theorem new_lay (w w1 : World) (a b m : List (BitVec 32)) (hb : Below ((w.alloc (.cells (vec a) 24)).alloc (.cells (vec b) 24)).heap.size ((w.alloc (.cells (vec a) 24)).alloc (.cells (vec b) 24)) w1) :
    ∃ W2, (w1.alloc (.cells zeroA 24)).setRow w1.heap.size (vec m) = W2 ∧ Hid (Has W2 w1.heap.size 24 (vec m)) ∧ Hid (Has W2 w.heap.size 24 (vec a)) ∧ Hid (Below w.heap.size w W2) ∧ Hid (Has W2 (w.heap.size + 1) 24 (vec b)) := by
  have hs := hb.size
  simp at hs
  have h1 : Has ((w.alloc (.cells (vec a) 24)).alloc (.cells (vec b) 24)) w.heap.size 24 (vec a) := (Has.fresh w 24 (vec a)).more _
  have h2 : Has ((w.alloc (.cells (vec a) 24)).alloc (.cells (vec b) 24)) (w.heap.size + 1) 24 (vec b) := Has.fresh' (w.alloc _) 24 (vec b) (by simp)
  have k1 := h1.kept hb (by simp; omega)
  have k2 := h2.kept hb (by simp)
  refine ⟨_, rfl, ?_, ?_, ?_, ?_⟩
  · exact Has.row (Has.fresh w1 24 zeroA)
  · exact (k1.more _).rowOther (by omega)
  · exact (((((Below.refl _ _).alloc (Nat.le_refl _) _).alloc (by simp) _).trans (hb.mono (by simp; omega))).alloc (by omega) _).rowK (by omega) _
  · exact (k2.more _).rowOther (by omega)
set_option maxRecDepth 100000 in
set_option maxHeartbeats 2000000 in
theorem newLaw_err (a : List (BitVec 32)) (ha : a.length = 16) (b : List (BitVec 32)) (dev time e0 : Int) (hv : bumpV a dev time = (zero16, e0)) (he : ¬ e0 = 0) (w : World) :
    Calls Try.prog 8 #[.agg (vec a), .agg (vec b), .int .i64 dev, .int .i64 time] w fun e w' => e = .returned (.bool true) ∧ Below w.heap.size w w' := by
  have CA : Hid (∀ w, Calls Try.prog 9 #[.agg (vec a), .int .i64 dev, .int .i64 time] w fun e w' => e = .returned (.tuple #[.agg (vec zero16), .int .i64 e0]) ∧ Below w.heap.size w w') := fun w => by
    have := bump_any a ha dev time w
    rw [hv] at this; exact this
  have W0 : Hid (Has ((w.alloc (.cells (vec a) 24)).alloc (.cells (vec b) 24)) w.heap.size 24 (vec a)) := (Has.fresh w 24 (vec a)).more _
  have LA0 := hid (load_vec W0.out ha)
  have Y1 := size_vec _ zero_len
  have Y2 := size_zero _ zero_len
  have HSM := hid (sameV_refl zero16)
  clear hv ha W0
  go_enter Try.func8, Try.ntmps8
  go_wp2_with (first
    | (refine wpList_load_g (by rfl) 24 (.tmp 4) rfl w.heap.size 0 rfl (vec a) LA0.out ?_)
    | (go_at_call 9; refine (CA.out _).mono ?_; rintro ee w1 ⟨rfl, hb1⟩)
    | (refine wpList_store_row rfl 24 (.tmp 9) (.tmp 18) rfl w1.heap.size (vec zero16) rfl rfl 24 zeroA (Has.fresh w1 24 zeroA) Y1.out Y2.out (vec_one _) ?_
       generalize hG : World.setRow _ _ _ = W3
       obtain ⟨V0, hG0, B2, B3, B4⟩ := new_lay w w1 a b zero16 hb1
       obtain rfl : V0 = W3 := hG0.symm.trans hG
       have LN := hid (load_vec B2.out zero_len)
       clear hG hG0 hb1 LA0)
    | (refine wpList_load_g (by rfl) 24 (.tmp 9) rfl w1.heap.size 0 rfl (vec zero16) LN.out ?_)
    | (refine wpList_eql_vec (by rfl) (.tmp 22) (.tmp 23) rfl zero16 zero16 rfl rfl zero_len zero_len _ HSM.out ?_)
    | (go_at_call 11; refine (awake_any _).mono ?_; rintro ee w8 ⟨rfl, hb8⟩))
  go_ret
  exact ⟨rfl, (two_le B4.1 hb8).out⟩
set_option maxRecDepth 100000 in
set_option maxHeartbeats 4000000 in
theorem newLaw_apart (a : List (BitVec 32)) (ha : a.length = 16) (b : List (BitVec 32)) (hb : b.length = 16) (dev time : Int) (d : Nat) (x : BitVec 32) (n : List (BitVec 32)) (hn : a.set d x = n) (hv : bumpV a dev time = (n, 0)) (e0 : dev - 1 = (d : Int)) (h0 : 1 ≤ dev) (h1 : dev ≤ 16) (hx : u (at32 a d) < u x) (ht : time ≤ u x) (q : Int) (hq : cmpV a b = q) (h2 : ¬ q = 2) (w : World) :
    Calls Try.prog 8 #[.agg (vec a), .agg (vec b), .int .i64 dev, .int .i64 time] w fun e w' => e = .returned (.bool true) ∧ Below w.heap.size w w' := by
  have hd : d < 16 := by omega
  have CA : Hid (∀ w, Calls Try.prog 9 #[.agg (vec a), .int .i64 dev, .int .i64 time] w fun e w' => e = .returned (.tuple #[.agg (vec n), .int .i64 0]) ∧ Below w.heap.size w w') := fun w => by
    have := bump_any a ha dev time w
    rw [hv] at this; exact this
  have HN : Hid (n.length = 16) := by show _ = _; rw [← hn, List.length_set, ha]
  have HA := hid ha
  have HB := hid hb
  have C1 : Hid (∀ w, Calls Try.prog 15 #[.agg (vec n), .agg (vec a)] w fun e w' => e = .returned (.int .i64 1) ∧ Below w.heap.size w w') := fun w => by
    rw [← cmp_new a ha d hd x hx, hn]; exact cmp_any n a HN.out ha w
  have C2 : Hid (∀ w, Calls Try.prog 15 #[.agg (vec a), .agg (vec b)] w fun e w' => e = .returned (.int .i64 q) ∧ Below w.heap.size w w') := fun w => by
    rw [← hq]; exact cmp_any a b ha hb w
  have AT : Hid (∀ k, at32 n k = if k = d then x else at32 a k) := fun k => by rw [← hn]; exact set_at a ha d hd x k
  obtain ⟨c, hw⟩ : ∃ c, IntKind.i64.wrap (u x) = c := ⟨_, rfl⟩
  have hct : time ≤ c := by rw [← hw, i64in _ (u_nonneg _) (by have := u_lt x; omega)]; exact ht
  have HX := hid hx
  have W0 : Hid (Has ((w.alloc (.cells (vec a) 24)).alloc (.cells (vec b) 24)) w.heap.size 24 (vec a)) := (Has.fresh w 24 (vec a)).more _
  have LA0 := hid (load_vec W0.out ha)
  have Y1 := size_vec _ HN.out
  have Y2 := size_zero _ HN.out
  clear hv ha hb W0 hn hq ht hx
  have HW := hid hw
  clear hw
  go_enter Try.func8, Try.ntmps8
  go_wp2_with (first
    | (refine wpList_load_g (by rfl) 24 (.tmp 4) rfl w.heap.size 0 rfl (vec a) LA0.out ?_)
    | (go_at_call 9; refine (CA.out _).mono ?_; rintro ee w1 ⟨rfl, hb1⟩)
    | (refine wpList_store_row rfl 24 (.tmp 9) (.tmp 18) rfl w1.heap.size (vec n) rfl rfl 24 zeroA (Has.fresh w1 24 zeroA) Y1.out Y2.out (vec_one _) ?_
       generalize hG : World.setRow _ _ _ = W3
       obtain ⟨V0, hG0, N3, A3, B3, K3⟩ := new_lay w w1 a b n hb1
       obtain rfl : V0 = W3 := hG0.symm.trans hG
       have LN3 := hid (load_vec N3.out HN.out)
       have LA3 := hid (load_vec A3.out HA.out)
       clear hG hG0 hb1 LA0)
    | (refine wpList_load_g (by rfl) 24 (.tmp 9) rfl w1.heap.size 0 rfl (vec n) LN3.out ?_)
    | (refine wpList_load_g (by rfl) 24 (.tmp 4) rfl w.heap.size 0 rfl (vec a) LA3.out ?_)
    | (go_at_call 15; (with_reducible refine (C1.out V0).mono ?_); rintro ee w4 ⟨rfl, hb4⟩
       have B4 := two_le B3 hb4
       have N4 := has_on N3 hb4
       have A4 := has_on A3 hb4
       have K4 := has_on K3 hb4
       have LA4 := hid (load_vec A4.out HA.out)
       have LB4 := hid (load_vec K4.out HB.out)
       clear hb4 LN3 LA3 N3 A3 K3 B3)
    | (refine wpList_load_g (by rfl) 24 (.tmp 4) rfl w.heap.size 0 rfl (vec a) LA4.out ?_)
    | (refine wpList_load_g (by rfl) 24 (.tmp 5) rfl (w.heap.size + 1) 0 rfl (vec b) LB4.out ?_)
    | (go_at_call 15; (with_reducible refine (C2.out w4).mono ?_); rintro ee w5 ⟨rfl, hb5⟩
       have B5 := two_le B4 hb5
       have N5 := has_on N4 hb5
       have A5 := has_on A4 hb5
       have K5 := has_on K4 hb5
       have LN5 := hid (load_vec N5.out HN.out)
       have LB5 := hid (load_vec K5.out HB.out)
       clear LN5 LB5 hb5 LA4 LB4 N4 A4 K4 B4)
)
  have hna : w1.heap.size = w1.heap.size := rfl
  clear hna
  go_loopw [11, 12] (fun y i wr => ∃ k : Nat, k ≤ 16 ∧ i = .int .i64 (k : Int) ∧ y = .int .i64 (if d < k then 1 else 0) ∧ Hid (Has wr w1.heap.size 24 (vec n)) ∧ Hid (Has wr w.heap.size 24 (vec a)) ∧ Hid (Below w.heap.size w wr))
    (fun _ i _ => 16 - (intOf i).toNat)
  case atStart => exact ⟨0, by omega, rfl, rfl, N5, A5, B5⟩
  case round =>
    obtain ⟨k, hk, rfl, rfl, J1, J2, J3⟩ := hrel
    by_cases hlt : k < 16
    · have c1 := (J1.out.at_ k).trans (vec_get n k (by rw [HN.out]; exact hlt))
      have c2 := (J2.out.at_ k).trans (vec_get a k (by rw [HA.out]; exact hlt))
      rw [AT.out k] at c1
      have MN := hid (many_next d k)
      by_cases hkd : k = d
      · subst hkd
        rw [if_pos rfl] at c1 MN
        have hne : ¬ u x = u (at32 a k) := by have := HX.out; omega
        rw [if_neg (Nat.lt_irrefl k)]
        go_wp2
        go_region
        go_wp2
        go_roundw
        case rel => exact ⟨k + 1, by omega, by go_num, by rw [MN.out], J1.out.drawn 1, J2.out.drawn 1, J3.out.drew⟩
        case measure => simp [intOf]; omega
      · rw [if_neg hkd] at c1 MN
        obtain ⟨y0, hy0⟩ : ∃ y0 : Int, Hid ((if d < k then (1 : Int) else 0) = y0) := ⟨_, rfl⟩
        rw [hy0.out] at MN ⊢
        go_wp2
        go_region
        go_wp2
        go_roundw
        case rel => exact ⟨k + 1, by omega, by go_num, by rw [MN.out], J1.out.drawn 1, J2.out.drawn 1, J3.out.drew⟩
        case measure => simp [intOf]; omega
    · obtain rfl : k = 16 := by omega
      rw [if_pos hd]
      go_wp2
      have s0 : HasAll [(w1.heap.size, n), (w.heap.size, a)] wr.drew := HasAll.draw (HasAll.cons J1 (HasAll.cons J2 (HasAll.nil _)))
      have D0 := below_draw J3
      refine wp_region_noPanic ?_
      refine wp_region_held_drew (S := HasAll [(w1.heap.size, n), (w.heap.size, a)]) (by kernel_rfl) s0 (fun hS => ?_)
      have hwd : IntKind.i64.wrap (d : Int) = (d : Int) := i64in _ (by omega) (by omega)
      have hd0 : (0 : Int) ≤ (d : Int) := by omega
      have hd1 : (d : Int) < 16 := by omega
      refine wpAnyH_take (i := 0) (v := ?_) (by simp only [List.getElem?_toArray, List.getElem?_cons_zero]; rfl) (by kernel_rfl) (by kernel_rfl) (by kernel_rfl) (fun _ _ _ h => h) (Or.inl ⟨by rfl, ?_⟩) (by assumption) ?_
      rotate_left 1
      · intro w hSw
        go_simp
        with_reducible rfl
      simp only [Act.put, List.setIfInBounds_toArray, List.set_cons_zero, List.set_cons_succ]
      refine wpAnyH_take (i := 1) (v := ?_) (by simp only [List.getElem?_toArray, List.getElem?_cons_zero, List.getElem?_cons_succ]; rfl) (by kernel_rfl) (by kernel_rfl) (by kernel_rfl) (fun _ _ _ h => h) (Or.inl ⟨by rfl, ?_⟩) (by assumption) ?_
      rotate_left 1
      · intro w hSw
        go_simp
        with_reducible rfl
      simp only [Act.put, List.setIfInBounds_toArray, List.set_cons_zero, List.set_cons_succ]
      refine wpAnyH_take (i := 2) (v := ?_) (by simp only [List.getElem?_toArray, List.getElem?_cons_zero, List.getElem?_cons_succ]; rfl) (by kernel_rfl) (by kernel_rfl) (by kernel_rfl) (fun _ _ _ h => h) (Or.inl ⟨by rfl, ?_⟩) (by assumption) ?_
      rotate_left 1
      · intro w hSw
        go_simp
        with_reducible rfl
      simp only [Act.put, List.setIfInBounds_toArray, List.set_cons_zero, List.set_cons_succ]
      refine wpAnyH_take (i := 3) (v := ?_) (by simp only [List.getElem?_toArray, List.getElem?_cons_zero, List.getElem?_cons_succ]; rfl) (by kernel_rfl) (by kernel_rfl) (by kernel_rfl) (fun _ _ _ h => h) (Or.inl ⟨by rfl, ?_⟩) (by assumption) ?_
      rotate_left 1
      · intro w hSw
        go_simp
        with_reducible rfl
      simp only [Act.put, List.setIfInBounds_toArray, List.set_cons_zero, List.set_cons_succ]
      refine wpAnyH_take (i := 4) (v := ?_) (by simp only [List.getElem?_toArray, List.getElem?_cons_zero, List.getElem?_cons_succ]; rfl) (by kernel_rfl) (by kernel_rfl) (by kernel_rfl) (fun _ _ _ h => h) (Or.inl ⟨by rfl, ?_⟩) (by assumption) ?_
      rotate_left 1
      · intro w hSw
        go_simp
        with_reducible rfl
      simp only [Act.put, List.setIfInBounds_toArray, List.set_cons_zero, List.set_cons_succ]
      refine wpAnyH_take (i := 5) (v := ?_) (by simp only [List.getElem?_toArray, List.getElem?_cons_zero, List.getElem?_cons_succ]; rfl) (by kernel_rfl) (by kernel_rfl) (by kernel_rfl) (fun _ _ _ h => h) (Or.inl ⟨by rfl, ?_⟩) (by assumption) ?_
      rotate_left 1
      · intro w hSw
        go_simp
        with_reducible rfl
      simp only [Act.put, List.setIfInBounds_toArray, List.set_cons_zero, List.set_cons_succ]
      refine wpAnyH_take (i := 6) (v := ?_) (by simp only [List.getElem?_toArray, List.getElem?_cons_zero, List.getElem?_cons_succ]; rfl) (by kernel_rfl) (by kernel_rfl) (by kernel_rfl) (fun _ _ _ h => h) (Or.inl ⟨by rfl, ?_⟩) (by assumption) ?_
      rotate_left 1
      · intro w hSw
        have hc := hSw _ (.head _)
        have hcc := ((hc.at_ d).trans (vec_get n d (by rw [HN.out]; exact hd))).trans (by rw [AT.out d, if_pos rfl] : _ = some (Value.int .u32 (u x)))
        clear hc hSw
        go_simp
        with_reducible rfl
      simp only [Act.put, List.setIfInBounds_toArray, List.set_cons_zero, List.set_cons_succ]
      have hw := HW.out
      refine wpAnyH_take (i := 7) (v := ?_) (by simp only [List.getElem?_toArray, List.getElem?_cons_zero, List.getElem?_cons_succ]; rfl) (by kernel_rfl) (by kernel_rfl) (by kernel_rfl) (fun _ _ _ h => h) (Or.inl ⟨by rfl, ?_⟩) (by assumption) ?_
      rotate_left 1
      · intro w hSw
        go_simp
        with_reducible rfl
      simp only [Act.put, List.setIfInBounds_toArray, List.set_cons_zero, List.set_cons_succ]
      clear hw
      refine wpAnyH_take (i := 8) (v := ?_) (by simp only [List.getElem?_toArray, List.getElem?_cons_zero, List.getElem?_cons_succ]; rfl) (by kernel_rfl) (by kernel_rfl) (by kernel_rfl) (fun _ _ _ h => h) (Or.inl ⟨by rfl, ?_⟩) (by assumption) ?_
      rotate_left 1
      · intro w hSw
        go_simp
        with_reducible rfl
      simp only [Act.put, List.setIfInBounds_toArray, List.set_cons_zero, List.set_cons_succ]
      refine wpAnyH_take (i := 9) (v := ?_) (by simp only [List.getElem?_toArray, List.getElem?_cons_zero, List.getElem?_cons_succ]; rfl) (by kernel_rfl) (by kernel_rfl) (by kernel_rfl) (fun _ _ _ h => h) (Or.inl ⟨by rfl, ?_⟩) (by assumption) ?_
      rotate_left 1
      · intro w hSw
        go_simp
        with_reducible rfl
      simp only [Act.put, List.setIfInBounds_toArray, List.set_cons_zero, List.set_cons_succ]
      refine wpAnyH_take (i := 10) (v := ?_) (by simp only [List.getElem?_toArray, List.getElem?_cons_zero, List.getElem?_cons_succ]; rfl) (by kernel_rfl) (by kernel_rfl) (by kernel_rfl) (fun _ _ _ h => h) (Or.inl ⟨by rfl, ?_⟩) (by assumption) ?_
      rotate_left 1
      · intro w hSw
        go_simp
        with_reducible rfl
      simp only [Act.put, List.setIfInBounds_toArray, List.set_cons_zero, List.set_cons_succ]
      refine wpAnyH_take (i := 11) (v := ?_) (by simp only [List.getElem?_toArray, List.getElem?_cons_zero, List.getElem?_cons_succ]; rfl) (by kernel_rfl) (by kernel_rfl) (by kernel_rfl) (fun _ _ _ h => h) (Or.inl ⟨by rfl, ?_⟩) (by assumption) ?_
      rotate_left 1
      · intro w hSw
        go_simp
        with_reducible rfl
      simp only [Act.put, List.setIfInBounds_toArray, List.set_cons_zero, List.set_cons_succ]
      refine wpAnyH_take (i := 12) (v := ?_) (by simp only [List.getElem?_toArray, List.getElem?_cons_zero, List.getElem?_cons_succ]; rfl) (by kernel_rfl) (by kernel_rfl) (by kernel_rfl) (fun _ _ _ h => h) (Or.inl ⟨by rfl, ?_⟩) (by assumption) ?_
      rotate_left 1
      · intro w hSw
        go_simp
        with_reducible rfl
      simp only [Act.put, List.setIfInBounds_toArray, List.set_cons_zero, List.set_cons_succ]
      refine wpAnyH_take (i := 13) (v := ?_) (by simp only [List.getElem?_toArray, List.getElem?_cons_zero, List.getElem?_cons_succ]; rfl) (by kernel_rfl) (by kernel_rfl) (by kernel_rfl) (fun _ _ _ h => h) (Or.inl ⟨by rfl, ?_⟩) (by assumption) ?_
      rotate_left 1
      · intro w hSw
        go_simp
        with_reducible rfl
      simp only [Act.put, List.setIfInBounds_toArray, List.set_cons_zero, List.set_cons_succ]
      refine wpAnyH_take (i := 14) (v := ?_) (by simp only [List.getElem?_toArray, List.getElem?_cons_zero, List.getElem?_cons_succ]; rfl) (by kernel_rfl) (by kernel_rfl) (by kernel_rfl) (fun _ _ _ h => h) (Or.inl ⟨by rfl, ?_⟩) (by assumption) ?_
      rotate_left 1
      · intro w hSw
        go_simp
        with_reducible rfl
      simp only [Act.put, List.setIfInBounds_toArray, List.set_cons_zero, List.set_cons_succ]
      refine wpAnyH_take (i := 15) (v := ?_) (by simp only [List.getElem?_toArray, List.getElem?_cons_zero, List.getElem?_cons_succ]; rfl) (by kernel_rfl) (by kernel_rfl) (by kernel_rfl) (fun _ _ _ h => h) (Or.inl ⟨by rfl, ?_⟩) (by assumption) ?_
      rotate_left 1
      · intro w hSw
        have hc := hSw _ (.head _)
        have hcc := ((hc.at_ d).trans (vec_get n d (by rw [HN.out]; exact hd))).trans (by rw [AT.out d, if_pos rfl] : _ = some (Value.int .u32 (u x)))
        clear hc hSw
        go_simp
        with_reducible rfl
      simp only [Act.put, List.setIfInBounds_toArray, List.set_cons_zero, List.set_cons_succ]
      refine wpAnyH_take (i := 16) (v := ?_) (by simp only [List.getElem?_toArray, List.getElem?_cons_zero, List.getElem?_cons_succ]; rfl) (by kernel_rfl) (by kernel_rfl) (by kernel_rfl) (fun _ _ _ h => h) (Or.inl ⟨by rfl, ?_⟩) (by assumption) ?_
      rotate_left 1
      · intro w hSw
        go_simp
        with_reducible rfl
      simp only [Act.put, List.setIfInBounds_toArray, List.set_cons_zero, List.set_cons_succ]
      refine wpAnyH_take (i := 17) (v := ?_) (by simp only [List.getElem?_toArray, List.getElem?_cons_zero, List.getElem?_cons_succ]; rfl) (by kernel_rfl) (by kernel_rfl) (by kernel_rfl) (fun _ _ _ h => h) (Or.inl ⟨by rfl, ?_⟩) (by assumption) ?_
      rotate_left 1
      · intro w hSw
        go_simp
        with_reducible rfl
      simp only [Act.put, List.setIfInBounds_toArray, List.set_cons_zero, List.set_cons_succ]
      refine wpAnyH_take (i := 18) (v := ?_) (by simp only [List.getElem?_toArray, List.getElem?_cons_zero, List.getElem?_cons_succ]; rfl) (by kernel_rfl) (by kernel_rfl) (by kernel_rfl) (fun _ _ _ h => h) (Or.inl ⟨by rfl, ?_⟩) (by assumption) ?_
      rotate_left 1
      · intro w hSw
        go_simp
        with_reducible rfl
      simp only [Act.put, List.setIfInBounds_toArray, List.set_cons_zero, List.set_cons_succ]
      refine wpAnyH_take (i := 19) (v := ?_) (by simp only [List.getElem?_toArray, List.getElem?_cons_zero, List.getElem?_cons_succ]; rfl) (by kernel_rfl) (by kernel_rfl) (by kernel_rfl) (fun _ _ _ h => h) (Or.inl ⟨by rfl, ?_⟩) (by assumption) ?_
      rotate_left 1
      · intro w hSw
        have hc := hSw _ (.tail _ (.head _))
        have hcc := (hc.at_ d).trans (vec_get a d (by rw [HA.out]; exact hd))
        clear hc hSw
        go_simp
        with_reducible rfl
      simp only [Act.put, List.setIfInBounds_toArray, List.set_cons_zero, List.set_cons_succ]
      have hx := HX.out
      refine wpAnyH_take (i := 20) (v := ?_) (by simp only [List.getElem?_toArray, List.getElem?_cons_zero, List.getElem?_cons_succ]; rfl) (by kernel_rfl) (by kernel_rfl) (by kernel_rfl) (fun _ _ _ h => h) (Or.inl ⟨by rfl, ?_⟩) (by assumption) ?_
      rotate_left 1
      · intro w hSw
        go_simp
        with_reducible rfl
      simp only [Act.put, List.setIfInBounds_toArray, List.set_cons_zero, List.set_cons_succ]
      refine wpAnyH_take (i := 21) (v := ?_) (by simp only [List.getElem?_toArray, List.getElem?_cons_zero, List.getElem?_cons_succ]; rfl) (by kernel_rfl) (by kernel_rfl) (by kernel_rfl) (fun _ _ _ h => h) (Or.inl ⟨by rfl, ?_⟩) (by assumption) ?_
      rotate_left 1
      · intro w hSw
        go_simp
        with_reducible rfl
      simp only [Act.put, List.setIfInBounds_toArray, List.set_cons_zero, List.set_cons_succ]
      refine wpAnyH_take (i := 22) (v := ?_) (by simp only [List.getElem?_toArray, List.getElem?_cons_zero, List.getElem?_cons_succ]; rfl) (by kernel_rfl) (by kernel_rfl) (by kernel_rfl) (fun _ _ _ h => h) (Or.inl ⟨by rfl, ?_⟩) (by assumption) ?_
      rotate_left 1
      · intro w hSw
        go_simp
        with_reducible rfl
      simp only [Act.put, List.setIfInBounds_toArray, List.set_cons_zero, List.set_cons_succ]
      refine wpAnyH_ready (rs := [23]) (by kernel_rfl) (by simp) ?_
      refine AllReadyH.cons (by simp only [List.getElem?_toArray, List.getElem?_cons_zero, List.getElem?_cons_succ]; rfl) (fun K hK => ?_) AllReadyH.nil
      go_simp
      refine (awake_any _).mono ?_
      rintro ee x1 ⟨rfl, hb⟩
      have s1 := HasAll.on s0 hb
      have D1 := two_le D0 hb
      clear hb s0 D0
      refine hK.out _ _ s1 (fun hS => ?_)
      clear hK K hS
      refine wpAnyH_take (i := 24) (v := ?_) (by simp only [List.getElem?_toArray, List.getElem?_cons_zero, List.getElem?_cons_succ]; rfl) (by kernel_rfl) (by kernel_rfl) (by kernel_rfl) (fun _ _ _ h => h) (Or.inl ⟨by rfl, ?_⟩) (by assumption) ?_
      rotate_left 1
      · intro w hSw
        go_simp
        with_reducible rfl
      simp only [Act.put, List.setIfInBounds_toArray, List.set_cons_zero, List.set_cons_succ]
      refine wpAnyH_take (i := 25) (v := ?_) (by simp only [List.getElem?_toArray, List.getElem?_cons_zero, List.getElem?_cons_succ]; rfl) (by kernel_rfl) (by kernel_rfl) (by kernel_rfl) (fun _ _ _ h => h) (Or.inl ⟨by rfl, ?_⟩) (by assumption) ?_
      rotate_left 1
      · intro w hSw
        go_simp
        with_reducible rfl
      simp only [Act.put, List.setIfInBounds_toArray, List.set_cons_zero, List.set_cons_succ]
      refine wpAnyH_done (by kernel_rfl) ?_ _
      refine NoPanic.normal ?_
      go_wp2
      go_ret
      exact ⟨rfl, D1.out⟩
set_option maxRecDepth 100000 in
set_option maxHeartbeats 4000000 in
theorem newLaw_conc (a : List (BitVec 32)) (ha : a.length = 16) (b : List (BitVec 32)) (hb : b.length = 16) (dev time : Int) (d : Nat) (x : BitVec 32) (n : List (BitVec 32)) (hn : a.set d x = n) (hv : bumpV a dev time = (n, 0)) (e0 : dev - 1 = (d : Int)) (h0 : 1 ≤ dev) (h1 : dev ≤ 16) (hx : u (at32 a d) < u x) (ht : time ≤ u x) (q : Int) (hq : cmpV a b = q) (h2 : q = 2) (h3 : cmpV n b = 2) (w : World) :
    Calls Try.prog 8 #[.agg (vec a), .agg (vec b), .int .i64 dev, .int .i64 time] w fun e w' => e = .returned (.bool true) ∧ Below w.heap.size w w' := by
  have hd : d < 16 := by omega
  have CA : Hid (∀ w, Calls Try.prog 9 #[.agg (vec a), .int .i64 dev, .int .i64 time] w fun e w' => e = .returned (.tuple #[.agg (vec n), .int .i64 0]) ∧ Below w.heap.size w w') := fun w => by
    have := bump_any a ha dev time w
    rw [hv] at this; exact this
  have HN : Hid (n.length = 16) := by show _ = _; rw [← hn, List.length_set, ha]
  have HA := hid ha
  have HB := hid hb
  have C1 : Hid (∀ w, Calls Try.prog 15 #[.agg (vec n), .agg (vec a)] w fun e w' => e = .returned (.int .i64 1) ∧ Below w.heap.size w w') := fun w => by
    rw [← cmp_new a ha d hd x hx, hn]; exact cmp_any n a HN.out ha w
  have C2 : Hid (∀ w, Calls Try.prog 15 #[.agg (vec a), .agg (vec b)] w fun e w' => e = .returned (.int .i64 q) ∧ Below w.heap.size w w') := fun w => by
    rw [← hq]; exact cmp_any a b ha hb w
  subst h2
  have C3 : Hid (∀ w, Calls Try.prog 15 #[.agg (vec n), .agg (vec b)] w fun e w' => e = .returned (.int .i64 2) ∧ Below w.heap.size w w') := fun w => by
    rw [← h3]; exact cmp_any n b HN.out hb w
  clear h3
  have AT : Hid (∀ k, at32 n k = if k = d then x else at32 a k) := fun k => by rw [← hn]; exact set_at a ha d hd x k
  obtain ⟨c, hw⟩ : ∃ c, IntKind.i64.wrap (u x) = c := ⟨_, rfl⟩
  have hct : time ≤ c := by rw [← hw, i64in _ (u_nonneg _) (by have := u_lt x; omega)]; exact ht
  have HX := hid hx
  have W0 : Hid (Has ((w.alloc (.cells (vec a) 24)).alloc (.cells (vec b) 24)) w.heap.size 24 (vec a)) := (Has.fresh w 24 (vec a)).more _
  have LA0 := hid (load_vec W0.out ha)
  have Y1 := size_vec _ HN.out
  have Y2 := size_zero _ HN.out
  clear hv ha hb W0 hn hq ht hx
  have HW := hid hw
  clear hw
  go_enter Try.func8, Try.ntmps8
  go_wp2_with (first
    | (refine wpList_load_g (by rfl) 24 (.tmp 4) rfl w.heap.size 0 rfl (vec a) LA0.out ?_)
    | (go_at_call 9; refine (CA.out _).mono ?_; rintro ee w1 ⟨rfl, hb1⟩)
    | (refine wpList_store_row rfl 24 (.tmp 9) (.tmp 18) rfl w1.heap.size (vec n) rfl rfl 24 zeroA (Has.fresh w1 24 zeroA) Y1.out Y2.out (vec_one _) ?_
       generalize hG : World.setRow _ _ _ = W3
       obtain ⟨V0, hG0, N3, A3, B3, K3⟩ := new_lay w w1 a b n hb1
       obtain rfl : V0 = W3 := hG0.symm.trans hG
       have LN3 := hid (load_vec N3.out HN.out)
       have LA3 := hid (load_vec A3.out HA.out)
       clear hG hG0 hb1 LA0)
    | (refine wpList_load_g (by rfl) 24 (.tmp 9) rfl w1.heap.size 0 rfl (vec n) LN3.out ?_)
    | (refine wpList_load_g (by rfl) 24 (.tmp 4) rfl w.heap.size 0 rfl (vec a) LA3.out ?_)
    | (go_at_call 15; (with_reducible refine (C1.out V0).mono ?_); rintro ee w4 ⟨rfl, hb4⟩
       have B4 := two_le B3 hb4
       have N4 := has_on N3 hb4
       have A4 := has_on A3 hb4
       have K4 := has_on K3 hb4
       have LA4 := hid (load_vec A4.out HA.out)
       have LB4 := hid (load_vec K4.out HB.out)
       clear hb4 LN3 LA3 N3 A3 K3 B3)
    | (refine wpList_load_g (by rfl) 24 (.tmp 4) rfl w.heap.size 0 rfl (vec a) LA4.out ?_)
    | (refine wpList_load_g (by rfl) 24 (.tmp 5) rfl (w.heap.size + 1) 0 rfl (vec b) LB4.out ?_)
    | (go_at_call 15; (with_reducible refine (C2.out w4).mono ?_); rintro ee w5 ⟨rfl, hb5⟩
       have B5 := two_le B4 hb5
       have N5 := has_on N4 hb5
       have A5 := has_on A4 hb5
       have K5 := has_on K4 hb5
       have LN5 := hid (load_vec N5.out HN.out)
       have LB5 := hid (load_vec K5.out HB.out)
       clear hb5 LA4 LB4 N4 A4 K4 B4)
    | (refine wpList_load_g (by rfl) 24 (.tmp 9) rfl w1.heap.size 0 rfl (vec n) LN5.out ?_)
    | (refine wpList_load_g (by rfl) 24 (.tmp 5) rfl (w.heap.size + 1) 0 rfl (vec b) LB5.out ?_)
    | (go_at_call 15; (with_reducible refine (C3.out w5).mono ?_); rintro ee w6 ⟨rfl, hb6⟩
       have B6 := two_le B5 hb6
       have N6 := has_on N5 hb6
       have A6 := has_on A5 hb6
       have K6 := has_on K5 hb6
       have LN6 := hid (load_vec N6.out HN.out)
       have LB6 := hid (load_vec K6.out HB.out)
       clear hb6 LN5 LB5 N5 A5 K5 B5)
)
  have hna : w1.heap.size = w1.heap.size := rfl
  clear hna
  go_loopw [11, 12] (fun y i wr => ∃ k : Nat, k ≤ 16 ∧ i = .int .i64 (k : Int) ∧ y = .int .i64 (if d < k then 1 else 0) ∧ Hid (Has wr w1.heap.size 24 (vec n)) ∧ Hid (Has wr w.heap.size 24 (vec a)) ∧ Hid (Below w.heap.size w wr))
    (fun _ i _ => 16 - (intOf i).toNat)
  case atStart => exact ⟨0, by omega, rfl, rfl, N6, A6, B6⟩
  case round =>
    obtain ⟨k, hk, rfl, rfl, J1, J2, J3⟩ := hrel
    by_cases hlt : k < 16
    · have c1 := (J1.out.at_ k).trans (vec_get n k (by rw [HN.out]; exact hlt))
      have c2 := (J2.out.at_ k).trans (vec_get a k (by rw [HA.out]; exact hlt))
      rw [AT.out k] at c1
      have MN := hid (many_next d k)
      by_cases hkd : k = d
      · subst hkd
        rw [if_pos rfl] at c1 MN
        have hne : ¬ u x = u (at32 a k) := by have := HX.out; omega
        rw [if_neg (Nat.lt_irrefl k)]
        go_wp2
        go_region
        go_wp2
        go_roundw
        case rel => exact ⟨k + 1, by omega, by go_num, by rw [MN.out], J1.out.drawn 1, J2.out.drawn 1, J3.out.drew⟩
        case measure => simp [intOf]; omega
      · rw [if_neg hkd] at c1 MN
        obtain ⟨y0, hy0⟩ : ∃ y0 : Int, Hid ((if d < k then (1 : Int) else 0) = y0) := ⟨_, rfl⟩
        rw [hy0.out] at MN ⊢
        go_wp2
        go_region
        go_wp2
        go_roundw
        case rel => exact ⟨k + 1, by omega, by go_num, by rw [MN.out], J1.out.drawn 1, J2.out.drawn 1, J3.out.drew⟩
        case measure => simp [intOf]; omega
    · obtain rfl : k = 16 := by omega
      rw [if_pos hd]
      go_wp2
      have s0 : HasAll [(w1.heap.size, n), (w.heap.size, a)] wr.drew := HasAll.draw (HasAll.cons J1 (HasAll.cons J2 (HasAll.nil _)))
      have D0 := below_draw J3
      refine wp_region_noPanic ?_
      refine wp_region_held_drew (S := HasAll [(w1.heap.size, n), (w.heap.size, a)]) (by kernel_rfl) s0 (fun hS => ?_)
      have hwd : IntKind.i64.wrap (d : Int) = (d : Int) := i64in _ (by omega) (by omega)
      have hd0 : (0 : Int) ≤ (d : Int) := by omega
      have hd1 : (d : Int) < 16 := by omega
      refine wpAnyH_take (i := 0) (v := ?_) (by simp only [List.getElem?_toArray, List.getElem?_cons_zero]; rfl) (by kernel_rfl) (by kernel_rfl) (by kernel_rfl) (fun _ _ _ h => h) (Or.inl ⟨by rfl, ?_⟩) (by assumption) ?_
      rotate_left 1
      · intro w hSw
        go_simp
        with_reducible rfl
      simp only [Act.put, List.setIfInBounds_toArray, List.set_cons_zero, List.set_cons_succ]
      refine wpAnyH_take (i := 1) (v := ?_) (by simp only [List.getElem?_toArray, List.getElem?_cons_zero, List.getElem?_cons_succ]; rfl) (by kernel_rfl) (by kernel_rfl) (by kernel_rfl) (fun _ _ _ h => h) (Or.inl ⟨by rfl, ?_⟩) (by assumption) ?_
      rotate_left 1
      · intro w hSw
        go_simp
        with_reducible rfl
      simp only [Act.put, List.setIfInBounds_toArray, List.set_cons_zero, List.set_cons_succ]
      refine wpAnyH_take (i := 2) (v := ?_) (by simp only [List.getElem?_toArray, List.getElem?_cons_zero, List.getElem?_cons_succ]; rfl) (by kernel_rfl) (by kernel_rfl) (by kernel_rfl) (fun _ _ _ h => h) (Or.inl ⟨by rfl, ?_⟩) (by assumption) ?_
      rotate_left 1
      · intro w hSw
        go_simp
        with_reducible rfl
      simp only [Act.put, List.setIfInBounds_toArray, List.set_cons_zero, List.set_cons_succ]
      refine wpAnyH_take (i := 3) (v := ?_) (by simp only [List.getElem?_toArray, List.getElem?_cons_zero, List.getElem?_cons_succ]; rfl) (by kernel_rfl) (by kernel_rfl) (by kernel_rfl) (fun _ _ _ h => h) (Or.inl ⟨by rfl, ?_⟩) (by assumption) ?_
      rotate_left 1
      · intro w hSw
        go_simp
        with_reducible rfl
      simp only [Act.put, List.setIfInBounds_toArray, List.set_cons_zero, List.set_cons_succ]
      refine wpAnyH_take (i := 4) (v := ?_) (by simp only [List.getElem?_toArray, List.getElem?_cons_zero, List.getElem?_cons_succ]; rfl) (by kernel_rfl) (by kernel_rfl) (by kernel_rfl) (fun _ _ _ h => h) (Or.inl ⟨by rfl, ?_⟩) (by assumption) ?_
      rotate_left 1
      · intro w hSw
        go_simp
        with_reducible rfl
      simp only [Act.put, List.setIfInBounds_toArray, List.set_cons_zero, List.set_cons_succ]
      refine wpAnyH_take (i := 5) (v := ?_) (by simp only [List.getElem?_toArray, List.getElem?_cons_zero, List.getElem?_cons_succ]; rfl) (by kernel_rfl) (by kernel_rfl) (by kernel_rfl) (fun _ _ _ h => h) (Or.inl ⟨by rfl, ?_⟩) (by assumption) ?_
      rotate_left 1
      · intro w hSw
        go_simp
        with_reducible rfl
      simp only [Act.put, List.setIfInBounds_toArray, List.set_cons_zero, List.set_cons_succ]
      refine wpAnyH_take (i := 6) (v := ?_) (by simp only [List.getElem?_toArray, List.getElem?_cons_zero, List.getElem?_cons_succ]; rfl) (by kernel_rfl) (by kernel_rfl) (by kernel_rfl) (fun _ _ _ h => h) (Or.inl ⟨by rfl, ?_⟩) (by assumption) ?_
      rotate_left 1
      · intro w hSw
        have hc := hSw _ (.head _)
        have hcc := ((hc.at_ d).trans (vec_get n d (by rw [HN.out]; exact hd))).trans (by rw [AT.out d, if_pos rfl] : _ = some (Value.int .u32 (u x)))
        clear hc hSw
        go_simp
        with_reducible rfl
      simp only [Act.put, List.setIfInBounds_toArray, List.set_cons_zero, List.set_cons_succ]
      have hw := HW.out
      refine wpAnyH_take (i := 7) (v := ?_) (by simp only [List.getElem?_toArray, List.getElem?_cons_zero, List.getElem?_cons_succ]; rfl) (by kernel_rfl) (by kernel_rfl) (by kernel_rfl) (fun _ _ _ h => h) (Or.inl ⟨by rfl, ?_⟩) (by assumption) ?_
      rotate_left 1
      · intro w hSw
        go_simp
        with_reducible rfl
      simp only [Act.put, List.setIfInBounds_toArray, List.set_cons_zero, List.set_cons_succ]
      clear hw
      refine wpAnyH_take (i := 8) (v := ?_) (by simp only [List.getElem?_toArray, List.getElem?_cons_zero, List.getElem?_cons_succ]; rfl) (by kernel_rfl) (by kernel_rfl) (by kernel_rfl) (fun _ _ _ h => h) (Or.inl ⟨by rfl, ?_⟩) (by assumption) ?_
      rotate_left 1
      · intro w hSw
        go_simp
        with_reducible rfl
      simp only [Act.put, List.setIfInBounds_toArray, List.set_cons_zero, List.set_cons_succ]
      refine wpAnyH_take (i := 9) (v := ?_) (by simp only [List.getElem?_toArray, List.getElem?_cons_zero, List.getElem?_cons_succ]; rfl) (by kernel_rfl) (by kernel_rfl) (by kernel_rfl) (fun _ _ _ h => h) (Or.inl ⟨by rfl, ?_⟩) (by assumption) ?_
      rotate_left 1
      · intro w hSw
        go_simp
        with_reducible rfl
      simp only [Act.put, List.setIfInBounds_toArray, List.set_cons_zero, List.set_cons_succ]
      refine wpAnyH_take (i := 10) (v := ?_) (by simp only [List.getElem?_toArray, List.getElem?_cons_zero, List.getElem?_cons_succ]; rfl) (by kernel_rfl) (by kernel_rfl) (by kernel_rfl) (fun _ _ _ h => h) (Or.inl ⟨by rfl, ?_⟩) (by assumption) ?_
      rotate_left 1
      · intro w hSw
        go_simp
        with_reducible rfl
      simp only [Act.put, List.setIfInBounds_toArray, List.set_cons_zero, List.set_cons_succ]
      refine wpAnyH_take (i := 11) (v := ?_) (by simp only [List.getElem?_toArray, List.getElem?_cons_zero, List.getElem?_cons_succ]; rfl) (by kernel_rfl) (by kernel_rfl) (by kernel_rfl) (fun _ _ _ h => h) (Or.inl ⟨by rfl, ?_⟩) (by assumption) ?_
      rotate_left 1
      · intro w hSw
        go_simp
        with_reducible rfl
      simp only [Act.put, List.setIfInBounds_toArray, List.set_cons_zero, List.set_cons_succ]
      refine wpAnyH_take (i := 12) (v := ?_) (by simp only [List.getElem?_toArray, List.getElem?_cons_zero, List.getElem?_cons_succ]; rfl) (by kernel_rfl) (by kernel_rfl) (by kernel_rfl) (fun _ _ _ h => h) (Or.inl ⟨by rfl, ?_⟩) (by assumption) ?_
      rotate_left 1
      · intro w hSw
        go_simp
        with_reducible rfl
      simp only [Act.put, List.setIfInBounds_toArray, List.set_cons_zero, List.set_cons_succ]
      refine wpAnyH_take (i := 13) (v := ?_) (by simp only [List.getElem?_toArray, List.getElem?_cons_zero, List.getElem?_cons_succ]; rfl) (by kernel_rfl) (by kernel_rfl) (by kernel_rfl) (fun _ _ _ h => h) (Or.inl ⟨by rfl, ?_⟩) (by assumption) ?_
      rotate_left 1
      · intro w hSw
        go_simp
        with_reducible rfl
      simp only [Act.put, List.setIfInBounds_toArray, List.set_cons_zero, List.set_cons_succ]
      refine wpAnyH_take (i := 14) (v := ?_) (by simp only [List.getElem?_toArray, List.getElem?_cons_zero, List.getElem?_cons_succ]; rfl) (by kernel_rfl) (by kernel_rfl) (by kernel_rfl) (fun _ _ _ h => h) (Or.inl ⟨by rfl, ?_⟩) (by assumption) ?_
      rotate_left 1
      · intro w hSw
        go_simp
        with_reducible rfl
      simp only [Act.put, List.setIfInBounds_toArray, List.set_cons_zero, List.set_cons_succ]
      refine wpAnyH_take (i := 15) (v := ?_) (by simp only [List.getElem?_toArray, List.getElem?_cons_zero, List.getElem?_cons_succ]; rfl) (by kernel_rfl) (by kernel_rfl) (by kernel_rfl) (fun _ _ _ h => h) (Or.inl ⟨by rfl, ?_⟩) (by assumption) ?_
      rotate_left 1
      · intro w hSw
        have hc := hSw _ (.head _)
        have hcc := ((hc.at_ d).trans (vec_get n d (by rw [HN.out]; exact hd))).trans (by rw [AT.out d, if_pos rfl] : _ = some (Value.int .u32 (u x)))
        clear hc hSw
        go_simp
        with_reducible rfl
      simp only [Act.put, List.setIfInBounds_toArray, List.set_cons_zero, List.set_cons_succ]
      refine wpAnyH_take (i := 16) (v := ?_) (by simp only [List.getElem?_toArray, List.getElem?_cons_zero, List.getElem?_cons_succ]; rfl) (by kernel_rfl) (by kernel_rfl) (by kernel_rfl) (fun _ _ _ h => h) (Or.inl ⟨by rfl, ?_⟩) (by assumption) ?_
      rotate_left 1
      · intro w hSw
        go_simp
        with_reducible rfl
      simp only [Act.put, List.setIfInBounds_toArray, List.set_cons_zero, List.set_cons_succ]
      refine wpAnyH_take (i := 17) (v := ?_) (by simp only [List.getElem?_toArray, List.getElem?_cons_zero, List.getElem?_cons_succ]; rfl) (by kernel_rfl) (by kernel_rfl) (by kernel_rfl) (fun _ _ _ h => h) (Or.inl ⟨by rfl, ?_⟩) (by assumption) ?_
      rotate_left 1
      · intro w hSw
        go_simp
        with_reducible rfl
      simp only [Act.put, List.setIfInBounds_toArray, List.set_cons_zero, List.set_cons_succ]
      refine wpAnyH_take (i := 18) (v := ?_) (by simp only [List.getElem?_toArray, List.getElem?_cons_zero, List.getElem?_cons_succ]; rfl) (by kernel_rfl) (by kernel_rfl) (by kernel_rfl) (fun _ _ _ h => h) (Or.inl ⟨by rfl, ?_⟩) (by assumption) ?_
      rotate_left 1
      · intro w hSw
        go_simp
        with_reducible rfl
      simp only [Act.put, List.setIfInBounds_toArray, List.set_cons_zero, List.set_cons_succ]
      refine wpAnyH_take (i := 19) (v := ?_) (by simp only [List.getElem?_toArray, List.getElem?_cons_zero, List.getElem?_cons_succ]; rfl) (by kernel_rfl) (by kernel_rfl) (by kernel_rfl) (fun _ _ _ h => h) (Or.inl ⟨by rfl, ?_⟩) (by assumption) ?_
      rotate_left 1
      · intro w hSw
        have hc := hSw _ (.tail _ (.head _))
        have hcc := (hc.at_ d).trans (vec_get a d (by rw [HA.out]; exact hd))
        clear hc hSw
        go_simp
        with_reducible rfl
      simp only [Act.put, List.setIfInBounds_toArray, List.set_cons_zero, List.set_cons_succ]
      have hx := HX.out
      refine wpAnyH_take (i := 20) (v := ?_) (by simp only [List.getElem?_toArray, List.getElem?_cons_zero, List.getElem?_cons_succ]; rfl) (by kernel_rfl) (by kernel_rfl) (by kernel_rfl) (fun _ _ _ h => h) (Or.inl ⟨by rfl, ?_⟩) (by assumption) ?_
      rotate_left 1
      · intro w hSw
        go_simp
        with_reducible rfl
      simp only [Act.put, List.setIfInBounds_toArray, List.set_cons_zero, List.set_cons_succ]
      refine wpAnyH_take (i := 21) (v := ?_) (by simp only [List.getElem?_toArray, List.getElem?_cons_zero, List.getElem?_cons_succ]; rfl) (by kernel_rfl) (by kernel_rfl) (by kernel_rfl) (fun _ _ _ h => h) (Or.inl ⟨by rfl, ?_⟩) (by assumption) ?_
      rotate_left 1
      · intro w hSw
        go_simp
        with_reducible rfl
      simp only [Act.put, List.setIfInBounds_toArray, List.set_cons_zero, List.set_cons_succ]
      refine wpAnyH_take (i := 22) (v := ?_) (by simp only [List.getElem?_toArray, List.getElem?_cons_zero, List.getElem?_cons_succ]; rfl) (by kernel_rfl) (by kernel_rfl) (by kernel_rfl) (fun _ _ _ h => h) (Or.inl ⟨by rfl, ?_⟩) (by assumption) ?_
      rotate_left 1
      · intro w hSw
        go_simp
        with_reducible rfl
      simp only [Act.put, List.setIfInBounds_toArray, List.set_cons_zero, List.set_cons_succ]
      refine wpAnyH_ready (rs := [23]) (by kernel_rfl) (by simp) ?_
      refine AllReadyH.cons (by simp only [List.getElem?_toArray, List.getElem?_cons_zero, List.getElem?_cons_succ]; rfl) (fun K hK => ?_) AllReadyH.nil
      go_simp
      refine (awake_any _).mono ?_
      rintro ee x1 ⟨rfl, hb⟩
      have s1 := HasAll.on s0 hb
      have D1 := two_le D0 hb
      clear hb s0 D0
      refine hK.out _ _ s1 (fun hS => ?_)
      clear hK K hS
      refine wpAnyH_take (i := 24) (v := ?_) (by simp only [List.getElem?_toArray, List.getElem?_cons_zero, List.getElem?_cons_succ]; rfl) (by kernel_rfl) (by kernel_rfl) (by kernel_rfl) (fun _ _ _ h => h) (Or.inl ⟨by rfl, ?_⟩) (by assumption) ?_
      rotate_left 1
      · intro w hSw
        go_simp
        with_reducible rfl
      simp only [Act.put, List.setIfInBounds_toArray, List.set_cons_zero, List.set_cons_succ]
      refine wpAnyH_take (i := 25) (v := ?_) (by simp only [List.getElem?_toArray, List.getElem?_cons_zero, List.getElem?_cons_succ]; rfl) (by kernel_rfl) (by kernel_rfl) (by kernel_rfl) (fun _ _ _ h => h) (Or.inl ⟨by rfl, ?_⟩) (by assumption) ?_
      rotate_left 1
      · intro w hSw
        go_simp
        with_reducible rfl
      simp only [Act.put, List.setIfInBounds_toArray, List.set_cons_zero, List.set_cons_succ]
      refine wpAnyH_done (by kernel_rfl) ?_ _
      refine NoPanic.normal ?_
      go_wp2
      go_ret
      exact ⟨rfl, D1.out⟩
set_option maxRecDepth 100000 in
set_option maxHeartbeats 4000000 in
theorem newLaw_top (a : List (BitVec 32)) (ha : a.length = 16) (b : List (BitVec 32)) (hb : b.length = 16) (dev time : Int) (d : Nat) (x : BitVec 32) (n : List (BitVec 32)) (hn : a.set d x = n) (hv : bumpV a dev time = (n, 0)) (e0 : dev - 1 = (d : Int)) (h0 : 1 ≤ dev) (h1 : dev ≤ 16) (hx : u (at32 a d) < u x) (ht : time ≤ u x) (q : Int) (hq : cmpV a b = q) (h2 : q = 2) (h3 : cmpV n b = 1) (w : World) :
    Calls Try.prog 8 #[.agg (vec a), .agg (vec b), .int .i64 dev, .int .i64 time] w fun e w' => e = .returned (.bool true) ∧ Below w.heap.size w w' := by
  have hd : d < 16 := by omega
  have CA : Hid (∀ w, Calls Try.prog 9 #[.agg (vec a), .int .i64 dev, .int .i64 time] w fun e w' => e = .returned (.tuple #[.agg (vec n), .int .i64 0]) ∧ Below w.heap.size w w') := fun w => by
    have := bump_any a ha dev time w
    rw [hv] at this; exact this
  have HN : Hid (n.length = 16) := by show _ = _; rw [← hn, List.length_set, ha]
  have HA := hid ha
  have HB := hid hb
  have C1 : Hid (∀ w, Calls Try.prog 15 #[.agg (vec n), .agg (vec a)] w fun e w' => e = .returned (.int .i64 1) ∧ Below w.heap.size w w') := fun w => by
    rw [← cmp_new a ha d hd x hx, hn]; exact cmp_any n a HN.out ha w
  have C2 : Hid (∀ w, Calls Try.prog 15 #[.agg (vec a), .agg (vec b)] w fun e w' => e = .returned (.int .i64 q) ∧ Below w.heap.size w w') := fun w => by
    rw [← hq]; exact cmp_any a b ha hb w
  subst h2
  have C3 : Hid (∀ w, Calls Try.prog 15 #[.agg (vec n), .agg (vec b)] w fun e w' => e = .returned (.int .i64 1) ∧ Below w.heap.size w w') := fun w => by
    rw [← h3]; exact cmp_any n b HN.out hb w
  clear h3
  have AT : Hid (∀ k, at32 n k = if k = d then x else at32 a k) := fun k => by rw [← hn]; exact set_at a ha d hd x k
  obtain ⟨c, hw⟩ : ∃ c, IntKind.i64.wrap (u x) = c := ⟨_, rfl⟩
  have hct : time ≤ c := by rw [← hw, i64in _ (u_nonneg _) (by have := u_lt x; omega)]; exact ht
  have HX := hid hx
  have W0 : Hid (Has ((w.alloc (.cells (vec a) 24)).alloc (.cells (vec b) 24)) w.heap.size 24 (vec a)) := (Has.fresh w 24 (vec a)).more _
  have LA0 := hid (load_vec W0.out ha)
  have Y1 := size_vec _ HN.out
  have Y2 := size_zero _ HN.out
  clear hv ha hb W0 hn hq ht hx
  have HW := hid hw
  clear hw
  go_enter Try.func8, Try.ntmps8
  go_wp2_with (first
    | (refine wpList_load_g (by rfl) 24 (.tmp 4) rfl w.heap.size 0 rfl (vec a) LA0.out ?_)
    | (go_at_call 9; refine (CA.out _).mono ?_; rintro ee w1 ⟨rfl, hb1⟩)
    | (refine wpList_store_row rfl 24 (.tmp 9) (.tmp 18) rfl w1.heap.size (vec n) rfl rfl 24 zeroA (Has.fresh w1 24 zeroA) Y1.out Y2.out (vec_one _) ?_
       generalize hG : World.setRow _ _ _ = W3
       obtain ⟨V0, hG0, N3, A3, B3, K3⟩ := new_lay w w1 a b n hb1
       obtain rfl : V0 = W3 := hG0.symm.trans hG
       have LN3 := hid (load_vec N3.out HN.out)
       have LA3 := hid (load_vec A3.out HA.out)
       clear hG hG0 hb1 LA0)
    | (refine wpList_load_g (by rfl) 24 (.tmp 9) rfl w1.heap.size 0 rfl (vec n) LN3.out ?_)
    | (refine wpList_load_g (by rfl) 24 (.tmp 4) rfl w.heap.size 0 rfl (vec a) LA3.out ?_)
    | (go_at_call 15; (with_reducible refine (C1.out V0).mono ?_); rintro ee w4 ⟨rfl, hb4⟩
       have B4 := two_le B3 hb4
       have N4 := has_on N3 hb4
       have A4 := has_on A3 hb4
       have K4 := has_on K3 hb4
       have LA4 := hid (load_vec A4.out HA.out)
       have LB4 := hid (load_vec K4.out HB.out)
       clear hb4 LN3 LA3 N3 A3 K3 B3)
    | (refine wpList_load_g (by rfl) 24 (.tmp 4) rfl w.heap.size 0 rfl (vec a) LA4.out ?_)
    | (refine wpList_load_g (by rfl) 24 (.tmp 5) rfl (w.heap.size + 1) 0 rfl (vec b) LB4.out ?_)
    | (go_at_call 15; (with_reducible refine (C2.out w4).mono ?_); rintro ee w5 ⟨rfl, hb5⟩
       have B5 := two_le B4 hb5
       have N5 := has_on N4 hb5
       have A5 := has_on A4 hb5
       have K5 := has_on K4 hb5
       have LN5 := hid (load_vec N5.out HN.out)
       have LB5 := hid (load_vec K5.out HB.out)
       clear hb5 LA4 LB4 N4 A4 K4 B4)
    | (refine wpList_load_g (by rfl) 24 (.tmp 9) rfl w1.heap.size 0 rfl (vec n) LN5.out ?_)
    | (refine wpList_load_g (by rfl) 24 (.tmp 5) rfl (w.heap.size + 1) 0 rfl (vec b) LB5.out ?_)
    | (go_at_call 15; (with_reducible refine (C3.out w5).mono ?_); rintro ee w6 ⟨rfl, hb6⟩
       have B6 := two_le B5 hb6
       have N6 := has_on N5 hb6
       have A6 := has_on A5 hb6
       have K6 := has_on K5 hb6
       have LN6 := hid (load_vec N6.out HN.out)
       have LB6 := hid (load_vec K6.out HB.out)
       clear hb6 LN5 LB5 N5 A5 K5 B5)
    | (refine wpList_load_g (by rfl) 24 (.tmp 9) rfl w1.heap.size 0 rfl (vec n) LN6.out ?_)
    | (refine wpList_load_g (by rfl) 24 (.tmp 5) rfl (w.heap.size + 1) 0 rfl (vec b) LB6.out ?_)
    | (go_at_call 15; (with_reducible refine (C3.out w6).mono ?_); rintro ee w7 ⟨rfl, hb7⟩
       have B7 := two_le B6 hb7
       have N7 := has_on N6 hb7
       have A7 := has_on A6 hb7
       have K7 := has_on K6 hb7
       clear hb7 LN6 LB6 N6 A6 K6 B6)
)
  have hna : w1.heap.size = w1.heap.size := rfl
  clear hna
  go_loopw [11, 12] (fun y i wr => ∃ k : Nat, k ≤ 16 ∧ i = .int .i64 (k : Int) ∧ y = .int .i64 (if d < k then 1 else 0) ∧ Hid (Has wr w1.heap.size 24 (vec n)) ∧ Hid (Has wr w.heap.size 24 (vec a)) ∧ Hid (Below w.heap.size w wr))
    (fun _ i _ => 16 - (intOf i).toNat)
  case atStart => exact ⟨0, by omega, rfl, rfl, N7, A7, B7⟩
  case round =>
    obtain ⟨k, hk, rfl, rfl, J1, J2, J3⟩ := hrel
    by_cases hlt : k < 16
    · have c1 := (J1.out.at_ k).trans (vec_get n k (by rw [HN.out]; exact hlt))
      have c2 := (J2.out.at_ k).trans (vec_get a k (by rw [HA.out]; exact hlt))
      rw [AT.out k] at c1
      have MN := hid (many_next d k)
      by_cases hkd : k = d
      · subst hkd
        rw [if_pos rfl] at c1 MN
        have hne : ¬ u x = u (at32 a k) := by have := HX.out; omega
        rw [if_neg (Nat.lt_irrefl k)]
        go_wp2
        go_region
        go_wp2
        go_roundw
        case rel => exact ⟨k + 1, by omega, by go_num, by rw [MN.out], J1.out.drawn 1, J2.out.drawn 1, J3.out.drew⟩
        case measure => simp [intOf]; omega
      · rw [if_neg hkd] at c1 MN
        obtain ⟨y0, hy0⟩ : ∃ y0 : Int, Hid ((if d < k then (1 : Int) else 0) = y0) := ⟨_, rfl⟩
        rw [hy0.out] at MN ⊢
        go_wp2
        go_region
        go_wp2
        go_roundw
        case rel => exact ⟨k + 1, by omega, by go_num, by rw [MN.out], J1.out.drawn 1, J2.out.drawn 1, J3.out.drew⟩
        case measure => simp [intOf]; omega
    · obtain rfl : k = 16 := by omega
      rw [if_pos hd]
      go_wp2
      have s0 : HasAll [(w1.heap.size, n), (w.heap.size, a)] wr.drew := HasAll.draw (HasAll.cons J1 (HasAll.cons J2 (HasAll.nil _)))
      have D0 := below_draw J3
      refine wp_region_noPanic ?_
      refine wp_region_held_drew (S := HasAll [(w1.heap.size, n), (w.heap.size, a)]) (by kernel_rfl) s0 (fun hS => ?_)
      have hwd : IntKind.i64.wrap (d : Int) = (d : Int) := i64in _ (by omega) (by omega)
      have hd0 : (0 : Int) ≤ (d : Int) := by omega
      have hd1 : (d : Int) < 16 := by omega
      refine wpAnyH_take (i := 0) (v := ?_) (by simp only [List.getElem?_toArray, List.getElem?_cons_zero]; rfl) (by kernel_rfl) (by kernel_rfl) (by kernel_rfl) (fun _ _ _ h => h) (Or.inl ⟨by rfl, ?_⟩) (by assumption) ?_
      rotate_left 1
      · intro w hSw
        go_simp
        with_reducible rfl
      simp only [Act.put, List.setIfInBounds_toArray, List.set_cons_zero, List.set_cons_succ]
      refine wpAnyH_take (i := 1) (v := ?_) (by simp only [List.getElem?_toArray, List.getElem?_cons_zero, List.getElem?_cons_succ]; rfl) (by kernel_rfl) (by kernel_rfl) (by kernel_rfl) (fun _ _ _ h => h) (Or.inl ⟨by rfl, ?_⟩) (by assumption) ?_
      rotate_left 1
      · intro w hSw
        go_simp
        with_reducible rfl
      simp only [Act.put, List.setIfInBounds_toArray, List.set_cons_zero, List.set_cons_succ]
      refine wpAnyH_take (i := 2) (v := ?_) (by simp only [List.getElem?_toArray, List.getElem?_cons_zero, List.getElem?_cons_succ]; rfl) (by kernel_rfl) (by kernel_rfl) (by kernel_rfl) (fun _ _ _ h => h) (Or.inl ⟨by rfl, ?_⟩) (by assumption) ?_
      rotate_left 1
      · intro w hSw
        go_simp
        with_reducible rfl
      simp only [Act.put, List.setIfInBounds_toArray, List.set_cons_zero, List.set_cons_succ]
      refine wpAnyH_take (i := 3) (v := ?_) (by simp only [List.getElem?_toArray, List.getElem?_cons_zero, List.getElem?_cons_succ]; rfl) (by kernel_rfl) (by kernel_rfl) (by kernel_rfl) (fun _ _ _ h => h) (Or.inl ⟨by rfl, ?_⟩) (by assumption) ?_
      rotate_left 1
      · intro w hSw
        go_simp
        with_reducible rfl
      simp only [Act.put, List.setIfInBounds_toArray, List.set_cons_zero, List.set_cons_succ]
      refine wpAnyH_take (i := 4) (v := ?_) (by simp only [List.getElem?_toArray, List.getElem?_cons_zero, List.getElem?_cons_succ]; rfl) (by kernel_rfl) (by kernel_rfl) (by kernel_rfl) (fun _ _ _ h => h) (Or.inl ⟨by rfl, ?_⟩) (by assumption) ?_
      rotate_left 1
      · intro w hSw
        go_simp
        with_reducible rfl
      simp only [Act.put, List.setIfInBounds_toArray, List.set_cons_zero, List.set_cons_succ]
      refine wpAnyH_take (i := 5) (v := ?_) (by simp only [List.getElem?_toArray, List.getElem?_cons_zero, List.getElem?_cons_succ]; rfl) (by kernel_rfl) (by kernel_rfl) (by kernel_rfl) (fun _ _ _ h => h) (Or.inl ⟨by rfl, ?_⟩) (by assumption) ?_
      rotate_left 1
      · intro w hSw
        go_simp
        with_reducible rfl
      simp only [Act.put, List.setIfInBounds_toArray, List.set_cons_zero, List.set_cons_succ]
      refine wpAnyH_take (i := 6) (v := ?_) (by simp only [List.getElem?_toArray, List.getElem?_cons_zero, List.getElem?_cons_succ]; rfl) (by kernel_rfl) (by kernel_rfl) (by kernel_rfl) (fun _ _ _ h => h) (Or.inl ⟨by rfl, ?_⟩) (by assumption) ?_
      rotate_left 1
      · intro w hSw
        have hc := hSw _ (.head _)
        have hcc := ((hc.at_ d).trans (vec_get n d (by rw [HN.out]; exact hd))).trans (by rw [AT.out d, if_pos rfl] : _ = some (Value.int .u32 (u x)))
        clear hc hSw
        go_simp
        with_reducible rfl
      simp only [Act.put, List.setIfInBounds_toArray, List.set_cons_zero, List.set_cons_succ]
      have hw := HW.out
      refine wpAnyH_take (i := 7) (v := ?_) (by simp only [List.getElem?_toArray, List.getElem?_cons_zero, List.getElem?_cons_succ]; rfl) (by kernel_rfl) (by kernel_rfl) (by kernel_rfl) (fun _ _ _ h => h) (Or.inl ⟨by rfl, ?_⟩) (by assumption) ?_
      rotate_left 1
      · intro w hSw
        go_simp
        with_reducible rfl
      simp only [Act.put, List.setIfInBounds_toArray, List.set_cons_zero, List.set_cons_succ]
      clear hw
      refine wpAnyH_take (i := 8) (v := ?_) (by simp only [List.getElem?_toArray, List.getElem?_cons_zero, List.getElem?_cons_succ]; rfl) (by kernel_rfl) (by kernel_rfl) (by kernel_rfl) (fun _ _ _ h => h) (Or.inl ⟨by rfl, ?_⟩) (by assumption) ?_
      rotate_left 1
      · intro w hSw
        go_simp
        with_reducible rfl
      simp only [Act.put, List.setIfInBounds_toArray, List.set_cons_zero, List.set_cons_succ]
      refine wpAnyH_take (i := 9) (v := ?_) (by simp only [List.getElem?_toArray, List.getElem?_cons_zero, List.getElem?_cons_succ]; rfl) (by kernel_rfl) (by kernel_rfl) (by kernel_rfl) (fun _ _ _ h => h) (Or.inl ⟨by rfl, ?_⟩) (by assumption) ?_
      rotate_left 1
      · intro w hSw
        go_simp
        with_reducible rfl
      simp only [Act.put, List.setIfInBounds_toArray, List.set_cons_zero, List.set_cons_succ]
      refine wpAnyH_take (i := 10) (v := ?_) (by simp only [List.getElem?_toArray, List.getElem?_cons_zero, List.getElem?_cons_succ]; rfl) (by kernel_rfl) (by kernel_rfl) (by kernel_rfl) (fun _ _ _ h => h) (Or.inl ⟨by rfl, ?_⟩) (by assumption) ?_
      rotate_left 1
      · intro w hSw
        go_simp
        with_reducible rfl
      simp only [Act.put, List.setIfInBounds_toArray, List.set_cons_zero, List.set_cons_succ]
      refine wpAnyH_take (i := 11) (v := ?_) (by simp only [List.getElem?_toArray, List.getElem?_cons_zero, List.getElem?_cons_succ]; rfl) (by kernel_rfl) (by kernel_rfl) (by kernel_rfl) (fun _ _ _ h => h) (Or.inl ⟨by rfl, ?_⟩) (by assumption) ?_
      rotate_left 1
      · intro w hSw
        go_simp
        with_reducible rfl
      simp only [Act.put, List.setIfInBounds_toArray, List.set_cons_zero, List.set_cons_succ]
      refine wpAnyH_take (i := 12) (v := ?_) (by simp only [List.getElem?_toArray, List.getElem?_cons_zero, List.getElem?_cons_succ]; rfl) (by kernel_rfl) (by kernel_rfl) (by kernel_rfl) (fun _ _ _ h => h) (Or.inl ⟨by rfl, ?_⟩) (by assumption) ?_
      rotate_left 1
      · intro w hSw
        go_simp
        with_reducible rfl
      simp only [Act.put, List.setIfInBounds_toArray, List.set_cons_zero, List.set_cons_succ]
      refine wpAnyH_take (i := 13) (v := ?_) (by simp only [List.getElem?_toArray, List.getElem?_cons_zero, List.getElem?_cons_succ]; rfl) (by kernel_rfl) (by kernel_rfl) (by kernel_rfl) (fun _ _ _ h => h) (Or.inl ⟨by rfl, ?_⟩) (by assumption) ?_
      rotate_left 1
      · intro w hSw
        go_simp
        with_reducible rfl
      simp only [Act.put, List.setIfInBounds_toArray, List.set_cons_zero, List.set_cons_succ]
      refine wpAnyH_take (i := 14) (v := ?_) (by simp only [List.getElem?_toArray, List.getElem?_cons_zero, List.getElem?_cons_succ]; rfl) (by kernel_rfl) (by kernel_rfl) (by kernel_rfl) (fun _ _ _ h => h) (Or.inl ⟨by rfl, ?_⟩) (by assumption) ?_
      rotate_left 1
      · intro w hSw
        go_simp
        with_reducible rfl
      simp only [Act.put, List.setIfInBounds_toArray, List.set_cons_zero, List.set_cons_succ]
      refine wpAnyH_take (i := 15) (v := ?_) (by simp only [List.getElem?_toArray, List.getElem?_cons_zero, List.getElem?_cons_succ]; rfl) (by kernel_rfl) (by kernel_rfl) (by kernel_rfl) (fun _ _ _ h => h) (Or.inl ⟨by rfl, ?_⟩) (by assumption) ?_
      rotate_left 1
      · intro w hSw
        have hc := hSw _ (.head _)
        have hcc := ((hc.at_ d).trans (vec_get n d (by rw [HN.out]; exact hd))).trans (by rw [AT.out d, if_pos rfl] : _ = some (Value.int .u32 (u x)))
        clear hc hSw
        go_simp
        with_reducible rfl
      simp only [Act.put, List.setIfInBounds_toArray, List.set_cons_zero, List.set_cons_succ]
      refine wpAnyH_take (i := 16) (v := ?_) (by simp only [List.getElem?_toArray, List.getElem?_cons_zero, List.getElem?_cons_succ]; rfl) (by kernel_rfl) (by kernel_rfl) (by kernel_rfl) (fun _ _ _ h => h) (Or.inl ⟨by rfl, ?_⟩) (by assumption) ?_
      rotate_left 1
      · intro w hSw
        go_simp
        with_reducible rfl
      simp only [Act.put, List.setIfInBounds_toArray, List.set_cons_zero, List.set_cons_succ]
      refine wpAnyH_take (i := 17) (v := ?_) (by simp only [List.getElem?_toArray, List.getElem?_cons_zero, List.getElem?_cons_succ]; rfl) (by kernel_rfl) (by kernel_rfl) (by kernel_rfl) (fun _ _ _ h => h) (Or.inl ⟨by rfl, ?_⟩) (by assumption) ?_
      rotate_left 1
      · intro w hSw
        go_simp
        with_reducible rfl
      simp only [Act.put, List.setIfInBounds_toArray, List.set_cons_zero, List.set_cons_succ]
      refine wpAnyH_take (i := 18) (v := ?_) (by simp only [List.getElem?_toArray, List.getElem?_cons_zero, List.getElem?_cons_succ]; rfl) (by kernel_rfl) (by kernel_rfl) (by kernel_rfl) (fun _ _ _ h => h) (Or.inl ⟨by rfl, ?_⟩) (by assumption) ?_
      rotate_left 1
      · intro w hSw
        go_simp
        with_reducible rfl
      simp only [Act.put, List.setIfInBounds_toArray, List.set_cons_zero, List.set_cons_succ]
      refine wpAnyH_take (i := 19) (v := ?_) (by simp only [List.getElem?_toArray, List.getElem?_cons_zero, List.getElem?_cons_succ]; rfl) (by kernel_rfl) (by kernel_rfl) (by kernel_rfl) (fun _ _ _ h => h) (Or.inl ⟨by rfl, ?_⟩) (by assumption) ?_
      rotate_left 1
      · intro w hSw
        have hc := hSw _ (.tail _ (.head _))
        have hcc := (hc.at_ d).trans (vec_get a d (by rw [HA.out]; exact hd))
        clear hc hSw
        go_simp
        with_reducible rfl
      simp only [Act.put, List.setIfInBounds_toArray, List.set_cons_zero, List.set_cons_succ]
      have hx := HX.out
      refine wpAnyH_take (i := 20) (v := ?_) (by simp only [List.getElem?_toArray, List.getElem?_cons_zero, List.getElem?_cons_succ]; rfl) (by kernel_rfl) (by kernel_rfl) (by kernel_rfl) (fun _ _ _ h => h) (Or.inl ⟨by rfl, ?_⟩) (by assumption) ?_
      rotate_left 1
      · intro w hSw
        go_simp
        with_reducible rfl
      simp only [Act.put, List.setIfInBounds_toArray, List.set_cons_zero, List.set_cons_succ]
      refine wpAnyH_take (i := 21) (v := ?_) (by simp only [List.getElem?_toArray, List.getElem?_cons_zero, List.getElem?_cons_succ]; rfl) (by kernel_rfl) (by kernel_rfl) (by kernel_rfl) (fun _ _ _ h => h) (Or.inl ⟨by rfl, ?_⟩) (by assumption) ?_
      rotate_left 1
      · intro w hSw
        go_simp
        with_reducible rfl
      simp only [Act.put, List.setIfInBounds_toArray, List.set_cons_zero, List.set_cons_succ]
      refine wpAnyH_take (i := 22) (v := ?_) (by simp only [List.getElem?_toArray, List.getElem?_cons_zero, List.getElem?_cons_succ]; rfl) (by kernel_rfl) (by kernel_rfl) (by kernel_rfl) (fun _ _ _ h => h) (Or.inl ⟨by rfl, ?_⟩) (by assumption) ?_
      rotate_left 1
      · intro w hSw
        go_simp
        with_reducible rfl
      simp only [Act.put, List.setIfInBounds_toArray, List.set_cons_zero, List.set_cons_succ]
      refine wpAnyH_ready (rs := [23]) (by kernel_rfl) (by simp) ?_
      refine AllReadyH.cons (by simp only [List.getElem?_toArray, List.getElem?_cons_zero, List.getElem?_cons_succ]; rfl) (fun K hK => ?_) AllReadyH.nil
      go_simp
      refine (awake_any _).mono ?_
      rintro ee x1 ⟨rfl, hb⟩
      have s1 := HasAll.on s0 hb
      have D1 := two_le D0 hb
      clear hb s0 D0
      refine hK.out _ _ s1 (fun hS => ?_)
      clear hK K hS
      refine wpAnyH_take (i := 24) (v := ?_) (by simp only [List.getElem?_toArray, List.getElem?_cons_zero, List.getElem?_cons_succ]; rfl) (by kernel_rfl) (by kernel_rfl) (by kernel_rfl) (fun _ _ _ h => h) (Or.inl ⟨by rfl, ?_⟩) (by assumption) ?_
      rotate_left 1
      · intro w hSw
        go_simp
        with_reducible rfl
      simp only [Act.put, List.setIfInBounds_toArray, List.set_cons_zero, List.set_cons_succ]
      refine wpAnyH_take (i := 25) (v := ?_) (by simp only [List.getElem?_toArray, List.getElem?_cons_zero, List.getElem?_cons_succ]; rfl) (by kernel_rfl) (by kernel_rfl) (by kernel_rfl) (fun _ _ _ h => h) (Or.inl ⟨by rfl, ?_⟩) (by assumption) ?_
      rotate_left 1
      · intro w hSw
        go_simp
        with_reducible rfl
      simp only [Act.put, List.setIfInBounds_toArray, List.set_cons_zero, List.set_cons_succ]
      refine wpAnyH_done (by kernel_rfl) ?_ _
      refine NoPanic.normal ?_
      go_wp2
      go_ret
      exact ⟨rfl, D1.out⟩
theorem newLaw_any (a : List (BitVec 32)) (ha : a.length = 16) (b : List (BitVec 32)) (hb : b.length = 16) (dev time : Int) (w : World) :
    Calls Try.prog 8 #[.agg (vec a), .agg (vec b), .int .i64 dev, .int .i64 time] w fun e w' => e = .returned (.bool true) ∧ Below w.heap.size w w' := by
  by_cases he : (bumpV a dev time).2 = 0
  · obtain ⟨d, x, h1, h2, h3, h4, h5, h6⟩ := bumpV_ok a dev time he
    have hv : bumpV a dev time = (a.set d x, 0) := by rw [← h1, ← he]
    by_cases hc : cmpV a b = 2
    · rcases cmp_new_other a b ha hb d (by omega) x h5 hc with h7 | h7
      · exact newLaw_conc a ha b hb dev time d x _ rfl hv h2 h3 h4 h5 h6 _ rfl hc h7 w
      · exact newLaw_top a ha b hb dev time d x _ rfl hv h2 h3 h4 h5 h6 _ rfl hc h7 w
    · exact newLaw_apart a ha b hb dev time d x _ rfl hv h2 h3 h4 h5 h6 _ rfl hc w
  · refine newLaw_err a ha b dev time _ ?_ he w
    rw [← bumpV_err a dev time he]
end Go.Proofs.Ytmmbnobbpnndkaa
