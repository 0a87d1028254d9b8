/- The document's patterns: within, other, holds: what each call does. Conditions: a pattern and an element of the document's. -/
import Derived.Test.YtpipkgkfhbagmaaGreatDoorKD
namespace Go.Proofs.YtpipkgkfhbagmaaGreatDoor.Glob
open Go.RowKit
theorem Rgs.at_ {B : Nat} {w : World} {v : Value} {rs : List Rg} (h : Rgs B w v rs) : (rs = [] ∧ v = .slice none 0 0) ∨ ∃ g cap, v = .slice (some ⟨g, 0, none⟩) rs.length cap ∧ g < w.heap.size ∧ ∀ k (hk : k < rs.length), w.cell? ⟨g, k * 2, none⟩ = some (.int .u8 (b8 rs[k].1)) ∧ w.cell? ⟨g, k * 2 + 1, none⟩ = some (.int .u8 (b8 rs[k].2)) := by
  rcases h.2 with ⟨h1, h2⟩ | ⟨g, c, cur, h1, hB, h3, h4, h5, h6, h7⟩
  · exact .inl ⟨List.length_eq_zero_iff.1 h2, h1⟩
  · refine .inr ⟨g, c, h1, (Array.getElem?_eq_some_iff.1 h3).1, fun k hk => ?_⟩
    have hh : Has w g 123 cur := h3
    have e := scells_at rs k hk
    rw [← h7, List.getElem?_take_of_lt (by omega), List.getElem?_take_of_lt (by omega)] at e
    rw [hh.at_, hh.at_]
    simpa using e
set_option maxRecDepth 100000 in
set_option maxHeartbeats 1000000 in
theorem rwithin_any (B : Nat) (v : Value) (rs : List Rg) (c : UInt8) (w : World) (hr : Rgs B w v rs) (hn : rs.length ≤ 1000) :
    Calls Tryz.prog 76 #[v, .int .u8 (b8 c)] w fun e w' => e = .returned (.bool (rs.any fun r => hasR r c)) ∧ w = w' := by
  rcases hr.at_ with ⟨rfl, rfl⟩ | ⟨g, cap, rfl, hg, hcell⟩
  · go_enter Tryz.func76, Tryz.ntmps76
    go_wp2
    refine wp_loop_rounds 1 ?_
    rw [rounds_succ]
    go_wp2
    go_ret
    exact ⟨rfl, rfl⟩
  · have HL := hid hcell
    clear hcell hr
    go_enter Tryz.func76, Tryz.ntmps76
    go_wp2
    go_loopw [5] (fun i wr => ∃ k : Nat, i = .int .i64 (k : Int) ∧ k ≤ rs.length ∧ Hid ((rs.take k).any (fun r => hasR r c) = false) ∧ w = wr)
      (fun i _ => rs.length - (intOf i).toNat)
    case atStart => exact ⟨0, rfl, Nat.zero_le _, rfl, rfl⟩
    case round =>
      obtain ⟨k, rfl, hk, HT, rfl⟩ := hrel
      by_cases hlt : k < rs.length
      · have c0 := (HL.out k hlt).1
        have c1 := (HL.out k hlt).2
        have HN := hid (any_take_succ rs (fun r => hasR r c) k hlt)
        have l1 := le8 rs[k].1 c
        have l2 := le8 c rs[k].2
        have HH : Hid (hasR rs[k] c = (decide (rs[k].1.toNat ≤ c.toNat) && decide (c.toNat ≤ rs[k].2.toNat))) := rfl
        have HM : Hid (rs[k] ∈ rs) := List.getElem_mem _
        generalize hx : (b8 rs[k].1) = x at c0 l1
        generalize hy : (b8 rs[k].2) = y at c1 l2
        obtain ⟨d1, hd1⟩ : ∃ d, decide (rs[k].1.toNat ≤ c.toNat) = d := ⟨_, rfl⟩
        obtain ⟨d2, hd2⟩ : ∃ d, decide (c.toNat ≤ rs[k].2.toNat) = d := ⟨_, rfl⟩
        rw [hd1] at l1 HH
        rw [hd2] at l2 HH
        clear hx hy hd1 hd2
        cases d1 with
        | false =>
          have HN2 : Hid ((rs.take (k + 1)).any (fun r => hasR r c) = false) := by show _ = _; rw [HN.out, HT.out, HH.out]; rfl
          clear HN HH
          go_wp2
          exact ⟨⟨k + 1, by go_num, by omega, HN2.out, by first | rfl | trivial⟩, by simp [intOf]; omega⟩
        | true =>
          cases d2 with
          | false =>
            have HN2 : Hid ((rs.take (k + 1)).any (fun r => hasR r c) = false) := by show _ = _; rw [HN.out, HT.out, HH.out]; rfl
            clear HN HH
            go_wp2
            exact ⟨⟨k + 1, by go_num, by omega, HN2.out, by first | rfl | trivial⟩, by simp [intOf]; omega⟩
          | true =>
            have HA : Hid (rs.any (fun r => hasR r c) = true) := List.any_eq_true.2 ⟨rs[k], HM.out, HH.out⟩
            clear HN HH HM
            go_wp2
            go_ret
            exact ⟨ret_bool HA.out.symm, rfl⟩
      · have HK : Hid (rs.any (fun r => hasR r c) = false) := by
          have := HT.out
          rw [show k = rs.length by omega, List.take_length] at this; exact this
        go_wp2
        go_ret
        exact ⟨ret_bool HK.out.symm, rfl⟩
theorem lower (c : UInt8) (h : 97 ≤ b8 c) (h2 : b8 c ≤ 122) : b8 c - 32 = b8 (other c) := by
  have hd : ∀ n : Fin 256, 97 ≤ n.val → n.val ≤ 122 → ((n.val : Nat) : Int) - 32 = b8 (other (UInt8.ofNat n.val)) := by decide +kernel
  have := hd ⟨c.toNat, c.toNat_lt⟩ (by unfold b8 at h; simp only; omega) (by unfold b8 at h2; simp only; omega)
  simpa [b8] using this
theorem upper (c : UInt8) (h : 65 ≤ b8 c) (h2 : b8 c ≤ 90) : b8 c + 32 = b8 (other c) := by
  have hd : ∀ n : Fin 256, 65 ≤ n.val → n.val ≤ 90 → ((n.val : Nat) : Int) + 32 = b8 (other (UInt8.ofNat n.val)) := by decide +kernel
  have := hd ⟨c.toNat, c.toNat_lt⟩ (by unfold b8 at h; simp only; omega) (by unfold b8 at h2; simp only; omega)
  simpa [b8] using this
theorem neither (c : UInt8) (h : ¬ (97 ≤ b8 c ∧ b8 c ≤ 122)) (h2 : ¬ (65 ≤ b8 c ∧ b8 c ≤ 90)) : b8 c = b8 (other c) := by
  unfold other
  rw [if_neg]
  unfold b8 at h h2
  omega
set_option maxRecDepth 100000 in
theorem rother_any (c : UInt8) (w : World) : Calls Tryz.prog 77 #[.int .u8 (b8 c)] w fun e w' => e = .returned (.int .u8 (b8 (other c))) ∧ w = w' := by
  have hl := lower c
  have hu := upper c
  have hne := neither c
  have h0 := b8_nonneg c
  have h1 := b8_lt c
  generalize b8 (other c) = r at *
  generalize b8 c = x at *
  by_cases h97 : 97 ≤ x
  · by_cases h122 : x ≤ 122
    · have HR := hid (hl h97 h122)
      clear hl hu hne
      go_enter Tryz.func77, Tryz.ntmps77
      go_wp2
      go_ret
      exact ⟨by rw [← HR.out]; rfl, rfl⟩
    · have HR := hid (hne (by omega) (by omega))
      have g65 : 65 ≤ x := by omega
      have g90 : ¬ x ≤ 90 := by omega
      clear hl hu hne
      go_enter Tryz.func77, Tryz.ntmps77
      go_wp2
      go_ret
      exact ⟨by rw [← HR.out]; rfl, rfl⟩
  · by_cases h65 : 65 ≤ x
    · by_cases h90 : x ≤ 90
      · have HR := hid (hu h65 h90)
        clear hl hu hne
        go_enter Tryz.func77, Tryz.ntmps77
        go_wp2
        go_ret
        exact ⟨by rw [← HR.out]; rfl, rfl⟩
      · have HR := hid (hne (by omega) (by omega))
        clear hl hu hne
        go_enter Tryz.func77, Tryz.ntmps77
        go_wp2
        go_ret
        exact ⟨by rw [← HR.out]; rfl, rfl⟩
    · have HR := hid (hne (by omega) (by omega))
      clear hl hu hne
      go_enter Tryz.func77, Tryz.ntmps77
      go_wp2
      go_ret
      exact ⟨by rw [← HR.out]; rfl, rfl⟩
theorem any_or (rs : List Rg) (f : Bool) (p q : Rg → Bool) : rs.any (fun r => p r || f && q r) = (rs.any p || f && rs.any q) := by
  induction rs with
  | nil => simp
  | cons r rs ih =>
    simp only [List.any_cons]
    rw [ih]
    cases p r <;> cases q r <;> cases f <;> cases rs.any p <;> simp
theorem inF_or (f : Bool) (rs : List Rg) (c : UInt8) : inF f rs c = ((rs.any fun r => hasR r c) || f && (rs.any fun r => hasR r (other c))) := any_or rs f _ _
theorem hasR_eq (x c : UInt8) : hasR (x, x) c = (c == x) := by
  unfold hasR
  rw [Bool.eq_iff_iff]
  simp only [Bool.and_eq_true, decide_eq_true_eq, beq_iff_eq]
  constructor
  · rintro ⟨h1, h2⟩; exact UInt8.toNat_inj.1 (by omega)
  · rintro rfl; exact ⟨Nat.le_refl _, Nat.le_refl _⟩
theorem holdsE_byt (f : Bool) (x c : UInt8) : holdsE f (.byt x) c = ((c == x) || f && (other c == x)) := by
  simp only [holdsE, inF, List.any_cons, List.any_nil, Bool.or_false, hasR_eq]
theorem holdsE_set (f neg : Bool) (rs : List Rg) (c : UInt8) : holdsE f (.set neg rs) c = (!(c == 47) && (((rs.any fun r => hasR r c) || f && (rs.any fun r => hasR r (other c))) != neg)) := by
  simp only [holdsE, inF_or]
  cases neg <;> simp
set_option maxRecDepth 100000 in
set_option maxHeartbeats 4000000 in
theorem rh_all (n f d r : Bool) (A0 : Option Addr) (l0 c0 : Nat) (c : UInt8) (w : World) :
    Calls Tryz.prog 68 #[.agg #[.bool n, .bool f, .bool d, .bool r, .slice A0 l0 c0], .agg #[.int .i64 1, .int .u8 0, .bool false, .slice none 0 0], .int .u8 (b8 c)] w fun e w' => e = .returned (.bool (holdsE f .all c)) ∧ Below w.heap.size w w' := by
  go_enter Tryz.func68, Tryz.ntmps68
  go_wp2
  go_ret
  exact ⟨rfl, ((Below.refl _ _).alloc (Nat.le_refl _) _).alloc (by simp) _⟩
set_option maxRecDepth 100000 in
set_option maxHeartbeats 4000000 in
theorem rh_part (n f d r : Bool) (A0 : Option Addr) (l0 c0 : Nat) (c : UInt8) (w : World) :
    Calls Tryz.prog 68 #[.agg #[.bool n, .bool f, .bool d, .bool r, .slice A0 l0 c0], .agg #[.int .i64 2, .int .u8 0, .bool false, .slice none 0 0], .int .u8 (b8 c)] w fun e w' => e = .returned (.bool (holdsE f .part c)) ∧ Below w.heap.size w w' := by
  have q7 := ne8 c 47
  rw [show b8 47 = 47 from rfl] at q7
  have HE : Hid (holdsE f .part c = !(c == 47)) := rfl
  rw [← HE.out] at q7
  generalize holdsE f .part c = g at q7
  clear HE
  go_enter Tryz.func68, Tryz.ntmps68
  go_wp2
  go_ret
  exact ⟨rfl, ((Below.refl _ _).alloc (Nat.le_refl _) _).alloc (by simp) _⟩
set_option maxRecDepth 100000 in
set_option maxHeartbeats 4000000 in
theorem rh_one (n f d r : Bool) (A0 : Option Addr) (l0 c0 : Nat) (c : UInt8) (w : World) :
    Calls Tryz.prog 68 #[.agg #[.bool n, .bool f, .bool d, .bool r, .slice A0 l0 c0], .agg #[.int .i64 3, .int .u8 0, .bool false, .slice none 0 0], .int .u8 (b8 c)] w fun e w' => e = .returned (.bool (holdsE f .one c)) ∧ Below w.heap.size w w' := by
  have q7 := ne8 c 47
  rw [show b8 47 = 47 from rfl] at q7
  have HE : Hid (holdsE f .one c = !(c == 47)) := rfl
  rw [← HE.out] at q7
  generalize holdsE f .one c = g at q7
  clear HE
  go_enter Tryz.func68, Tryz.ntmps68
  go_wp2
  go_ret
  exact ⟨rfl, ((Below.refl _ _).alloc (Nat.le_refl _) _).alloc (by simp) _⟩
set_option maxRecDepth 100000 in
set_option maxHeartbeats 4000000 in
theorem rh_byt_t (n f d r : Bool) (A0 : Option Addr) (l0 c0 : Nat) (x : UInt8) (c : UInt8) (w : World) (h1 : (c == x) = true) :
    Calls Tryz.prog 68 #[.agg #[.bool n, .bool f, .bool d, .bool r, .slice A0 l0 c0], .agg #[.int .i64 5, .int .u8 (b8 x), .bool false, .slice none 0 0], .int .u8 (b8 c)] w fun e w' => e = .returned (.bool (holdsE f (.byt x) c)) ∧ Below w.heap.size w w' := by
  have HE := hid (holdsE_byt f x c)
  obtain ⟨W0, hW0⟩ : ∃ W0, (w.alloc (.cells #[.bool n, .bool f, .bool d, .bool r, .slice A0 l0 c0] 62)).alloc (.cells #[.int .i64 5, .int .u8 (b8 x), .bool false, .slice none 0 0] 90) = W0 := ⟨_, rfl⟩
  have hP : Has W0 w.heap.size 62 #[.bool n, .bool f, .bool d, .bool r, .slice A0 l0 c0] := hW0 ▸ (Has.fresh w 62 _).more _
  have hE : Has W0 (w.heap.size + 1) 90 #[.int .i64 5, .int .u8 (b8 x), .bool false, .slice none 0 0] := hW0 ▸ Has.fresh' _ 90 _ (by simp)
  have B0 : Below w.heap.size w W0 := hW0 ▸ ((Below.refl w.heap.size w).alloc (Nat.le_refl _) _).alloc (by simp) _
  have HB0 := hid B0
  have hk := hE.at_ 0
  have XF : Hid (∀ W, Below W0.heap.size W0 W → W.cell? ⟨w.heap.size, 1, none⟩ = some (.bool f)) := fun W h => (hP.stays h).at_ 1
  have z0 : Below W0.heap.size W0 W0.drew := (Below.refl _ _).drew
  have XB : Hid (∀ W, Below W0.heap.size W0 W → W.cell? ⟨w.heap.size + 1, 1, none⟩ = some (.int .u8 (b8 x))) := fun W h => (hE.stays h).at_ 1
  have CO : Hid (∀ W, Calls Tryz.prog 77 #[.int .u8 (b8 c)] W fun e w' => e = .returned (.int .u8 (b8 (other c))) ∧ W = w') := fun W => rother_any c W
  have q1 : (b8 c == b8 x) = true := (b8_eq c x).trans h1
  obtain ⟨b2, hb2⟩ : ∃ b, (other c == x) = b := ⟨_, rfl⟩
  have q2 : (b8 (other c) == b8 x) = b2 := (b8_eq (other c) x).trans hb2
  rw [h1, hb2] at HE
  generalize b8 (other c) = oc at *
  generalize b8 c = cc at *
  generalize b8 x = xx at *
  clear hP hE B0 h1 hb2
  go_enter Tryz.func68, Tryz.ntmps68
  go_wp2
  refine wp_region_noPanic ?_
  refine wp_region_held_drew (S := Below W0.heap.size W0) (by kernel_rfl) (z0) (fun hS => ?_)
  refine wpAnyH_take (i := 0) (v := ?_) (by simp only [List.getElem?_toArray, List.getElem?_cons_zero]; rfl) (by kernel_rfl) (by kernel_rfl) (by kernel_rfl) (fun _ _ _ h => h) (Or.inl ⟨by rfl, ?_⟩) (by assumption) ?_
  rotate_left 1
  · intro w hSw
    go_simp
    with_reducible rfl
  simp only [Act.put, List.setIfInBounds_toArray, List.set_cons_zero, List.set_cons_succ]
  refine wpAnyH_take (i := 1) (v := ?_) (by simp only [List.getElem?_toArray, List.getElem?_cons_zero, List.getElem?_cons_succ]; rfl) (by kernel_rfl) (by kernel_rfl) (by kernel_rfl) (fun _ _ _ h => h) (Or.inl ⟨by rfl, ?_⟩) (by assumption) ?_
  rotate_left 1
  · intro w hSw
    go_simp
    with_reducible rfl
  simp only [Act.put, List.setIfInBounds_toArray, List.set_cons_zero, List.set_cons_succ]
  refine wpAnyH_take (i := 2) (v := ?_) (by simp only [List.getElem?_toArray, List.getElem?_cons_zero, List.getElem?_cons_succ]; rfl) (by kernel_rfl) (by kernel_rfl) (by kernel_rfl) (fun _ _ _ h => h) (Or.inl ⟨by rfl, ?_⟩) (by assumption) ?_
  rotate_left 1
  · intro w hSw
    have q := XB.out w hSw
    go_simp
    with_reducible rfl
  simp only [Act.put, List.setIfInBounds_toArray, List.set_cons_zero, List.set_cons_succ]
  refine wpAnyH_take (i := 3) (v := ?_) (by simp only [List.getElem?_toArray, List.getElem?_cons_zero, List.getElem?_cons_succ]; rfl) (by kernel_rfl) (by kernel_rfl) (by kernel_rfl) (fun _ _ _ h => h) (Or.inl ⟨by rfl, ?_⟩) (by assumption) ?_
  rotate_left 1
  · intro w hSw
    go_simp
    with_reducible rfl
  simp only [Act.put, List.setIfInBounds_toArray, List.set_cons_zero, List.set_cons_succ]
  refine wpAnyH_take (i := 4) (v := ?_) (by simp only [List.getElem?_toArray, List.getElem?_cons_zero, List.getElem?_cons_succ]; rfl) (by kernel_rfl) (by kernel_rfl) (by kernel_rfl) (fun _ _ _ h => h) (Or.inl ⟨by rfl, ?_⟩) (by assumption) ?_
  rotate_left 1
  · intro w hSw
    go_simp
    with_reducible rfl
  simp only [Act.put, List.setIfInBounds_toArray, List.set_cons_zero, List.set_cons_succ]
  refine wpAnyH_take (i := 5) (v := undef) (by simp only [List.getElem?_toArray, List.getElem?_cons_zero, List.getElem?_cons_succ]; rfl) (by kernel_rfl) (by kernel_rfl) (by kernel_rfl) (fun _ _ _ h => h) (Or.inr ⟨by rfl, rfl⟩) (by assumption) ?_
  simp only [Act.put, List.setIfInBounds_toArray, List.set_cons_zero, List.set_cons_succ]
  refine wpAnyH_take (i := 6) (v := undef) (by simp only [List.getElem?_toArray, List.getElem?_cons_zero, List.getElem?_cons_succ]; rfl) (by kernel_rfl) (by kernel_rfl) (by kernel_rfl) (fun _ _ _ h => h) (Or.inr ⟨by rfl, rfl⟩) (by assumption) ?_
  simp only [Act.put, List.setIfInBounds_toArray, List.set_cons_zero, List.set_cons_succ]
  refine wpAnyH_take (i := 7) (v := undef) (by simp only [List.getElem?_toArray, List.getElem?_cons_zero, List.getElem?_cons_succ]; rfl) (by kernel_rfl) (by kernel_rfl) (by kernel_rfl) (fun _ _ _ h => h) (Or.inr ⟨by rfl, rfl⟩) (by assumption) ?_
  simp only [Act.put, List.setIfInBounds_toArray, List.set_cons_zero, List.set_cons_succ]
  refine wpAnyH_take (i := 8) (v := undef) (by simp only [List.getElem?_toArray, List.getElem?_cons_zero, List.getElem?_cons_succ]; rfl) (by kernel_rfl) (by kernel_rfl) (by kernel_rfl) (fun _ _ _ h => h) (Or.inr ⟨by rfl, rfl⟩) (by assumption) ?_
  simp only [Act.put, List.setIfInBounds_toArray, List.set_cons_zero, List.set_cons_succ]
  refine wpAnyH_take (i := 9) (v := undef) (by simp only [List.getElem?_toArray, List.getElem?_cons_zero, List.getElem?_cons_succ]; rfl) (by kernel_rfl) (by kernel_rfl) (by kernel_rfl) (fun _ _ _ h => h) (Or.inr ⟨by rfl, rfl⟩) (by assumption) ?_
  simp only [Act.put, List.setIfInBounds_toArray, List.set_cons_zero, List.set_cons_succ]
  refine wpAnyH_take (i := 10) (v := undef) (by simp only [List.getElem?_toArray, List.getElem?_cons_zero, List.getElem?_cons_succ]; rfl) (by kernel_rfl) (by kernel_rfl) (by kernel_rfl) (fun _ _ _ h => h) (Or.inr ⟨by rfl, rfl⟩) (by assumption) ?_
  simp only [Act.put, List.setIfInBounds_toArray, List.set_cons_zero, List.set_cons_succ]
  refine wpAnyH_take (i := 11) (v := undef) (by simp only [List.getElem?_toArray, List.getElem?_cons_zero, List.getElem?_cons_succ]; rfl) (by kernel_rfl) (by kernel_rfl) (by kernel_rfl) (fun _ _ _ h => h) (Or.inr ⟨by rfl, rfl⟩) (by assumption) ?_
  simp only [Act.put, List.setIfInBounds_toArray, List.set_cons_zero, List.set_cons_succ]
  refine wpAnyH_take (i := 12) (v := undef) (by simp only [List.getElem?_toArray, List.getElem?_cons_zero, List.getElem?_cons_succ]; rfl) (by kernel_rfl) (by kernel_rfl) (by kernel_rfl) (fun _ _ _ h => h) (Or.inr ⟨by rfl, rfl⟩) (by assumption) ?_
  simp only [Act.put, List.setIfInBounds_toArray, List.set_cons_zero, List.set_cons_succ]
  refine wpAnyH_take (i := 13) (v := undef) (by simp only [List.getElem?_toArray, List.getElem?_cons_zero, List.getElem?_cons_succ]; rfl) (by kernel_rfl) (by kernel_rfl) (by kernel_rfl) (fun _ _ _ h => h) (Or.inr ⟨by rfl, rfl⟩) (by assumption) ?_
  simp only [Act.put, List.setIfInBounds_toArray, List.set_cons_zero, List.set_cons_succ]
  refine wpAnyH_take (i := 14) (v := ?_) (by simp only [List.getElem?_toArray, List.getElem?_cons_zero, List.getElem?_cons_succ]; rfl) (by kernel_rfl) (by kernel_rfl) (by kernel_rfl) (fun _ _ _ h => h) (Or.inl ⟨by rfl, ?_⟩) (by assumption) ?_
  rotate_left 1
  · intro w hSw
    go_simp
    with_reducible rfl
  simp only [Act.put, List.setIfInBounds_toArray, List.set_cons_zero, List.set_cons_succ]
  refine wpAnyH_take (i := 15) (v := ?_) (by simp only [List.getElem?_toArray, List.getElem?_cons_zero, List.getElem?_cons_succ]; rfl) (by kernel_rfl) (by kernel_rfl) (by kernel_rfl) (fun _ _ _ h => h) (Or.inl ⟨by rfl, ?_⟩) (by assumption) ?_
  rotate_left 1
  · intro w hSw
    go_simp
    with_reducible rfl
  simp only [Act.put, List.setIfInBounds_toArray, List.set_cons_zero, List.set_cons_succ]
  refine wpAnyH_done (by kernel_rfl) ?_ _
  refine NoPanic.normal ?_
  go_wp2
  go_ret
  exact ⟨ret_bool (by rw [HE.out]; simp), HB0.out.drew⟩
set_option maxRecDepth 100000 in
set_option maxHeartbeats 4000000 in
theorem rh_byt_ff (n d r : Bool) (A0 : Option Addr) (l0 c0 : Nat) (x : UInt8) (c : UInt8) (w : World) (h1 : (c == x) = false) :
    Calls Tryz.prog 68 #[.agg #[.bool n, .bool false, .bool d, .bool r, .slice A0 l0 c0], .agg #[.int .i64 5, .int .u8 (b8 x), .bool false, .slice none 0 0], .int .u8 (b8 c)] w fun e w' => e = .returned (.bool (holdsE false (.byt x) c)) ∧ Below w.heap.size w w' := by
  have HE := hid (holdsE_byt false x c)
  obtain ⟨W0, hW0⟩ : ∃ W0, (w.alloc (.cells #[.bool n, .bool false, .bool d, .bool r, .slice A0 l0 c0] 62)).alloc (.cells #[.int .i64 5, .int .u8 (b8 x), .bool false, .slice none 0 0] 90) = W0 := ⟨_, rfl⟩
  have hP : Has W0 w.heap.size 62 #[.bool n, .bool false, .bool d, .bool r, .slice A0 l0 c0] := hW0 ▸ (Has.fresh w 62 _).more _
  have hE : Has W0 (w.heap.size + 1) 90 #[.int .i64 5, .int .u8 (b8 x), .bool false, .slice none 0 0] := hW0 ▸ Has.fresh' _ 90 _ (by simp)
  have B0 : Below w.heap.size w W0 := hW0 ▸ ((Below.refl w.heap.size w).alloc (Nat.le_refl _) _).alloc (by simp) _
  have HB0 := hid B0
  have hk := hE.at_ 0
  have XF : Hid (∀ W, Below W0.heap.size W0 W → W.cell? ⟨w.heap.size, 1, none⟩ = some (.bool false)) := fun W h => (hP.stays h).at_ 1
  have z0 : Below W0.heap.size W0 W0.drew := (Below.refl _ _).drew
  have XB : Hid (∀ W, Below W0.heap.size W0 W → W.cell? ⟨w.heap.size + 1, 1, none⟩ = some (.int .u8 (b8 x))) := fun W h => (hE.stays h).at_ 1
  have CO : Hid (∀ W, Calls Tryz.prog 77 #[.int .u8 (b8 c)] W fun e w' => e = .returned (.int .u8 (b8 (other c))) ∧ W = w') := fun W => rother_any c W
  have q1 : (b8 c == b8 x) = false := (b8_eq c x).trans h1
  obtain ⟨b2, hb2⟩ : ∃ b, (other c == x) = b := ⟨_, rfl⟩
  have q2 : (b8 (other c) == b8 x) = b2 := (b8_eq (other c) x).trans hb2
  rw [h1, hb2] at HE
  generalize b8 (other c) = oc at *
  generalize b8 c = cc at *
  generalize b8 x = xx at *
  clear hP hE B0 h1 hb2
  go_enter Tryz.func68, Tryz.ntmps68
  go_wp2
  refine wp_region_noPanic ?_
  refine wp_region_held_drew (S := Below W0.heap.size W0) (by kernel_rfl) (z0) (fun hS => ?_)
  refine wpAnyH_take (i := 0) (v := ?_) (by simp only [List.getElem?_toArray, List.getElem?_cons_zero]; rfl) (by kernel_rfl) (by kernel_rfl) (by kernel_rfl) (fun _ _ _ h => h) (Or.inl ⟨by rfl, ?_⟩) (by assumption) ?_
  rotate_left 1
  · intro w hSw
    go_simp
    with_reducible rfl
  simp only [Act.put, List.setIfInBounds_toArray, List.set_cons_zero, List.set_cons_succ]
  refine wpAnyH_take (i := 1) (v := ?_) (by simp only [List.getElem?_toArray, List.getElem?_cons_zero, List.getElem?_cons_succ]; rfl) (by kernel_rfl) (by kernel_rfl) (by kernel_rfl) (fun _ _ _ h => h) (Or.inl ⟨by rfl, ?_⟩) (by assumption) ?_
  rotate_left 1
  · intro w hSw
    go_simp
    with_reducible rfl
  simp only [Act.put, List.setIfInBounds_toArray, List.set_cons_zero, List.set_cons_succ]
  refine wpAnyH_take (i := 2) (v := ?_) (by simp only [List.getElem?_toArray, List.getElem?_cons_zero, List.getElem?_cons_succ]; rfl) (by kernel_rfl) (by kernel_rfl) (by kernel_rfl) (fun _ _ _ h => h) (Or.inl ⟨by rfl, ?_⟩) (by assumption) ?_
  rotate_left 1
  · intro w hSw
    have q := XB.out w hSw
    go_simp
    with_reducible rfl
  simp only [Act.put, List.setIfInBounds_toArray, List.set_cons_zero, List.set_cons_succ]
  refine wpAnyH_take (i := 3) (v := ?_) (by simp only [List.getElem?_toArray, List.getElem?_cons_zero, List.getElem?_cons_succ]; rfl) (by kernel_rfl) (by kernel_rfl) (by kernel_rfl) (fun _ _ _ h => h) (Or.inl ⟨by rfl, ?_⟩) (by assumption) ?_
  rotate_left 1
  · intro w hSw
    go_simp
    with_reducible rfl
  simp only [Act.put, List.setIfInBounds_toArray, List.set_cons_zero, List.set_cons_succ]
  refine wpAnyH_take (i := 4) (v := ?_) (by simp only [List.getElem?_toArray, List.getElem?_cons_zero, List.getElem?_cons_succ]; rfl) (by kernel_rfl) (by kernel_rfl) (by kernel_rfl) (fun _ _ _ h => h) (Or.inl ⟨by rfl, ?_⟩) (by assumption) ?_
  rotate_left 1
  · intro w hSw
    go_simp
    with_reducible rfl
  simp only [Act.put, List.setIfInBounds_toArray, List.set_cons_zero, List.set_cons_succ]
  refine wpAnyH_take (i := 5) (v := ?_) (by simp only [List.getElem?_toArray, List.getElem?_cons_zero, List.getElem?_cons_succ]; rfl) (by kernel_rfl) (by kernel_rfl) (by kernel_rfl) (fun _ _ _ h => h) (Or.inl ⟨by rfl, ?_⟩) (by assumption) ?_
  rotate_left 1
  · intro w hSw
    go_simp
    with_reducible rfl
  simp only [Act.put, List.setIfInBounds_toArray, List.set_cons_zero, List.set_cons_succ]
  refine wpAnyH_take (i := 6) (v := ?_) (by simp only [List.getElem?_toArray, List.getElem?_cons_zero, List.getElem?_cons_succ]; rfl) (by kernel_rfl) (by kernel_rfl) (by kernel_rfl) (fun _ _ _ h => h) (Or.inl ⟨by rfl, ?_⟩) (by assumption) ?_
  rotate_left 1
  · intro w hSw
    have q := XF.out w hSw
    go_simp
    with_reducible rfl
  simp only [Act.put, List.setIfInBounds_toArray, List.set_cons_zero, List.set_cons_succ]
  refine wpAnyH_take (i := 7) (v := ?_) (by simp only [List.getElem?_toArray, List.getElem?_cons_zero, List.getElem?_cons_succ]; rfl) (by kernel_rfl) (by kernel_rfl) (by kernel_rfl) (fun _ _ _ h => h) (Or.inl ⟨by rfl, ?_⟩) (by assumption) ?_
  rotate_left 1
  · intro w hSw
    go_simp
    with_reducible rfl
  simp only [Act.put, List.setIfInBounds_toArray, List.set_cons_zero, List.set_cons_succ]
  refine wpAnyH_take (i := 8) (v := undef) (by simp only [List.getElem?_toArray, List.getElem?_cons_zero, List.getElem?_cons_succ]; rfl) (by kernel_rfl) (by kernel_rfl) (by kernel_rfl) (fun _ _ _ h => h) (Or.inr ⟨by rfl, rfl⟩) (by assumption) ?_
  simp only [Act.put, List.setIfInBounds_toArray, List.set_cons_zero, List.set_cons_succ]
  refine wpAnyH_take (i := 9) (v := undef) (by simp only [List.getElem?_toArray, List.getElem?_cons_zero, List.getElem?_cons_succ]; rfl) (by kernel_rfl) (by kernel_rfl) (by kernel_rfl) (fun _ _ _ h => h) (Or.inr ⟨by rfl, rfl⟩) (by assumption) ?_
  simp only [Act.put, List.setIfInBounds_toArray, List.set_cons_zero, List.set_cons_succ]
  refine wpAnyH_take (i := 10) (v := undef) (by simp only [List.getElem?_toArray, List.getElem?_cons_zero, List.getElem?_cons_succ]; rfl) (by kernel_rfl) (by kernel_rfl) (by kernel_rfl) (fun _ _ _ h => h) (Or.inr ⟨by rfl, rfl⟩) (by assumption) ?_
  simp only [Act.put, List.setIfInBounds_toArray, List.set_cons_zero, List.set_cons_succ]
  refine wpAnyH_take (i := 11) (v := undef) (by simp only [List.getElem?_toArray, List.getElem?_cons_zero, List.getElem?_cons_succ]; rfl) (by kernel_rfl) (by kernel_rfl) (by kernel_rfl) (fun _ _ _ h => h) (Or.inr ⟨by rfl, rfl⟩) (by assumption) ?_
  simp only [Act.put, List.setIfInBounds_toArray, List.set_cons_zero, List.set_cons_succ]
  refine wpAnyH_take (i := 12) (v := undef) (by simp only [List.getElem?_toArray, List.getElem?_cons_zero, List.getElem?_cons_succ]; rfl) (by kernel_rfl) (by kernel_rfl) (by kernel_rfl) (fun _ _ _ h => h) (Or.inr ⟨by rfl, rfl⟩) (by assumption) ?_
  simp only [Act.put, List.setIfInBounds_toArray, List.set_cons_zero, List.set_cons_succ]
  refine wpAnyH_take (i := 13) (v := ?_) (by simp only [List.getElem?_toArray, List.getElem?_cons_zero, List.getElem?_cons_succ]; rfl) (by kernel_rfl) (by kernel_rfl) (by kernel_rfl) (fun _ _ _ h => h) (Or.inl ⟨by rfl, ?_⟩) (by assumption) ?_
  rotate_left 1
  · intro w hSw
    go_simp
    with_reducible rfl
  simp only [Act.put, List.setIfInBounds_toArray, List.set_cons_zero, List.set_cons_succ]
  refine wpAnyH_take (i := 14) (v := ?_) (by simp only [List.getElem?_toArray, List.getElem?_cons_zero, List.getElem?_cons_succ]; rfl) (by kernel_rfl) (by kernel_rfl) (by kernel_rfl) (fun _ _ _ h => h) (Or.inl ⟨by rfl, ?_⟩) (by assumption) ?_
  rotate_left 1
  · intro w hSw
    go_simp
    with_reducible rfl
  simp only [Act.put, List.setIfInBounds_toArray, List.set_cons_zero, List.set_cons_succ]
  refine wpAnyH_take (i := 15) (v := ?_) (by simp only [List.getElem?_toArray, List.getElem?_cons_zero, List.getElem?_cons_succ]; rfl) (by kernel_rfl) (by kernel_rfl) (by kernel_rfl) (fun _ _ _ h => h) (Or.inl ⟨by rfl, ?_⟩) (by assumption) ?_
  rotate_left 1
  · intro w hSw
    go_simp
    with_reducible rfl
  simp only [Act.put, List.setIfInBounds_toArray, List.set_cons_zero, List.set_cons_succ]
  refine wpAnyH_done (by kernel_rfl) ?_ _
  refine NoPanic.normal ?_
  go_wp2
  go_ret
  exact ⟨ret_bool (by rw [HE.out]; simp), HB0.out.drew⟩
set_option maxRecDepth 100000 in
set_option maxHeartbeats 4000000 in
theorem rh_byt_ft (n d r : Bool) (A0 : Option Addr) (l0 c0 : Nat) (x : UInt8) (c : UInt8) (w : World) (h1 : (c == x) = false) :
    Calls Tryz.prog 68 #[.agg #[.bool n, .bool true, .bool d, .bool r, .slice A0 l0 c0], .agg #[.int .i64 5, .int .u8 (b8 x), .bool false, .slice none 0 0], .int .u8 (b8 c)] w fun e w' => e = .returned (.bool (holdsE true (.byt x) c)) ∧ Below w.heap.size w w' := by
  have HE := hid (holdsE_byt true x c)
  obtain ⟨W0, hW0⟩ : ∃ W0, (w.alloc (.cells #[.bool n, .bool true, .bool d, .bool r, .slice A0 l0 c0] 62)).alloc (.cells #[.int .i64 5, .int .u8 (b8 x), .bool false, .slice none 0 0] 90) = W0 := ⟨_, rfl⟩
  have hP : Has W0 w.heap.size 62 #[.bool n, .bool true, .bool d, .bool r, .slice A0 l0 c0] := hW0 ▸ (Has.fresh w 62 _).more _
  have hE : Has W0 (w.heap.size + 1) 90 #[.int .i64 5, .int .u8 (b8 x), .bool false, .slice none 0 0] := hW0 ▸ Has.fresh' _ 90 _ (by simp)
  have B0 : Below w.heap.size w W0 := hW0 ▸ ((Below.refl w.heap.size w).alloc (Nat.le_refl _) _).alloc (by simp) _
  have HB0 := hid B0
  have hk := hE.at_ 0
  have XF : Hid (∀ W, Below W0.heap.size W0 W → W.cell? ⟨w.heap.size, 1, none⟩ = some (.bool true)) := fun W h => (hP.stays h).at_ 1
  have z0 : Below W0.heap.size W0 W0.drew := (Below.refl _ _).drew
  have XB : Hid (∀ W, Below W0.heap.size W0 W → W.cell? ⟨w.heap.size + 1, 1, none⟩ = some (.int .u8 (b8 x))) := fun W h => (hE.stays h).at_ 1
  have CO : Hid (∀ W, Calls Tryz.prog 77 #[.int .u8 (b8 c)] W fun e w' => e = .returned (.int .u8 (b8 (other c))) ∧ W = w') := fun W => rother_any c W
  have q1 : (b8 c == b8 x) = false := (b8_eq c x).trans h1
  obtain ⟨b2, hb2⟩ : ∃ b, (other c == x) = b := ⟨_, rfl⟩
  have q2 : (b8 (other c) == b8 x) = b2 := (b8_eq (other c) x).trans hb2
  rw [h1, hb2] at HE
  generalize b8 (other c) = oc at *
  generalize b8 c = cc at *
  generalize b8 x = xx at *
  clear hP hE B0 h1 hb2
  go_enter Tryz.func68, Tryz.ntmps68
  go_wp2
  refine wp_region_noPanic ?_
  refine wp_region_held_drew (S := Below W0.heap.size W0) (by kernel_rfl) (z0) (fun hS => ?_)
  refine wpAnyH_take (i := 0) (v := ?_) (by simp only [List.getElem?_toArray, List.getElem?_cons_zero]; rfl) (by kernel_rfl) (by kernel_rfl) (by kernel_rfl) (fun _ _ _ h => h) (Or.inl ⟨by rfl, ?_⟩) (by assumption) ?_
  rotate_left 1
  · intro w hSw
    go_simp
    with_reducible rfl
  simp only [Act.put, List.setIfInBounds_toArray, List.set_cons_zero, List.set_cons_succ]
  refine wpAnyH_take (i := 1) (v := ?_) (by simp only [List.getElem?_toArray, List.getElem?_cons_zero, List.getElem?_cons_succ]; rfl) (by kernel_rfl) (by kernel_rfl) (by kernel_rfl) (fun _ _ _ h => h) (Or.inl ⟨by rfl, ?_⟩) (by assumption) ?_
  rotate_left 1
  · intro w hSw
    go_simp
    with_reducible rfl
  simp only [Act.put, List.setIfInBounds_toArray, List.set_cons_zero, List.set_cons_succ]
  refine wpAnyH_take (i := 2) (v := ?_) (by simp only [List.getElem?_toArray, List.getElem?_cons_zero, List.getElem?_cons_succ]; rfl) (by kernel_rfl) (by kernel_rfl) (by kernel_rfl) (fun _ _ _ h => h) (Or.inl ⟨by rfl, ?_⟩) (by assumption) ?_
  rotate_left 1
  · intro w hSw
    have q := XB.out w hSw
    go_simp
    with_reducible rfl
  simp only [Act.put, List.setIfInBounds_toArray, List.set_cons_zero, List.set_cons_succ]
  refine wpAnyH_take (i := 3) (v := ?_) (by simp only [List.getElem?_toArray, List.getElem?_cons_zero, List.getElem?_cons_succ]; rfl) (by kernel_rfl) (by kernel_rfl) (by kernel_rfl) (fun _ _ _ h => h) (Or.inl ⟨by rfl, ?_⟩) (by assumption) ?_
  rotate_left 1
  · intro w hSw
    go_simp
    with_reducible rfl
  simp only [Act.put, List.setIfInBounds_toArray, List.set_cons_zero, List.set_cons_succ]
  refine wpAnyH_take (i := 4) (v := ?_) (by simp only [List.getElem?_toArray, List.getElem?_cons_zero, List.getElem?_cons_succ]; rfl) (by kernel_rfl) (by kernel_rfl) (by kernel_rfl) (fun _ _ _ h => h) (Or.inl ⟨by rfl, ?_⟩) (by assumption) ?_
  rotate_left 1
  · intro w hSw
    go_simp
    with_reducible rfl
  simp only [Act.put, List.setIfInBounds_toArray, List.set_cons_zero, List.set_cons_succ]
  refine wpAnyH_take (i := 5) (v := ?_) (by simp only [List.getElem?_toArray, List.getElem?_cons_zero, List.getElem?_cons_succ]; rfl) (by kernel_rfl) (by kernel_rfl) (by kernel_rfl) (fun _ _ _ h => h) (Or.inl ⟨by rfl, ?_⟩) (by assumption) ?_
  rotate_left 1
  · intro w hSw
    go_simp
    with_reducible rfl
  simp only [Act.put, List.setIfInBounds_toArray, List.set_cons_zero, List.set_cons_succ]
  refine wpAnyH_take (i := 6) (v := ?_) (by simp only [List.getElem?_toArray, List.getElem?_cons_zero, List.getElem?_cons_succ]; rfl) (by kernel_rfl) (by kernel_rfl) (by kernel_rfl) (fun _ _ _ h => h) (Or.inl ⟨by rfl, ?_⟩) (by assumption) ?_
  rotate_left 1
  · intro w hSw
    have q := XF.out w hSw
    go_simp
    with_reducible rfl
  simp only [Act.put, List.setIfInBounds_toArray, List.set_cons_zero, List.set_cons_succ]
  refine wpAnyH_take (i := 7) (v := ?_) (by simp only [List.getElem?_toArray, List.getElem?_cons_zero, List.getElem?_cons_succ]; rfl) (by kernel_rfl) (by kernel_rfl) (by kernel_rfl) (fun _ _ _ h => h) (Or.inl ⟨by rfl, ?_⟩) (by assumption) ?_
  rotate_left 1
  · intro w hSw
    go_simp
    with_reducible rfl
  simp only [Act.put, List.setIfInBounds_toArray, List.set_cons_zero, List.set_cons_succ]
  refine wpAnyH_take (i := 8) (v := ?_) (by simp only [List.getElem?_toArray, List.getElem?_cons_zero, List.getElem?_cons_succ]; rfl) (by kernel_rfl) (by kernel_rfl) (by kernel_rfl) (fun _ _ _ h => h) (Or.inl ⟨by rfl, ?_⟩) (by assumption) ?_
  rotate_left 1
  · intro w hSw
    go_simp
    with_reducible rfl
  simp only [Act.put, List.setIfInBounds_toArray, List.set_cons_zero, List.set_cons_succ]
  refine wpAnyH_take (i := 10) (v := ?_) (by simp only [List.getElem?_toArray, List.getElem?_cons_zero, List.getElem?_cons_succ]; rfl) (by kernel_rfl) (by kernel_rfl) (by kernel_rfl) (fun _ _ _ h => h) (Or.inl ⟨by rfl, ?_⟩) (by assumption) ?_
  rotate_left 1
  · intro w hSw
    go_simp
    with_reducible rfl
  simp only [Act.put, List.setIfInBounds_toArray, List.set_cons_zero, List.set_cons_succ]
  refine wpAnyH_take (i := 11) (v := ?_) (by simp only [List.getElem?_toArray, List.getElem?_cons_zero, List.getElem?_cons_succ]; rfl) (by kernel_rfl) (by kernel_rfl) (by kernel_rfl) (fun _ _ _ h => h) (Or.inl ⟨by rfl, ?_⟩) (by assumption) ?_
  rotate_left 1
  · intro w hSw
    have q := XB.out w hSw
    go_simp
    with_reducible rfl
  simp only [Act.put, List.setIfInBounds_toArray, List.set_cons_zero, List.set_cons_succ]
  refine wpAnyH_ready (rs := [9]) (by kernel_rfl) (by simp) ?_
  refine AllReadyH.cons (by simp only [List.getElem?_toArray, List.getElem?_cons_zero, List.getElem?_cons_succ]; rfl) (fun K hK => ?_) (AllReadyH.nil)
  go_simp
  refine (CO.out _).mono ?_
  rintro e9 y9 ⟨rfl, hy9⟩
  obtain rfl := hy9
  have hz1 := z0
  refine hK.out _ _ hz1 (fun hS => ?_)
  clear hK K hS
  refine wpAnyH_take (i := 12) (v := ?_) (by simp only [List.getElem?_toArray, List.getElem?_cons_zero, List.getElem?_cons_succ]; rfl) (by kernel_rfl) (by kernel_rfl) (by kernel_rfl) (fun _ _ _ h => h) (Or.inl ⟨by rfl, ?_⟩) (by assumption) ?_
  rotate_left 1
  · intro w hSw
    go_simp
    with_reducible rfl
  simp only [Act.put, List.setIfInBounds_toArray, List.set_cons_zero, List.set_cons_succ]
  refine wpAnyH_take (i := 13) (v := ?_) (by simp only [List.getElem?_toArray, List.getElem?_cons_zero, List.getElem?_cons_succ]; rfl) (by kernel_rfl) (by kernel_rfl) (by kernel_rfl) (fun _ _ _ h => h) (Or.inl ⟨by rfl, ?_⟩) (by assumption) ?_
  rotate_left 1
  · intro w hSw
    go_simp
    with_reducible rfl
  simp only [Act.put, List.setIfInBounds_toArray, List.set_cons_zero, List.set_cons_succ]
  refine wpAnyH_take (i := 14) (v := ?_) (by simp only [List.getElem?_toArray, List.getElem?_cons_zero, List.getElem?_cons_succ]; rfl) (by kernel_rfl) (by kernel_rfl) (by kernel_rfl) (fun _ _ _ h => h) (Or.inl ⟨by rfl, ?_⟩) (by assumption) ?_
  rotate_left 1
  · intro w hSw
    go_simp
    with_reducible rfl
  simp only [Act.put, List.setIfInBounds_toArray, List.set_cons_zero, List.set_cons_succ]
  refine wpAnyH_take (i := 15) (v := ?_) (by simp only [List.getElem?_toArray, List.getElem?_cons_zero, List.getElem?_cons_succ]; rfl) (by kernel_rfl) (by kernel_rfl) (by kernel_rfl) (fun _ _ _ h => h) (Or.inl ⟨by rfl, ?_⟩) (by assumption) ?_
  rotate_left 1
  · intro w hSw
    go_simp
    with_reducible rfl
  simp only [Act.put, List.setIfInBounds_toArray, List.set_cons_zero, List.set_cons_succ]
  refine wpAnyH_done (by kernel_rfl) ?_ _
  refine NoPanic.normal ?_
  go_wp2
  go_ret
  exact ⟨ret_bool (by rw [HE.out]; simp), HB0.out.drew⟩
set_option maxRecDepth 100000 in
set_option maxHeartbeats 4000000 in
theorem rh_set_t (n f d r : Bool) (A0 : Option Addr) (l0 c0 : Nat) (neg : Bool) (A : Option Addr) (l k : Nat) (rs : List Rg) (c : UInt8) (w : World) (_hl : l = rs.length) (hn : rs.length ≤ 1000) (hr : Rgs 0 w (.slice A l k) rs) (h1 : (rs.any fun r => hasR r c) = true) :
    Calls Tryz.prog 68 #[.agg #[.bool n, .bool f, .bool d, .bool r, .slice A0 l0 c0], .agg #[.int .i64 4, .int .u8 0, .bool neg, .slice A l k], .int .u8 (b8 c)] w fun e w' => e = .returned (.bool (holdsE f (.set neg rs) c)) ∧ Below w.heap.size w w' := by
  have HE := hid (holdsE_set f neg rs c)
  clear _hl
  obtain ⟨W0, hW0⟩ : ∃ W0, (w.alloc (.cells #[.bool n, .bool f, .bool d, .bool r, .slice A0 l0 c0] 62)).alloc (.cells #[.int .i64 4, .int .u8 0, .bool neg, .slice A l k] 90) = W0 := ⟨_, rfl⟩
  have hP : Has W0 w.heap.size 62 #[.bool n, .bool f, .bool d, .bool r, .slice A0 l0 c0] := hW0 ▸ (Has.fresh w 62 _).more _
  have hE : Has W0 (w.heap.size + 1) 90 #[.int .i64 4, .int .u8 0, .bool neg, .slice A l k] := hW0 ▸ Has.fresh' _ 90 _ (by simp)
  have B0 : Below w.heap.size w W0 := hW0 ▸ ((Below.refl w.heap.size w).alloc (Nat.le_refl _) _).alloc (by simp) _
  have HB0 := hid B0
  have hk := hE.at_ 0
  have XF : Hid (∀ W, Below W0.heap.size W0 W → W.cell? ⟨w.heap.size, 1, none⟩ = some (.bool f)) := fun W h => (hP.stays h).at_ 1
  have z0 : Below W0.heap.size W0 W0.drew := (Below.refl _ _).drew
  have XR : Hid (∀ W, Below W0.heap.size W0 W → W.cell? ⟨w.heap.size + 1, 3, none⟩ = some (.slice A l k)) := fun W h => (hE.stays h).at_ 3
  have XN : Hid (W0.cell? ⟨w.heap.size + 1, 2, none⟩ = some (.bool neg)) := hE.at_ 2
  have CO : Hid (∀ W, Calls Tryz.prog 77 #[.int .u8 (b8 c)] W fun e w' => e = .returned (.int .u8 (b8 (other c))) ∧ W = w') := fun W => rother_any c W
  obtain ⟨b2, hb2⟩ : ∃ b, (rs.any fun r => hasR r (other c)) = b := ⟨_, rfl⟩
  have CW1 : Hid (∀ W, Below W0.heap.size W0 W → Calls Tryz.prog 76 #[.slice A l k, .int .u8 (b8 c)] W fun e w' => e = .returned (.bool true) ∧ W = w') := fun W h => h1 ▸ rwithin_any 0 _ rs c W ((hr.stays B0).stays h) hn
  have CW2 : Hid (∀ W, Below W0.heap.size W0 W → Calls Tryz.prog 76 #[.slice A l k, .int .u8 (b8 (other c))] W fun e w' => e = .returned (.bool b2) ∧ W = w') := fun W h => hb2 ▸ rwithin_any 0 _ rs (other c) W ((hr.stays B0).stays h) hn
  rw [h1, hb2] at HE
  have q7 := ne8 c 47
  rw [show b8 47 = 47 from rfl] at q7
  obtain ⟨b7, hb7⟩ : ∃ b, (c == 47) = b := ⟨_, rfl⟩
  rw [hb7] at q7 HE
  generalize holdsE f (.set neg rs) c = goal at HE
  generalize b8 (other c) = oc at *
  generalize b8 c = cc at *
  clear hP hE B0 h1 hb2 hb7 hr hn
  go_enter Tryz.func68, Tryz.ntmps68
  go_wp2
  refine wp_region_noPanic ?_
  refine wp_region_held_drew (S := Below W0.heap.size W0) (by kernel_rfl) (z0) (fun hS => ?_)
  refine wpAnyH_take (i := 0) (v := ?_) (by simp only [List.getElem?_toArray, List.getElem?_cons_zero]; rfl) (by kernel_rfl) (by kernel_rfl) (by kernel_rfl) (fun _ _ _ h => h) (Or.inl ⟨by rfl, ?_⟩) (by assumption) ?_
  rotate_left 1
  · intro w hSw
    go_simp
    with_reducible rfl
  simp only [Act.put, List.setIfInBounds_toArray, List.set_cons_zero, List.set_cons_succ]
  refine wpAnyH_take (i := 1) (v := ?_) (by simp only [List.getElem?_toArray, List.getElem?_cons_zero, List.getElem?_cons_succ]; rfl) (by kernel_rfl) (by kernel_rfl) (by kernel_rfl) (fun _ _ _ h => h) (Or.inl ⟨by rfl, ?_⟩) (by assumption) ?_
  rotate_left 1
  · intro w hSw
    have q := XR.out w hSw
    go_simp
    with_reducible rfl
  simp only [Act.put, List.setIfInBounds_toArray, List.set_cons_zero, List.set_cons_succ]
  refine wpAnyH_take (i := 2) (v := ?_) (by simp only [List.getElem?_toArray, List.getElem?_cons_zero, List.getElem?_cons_succ]; rfl) (by kernel_rfl) (by kernel_rfl) (by kernel_rfl) (fun _ _ _ h => h) (Or.inl ⟨by rfl, ?_⟩) (by assumption) ?_
  rotate_left 1
  · intro w hSw
    go_simp
    with_reducible rfl
  simp only [Act.put, List.setIfInBounds_toArray, List.set_cons_zero, List.set_cons_succ]
  refine wpAnyH_ready (rs := [3]) (by kernel_rfl) (by simp) ?_
  refine AllReadyH.cons (by simp only [List.getElem?_toArray, List.getElem?_cons_zero, List.getElem?_cons_succ]; rfl) (fun K hK => ?_) (AllReadyH.nil)
  go_simp
  refine (CW1.out _ z0).mono ?_
  rintro e3 y3 ⟨rfl, hy3⟩
  obtain rfl := hy3
  have hz1 := z0
  refine hK.out _ _ hz1 (fun hS => ?_)
  clear hK K hS
  refine wpAnyH_take (i := 4) (v := ?_) (by simp only [List.getElem?_toArray, List.getElem?_cons_zero, List.getElem?_cons_succ]; rfl) (by kernel_rfl) (by kernel_rfl) (by kernel_rfl) (fun _ _ _ h => h) (Or.inl ⟨by rfl, ?_⟩) (by assumption) ?_
  rotate_left 1
  · intro w hSw
    go_simp
    with_reducible rfl
  simp only [Act.put, List.setIfInBounds_toArray, List.set_cons_zero, List.set_cons_succ]
  refine wpAnyH_take (i := 5) (v := undef) (by simp only [List.getElem?_toArray, List.getElem?_cons_zero, List.getElem?_cons_succ]; rfl) (by kernel_rfl) (by kernel_rfl) (by kernel_rfl) (fun _ _ _ h => h) (Or.inr ⟨by rfl, rfl⟩) (by assumption) ?_
  simp only [Act.put, List.setIfInBounds_toArray, List.set_cons_zero, List.set_cons_succ]
  refine wpAnyH_take (i := 6) (v := undef) (by simp only [List.getElem?_toArray, List.getElem?_cons_zero, List.getElem?_cons_succ]; rfl) (by kernel_rfl) (by kernel_rfl) (by kernel_rfl) (fun _ _ _ h => h) (Or.inr ⟨by rfl, rfl⟩) (by assumption) ?_
  simp only [Act.put, List.setIfInBounds_toArray, List.set_cons_zero, List.set_cons_succ]
  refine wpAnyH_take (i := 7) (v := undef) (by simp only [List.getElem?_toArray, List.getElem?_cons_zero, List.getElem?_cons_succ]; rfl) (by kernel_rfl) (by kernel_rfl) (by kernel_rfl) (fun _ _ _ h => h) (Or.inr ⟨by rfl, rfl⟩) (by assumption) ?_
  simp only [Act.put, List.setIfInBounds_toArray, List.set_cons_zero, List.set_cons_succ]
  refine wpAnyH_take (i := 8) (v := undef) (by simp only [List.getElem?_toArray, List.getElem?_cons_zero, List.getElem?_cons_succ]; rfl) (by kernel_rfl) (by kernel_rfl) (by kernel_rfl) (fun _ _ _ h => h) (Or.inr ⟨by rfl, rfl⟩) (by assumption) ?_
  simp only [Act.put, List.setIfInBounds_toArray, List.set_cons_zero, List.set_cons_succ]
  refine wpAnyH_take (i := 9) (v := undef) (by simp only [List.getElem?_toArray, List.getElem?_cons_zero, List.getElem?_cons_succ]; rfl) (by kernel_rfl) (by kernel_rfl) (by kernel_rfl) (fun _ _ _ h => h) (Or.inr ⟨by rfl, rfl⟩) (by assumption) ?_
  simp only [Act.put, List.setIfInBounds_toArray, List.set_cons_zero, List.set_cons_succ]
  refine wpAnyH_take (i := 10) (v := undef) (by simp only [List.getElem?_toArray, List.getElem?_cons_zero, List.getElem?_cons_succ]; rfl) (by kernel_rfl) (by kernel_rfl) (by kernel_rfl) (fun _ _ _ h => h) (Or.inr ⟨by rfl, rfl⟩) (by assumption) ?_
  simp only [Act.put, List.setIfInBounds_toArray, List.set_cons_zero, List.set_cons_succ]
  refine wpAnyH_take (i := 11) (v := undef) (by simp only [List.getElem?_toArray, List.getElem?_cons_zero, List.getElem?_cons_succ]; rfl) (by kernel_rfl) (by kernel_rfl) (by kernel_rfl) (fun _ _ _ h => h) (Or.inr ⟨by rfl, rfl⟩) (by assumption) ?_
  simp only [Act.put, List.setIfInBounds_toArray, List.set_cons_zero, List.set_cons_succ]
  refine wpAnyH_take (i := 12) (v := undef) (by simp only [List.getElem?_toArray, List.getElem?_cons_zero, List.getElem?_cons_succ]; rfl) (by kernel_rfl) (by kernel_rfl) (by kernel_rfl) (fun _ _ _ h => h) (Or.inr ⟨by rfl, rfl⟩) (by assumption) ?_
  simp only [Act.put, List.setIfInBounds_toArray, List.set_cons_zero, List.set_cons_succ]
  refine wpAnyH_take (i := 13) (v := undef) (by simp only [List.getElem?_toArray, List.getElem?_cons_zero, List.getElem?_cons_succ]; rfl) (by kernel_rfl) (by kernel_rfl) (by kernel_rfl) (fun _ _ _ h => h) (Or.inr ⟨by rfl, rfl⟩) (by assumption) ?_
  simp only [Act.put, List.setIfInBounds_toArray, List.set_cons_zero, List.set_cons_succ]
  refine wpAnyH_take (i := 14) (v := ?_) (by simp only [List.getElem?_toArray, List.getElem?_cons_zero, List.getElem?_cons_succ]; rfl) (by kernel_rfl) (by kernel_rfl) (by kernel_rfl) (fun _ _ _ h => h) (Or.inl ⟨by rfl, ?_⟩) (by assumption) ?_
  rotate_left 1
  · intro w hSw
    go_simp
    with_reducible rfl
  simp only [Act.put, List.setIfInBounds_toArray, List.set_cons_zero, List.set_cons_succ]
  refine wpAnyH_take (i := 15) (v := ?_) (by simp only [List.getElem?_toArray, List.getElem?_cons_zero, List.getElem?_cons_succ]; rfl) (by kernel_rfl) (by kernel_rfl) (by kernel_rfl) (fun _ _ _ h => h) (Or.inl ⟨by rfl, ?_⟩) (by assumption) ?_
  rotate_left 1
  · intro w hSw
    go_simp
    with_reducible rfl
  simp only [Act.put, List.setIfInBounds_toArray, List.set_cons_zero, List.set_cons_succ]
  refine wpAnyH_done (by kernel_rfl) ?_ _
  refine NoPanic.normal ?_
  have xn := XN.out
  cases b7 with
  | true =>
    simp only [Bool.not_true] at q7
    go_wp2
    go_ret
    exact ⟨ret_bool (by rw [HE.out]; rfl), HB0.out.drew⟩
  | false =>
    simp only [Bool.not_false] at q7
    go_wp2
    go_ret
    exact ⟨ret_bool (by rw [HE.out]; first | (simp; done) | (cases b2 <;> cases neg <;> rfl)), HB0.out.drew⟩
set_option maxRecDepth 100000 in
set_option maxHeartbeats 4000000 in
theorem rh_set_ff (n d r : Bool) (A0 : Option Addr) (l0 c0 : Nat) (neg : Bool) (A : Option Addr) (l k : Nat) (rs : List Rg) (c : UInt8) (w : World) (_hl : l = rs.length) (hn : rs.length ≤ 1000) (hr : Rgs 0 w (.slice A l k) rs) (h1 : (rs.any fun r => hasR r c) = false) :
    Calls Tryz.prog 68 #[.agg #[.bool n, .bool false, .bool d, .bool r, .slice A0 l0 c0], .agg #[.int .i64 4, .int .u8 0, .bool neg, .slice A l k], .int .u8 (b8 c)] w fun e w' => e = .returned (.bool (holdsE false (.set neg rs) c)) ∧ Below w.heap.size w w' := by
  have HE := hid (holdsE_set false neg rs c)
  clear _hl
  obtain ⟨W0, hW0⟩ : ∃ W0, (w.alloc (.cells #[.bool n, .bool false, .bool d, .bool r, .slice A0 l0 c0] 62)).alloc (.cells #[.int .i64 4, .int .u8 0, .bool neg, .slice A l k] 90) = W0 := ⟨_, rfl⟩
  have hP : Has W0 w.heap.size 62 #[.bool n, .bool false, .bool d, .bool r, .slice A0 l0 c0] := hW0 ▸ (Has.fresh w 62 _).more _
  have hE : Has W0 (w.heap.size + 1) 90 #[.int .i64 4, .int .u8 0, .bool neg, .slice A l k] := hW0 ▸ Has.fresh' _ 90 _ (by simp)
  have B0 : Below w.heap.size w W0 := hW0 ▸ ((Below.refl w.heap.size w).alloc (Nat.le_refl _) _).alloc (by simp) _
  have HB0 := hid B0
  have hk := hE.at_ 0
  have XF : Hid (∀ W, Below W0.heap.size W0 W → W.cell? ⟨w.heap.size, 1, none⟩ = some (.bool false)) := fun W h => (hP.stays h).at_ 1
  have z0 : Below W0.heap.size W0 W0.drew := (Below.refl _ _).drew
  have XR : Hid (∀ W, Below W0.heap.size W0 W → W.cell? ⟨w.heap.size + 1, 3, none⟩ = some (.slice A l k)) := fun W h => (hE.stays h).at_ 3
  have XN : Hid (W0.cell? ⟨w.heap.size + 1, 2, none⟩ = some (.bool neg)) := hE.at_ 2
  have CO : Hid (∀ W, Calls Tryz.prog 77 #[.int .u8 (b8 c)] W fun e w' => e = .returned (.int .u8 (b8 (other c))) ∧ W = w') := fun W => rother_any c W
  obtain ⟨b2, hb2⟩ : ∃ b, (rs.any fun r => hasR r (other c)) = b := ⟨_, rfl⟩
  have CW1 : Hid (∀ W, Below W0.heap.size W0 W → Calls Tryz.prog 76 #[.slice A l k, .int .u8 (b8 c)] W fun e w' => e = .returned (.bool false) ∧ W = w') := fun W h => h1 ▸ rwithin_any 0 _ rs c W ((hr.stays B0).stays h) hn
  have CW2 : Hid (∀ W, Below W0.heap.size W0 W → Calls Tryz.prog 76 #[.slice A l k, .int .u8 (b8 (other c))] W fun e w' => e = .returned (.bool b2) ∧ W = w') := fun W h => hb2 ▸ rwithin_any 0 _ rs (other c) W ((hr.stays B0).stays h) hn
  rw [h1, hb2] at HE
  have q7 := ne8 c 47
  rw [show b8 47 = 47 from rfl] at q7
  obtain ⟨b7, hb7⟩ : ∃ b, (c == 47) = b := ⟨_, rfl⟩
  rw [hb7] at q7 HE
  generalize holdsE false (.set neg rs) c = goal at HE
  generalize b8 (other c) = oc at *
  generalize b8 c = cc at *
  clear hP hE B0 h1 hb2 hb7 hr hn
  go_enter Tryz.func68, Tryz.ntmps68
  go_wp2
  refine wp_region_noPanic ?_
  refine wp_region_held_drew (S := Below W0.heap.size W0) (by kernel_rfl) (z0) (fun hS => ?_)
  refine wpAnyH_take (i := 0) (v := ?_) (by simp only [List.getElem?_toArray, List.getElem?_cons_zero]; rfl) (by kernel_rfl) (by kernel_rfl) (by kernel_rfl) (fun _ _ _ h => h) (Or.inl ⟨by rfl, ?_⟩) (by assumption) ?_
  rotate_left 1
  · intro w hSw
    go_simp
    with_reducible rfl
  simp only [Act.put, List.setIfInBounds_toArray, List.set_cons_zero, List.set_cons_succ]
  refine wpAnyH_take (i := 1) (v := ?_) (by simp only [List.getElem?_toArray, List.getElem?_cons_zero, List.getElem?_cons_succ]; rfl) (by kernel_rfl) (by kernel_rfl) (by kernel_rfl) (fun _ _ _ h => h) (Or.inl ⟨by rfl, ?_⟩) (by assumption) ?_
  rotate_left 1
  · intro w hSw
    have q := XR.out w hSw
    go_simp
    with_reducible rfl
  simp only [Act.put, List.setIfInBounds_toArray, List.set_cons_zero, List.set_cons_succ]
  refine wpAnyH_take (i := 2) (v := ?_) (by simp only [List.getElem?_toArray, List.getElem?_cons_zero, List.getElem?_cons_succ]; rfl) (by kernel_rfl) (by kernel_rfl) (by kernel_rfl) (fun _ _ _ h => h) (Or.inl ⟨by rfl, ?_⟩) (by assumption) ?_
  rotate_left 1
  · intro w hSw
    go_simp
    with_reducible rfl
  simp only [Act.put, List.setIfInBounds_toArray, List.set_cons_zero, List.set_cons_succ]
  refine wpAnyH_ready (rs := [3]) (by kernel_rfl) (by simp) ?_
  refine AllReadyH.cons (by simp only [List.getElem?_toArray, List.getElem?_cons_zero, List.getElem?_cons_succ]; rfl) (fun K hK => ?_) (AllReadyH.nil)
  go_simp
  refine (CW1.out _ z0).mono ?_
  rintro e3 y3 ⟨rfl, hy3⟩
  obtain rfl := hy3
  have hz1 := z0
  refine hK.out _ _ hz1 (fun hS => ?_)
  clear hK K hS
  refine wpAnyH_take (i := 4) (v := ?_) (by simp only [List.getElem?_toArray, List.getElem?_cons_zero, List.getElem?_cons_succ]; rfl) (by kernel_rfl) (by kernel_rfl) (by kernel_rfl) (fun _ _ _ h => h) (Or.inl ⟨by rfl, ?_⟩) (by assumption) ?_
  rotate_left 1
  · intro w hSw
    go_simp
    with_reducible rfl
  simp only [Act.put, List.setIfInBounds_toArray, List.set_cons_zero, List.set_cons_succ]
  refine wpAnyH_take (i := 5) (v := ?_) (by simp only [List.getElem?_toArray, List.getElem?_cons_zero, List.getElem?_cons_succ]; rfl) (by kernel_rfl) (by kernel_rfl) (by kernel_rfl) (fun _ _ _ h => h) (Or.inl ⟨by rfl, ?_⟩) (by assumption) ?_
  rotate_left 1
  · intro w hSw
    go_simp
    with_reducible rfl
  simp only [Act.put, List.setIfInBounds_toArray, List.set_cons_zero, List.set_cons_succ]
  refine wpAnyH_take (i := 6) (v := ?_) (by simp only [List.getElem?_toArray, List.getElem?_cons_zero, List.getElem?_cons_succ]; rfl) (by kernel_rfl) (by kernel_rfl) (by kernel_rfl) (fun _ _ _ h => h) (Or.inl ⟨by rfl, ?_⟩) (by assumption) ?_
  rotate_left 1
  · intro w hSw
    have q := XF.out w hSw
    go_simp
    with_reducible rfl
  simp only [Act.put, List.setIfInBounds_toArray, List.set_cons_zero, List.set_cons_succ]
  refine wpAnyH_take (i := 7) (v := ?_) (by simp only [List.getElem?_toArray, List.getElem?_cons_zero, List.getElem?_cons_succ]; rfl) (by kernel_rfl) (by kernel_rfl) (by kernel_rfl) (fun _ _ _ h => h) (Or.inl ⟨by rfl, ?_⟩) (by assumption) ?_
  rotate_left 1
  · intro w hSw
    go_simp
    with_reducible rfl
  simp only [Act.put, List.setIfInBounds_toArray, List.set_cons_zero, List.set_cons_succ]
  refine wpAnyH_take (i := 8) (v := undef) (by simp only [List.getElem?_toArray, List.getElem?_cons_zero, List.getElem?_cons_succ]; rfl) (by kernel_rfl) (by kernel_rfl) (by kernel_rfl) (fun _ _ _ h => h) (Or.inr ⟨by rfl, rfl⟩) (by assumption) ?_
  simp only [Act.put, List.setIfInBounds_toArray, List.set_cons_zero, List.set_cons_succ]
  refine wpAnyH_take (i := 9) (v := undef) (by simp only [List.getElem?_toArray, List.getElem?_cons_zero, List.getElem?_cons_succ]; rfl) (by kernel_rfl) (by kernel_rfl) (by kernel_rfl) (fun _ _ _ h => h) (Or.inr ⟨by rfl, rfl⟩) (by assumption) ?_
  simp only [Act.put, List.setIfInBounds_toArray, List.set_cons_zero, List.set_cons_succ]
  refine wpAnyH_take (i := 10) (v := undef) (by simp only [List.getElem?_toArray, List.getElem?_cons_zero, List.getElem?_cons_succ]; rfl) (by kernel_rfl) (by kernel_rfl) (by kernel_rfl) (fun _ _ _ h => h) (Or.inr ⟨by rfl, rfl⟩) (by assumption) ?_
  simp only [Act.put, List.setIfInBounds_toArray, List.set_cons_zero, List.set_cons_succ]
  refine wpAnyH_take (i := 11) (v := undef) (by simp only [List.getElem?_toArray, List.getElem?_cons_zero, List.getElem?_cons_succ]; rfl) (by kernel_rfl) (by kernel_rfl) (by kernel_rfl) (fun _ _ _ h => h) (Or.inr ⟨by rfl, rfl⟩) (by assumption) ?_
  simp only [Act.put, List.setIfInBounds_toArray, List.set_cons_zero, List.set_cons_succ]
  refine wpAnyH_take (i := 12) (v := undef) (by simp only [List.getElem?_toArray, List.getElem?_cons_zero, List.getElem?_cons_succ]; rfl) (by kernel_rfl) (by kernel_rfl) (by kernel_rfl) (fun _ _ _ h => h) (Or.inr ⟨by rfl, rfl⟩) (by assumption) ?_
  simp only [Act.put, List.setIfInBounds_toArray, List.set_cons_zero, List.set_cons_succ]
  refine wpAnyH_take (i := 13) (v := ?_) (by simp only [List.getElem?_toArray, List.getElem?_cons_zero, List.getElem?_cons_succ]; rfl) (by kernel_rfl) (by kernel_rfl) (by kernel_rfl) (fun _ _ _ h => h) (Or.inl ⟨by rfl, ?_⟩) (by assumption) ?_
  rotate_left 1
  · intro w hSw
    go_simp
    with_reducible rfl
  simp only [Act.put, List.setIfInBounds_toArray, List.set_cons_zero, List.set_cons_succ]
  refine wpAnyH_take (i := 14) (v := ?_) (by simp only [List.getElem?_toArray, List.getElem?_cons_zero, List.getElem?_cons_succ]; rfl) (by kernel_rfl) (by kernel_rfl) (by kernel_rfl) (fun _ _ _ h => h) (Or.inl ⟨by rfl, ?_⟩) (by assumption) ?_
  rotate_left 1
  · intro w hSw
    go_simp
    with_reducible rfl
  simp only [Act.put, List.setIfInBounds_toArray, List.set_cons_zero, List.set_cons_succ]
  refine wpAnyH_take (i := 15) (v := ?_) (by simp only [List.getElem?_toArray, List.getElem?_cons_zero, List.getElem?_cons_succ]; rfl) (by kernel_rfl) (by kernel_rfl) (by kernel_rfl) (fun _ _ _ h => h) (Or.inl ⟨by rfl, ?_⟩) (by assumption) ?_
  rotate_left 1
  · intro w hSw
    go_simp
    with_reducible rfl
  simp only [Act.put, List.setIfInBounds_toArray, List.set_cons_zero, List.set_cons_succ]
  refine wpAnyH_done (by kernel_rfl) ?_ _
  refine NoPanic.normal ?_
  have xn := XN.out
  cases b7 with
  | true =>
    simp only [Bool.not_true] at q7
    go_wp2
    go_ret
    exact ⟨ret_bool (by rw [HE.out]; rfl), HB0.out.drew⟩
  | false =>
    simp only [Bool.not_false] at q7
    go_wp2
    go_ret
    exact ⟨ret_bool (by rw [HE.out]; first | (simp; done) | (cases b2 <;> cases neg <;> rfl)), HB0.out.drew⟩
set_option maxRecDepth 100000 in
set_option maxHeartbeats 4000000 in
theorem rh_set_ft (n d r : Bool) (A0 : Option Addr) (l0 c0 : Nat) (neg : Bool) (A : Option Addr) (l k : Nat) (rs : List Rg) (c : UInt8) (w : World) (_hl : l = rs.length) (hn : rs.length ≤ 1000) (hr : Rgs 0 w (.slice A l k) rs) (h1 : (rs.any fun r => hasR r c) = false) :
    Calls Tryz.prog 68 #[.agg #[.bool n, .bool true, .bool d, .bool r, .slice A0 l0 c0], .agg #[.int .i64 4, .int .u8 0, .bool neg, .slice A l k], .int .u8 (b8 c)] w fun e w' => e = .returned (.bool (holdsE true (.set neg rs) c)) ∧ Below w.heap.size w w' := by
  have HE := hid (holdsE_set true neg rs c)
  clear _hl
  obtain ⟨W0, hW0⟩ : ∃ W0, (w.alloc (.cells #[.bool n, .bool true, .bool d, .bool r, .slice A0 l0 c0] 62)).alloc (.cells #[.int .i64 4, .int .u8 0, .bool neg, .slice A l k] 90) = W0 := ⟨_, rfl⟩
  have hP : Has W0 w.heap.size 62 #[.bool n, .bool true, .bool d, .bool r, .slice A0 l0 c0] := hW0 ▸ (Has.fresh w 62 _).more _
  have hE : Has W0 (w.heap.size + 1) 90 #[.int .i64 4, .int .u8 0, .bool neg, .slice A l k] := hW0 ▸ Has.fresh' _ 90 _ (by simp)
  have B0 : Below w.heap.size w W0 := hW0 ▸ ((Below.refl w.heap.size w).alloc (Nat.le_refl _) _).alloc (by simp) _
  have HB0 := hid B0
  have hk := hE.at_ 0
  have XF : Hid (∀ W, Below W0.heap.size W0 W → W.cell? ⟨w.heap.size, 1, none⟩ = some (.bool true)) := fun W h => (hP.stays h).at_ 1
  have z0 : Below W0.heap.size W0 W0.drew := (Below.refl _ _).drew
  have XR : Hid (∀ W, Below W0.heap.size W0 W → W.cell? ⟨w.heap.size + 1, 3, none⟩ = some (.slice A l k)) := fun W h => (hE.stays h).at_ 3
  have XN : Hid (W0.cell? ⟨w.heap.size + 1, 2, none⟩ = some (.bool neg)) := hE.at_ 2
  have CO : Hid (∀ W, Calls Tryz.prog 77 #[.int .u8 (b8 c)] W fun e w' => e = .returned (.int .u8 (b8 (other c))) ∧ W = w') := fun W => rother_any c W
  obtain ⟨b2, hb2⟩ : ∃ b, (rs.any fun r => hasR r (other c)) = b := ⟨_, rfl⟩
  have CW1 : Hid (∀ W, Below W0.heap.size W0 W → Calls Tryz.prog 76 #[.slice A l k, .int .u8 (b8 c)] W fun e w' => e = .returned (.bool false) ∧ W = w') := fun W h => h1 ▸ rwithin_any 0 _ rs c W ((hr.stays B0).stays h) hn
  have CW2 : Hid (∀ W, Below W0.heap.size W0 W → Calls Tryz.prog 76 #[.slice A l k, .int .u8 (b8 (other c))] W fun e w' => e = .returned (.bool b2) ∧ W = w') := fun W h => hb2 ▸ rwithin_any 0 _ rs (other c) W ((hr.stays B0).stays h) hn
  rw [h1, hb2] at HE
  have q7 := ne8 c 47
  rw [show b8 47 = 47 from rfl] at q7
  obtain ⟨b7, hb7⟩ : ∃ b, (c == 47) = b := ⟨_, rfl⟩
  rw [hb7] at q7 HE
  generalize holdsE true (.set neg rs) c = goal at HE
  generalize b8 (other c) = oc at *
  generalize b8 c = cc at *
  clear hP hE B0 h1 hb2 hb7 hr hn
  go_enter Tryz.func68, Tryz.ntmps68
  go_wp2
  refine wp_region_noPanic ?_
  refine wp_region_held_drew (S := Below W0.heap.size W0) (by kernel_rfl) (z0) (fun hS => ?_)
  refine wpAnyH_take (i := 0) (v := ?_) (by simp only [List.getElem?_toArray, List.getElem?_cons_zero]; rfl) (by kernel_rfl) (by kernel_rfl) (by kernel_rfl) (fun _ _ _ h => h) (Or.inl ⟨by rfl, ?_⟩) (by assumption) ?_
  rotate_left 1
  · intro w hSw
    go_simp
    with_reducible rfl
  simp only [Act.put, List.setIfInBounds_toArray, List.set_cons_zero, List.set_cons_succ]
  refine wpAnyH_take (i := 1) (v := ?_) (by simp only [List.getElem?_toArray, List.getElem?_cons_zero, List.getElem?_cons_succ]; rfl) (by kernel_rfl) (by kernel_rfl) (by kernel_rfl) (fun _ _ _ h => h) (Or.inl ⟨by rfl, ?_⟩) (by assumption) ?_
  rotate_left 1
  · intro w hSw
    have q := XR.out w hSw
    go_simp
    with_reducible rfl
  simp only [Act.put, List.setIfInBounds_toArray, List.set_cons_zero, List.set_cons_succ]
  refine wpAnyH_take (i := 2) (v := ?_) (by simp only [List.getElem?_toArray, List.getElem?_cons_zero, List.getElem?_cons_succ]; rfl) (by kernel_rfl) (by kernel_rfl) (by kernel_rfl) (fun _ _ _ h => h) (Or.inl ⟨by rfl, ?_⟩) (by assumption) ?_
  rotate_left 1
  · intro w hSw
    go_simp
    with_reducible rfl
  simp only [Act.put, List.setIfInBounds_toArray, List.set_cons_zero, List.set_cons_succ]
  refine wpAnyH_ready (rs := [3]) (by kernel_rfl) (by simp) ?_
  refine AllReadyH.cons (by simp only [List.getElem?_toArray, List.getElem?_cons_zero, List.getElem?_cons_succ]; rfl) (fun K hK => ?_) (AllReadyH.nil)
  go_simp
  refine (CW1.out _ z0).mono ?_
  rintro e3 y3 ⟨rfl, hy3⟩
  obtain rfl := hy3
  have hz1 := z0
  refine hK.out _ _ hz1 (fun hS => ?_)
  clear hK K hS
  refine wpAnyH_take (i := 4) (v := ?_) (by simp only [List.getElem?_toArray, List.getElem?_cons_zero, List.getElem?_cons_succ]; rfl) (by kernel_rfl) (by kernel_rfl) (by kernel_rfl) (fun _ _ _ h => h) (Or.inl ⟨by rfl, ?_⟩) (by assumption) ?_
  rotate_left 1
  · intro w hSw
    go_simp
    with_reducible rfl
  simp only [Act.put, List.setIfInBounds_toArray, List.set_cons_zero, List.set_cons_succ]
  refine wpAnyH_take (i := 5) (v := ?_) (by simp only [List.getElem?_toArray, List.getElem?_cons_zero, List.getElem?_cons_succ]; rfl) (by kernel_rfl) (by kernel_rfl) (by kernel_rfl) (fun _ _ _ h => h) (Or.inl ⟨by rfl, ?_⟩) (by assumption) ?_
  rotate_left 1
  · intro w hSw
    go_simp
    with_reducible rfl
  simp only [Act.put, List.setIfInBounds_toArray, List.set_cons_zero, List.set_cons_succ]
  refine wpAnyH_take (i := 6) (v := ?_) (by simp only [List.getElem?_toArray, List.getElem?_cons_zero, List.getElem?_cons_succ]; rfl) (by kernel_rfl) (by kernel_rfl) (by kernel_rfl) (fun _ _ _ h => h) (Or.inl ⟨by rfl, ?_⟩) (by assumption) ?_
  rotate_left 1
  · intro w hSw
    have q := XF.out w hSw
    go_simp
    with_reducible rfl
  simp only [Act.put, List.setIfInBounds_toArray, List.set_cons_zero, List.set_cons_succ]
  refine wpAnyH_take (i := 7) (v := ?_) (by simp only [List.getElem?_toArray, List.getElem?_cons_zero, List.getElem?_cons_succ]; rfl) (by kernel_rfl) (by kernel_rfl) (by kernel_rfl) (fun _ _ _ h => h) (Or.inl ⟨by rfl, ?_⟩) (by assumption) ?_
  rotate_left 1
  · intro w hSw
    go_simp
    with_reducible rfl
  simp only [Act.put, List.setIfInBounds_toArray, List.set_cons_zero, List.set_cons_succ]
  refine wpAnyH_take (i := 8) (v := ?_) (by simp only [List.getElem?_toArray, List.getElem?_cons_zero, List.getElem?_cons_succ]; rfl) (by kernel_rfl) (by kernel_rfl) (by kernel_rfl) (fun _ _ _ h => h) (Or.inl ⟨by rfl, ?_⟩) (by assumption) ?_
  rotate_left 1
  · intro w hSw
    go_simp
    with_reducible rfl
  simp only [Act.put, List.setIfInBounds_toArray, List.set_cons_zero, List.set_cons_succ]
  refine wpAnyH_take (i := 9) (v := ?_) (by simp only [List.getElem?_toArray, List.getElem?_cons_zero, List.getElem?_cons_succ]; rfl) (by kernel_rfl) (by kernel_rfl) (by kernel_rfl) (fun _ _ _ h => h) (Or.inl ⟨by rfl, ?_⟩) (by assumption) ?_
  rotate_left 1
  · intro w hSw
    have q := XR.out w hSw
    go_simp
    with_reducible rfl
  simp only [Act.put, List.setIfInBounds_toArray, List.set_cons_zero, List.set_cons_succ]
  refine wpAnyH_take (i := 10) (v := ?_) (by simp only [List.getElem?_toArray, List.getElem?_cons_zero, List.getElem?_cons_succ]; rfl) (by kernel_rfl) (by kernel_rfl) (by kernel_rfl) (fun _ _ _ h => h) (Or.inl ⟨by rfl, ?_⟩) (by assumption) ?_
  rotate_left 1
  · intro w hSw
    go_simp
    with_reducible rfl
  simp only [Act.put, List.setIfInBounds_toArray, List.set_cons_zero, List.set_cons_succ]
  refine wpAnyH_ready (rs := [11]) (by kernel_rfl) (by simp) ?_
  refine AllReadyH.cons (by simp only [List.getElem?_toArray, List.getElem?_cons_zero, List.getElem?_cons_succ]; rfl) (fun K hK => ?_) (AllReadyH.nil)
  go_simp
  refine (CO.out _).mono ?_
  rintro e11 y11 ⟨rfl, hy11⟩
  obtain rfl := hy11
  have hz2 := z0
  refine hK.out _ _ hz2 (fun hS => ?_)
  clear hK K hS
  refine wpAnyH_ready (rs := [12]) (by kernel_rfl) (by simp) ?_
  refine AllReadyH.cons (by simp only [List.getElem?_toArray, List.getElem?_cons_zero, List.getElem?_cons_succ]; rfl) (fun K hK => ?_) (AllReadyH.nil)
  go_simp
  refine (CW2.out _ z0).mono ?_
  rintro e12 y12 ⟨rfl, hy12⟩
  obtain rfl := hy12
  have hz3 := z0
  refine hK.out _ _ hz3 (fun hS => ?_)
  clear hK K hS
  refine wpAnyH_take (i := 13) (v := ?_) (by simp only [List.getElem?_toArray, List.getElem?_cons_zero, List.getElem?_cons_succ]; rfl) (by kernel_rfl) (by kernel_rfl) (by kernel_rfl) (fun _ _ _ h => h) (Or.inl ⟨by rfl, ?_⟩) (by assumption) ?_
  rotate_left 1
  · intro w hSw
    go_simp
    with_reducible rfl
  simp only [Act.put, List.setIfInBounds_toArray, List.set_cons_zero, List.set_cons_succ]
  refine wpAnyH_take (i := 14) (v := ?_) (by simp only [List.getElem?_toArray, List.getElem?_cons_zero, List.getElem?_cons_succ]; rfl) (by kernel_rfl) (by kernel_rfl) (by kernel_rfl) (fun _ _ _ h => h) (Or.inl ⟨by rfl, ?_⟩) (by assumption) ?_
  rotate_left 1
  · intro w hSw
    go_simp
    with_reducible rfl
  simp only [Act.put, List.setIfInBounds_toArray, List.set_cons_zero, List.set_cons_succ]
  refine wpAnyH_take (i := 15) (v := ?_) (by simp only [List.getElem?_toArray, List.getElem?_cons_zero, List.getElem?_cons_succ]; rfl) (by kernel_rfl) (by kernel_rfl) (by kernel_rfl) (fun _ _ _ h => h) (Or.inl ⟨by rfl, ?_⟩) (by assumption) ?_
  rotate_left 1
  · intro w hSw
    go_simp
    with_reducible rfl
  simp only [Act.put, List.setIfInBounds_toArray, List.set_cons_zero, List.set_cons_succ]
  refine wpAnyH_done (by kernel_rfl) ?_ _
  refine NoPanic.normal ?_
  have xn := XN.out
  cases b7 with
  | true =>
    simp only [Bool.not_true] at q7
    go_wp2
    go_ret
    exact ⟨ret_bool (by rw [HE.out]; rfl), HB0.out.drew⟩
  | false =>
    simp only [Bool.not_false] at q7
    go_wp2
    go_ret
    exact ⟨ret_bool (by rw [HE.out]; first | (simp; done) | (cases b2 <;> cases neg <;> rfl)), HB0.out.drew⟩
theorem rholds_any (n f d r : Bool) (A0 : Option Addr) (l0 c0 : Nat) (el : El) (a b : Int) (c' : Bool) (A : Option Addr) (l k : Nat) (c : UInt8) (w : World) (he : REl w el a b c' A l k) (hn : ∀ neg rs, el = .set neg rs → rs.length ≤ 1000) :
    Calls Tryz.prog 68 #[.agg #[.bool n, .bool f, .bool d, .bool r, .slice A0 l0 c0], .agg #[.int .i64 a, .int .u8 b, .bool c', .slice A l k], .int .u8 (b8 c)] w fun e w' => e = .returned (.bool (holdsE f el c)) ∧ Below w.heap.size w w' := by
  cases el with
  | all => obtain ⟨rfl, rfl, rfl, rfl, rfl, rfl⟩ := he; exact rh_all n f d r A0 l0 c0 c w
  | part => obtain ⟨rfl, rfl, rfl, rfl, rfl, rfl⟩ := he; exact rh_part n f d r A0 l0 c0 c w
  | one => obtain ⟨rfl, rfl, rfl, rfl, rfl, rfl⟩ := he; exact rh_one n f d r A0 l0 c0 c w
  | byt x =>
    obtain ⟨rfl, rfl, rfl, rfl, rfl, rfl⟩ := he
    cases h : c == x with
    | true => exact rh_byt_t n f d r A0 l0 c0 x c w h
    | false => cases f with
      | false => exact rh_byt_ff n d r A0 l0 c0 x c w h
      | true => exact rh_byt_ft n d r A0 l0 c0 x c w h
  | set neg rs =>
    obtain ⟨rfl, rfl, rfl, hl, hr⟩ := he
    have hn := hn _ rs rfl
    cases h : (rs.any fun r => hasR r c) with
    | true => exact rh_set_t n f d r A0 l0 c0 _ A l k rs c w hl hn hr h
    | false => cases f with
      | false => exact rh_set_ff n d r A0 l0 c0 _ A l k rs c w hl hn hr h
      | true => exact rh_set_ft n d r A0 l0 c0 _ A l k rs c w hl hn hr h
end Go.Proofs.YtpipkgkfhbagmaaGreatDoor.Glob
