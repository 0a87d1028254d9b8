/- The law VectorMerges: what its call does. Conditions: rows of sixteen counters each. -/
import Derived.Test.YtmmbnobbpnndkaaVR
namespace Go.Proofs.Ytmmbnobbpnndkaa
open Go.RowKit
set_option maxRecDepth 100000 in
set_option maxHeartbeats 400000 in
theorem mergesLaw_large (A : Option Addr) (n cap : Nat) (hn : 200 < n) (w : World) :
    Calls Try.prog 5 #[.slice A n cap] w fun e w' => e = .returned (.bool true) ∧ Below w.heap.size w w' := by
  have h1 : (200 : Int) < (n : Int) := by omega
  go_enter Try.func5, Try.ntmps5
  go_wp2_with (go_at_call 11; refine (awake_any _).mono ?_; rintro ee w8 ⟨rfl, hb8⟩)
  go_ret
  exact ⟨rfl, hb8⟩
set_option maxRecDepth 100000 in
set_option maxHeartbeats 2000000 in
theorem mergesLaw_small (ls : List (List (BitVec 32))) (A : Option Addr) (n cap gb off : Nat) (hn : ls.length = n) (hm : n ≤ 200) (hz : A = none → cap = 0) (ha : ∀ a, A = some a → a = ⟨gb, off, none⟩ ∨ n = 0) (w : World) (hs : VRows w A ls gb off) :
    Calls Try.prog 5 #[.slice A n cap] w fun e w' => e = .returned (.bool true) ∧ Below w.heap.size w w' := by
  have h1 : ¬ (200 : Int) < (n : Int) := by omega
  obtain ⟨g, c, w1, hr, hv, hb⟩ := own_rows w ls A n cap gb off hn hm hz ha hs
  obtain ⟨m, HM⟩ : ∃ m, Hid (mergeAll ls n = m) := ⟨_, rfl⟩
  have ML : Hid (m.length = 16) := by show _ = _; rw [← HM.out]; exact mergeAll_len _ _
  have HS := hid hs
  have HN := hid hn
  have HV := hid hv
  have HB := hid hb
  have HRUN := hid hr
  clear hn hs hv hb hr hz ha
  go_enter Try.func5, Try.ntmps5
  go_wp2_with (first
    | (refine wpList_append_run rfl (.tmp 9) (.tmp 10) 37 rfl ?_
       refine ⟨_, w1, HRUN.out, ?_⟩)
    | (go_at_call 12; refine (merge_any ls _ n c g 0 w1 HN.out (by omega) HV.out).mono ?_; rintro ee w2 ⟨rfl, hb2⟩
       rw [HM.out]
       have B2 := two_le HB hb2
       have V2 := hid (HV.out.kept hb2 (Nat.le_refl _))
       clear hb2)
    | (go_at_call 17; refine (rmerge_any ls A n cap gb off w2 HN.out (by omega) (HS.out.kept B2.out (Nat.le_refl _))).mono ?_; rintro ee w3 ⟨rfl, hb3⟩
       rw [HM.out]
       have B3 := two_le B2 hb3
       have V3 := hid (V2.out.kept hb3 (Nat.le_refl _))
       clear hb3 V2)
    | (refine wpList_neq_vec (by rfl) (.tmp 13) (.tmp 15) rfl m rfl rfl ML.out ?_))
  go_loopw [4] (fun i wr => ∃ k : Nat, k ≤ n ∧ i = .int .i64 (k : Int) ∧ Hid (VRows wr (some ⟨g, 0, none⟩) ls g 0) ∧ Hid (Below w.heap.size w wr))
    (fun i _ => n - (intOf i).toNat)
  case atStart => exact ⟨0, by omega, rfl, V3, B3⟩
  case round =>
    obtain ⟨k, hk, rfl, J1, J2⟩ := hrel
    by_cases hlt : k < n
    · have hA := HS.out.src (by rw [HN.out]; omega)
      subst hA
      have HKN : Hid (k < ls.length) := by show _ < _; rw [HN.out]; exact hlt
      have HR : Hid ((rowAt ls k).length = 16) := HS.out.len k HKN.out
      go_wp2
      have s0 : VRows wr.drew (some ⟨g, 0, none⟩) ls g 0 ∧ VRows wr.drew (some ⟨gb, off, none⟩) ls gb off := ⟨J1.out.kept ((Below.refl _ _).drew) (Nat.le_refl _), HS.out.kept (J2.out.drew) (Nat.le_refl _)⟩
      have J3 : Hid (Below w.heap.size w wr.drew) := J2.out.drew
      have J4 : Hid (VRows wr.drew (some ⟨g, 0, none⟩) ls g 0) := s0.1
      refine wp_region_noPanic ?_
      refine wp_region_held_drew (S := fun w' => VRows w' (some ⟨g, 0, none⟩) ls g 0 ∧ VRows w' (some ⟨gb, off, none⟩) ls gb off) (by kernel_rfl) s0 (fun hS => ?_)
      refine wpAnyH_take (i := 0) (v := ?_) (by simp only [List.getElem?_toArray, List.getElem?_cons_zero]; rfl) (by kernel_rfl) (by kernel_rfl) (by kernel_rfl) (fun _ _ _ h => h) (Or.inl ⟨by rfl, ?_⟩) (by assumption) ?_
      rotate_left 1
      · intro w hSw
        go_simp
        with_reducible rfl
      simp only [Act.put, List.setIfInBounds_toArray, List.set_cons_zero, List.set_cons_succ]
      refine wpAnyH_take (i := 1) (v := ?_) (by simp only [List.getElem?_toArray, List.getElem?_cons_zero, List.getElem?_cons_succ]; rfl) (by kernel_rfl) (by kernel_rfl) (by kernel_rfl) (fun _ _ _ h => h) (Or.inl ⟨by rfl, ?_⟩) (by assumption) ?_
      rotate_left 1
      · intro w hSw
        go_simp
        with_reducible rfl
      simp only [Act.put, List.setIfInBounds_toArray, List.set_cons_zero, List.set_cons_succ]
      refine wpAnyH_take (i := 2) (v := ?_) (by simp only [List.getElem?_toArray, List.getElem?_cons_zero, List.getElem?_cons_succ]; rfl) (by kernel_rfl) (by kernel_rfl) (by kernel_rfl) (fun _ _ _ h => h) (Or.inl ⟨by rfl, ?_⟩) (by assumption) ?_
      rotate_left 1
      · intro w hSw
        go_simp
        with_reducible rfl
      simp only [Act.put, List.setIfInBounds_toArray, List.set_cons_zero, List.set_cons_succ]
      refine' wpAnyH_take (i := 3) (v := _) (by simp only [List.getElem?_toArray, List.getElem?_cons_zero, List.getElem?_cons_succ]; rfl) (by kernel_rfl) (by kernel_rfl) (by kernel_rfl) (fun _ _ _ h => h) (yields_row (by rfl) _ rfl g (k * 16) rfl (rowAt ls k) HR.out (fun w hSw => Nat.zero_add (k * 16) ▸ hSw.1.row k HKN.out)) (by assumption) ?_
      simp only [Act.put, List.setIfInBounds_toArray, List.set_cons_zero, List.set_cons_succ]
      refine wpAnyH_take (i := 4) (v := ?_) (by simp only [List.getElem?_toArray, List.getElem?_cons_zero, List.getElem?_cons_succ]; rfl) (by kernel_rfl) (by kernel_rfl) (by kernel_rfl) (fun _ _ _ h => h) (Or.inl ⟨by rfl, ?_⟩) (by assumption) ?_
      rotate_left 1
      · intro w hSw
        go_simp
        with_reducible rfl
      simp only [Act.put, List.setIfInBounds_toArray, List.set_cons_zero, List.set_cons_succ]
      refine wpAnyH_take (i := 5) (v := ?_) (by simp only [List.getElem?_toArray, List.getElem?_cons_zero, List.getElem?_cons_succ]; rfl) (by kernel_rfl) (by kernel_rfl) (by kernel_rfl) (fun _ _ _ h => h) (Or.inl ⟨by rfl, ?_⟩) (by assumption) ?_
      rotate_left 1
      · intro w hSw
        go_simp
        with_reducible rfl
      simp only [Act.put, List.setIfInBounds_toArray, List.set_cons_zero, List.set_cons_succ]
      refine wpAnyH_take (i := 6) (v := ?_) (by simp only [List.getElem?_toArray, List.getElem?_cons_zero, List.getElem?_cons_succ]; rfl) (by kernel_rfl) (by kernel_rfl) (by kernel_rfl) (fun _ _ _ h => h) (Or.inl ⟨by rfl, ?_⟩) (by assumption) ?_
      rotate_left 1
      · intro w hSw
        go_simp
        with_reducible rfl
      simp only [Act.put, List.setIfInBounds_toArray, List.set_cons_zero, List.set_cons_succ]
      refine' wpAnyH_take (i := 7) (v := _) (by simp only [List.getElem?_toArray, List.getElem?_cons_zero, List.getElem?_cons_succ]; rfl) (by kernel_rfl) (by kernel_rfl) (by kernel_rfl) (fun _ _ _ h => h) (yields_row (by rfl) _ rfl gb (off + k * 16) rfl (rowAt ls k) HR.out (fun w hSw => hSw.2.row k HKN.out)) (by assumption) ?_
      simp only [Act.put, List.setIfInBounds_toArray, List.set_cons_zero, List.set_cons_succ]
      refine' wpAnyH_take (i := 8) (v := _) (by simp only [List.getElem?_toArray, List.getElem?_cons_zero, List.getElem?_cons_succ]; rfl) (by kernel_rfl) (by kernel_rfl) (by kernel_rfl) (fun _ _ _ h => h) (yields_neq (by rfl) (.tmp 26) (.tmp 30) rfl (rowAt ls k) rfl rfl HR.out) (by assumption) ?_
      simp only [Act.put, List.setIfInBounds_toArray, List.set_cons_zero, List.set_cons_succ]
      refine wpAnyH_done (by kernel_rfl) ?_ _
      refine NoPanic.normal ?_
      go_wp2
      go_roundw
      case rel => exact ⟨k + 1, by omega, by go_num, J4, J3⟩
      case measure => simp [intOf]; omega
    · obtain rfl : k = n := by omega
      go_wp2_with (go_at_call 11; refine (awake_any _).mono ?_; rintro ee w8 ⟨rfl, hb8⟩)
      go_ret
      exact ⟨rfl, (two_le J2 hb8).out⟩
theorem mergesLaw_any (ls : List (List (BitVec 32))) (A : Option Addr) (n cap gb off : Nat) (hn : ls.length = n) (hz : A = none → cap = 0) (ha : ∀ a, A = some a → a = ⟨gb, off, none⟩ ∨ n = 0) (w : World) (hs : VRows w A ls gb off) :
    Calls Try.prog 5 #[.slice A n cap] w fun e w' => e = .returned (.bool true) ∧ Below w.heap.size w w' := by
  rcases Nat.lt_or_ge 200 n with h | h
  · exact mergesLaw_large A n cap h w
  · exact mergesLaw_small ls A n cap gb off hn h hz ha w hs
end Go.Proofs.Ytmmbnobbpnndkaa
