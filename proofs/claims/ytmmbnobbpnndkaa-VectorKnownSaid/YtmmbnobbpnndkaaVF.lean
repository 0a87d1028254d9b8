/- Versions: Bump, the document's: what the call does. Conditions: sixteen counters. -/
import Derived.Test.YtmmbnobbpnndkaaVE
namespace Go.Proofs.Ytmmbnobbpnndkaa
open Go.RowKit
set_option maxRecDepth 100000 in
set_option maxHeartbeats 400000 in
theorem rbump_arg1 (l : List (BitVec 32)) (dev time : Int) (h : dev < 1) (w : World) :
    Calls Try.prog 10 #[.agg (vec l), .int .i64 dev, .int .i64 time] w fun e w' => e = .returned (.tuple #[.agg (vec zero16), .int .i64 2]) ∧ Below w.heap.size w w' := by
  have K := hid (Has.fresh' (w.alloc (.cells (vec l) 24)) 24 zeroA (show w.heap.size + 1 = _ by simp))
  go_enter Try.func10, Try.ntmps10
  go_wp2_with (refine wpList_store_row rfl 24 (.tmp 6) (.tmp 20) rfl (w.heap.size + 1) zeroA rfl rfl 24 zeroA K.out iVec rfl zeroTryone.out ?_)
  generalize hG : World.setRow _ _ _ = W3
  obtain ⟨V0, hG0, B1, B2⟩ := bump_boxes w (vec l) zero16
  obtain rfl : V0 = W3 := hG0.symm.trans hG
  exact bodyPost_ret (run_cell_tmp rfl _ _ _ (w.heap.size + 1) (vec zero16) _ (load_vec B1.out zero_len) rfl rfl) rfl ⟨rfl, B2.out⟩
set_option maxRecDepth 100000 in
set_option maxHeartbeats 400000 in
theorem rbump_arg2 (l : List (BitVec 32)) (dev time : Int) (h0 : ¬ dev < 1) (h : 16 < dev) (w : World) :
    Calls Try.prog 10 #[.agg (vec l), .int .i64 dev, .int .i64 time] w fun e w' => e = .returned (.tuple #[.agg (vec zero16), .int .i64 2]) ∧ Below w.heap.size w w' := by
  have K := hid (Has.fresh' (w.alloc (.cells (vec l) 24)) 24 zeroA (show w.heap.size + 1 = _ by simp))
  go_enter Try.func10, Try.ntmps10
  go_wp2_with (refine wpList_store_row rfl 24 (.tmp 6) (.tmp 20) rfl (w.heap.size + 1) zeroA rfl rfl 24 zeroA K.out iVec rfl zeroTryone.out ?_)
  generalize hG : World.setRow _ _ _ = W3
  obtain ⟨V0, hG0, B1, B2⟩ := bump_boxes w (vec l) zero16
  obtain rfl : V0 = W3 := hG0.symm.trans hG
  exact bodyPost_ret (run_cell_tmp rfl _ _ _ (w.heap.size + 1) (vec zero16) _ (load_vec B1.out zero_len) rfl rfl) rfl ⟨rfl, B2.out⟩
set_option maxRecDepth 100000 in
set_option maxHeartbeats 400000 in
theorem rbump_arg3 (l : List (BitVec 32)) (dev time : Int) (h0 : ¬ dev < 1) (h1 : ¬ 16 < dev) (h : time < 0) (w : World) :
    Calls Try.prog 10 #[.agg (vec l), .int .i64 dev, .int .i64 time] w fun e w' => e = .returned (.tuple #[.agg (vec zero16), .int .i64 2]) ∧ Below w.heap.size w w' := by
  have K := hid (Has.fresh' (w.alloc (.cells (vec l) 24)) 24 zeroA (show w.heap.size + 1 = _ by simp))
  go_enter Try.func10, Try.ntmps10
  go_wp2_with (refine wpList_store_row rfl 24 (.tmp 6) (.tmp 20) rfl (w.heap.size + 1) zeroA rfl rfl 24 zeroA K.out iVec rfl zeroTryone.out ?_)
  generalize hG : World.setRow _ _ _ = W3
  obtain ⟨V0, hG0, B1, B2⟩ := bump_boxes w (vec l) zero16
  obtain rfl : V0 = W3 := hG0.symm.trans hG
  exact bodyPost_ret (run_cell_tmp rfl _ _ _ (w.heap.size + 1) (vec zero16) _ (load_vec B1.out zero_len) rfl rfl) rfl ⟨rfl, B2.out⟩
set_option maxRecDepth 100000 in
set_option maxHeartbeats 400000 in
theorem rbump_max1 (l : List (BitVec 32)) (hl : l.length = 16) (dev time : Int) (d : Nat) (e0 : dev - 1 = (d : Int)) (h0 : 1 ≤ dev) (h1 : dev ≤ 16) (h2 : 0 ≤ time) (hc : u (at32 l d) = mostI) (w : World) :
    Calls Try.prog 10 #[.agg (vec l), .int .i64 dev, .int .i64 time] w fun e w' => e = .returned (.tuple #[.agg (vec zero16), .int .i64 13]) ∧ Below w.heap.size w w' := by
  have K := hid (Has.fresh' (w.alloc (.cells (vec l) 24)) 24 zeroA (show w.heap.size + 1 = _ by simp))
  have hd : d < 16 := by omega
  have k0 : ∀ o, ((w.alloc (.cells (vec l) 24)).alloc o).cell? ⟨w.heap.size, d, none⟩ = some (.int .u32 (u (at32 l d))) :=
    fun o => (((Has.fresh w 24 (vec l)).more o).at_ d).trans (vec_get l d (by omega))
  have hw : IntKind.i64.wrap (u (at32 l d)) = 4294967295 := by rw [hc]; exact i64in _ (by unfold mostI; omega) (by unfold mostI; omega)
  clear hc
  go_enter Try.func10, Try.ntmps10
  go_wp2_with (refine wpList_store_row rfl 24 (.tmp 6) (.tmp 32) rfl (w.heap.size + 1) zeroA rfl rfl 24 zeroA K.out iVec rfl zeroTryone.out ?_)
  generalize hG : World.setRow _ _ _ = W3
  obtain ⟨V0, hG0, B1, B2⟩ := bump_boxes w (vec l) zero16
  obtain rfl : V0 = W3 := hG0.symm.trans hG
  exact bodyPost_ret (run_cell_tmp rfl _ _ _ (w.heap.size + 1) (vec zero16) _ (load_vec B1.out zero_len) rfl rfl) rfl ⟨rfl, B2.out⟩
set_option maxRecDepth 100000 in
set_option maxHeartbeats 400000 in
theorem rbump_max2 (l : List (BitVec 32)) (hl : l.length = 16) (dev time : Int) (d : Nat) (e0 : dev - 1 = (d : Int)) (h0 : 1 ≤ dev) (h1 : dev ≤ 16) (hc : ¬ u (at32 l d) = mostI) (h : mostI < time) (w : World) :
    Calls Try.prog 10 #[.agg (vec l), .int .i64 dev, .int .i64 time] w fun e w' => e = .returned (.tuple #[.agg (vec zero16), .int .i64 13]) ∧ Below w.heap.size w w' := by
  have K := hid (Has.fresh' (w.alloc (.cells (vec l) 24)) 24 zeroA (show w.heap.size + 1 = _ by simp))
  have hd : d < 16 := by omega
  have k0 : ∀ o, ((w.alloc (.cells (vec l) 24)).alloc o).cell? ⟨w.heap.size, d, none⟩ = some (.int .u32 (u (at32 l d))) :=
    fun o => (((Has.fresh w 24 (vec l)).more o).at_ d).trans (vec_get l d (by omega))
  obtain ⟨c, hw⟩ : ∃ c, IntKind.i64.wrap (u (at32 l d)) = c := ⟨_, rfl⟩
  have hcm : ¬ c = 4294967295 := by rw [← hw, i64in _ (u_nonneg _) (by have := u_lt (at32 l d); omega)]; exact hc
  unfold mostI at h
  clear hc
  go_enter Try.func10, Try.ntmps10
  go_wp2_with (refine wpList_store_row rfl 24 (.tmp 6) (.tmp 32) rfl (w.heap.size + 1) zeroA rfl rfl 24 zeroA K.out iVec rfl zeroTryone.out ?_)
  generalize hG : World.setRow _ _ _ = W3
  obtain ⟨V0, hG0, B1, B2⟩ := bump_boxes w (vec l) zero16
  obtain rfl : V0 = W3 := hG0.symm.trans hG
  exact bodyPost_ret (run_cell_tmp rfl _ _ _ (w.heap.size + 1) (vec zero16) _ (load_vec B1.out zero_len) rfl rfl) rfl ⟨rfl, B2.out⟩
/-- The first box laid into a third one. -/
theorem rbump_lay (w : World) (l : List (BitVec 32)) : ∃ W1, (((w.alloc (.cells (vec l) 24)).alloc (.cells zeroA 24)).alloc (.cells zeroA 24)).setRow (w.heap.size + 1 + 1) (vec l) = W1 ∧
    Hid (Has W1 (w.heap.size + 1 + 1) 24 (vec l)) ∧ Hid (Has W1 (w.heap.size + 1) 24 zeroA) ∧ Hid (Below w.heap.size w W1) := by
  refine ⟨_, rfl, ?_, ?_, ?_⟩
  · exact Has.row (Has.fresh' ((w.alloc _).alloc _) 24 zeroA (by simp))
  · exact ((Has.fresh' (w.alloc _) 24 zeroA (by simp)).more _).rowOther (by omega)
  · exact ((((Below.refl _ _).alloc (Nat.le_refl _) _).alloc (by simp) _).alloc (by simp; omega) _).rowK (by omega) _
theorem rbump_put (w W3 : World) (l l2 : List (BitVec 32)) (d : Nat) (X : Int) (h1 : Hid (Has W3 (w.heap.size + 1 + 1) 24 (vec l))) (h2 : Hid (Has W3 (w.heap.size + 1) 24 zeroA)) (h3 : Hid (Below w.heap.size w W3)) (hs : (vec l).setIfInBounds d (.int .u32 X) = vec l2) :
    Hid (Has (W3.setCell ⟨w.heap.size + 1 + 1, d, none⟩ (.int .u32 X)) (w.heap.size + 1 + 1) 24 (vec l2)) ∧ Hid (Has (W3.setCell ⟨w.heap.size + 1 + 1, d, none⟩ (.int .u32 X)) (w.heap.size + 1) 24 zeroA) ∧
    Hid (Below w.heap.size w (W3.setCell ⟨w.heap.size + 1 + 1, d, none⟩ (.int .u32 X))) := by
  refine ⟨?_, ?_, ?_⟩
  · have := h1.out.put d (.int .u32 X)
    rw [hs] at this; exact this
  · exact h2.out.other (p := ⟨w.heap.size + 1 + 1, d, none⟩) (by simp) _
  · exact h3.out.setCell (p := ⟨w.heap.size + 1 + 1, d, none⟩) (by show _ ≤ _ + _; omega) _
theorem rbump_end (w W4 : World) (l2 : List (BitVec 32)) (h2 : Hid (Has W4 (w.heap.size + 1) 24 zeroA)) (h3 : Hid (Below w.heap.size w W4)) : ∃ W1, W4.setRow (w.heap.size + 1) (vec l2) = W1 ∧ Hid (Has W1 (w.heap.size + 1) 24 (vec l2)) ∧ Hid (Below w.heap.size w W1) :=
  ⟨_, rfl, Has.row h2.out, h3.out.rowK (by omega) _⟩
set_option maxRecDepth 100000 in
set_option maxHeartbeats 400000 in
theorem rbump_time (l : List (BitVec 32)) (hl : l.length = 16) (dev time : Int) (d : Nat) (e0 : dev - 1 = (d : Int)) (h0 : 1 ≤ dev) (h1 : dev ≤ 16) (h2 : 0 ≤ time) (hc : ¬ u (at32 l d) = mostI) (h : ¬ mostI < time) (hb : ¬ time < u (at32 l d) + 1) (w : World) :
    Calls Try.prog 10 #[.agg (vec l), .int .i64 dev, .int .i64 time] w fun e w' => e = .returned (.tuple #[.agg (vec (l.set d (raised (at32 l d) time))), .int .i64 0]) ∧ Below w.heap.size w w' := by
  have hd : d < 16 := by omega
  have k0 : ∀ o, ((w.alloc (.cells (vec l) 24)).alloc o).cell? ⟨w.heap.size, d, none⟩ = some (.int .u32 (u (at32 l d))) :=
    fun o => (((Has.fresh w 24 (vec l)).more o).at_ d).trans (vec_get l d (by omega))
  have L0 : Hid (∀ o, (loadVar 24 ⟨w.heap.size, 0, none⟩).run Try.prog ((w.alloc (.cells (vec l) 24)).alloc o) = .ok (.agg (vec l)) ((w.alloc (.cells (vec l) 24)).alloc o)) := fun o => load_vec ((Has.fresh w 24 (vec l)).more o) hl
  obtain ⟨c, hw⟩ : ∃ c, IntKind.i64.wrap (u (at32 l d)) = c := ⟨_, rfl⟩
  have hcm : ¬ c = 4294967295 := by rw [← hw, i64in _ (u_nonneg _) (by have := u_lt (at32 l d); omega)]; exact hc
  have hb2 : ¬ time < wrap64 (c + 1) := by rw [wrap_num _ c hw]; exact hb
  obtain ⟨l2, HL2⟩ : ∃ l2, Hid (l.set d (raised (at32 l d) time) = l2) := ⟨_, rfl⟩
  have hset : Hid ((vec l).setIfInBounds d (.int .u32 time) = vec l2) := by
    show _ = _
    have hu := raised_u (at32 l d) time hc h h2
    have hlt := u_lt (raised (at32 l d) time)
    have h5 := u_nonneg (at32 l d)
    have h6 := wrap_num _ c hw
    rw [← HL2.out, ← vec_set]
    congr 2
    rw [hu]
    split
    all_goals omega
  unfold mostI at h
  have HL : Hid (l2.length = 16) := by show _ = _; rw [← HL2.out, List.length_set, hl]
  have Y1 := size_vec _ HL.out
  have Y2 := size_zero _ HL.out
  have X1 := size_vec _ hl
  have X2 := size_zero _ hl
  have N2 := hid (Has.fresh' ((w.alloc (.cells (vec l) 24)).alloc (.cells zeroA 24)) 24 zeroA (show w.heap.size + 1 + 1 = _ by simp))
  rw [HL2.out]
  clear hc hl hb
  go_enter Try.func10, Try.ntmps10
  go_wp2_with (first
    | (refine wpList_load_g (by rfl) 24 (.tmp 3) rfl w.heap.size 0 rfl (vec l) (L0.out _) ?_)
    | (refine wpList_store_row rfl 24 (.tmp 9) (.tmp 33) rfl (w.heap.size + 1 + 1) (vec l) rfl rfl 24 zeroA N2.out X1.out X2.out (vec_one _) ?_
       generalize hG : World.setRow _ _ _ = W3
       obtain ⟨V0, hG0, B1, B2, B3⟩ := rbump_lay w l
       obtain rfl : V0 = W3 := hG0.symm.trans hG
       have f2 := B1.out.free d
       have k2 := (B1.out.at_ d).trans (vec_get l d (by have := X1.out; rw [vec_size, iVec] at this; have := Option.some.inj this; omega))
       obtain ⟨C1, C2, C3⟩ := rbump_put w V0 l l2 d time B1 B2 B3 hset.out
       have LA := hid (load_vec C1.out HL.out)
       clear hG hG0 k0)
    | (refine wpList_load_g (by rfl) 24 (.tmp 9) rfl (w.heap.size + 1 + 1) 0 rfl (vec l2) LA.out ?_)
    | (refine wpList_store_row rfl 24 (.tmp 6) (.tmp 49) rfl (w.heap.size + 1) (vec l2) rfl rfl 24 zeroA C2.out Y1.out Y2.out (vec_one _) ?_))
  generalize hG : World.setRow _ _ _ = W5
  obtain ⟨V1, hG0, D1, D2⟩ := rbump_end w _ l2 C2 C3
  obtain rfl : V1 = W5 := hG0.symm.trans hG
  exact bodyPost_ret (run_cell_tmp rfl _ _ _ (w.heap.size + 1) (vec l2) _ (load_vec D1.out HL.out) rfl rfl) rfl ⟨rfl, D2.out⟩
set_option maxRecDepth 100000 in
set_option maxHeartbeats 400000 in
theorem rbump_next (l : List (BitVec 32)) (hl : l.length = 16) (dev time : Int) (d : Nat) (e0 : dev - 1 = (d : Int)) (h0 : 1 ≤ dev) (h1 : dev ≤ 16) (h2 : 0 ≤ time) (hc : ¬ u (at32 l d) = mostI) (h : ¬ mostI < time) (hb : time < u (at32 l d) + 1) (w : World) :
    Calls Try.prog 10 #[.agg (vec l), .int .i64 dev, .int .i64 time] w fun e w' => e = .returned (.tuple #[.agg (vec (l.set d (raised (at32 l d) time))), .int .i64 0]) ∧ Below w.heap.size w w' := by
  have hd : d < 16 := by omega
  have k0 : ∀ o, ((w.alloc (.cells (vec l) 24)).alloc o).cell? ⟨w.heap.size, d, none⟩ = some (.int .u32 (u (at32 l d))) :=
    fun o => (((Has.fresh w 24 (vec l)).more o).at_ d).trans (vec_get l d (by omega))
  have L0 : Hid (∀ o, (loadVar 24 ⟨w.heap.size, 0, none⟩).run Try.prog ((w.alloc (.cells (vec l) 24)).alloc o) = .ok (.agg (vec l)) ((w.alloc (.cells (vec l) 24)).alloc o)) := fun o => load_vec ((Has.fresh w 24 (vec l)).more o) hl
  obtain ⟨c, hw⟩ : ∃ c, IntKind.i64.wrap (u (at32 l d)) = c := ⟨_, rfl⟩
  have hcm : ¬ c = 4294967295 := by rw [← hw, i64in _ (u_nonneg _) (by have := u_lt (at32 l d); omega)]; exact hc
  have hb2 : time < wrap64 (c + 1) := by rw [wrap_num _ c hw]; exact hb
  obtain ⟨l2, HL2⟩ : ∃ l2, Hid (l.set d (raised (at32 l d) time) = l2) := ⟨_, rfl⟩
  have hset : Hid ((vec l).setIfInBounds d (.int .u32 (wrap64 (c + 1) % 4294967296)) = vec l2) := by
    show _ = _
    have hu := raised_u (at32 l d) time hc h h2
    have hlt := u_lt (raised (at32 l d) time)
    have h5 := u_nonneg (at32 l d)
    have h6 := wrap_num _ c hw
    rw [← HL2.out, ← vec_set]
    congr 2
    rw [hu]
    split
    all_goals omega
  unfold mostI at h
  have HL : Hid (l2.length = 16) := by show _ = _; rw [← HL2.out, List.length_set, hl]
  have Y1 := size_vec _ HL.out
  have Y2 := size_zero _ HL.out
  have X1 := size_vec _ hl
  have X2 := size_zero _ hl
  have N2 := hid (Has.fresh' ((w.alloc (.cells (vec l) 24)).alloc (.cells zeroA 24)) 24 zeroA (show w.heap.size + 1 + 1 = _ by simp))
  rw [HL2.out]
  clear hc hl hb
  go_enter Try.func10, Try.ntmps10
  go_wp2_with (first
    | (refine wpList_load_g (by rfl) 24 (.tmp 3) rfl w.heap.size 0 rfl (vec l) (L0.out _) ?_)
    | (refine wpList_store_row rfl 24 (.tmp 9) (.tmp 33) rfl (w.heap.size + 1 + 1) (vec l) rfl rfl 24 zeroA N2.out X1.out X2.out (vec_one _) ?_
       generalize hG : World.setRow _ _ _ = W3
       obtain ⟨V0, hG0, B1, B2, B3⟩ := rbump_lay w l
       obtain rfl : V0 = W3 := hG0.symm.trans hG
       have f2 := B1.out.free d
       have k2 := (B1.out.at_ d).trans (vec_get l d (by have := X1.out; rw [vec_size, iVec] at this; have := Option.some.inj this; omega))
       obtain ⟨C1, C2, C3⟩ := rbump_put w V0 l l2 d (wrap64 (c + 1) % 4294967296) B1 B2 B3 hset.out
       have LA := hid (load_vec C1.out HL.out)
       clear hG hG0 k0)
    | (refine wpList_load_g (by rfl) 24 (.tmp 9) rfl (w.heap.size + 1 + 1) 0 rfl (vec l2) LA.out ?_)
    | (refine wpList_store_row rfl 24 (.tmp 6) (.tmp 49) rfl (w.heap.size + 1) (vec l2) rfl rfl 24 zeroA C2.out Y1.out Y2.out (vec_one _) ?_))
  generalize hG : World.setRow _ _ _ = W5
  obtain ⟨V1, hG0, D1, D2⟩ := rbump_end w _ l2 C2 C3
  obtain rfl : V1 = W5 := hG0.symm.trans hG
  exact bodyPost_ret (run_cell_tmp rfl _ _ _ (w.heap.size + 1) (vec l2) _ (load_vec D1.out HL.out) rfl rfl) rfl ⟨rfl, D2.out⟩
theorem rbump_any (l : List (BitVec 32)) (hl : l.length = 16) (dev time : Int) (w : World) :
    Calls Try.prog 10 #[.agg (vec l), .int .i64 dev, .int .i64 time] w fun e w' => e = .returned (.tuple #[.agg (vec (bumpV l dev time).1), .int .i64 (bumpV l dev time).2]) ∧ Below w.heap.size w w' := by
  unfold bumpV
  by_cases h0 : dev < 1
  · rw [if_pos (.inl h0)]; exact rbump_arg1 l dev time h0 w
  by_cases h1 : 16 < dev
  · rw [if_pos (.inr (.inl h1))]; exact rbump_arg2 l dev time h0 h1 w
  by_cases h2 : time < 0
  · rw [if_pos (.inr (.inr h2))]; exact rbump_arg3 l dev time h0 h1 h2 w
  rw [if_neg (by omega)]
  have e0 : dev - 1 = ((dev - 1).toNat : Int) := by omega
  generalize (dev - 1).toNat = d at e0 ⊢
  by_cases hc : u (at32 l d) = mostI
  · rw [if_pos (.inl hc)]; exact rbump_max1 l hl dev time d e0 (by omega) (by omega) (by omega) hc w
  by_cases h : mostI < time
  · rw [if_pos (.inr h)]; exact rbump_max2 l hl dev time d e0 (by omega) (by omega) hc h w
  rw [if_neg (fun x => x.elim hc h)]
  by_cases hb : time < u (at32 l d) + 1
  · exact rbump_next l hl dev time d e0 (by omega) (by omega) (by omega) hc h hb w
  · exact rbump_time l hl dev time d e0 (by omega) (by omega) (by omega) hc h hb w
end Go.Proofs.Ytmmbnobbpnndkaa
