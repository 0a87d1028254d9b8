/- Versions: Bump, the code's: what the call does. Conditions: sixteen counters. -/
import Derived.Test.YtmmbnobbpnndkaaVD
namespace Go.Proofs.Ytmmbnobbpnndkaa
open Go.RowKit
def mostI : Int := 4294967295
/-- What a counter is raised to. -/
def raised (x : BitVec 32) (time : Int) : BitVec 32 := BitVec.ofNat 32 (if u x + 1 < time then time.toNat else x.toNat + 1)
def bumpV (l : List (BitVec 32)) (dev time : Int) : List (BitVec 32) × Int :=
  if dev < 1 ∨ 16 < dev ∨ time < 0 then (zero16, 2)
  else if u (at32 l (dev - 1).toNat) = mostI ∨ mostI < time then (zero16, 13)
  else (l.set (dev - 1).toNat (raised (at32 l (dev - 1).toNat) time), 0)
theorem run_cell_tmp {fn : Func} {p t : Tmp} {ty : TypeId} (h : fn.results = #[.cell p ty, .tmp t]) (tmps : Array Value) (P : Program) (w : World) (g : Nat) (cs : Array Value) (b : Value)
    (hl : (loadVar ty ⟨g, 0, none⟩).run P w = .ok (.agg cs) w) (hp : tmps.getD p undef = .pointer (some ⟨g, 0, none⟩)) (hb : tmps.getD t undef = b) :
    (results fn tmps).run P w = .ok (.tuple #[.agg cs, b]) w := by
  rw [results_cell_tmp h, hp, hb]
  simp [asAddr, hl]
/-- Two boxes, the second one's row laid anew. -/
theorem bump_boxes (w : World) (A : Array Value) (z : List (BitVec 32)) : ∃ W1, ((w.alloc (.cells A 24)).alloc (.cells zeroA 24)).setRow (w.heap.size + 1) (vec z) = W1 ∧ Hid (Has W1 (w.heap.size + 1) 24 (vec z)) ∧ Hid (Below w.heap.size w W1) :=
  ⟨_, rfl, Has.row (Has.fresh' (w.alloc _) 24 zeroA (by simp)), (((Below.refl _ _).alloc (Nat.le_refl _) _).alloc (by simp) _).rowK (by omega) _⟩
set_option maxRecDepth 100000 in
set_option maxHeartbeats 400000 in
theorem bump_arg1 (l : List (BitVec 32)) (dev time : Int) (h : dev < 1) (w : World) :
    Calls Try.prog 9 #[.agg (vec l), .int .i64 dev, .int .i64 time] w fun e w' => e = .returned (.tuple #[.agg (vec zero16), .int .i64 2]) ∧ Below w.heap.size w w' := by
  have K := hid (Has.fresh' (w.alloc (.cells (vec l) 24)) 24 zeroA (show w.heap.size + 1 = _ by simp))
  go_enter Try.func9, Try.ntmps9
  go_wp2_with (refine wpList_store_row rfl 24 (.tmp 6) (.tmp 19) rfl (w.heap.size + 1) zeroA rfl rfl 24 zeroA K.out iVec rfl zeroTryone.out ?_)
  generalize hG : World.setRow _ _ _ = W3
  obtain ⟨V0, hG0, B1, B2⟩ := bump_boxes w (vec l) zero16
  obtain rfl : V0 = W3 := hG0.symm.trans hG
  exact bodyPost_ret (run_cell_tmp rfl _ _ _ (w.heap.size + 1) (vec zero16) _ (load_vec B1.out zero_len) rfl rfl) rfl ⟨rfl, B2.out⟩
set_option maxRecDepth 100000 in
set_option maxHeartbeats 400000 in
theorem bump_arg2 (l : List (BitVec 32)) (dev time : Int) (h0 : ¬ dev < 1) (h : 16 < dev) (w : World) :
    Calls Try.prog 9 #[.agg (vec l), .int .i64 dev, .int .i64 time] w fun e w' => e = .returned (.tuple #[.agg (vec zero16), .int .i64 2]) ∧ Below w.heap.size w w' := by
  have K := hid (Has.fresh' (w.alloc (.cells (vec l) 24)) 24 zeroA (show w.heap.size + 1 = _ by simp))
  go_enter Try.func9, Try.ntmps9
  go_wp2_with (refine wpList_store_row rfl 24 (.tmp 6) (.tmp 19) rfl (w.heap.size + 1) zeroA rfl rfl 24 zeroA K.out iVec rfl zeroTryone.out ?_)
  generalize hG : World.setRow _ _ _ = W3
  obtain ⟨V0, hG0, B1, B2⟩ := bump_boxes w (vec l) zero16
  obtain rfl : V0 = W3 := hG0.symm.trans hG
  exact bodyPost_ret (run_cell_tmp rfl _ _ _ (w.heap.size + 1) (vec zero16) _ (load_vec B1.out zero_len) rfl rfl) rfl ⟨rfl, B2.out⟩
set_option maxRecDepth 100000 in
set_option maxHeartbeats 400000 in
theorem bump_arg3 (l : List (BitVec 32)) (dev time : Int) (h0 : ¬ dev < 1) (h1 : ¬ 16 < dev) (h : time < 0) (w : World) :
    Calls Try.prog 9 #[.agg (vec l), .int .i64 dev, .int .i64 time] w fun e w' => e = .returned (.tuple #[.agg (vec zero16), .int .i64 2]) ∧ Below w.heap.size w w' := by
  have K := hid (Has.fresh' (w.alloc (.cells (vec l) 24)) 24 zeroA (show w.heap.size + 1 = _ by simp))
  go_enter Try.func9, Try.ntmps9
  go_wp2_with (refine wpList_store_row rfl 24 (.tmp 6) (.tmp 19) rfl (w.heap.size + 1) zeroA rfl rfl 24 zeroA K.out iVec rfl zeroTryone.out ?_)
  generalize hG : World.setRow _ _ _ = W3
  obtain ⟨V0, hG0, B1, B2⟩ := bump_boxes w (vec l) zero16
  obtain rfl : V0 = W3 := hG0.symm.trans hG
  exact bodyPost_ret (run_cell_tmp rfl _ _ _ (w.heap.size + 1) (vec zero16) _ (load_vec B1.out zero_len) rfl rfl) rfl ⟨rfl, B2.out⟩
set_option maxRecDepth 100000 in
set_option maxHeartbeats 400000 in
theorem bump_max1 (l : List (BitVec 32)) (hl : l.length = 16) (dev time : Int) (d : Nat) (e0 : dev - 1 = (d : Int)) (h0 : 1 ≤ dev) (h1 : dev ≤ 16) (h2 : 0 ≤ time) (hc : u (at32 l d) = mostI) (w : World) :
    Calls Try.prog 9 #[.agg (vec l), .int .i64 dev, .int .i64 time] w fun e w' => e = .returned (.tuple #[.agg (vec zero16), .int .i64 13]) ∧ Below w.heap.size w w' := by
  have K := hid (Has.fresh' (w.alloc (.cells (vec l) 24)) 24 zeroA (show w.heap.size + 1 = _ by simp))
  have hd : d < 16 := by omega
  have k0 : ∀ o, ((w.alloc (.cells (vec l) 24)).alloc o).cell? ⟨w.heap.size, d, none⟩ = some (.int .u32 (u (at32 l d))) :=
    fun o => (((Has.fresh w 24 (vec l)).more o).at_ d).trans (vec_get l d (by omega))
  have hw : IntKind.i64.wrap (u (at32 l d)) = 4294967295 := by rw [hc]; exact i64in _ (by unfold mostI; omega) (by unfold mostI; omega)
  clear hc
  go_enter Try.func9, Try.ntmps9
  go_wp2_with (refine wpList_store_row rfl 24 (.tmp 6) (.tmp 31) rfl (w.heap.size + 1) zeroA rfl rfl 24 zeroA K.out iVec rfl zeroTryone.out ?_)
  generalize hG : World.setRow _ _ _ = W3
  obtain ⟨V0, hG0, B1, B2⟩ := bump_boxes w (vec l) zero16
  obtain rfl : V0 = W3 := hG0.symm.trans hG
  exact bodyPost_ret (run_cell_tmp rfl _ _ _ (w.heap.size + 1) (vec zero16) _ (load_vec B1.out zero_len) rfl rfl) rfl ⟨rfl, B2.out⟩
set_option maxRecDepth 100000 in
set_option maxHeartbeats 400000 in
theorem bump_max2 (l : List (BitVec 32)) (hl : l.length = 16) (dev time : Int) (d : Nat) (e0 : dev - 1 = (d : Int)) (h0 : 1 ≤ dev) (h1 : dev ≤ 16) (hc : ¬ u (at32 l d) = mostI) (h : mostI < time) (w : World) :
    Calls Try.prog 9 #[.agg (vec l), .int .i64 dev, .int .i64 time] w fun e w' => e = .returned (.tuple #[.agg (vec zero16), .int .i64 13]) ∧ Below w.heap.size w w' := by
  have K := hid (Has.fresh' (w.alloc (.cells (vec l) 24)) 24 zeroA (show w.heap.size + 1 = _ by simp))
  have hd : d < 16 := by omega
  have k0 : ∀ o, ((w.alloc (.cells (vec l) 24)).alloc o).cell? ⟨w.heap.size, d, none⟩ = some (.int .u32 (u (at32 l d))) :=
    fun o => (((Has.fresh w 24 (vec l)).more o).at_ d).trans (vec_get l d (by omega))
  obtain ⟨c, hw⟩ : ∃ c, IntKind.i64.wrap (u (at32 l d)) = c := ⟨_, rfl⟩
  have hcm : ¬ c = 4294967295 := by rw [← hw, i64in _ (u_nonneg _) (by have := u_lt (at32 l d); omega)]; exact hc
  unfold mostI at h
  clear hc
  go_enter Try.func9, Try.ntmps9
  go_wp2_with (refine wpList_store_row rfl 24 (.tmp 6) (.tmp 31) rfl (w.heap.size + 1) zeroA rfl rfl 24 zeroA K.out iVec rfl zeroTryone.out ?_)
  generalize hG : World.setRow _ _ _ = W3
  obtain ⟨V0, hG0, B1, B2⟩ := bump_boxes w (vec l) zero16
  obtain rfl : V0 = W3 := hG0.symm.trans hG
  exact bodyPost_ret (run_cell_tmp rfl _ _ _ (w.heap.size + 1) (vec zero16) _ (load_vec B1.out zero_len) rfl rfl) rfl ⟨rfl, B2.out⟩
theorem wrap_num (x : BitVec 32) (c : Int) (hw : IntKind.i64.wrap (u x) = c) : wrap64 (c + 1) = u x + 1 := by
  have h1 := u_nonneg x
  have h3 := u_lt x
  rw [i64in _ h1 (by omega)] at hw
  subst hw
  unfold wrap64; omega
theorem raised_u (x : BitVec 32) (time : Int) (hc : ¬ u x = mostI) (h : ¬ mostI < time) (h2 : 0 ≤ time) : u (raised x time) = if u x + 1 < time then time else u x + 1 := by
  have h1 := u_nonneg x
  have h3 := u_lt x
  have hx : (x.toNat : Int) = u x := rfl
  unfold mostI at hc h
  have hr : u (raised x time) = ((if u x + 1 < time then time.toNat else x.toNat + 1 : Nat) : Int) := by
    unfold raised
    show ((BitVec.ofNat 32 _).toNat : Int) = _
    rw [BitVec.toNat_ofNat, Nat.mod_eq_of_lt]
    split <;> omega
  rw [hr]
  split <;> omega
theorem bump_two (w : World) (l : List (BitVec 32)) (z : Array Value) (hz : z = zeroA) (N : Nat) (hN : N = w.heap.size + 1) :
    Hid (Has ((w.alloc (.cells (vec l) 24)).alloc (.cells z 24)) w.heap.size 24 (vec l)) ∧ Hid (Has ((w.alloc (.cells (vec l) 24)).alloc (.cells z 24)) N 24 zeroA) := by
  subst hz hN
  exact ⟨(Has.fresh w 24 (vec l)).more _, Has.fresh' (w.alloc _) 24 zeroA (by simp)⟩
set_option maxRecDepth 100000 in
set_option maxHeartbeats 400000 in
theorem bump_time (l : List (BitVec 32)) (hl : l.length = 16) (dev time : Int) (d : Nat) (e0 : dev - 1 = (d : Int)) (h0 : 1 ≤ dev) (h1 : dev ≤ 16) (h2 : 0 ≤ time) (hc : ¬ u (at32 l d) = mostI) (h : ¬ mostI < time) (hb : u (at32 l d) + 1 < time) (w : World) :
    Calls Try.prog 9 #[.agg (vec l), .int .i64 dev, .int .i64 time] w fun e w' => e = .returned (.tuple #[.agg (vec (l.set d (raised (at32 l d) time))), .int .i64 0]) ∧ Below w.heap.size w w' := by
  have hd : d < 16 := by omega
  have k0 : ∀ o, ((w.alloc (.cells (vec l) 24)).alloc o).cell? ⟨w.heap.size, d, none⟩ = some (.int .u32 (u (at32 l d))) :=
    fun o => (((Has.fresh w 24 (vec l)).more o).at_ d).trans (vec_get l d (by omega))
  have f0 : ∀ o, ((w.alloc (.cells (vec l) 24)).alloc o).frozen? ⟨w.heap.size, d, none⟩ = false := fun o => ((Has.fresh w 24 (vec l)).more o).free d
  obtain ⟨c, hw⟩ : ∃ c, IntKind.i64.wrap (u (at32 l d)) = c := ⟨_, rfl⟩
  have hcm : ¬ c = 4294967295 := by rw [← hw, i64in _ (u_nonneg _) (by have := u_lt (at32 l d); omega)]; exact hc
  have hb2 : wrap64 (c + 1) < time := by rw [wrap_num _ c hw]; exact hb
  obtain ⟨l2, HL2⟩ : ∃ l2, Hid (l.set d (raised (at32 l d) time) = l2) := ⟨_, rfl⟩
  have hset : (vec l).setIfInBounds d (.int .u32 time) = vec l2 := by
    have hu := raised_u (at32 l d) time hc h h2
    have hlt := u_lt (raised (at32 l d) time)
    have h5 := u_nonneg (at32 l d)
    have h6 := wrap_num _ c hw
    rw [← HL2.out, ← vec_set]
    congr 2
    rw [hu]
    split
    all_goals omega
  unfold mostI at h
  have HL : Hid (l2.length = 16) := by show _ = _; rw [← HL2.out, List.length_set, hl]
  have Y1 := size_vec _ HL.out
  have Y2 := size_zero _ HL.out
  obtain ⟨J1, J2⟩ := bump_two w l2 zeroA rfl _ rfl
  have LA := hid (load_vec J1.out HL.out)
  rw [HL2.out]
  clear hc hl hb
  go_enter Try.func9, Try.ntmps9
  go_wp2_with (first
    | (refine wpList_load_g (by rfl) 24 (.tmp 3) rfl w.heap.size 0 rfl (vec l2) LA.out ?_)
    | (refine wpList_store_row rfl 24 (.tmp 6) (.tmp 40) rfl (w.heap.size + 1) (vec l2) rfl rfl 24 zeroA J2.out Y1.out Y2.out (vec_one _) ?_))
  generalize hG : World.setRow _ _ _ = W3
  obtain ⟨V0, hG0, B1, B2⟩ := bump_boxes w (vec l2) l2
  obtain rfl : V0 = W3 := hG0.symm.trans hG
  exact bodyPost_ret (run_cell_tmp rfl _ _ _ (w.heap.size + 1) (vec l2) _ (load_vec B1.out HL.out) rfl rfl) rfl ⟨rfl, B2.out⟩
set_option maxRecDepth 100000 in
set_option maxHeartbeats 400000 in
theorem bump_next (l : List (BitVec 32)) (hl : l.length = 16) (dev time : Int) (d : Nat) (e0 : dev - 1 = (d : Int)) (h0 : 1 ≤ dev) (h1 : dev ≤ 16) (h2 : 0 ≤ time) (hc : ¬ u (at32 l d) = mostI) (h : ¬ mostI < time) (hb : ¬ u (at32 l d) + 1 < time) (w : World) :
    Calls Try.prog 9 #[.agg (vec l), .int .i64 dev, .int .i64 time] w fun e w' => e = .returned (.tuple #[.agg (vec (l.set d (raised (at32 l d) time))), .int .i64 0]) ∧ Below w.heap.size w w' := by
  have hd : d < 16 := by omega
  have k0 : ∀ o, ((w.alloc (.cells (vec l) 24)).alloc o).cell? ⟨w.heap.size, d, none⟩ = some (.int .u32 (u (at32 l d))) :=
    fun o => (((Has.fresh w 24 (vec l)).more o).at_ d).trans (vec_get l d (by omega))
  have f0 : ∀ o, ((w.alloc (.cells (vec l) 24)).alloc o).frozen? ⟨w.heap.size, d, none⟩ = false := fun o => ((Has.fresh w 24 (vec l)).more o).free d
  obtain ⟨c, hw⟩ : ∃ c, IntKind.i64.wrap (u (at32 l d)) = c := ⟨_, rfl⟩
  have hcm : ¬ c = 4294967295 := by rw [← hw, i64in _ (u_nonneg _) (by have := u_lt (at32 l d); omega)]; exact hc
  have hb2 : ¬ wrap64 (c + 1) < time := by rw [wrap_num _ c hw]; exact hb
  obtain ⟨l2, HL2⟩ : ∃ l2, Hid (l.set d (raised (at32 l d) time) = l2) := ⟨_, rfl⟩
  have hset : (vec l).setIfInBounds d (.int .u32 ((wrap64 (c + 1)) % 4294967296)) = vec l2 := by
    have hu := raised_u (at32 l d) time hc h h2
    have hlt := u_lt (raised (at32 l d) time)
    have h5 := u_nonneg (at32 l d)
    have h6 := wrap_num _ c hw
    rw [← HL2.out, ← vec_set]
    congr 2
    rw [hu]
    split
    all_goals omega
  unfold mostI at h
  have HL : Hid (l2.length = 16) := by show _ = _; rw [← HL2.out, List.length_set, hl]
  have Y1 := size_vec _ HL.out
  have Y2 := size_zero _ HL.out
  obtain ⟨J1, J2⟩ := bump_two w l2 zeroA rfl _ rfl
  have LA := hid (load_vec J1.out HL.out)
  rw [HL2.out]
  clear hc hl hb
  go_enter Try.func9, Try.ntmps9
  go_wp2_with (first
    | (refine wpList_load_g (by rfl) 24 (.tmp 3) rfl w.heap.size 0 rfl (vec l2) LA.out ?_)
    | (refine wpList_store_row rfl 24 (.tmp 6) (.tmp 40) rfl (w.heap.size + 1) (vec l2) rfl rfl 24 zeroA J2.out Y1.out Y2.out (vec_one _) ?_))
  generalize hG : World.setRow _ _ _ = W3
  obtain ⟨V0, hG0, B1, B2⟩ := bump_boxes w (vec l2) l2
  obtain rfl : V0 = W3 := hG0.symm.trans hG
  exact bodyPost_ret (run_cell_tmp rfl _ _ _ (w.heap.size + 1) (vec l2) _ (load_vec B1.out HL.out) rfl rfl) rfl ⟨rfl, B2.out⟩
theorem bump_any (l : List (BitVec 32)) (hl : l.length = 16) (dev time : Int) (w : World) :
    Calls Try.prog 9 #[.agg (vec l), .int .i64 dev, .int .i64 time] w fun e w' => e = .returned (.tuple #[.agg (vec (bumpV l dev time).1), .int .i64 (bumpV l dev time).2]) ∧ Below w.heap.size w w' := by
  unfold bumpV
  by_cases h0 : dev < 1
  · rw [if_pos (.inl h0)]; exact bump_arg1 l dev time h0 w
  by_cases h1 : 16 < dev
  · rw [if_pos (.inr (.inl h1))]; exact bump_arg2 l dev time h0 h1 w
  by_cases h2 : time < 0
  · rw [if_pos (.inr (.inr h2))]; exact bump_arg3 l dev time h0 h1 h2 w
  rw [if_neg (by omega)]
  have e0 : dev - 1 = ((dev - 1).toNat : Int) := by omega
  generalize (dev - 1).toNat = d at e0 ⊢
  by_cases hc : u (at32 l d) = mostI
  · rw [if_pos (.inl hc)]; exact bump_max1 l hl dev time d e0 (by omega) (by omega) (by omega) hc w
  by_cases h : mostI < time
  · rw [if_pos (.inr h)]; exact bump_max2 l hl dev time d e0 (by omega) (by omega) hc h w
  rw [if_neg (fun x => x.elim hc h)]
  by_cases hb : u (at32 l d) + 1 < time
  · exact bump_time l hl dev time d e0 (by omega) (by omega) (by omega) hc h hb w
  · exact bump_next l hl dev time d e0 (by omega) (by omega) (by omega) hc h hb w
end Go.Proofs.Ytmmbnobbpnndkaa
