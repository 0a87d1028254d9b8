/- Versions: the laws' own helpers: of, bumps, no. Conditions: at most sixteen counters. -/
import Derived.Test.YtmmbnobbpnndkaaVH
namespace Go.Proofs.Ytmmbnobbpnndkaa
open Go.RowKit
def ofTo (xs : List (BitVec 32)) : Nat → List (BitVec 32)
  | 0 => zero16
  | k + 1 => (ofTo xs k).set k (at32 xs k)
theorem ofTo_len (xs : List (BitVec 32)) (k : Nat) : (ofTo xs k).length = 16 := by
  induction k with
  | zero => exact zero_len
  | succ k ih => rw [ofTo, List.length_set, ih]
set_option maxRecDepth 100000 in
set_option maxHeartbeats 400000 in
theorem of_any (xs : List (BitVec 32)) (A : Option Addr) (n cap g : Nat) (w : World) (hm : n ≤ 16) (hs : 0 < n → A = some ⟨g, 0, none⟩) (hc : ∀ i, i < n → w.cell? ⟨g, i, none⟩ = some (.int .u32 (u (at32 xs i)))) (hg : 0 < n → g < w.heap.size) :
    Calls Try.prog 21 #[.slice A n cap] w fun e w' => e = .returned (.agg (vec (ofTo xs n))) ∧ Below w.heap.size w w' := by
  have HS := hid hs
  have HC := hid hc
  have HG := hid hg
  clear hs hc hg
  go_enter Try.func21, Try.ntmps21
  go_wp2
  generalize hG : World.alloc (World.alloc w _) _ = W1
  obtain ⟨W0, hG0, S1, S2, S3⟩ := rmerge_start w
  obtain rfl : W0 = W1 := hG0.symm.trans hG
  clear hG0 hG
  go_loopw [4] (fun i wr => ∃ k : Nat, k ≤ n ∧ i = .int .i64 (k : Int) ∧ Hid (Has wr (w.heap.size + 1) 24 (vec (ofTo xs k))) ∧ Hid (Has wr w.heap.size 24 zeroA) ∧ Hid (Below w.heap.size w wr))
    (fun i _ => n - (intOf i).toNat)
  case atStart => exact ⟨0, by omega, rfl, S1, S2, S3⟩
  case round =>
    obtain ⟨k, hk, rfl, J1, J2, J3⟩ := hrel
    by_cases hlt : k < n
    · have hA := HS.out (by omega)
      subst hA
      have h16 : k < 16 := by omega
      have c1 : wr.cell? ⟨g, k, none⟩ = some (.int .u32 (u (at32 xs k))) := (J3.out.cell (p := ⟨g, k, none⟩) (HG.out (by omega))).trans (HC.out k hlt)
      have c2 := (J1.out.at_ k).trans (vec_get _ k (by rw [ofTo_len]; exact h16))
      have f1 := J1.out.free k
      go_wp2
      go_roundw
      case rel =>
        refine ⟨k + 1, by omega, by go_num, ?_, J2.out.other (p := ⟨w.heap.size + 1, k, none⟩) (by simp) _, J3.out.setCell (p := ⟨w.heap.size + 1, k, none⟩) (Nat.le_succ _) _⟩
        have := J1.out.put k (.int .u32 (u (at32 xs k)))
        rw [vec_set] at this
        exact this
      case measure => simp [intOf]; omega
    · obtain rfl : k = n := by omega
      have Y1 := size_vec _ (ofTo_len xs k)
      have Y2 := size_zero _ (ofTo_len xs k)
      go_wp2_with (first
        | (refine wpList_load_row rfl 24 (.tmp 3) rfl (w.heap.size + 1) rfl 24 (vec (ofTo xs k)) (0, 0) _ J1.out Try.underlying24 rfl Y1.out ?_)
        | (refine wpList_store_row rfl 24 (.tmp 2) (.tmp 21) rfl w.heap.size (vec (ofTo xs k)) rfl rfl 24 zeroA J2.out Y1.out Y2.out (vec_one _) ?_))
      exact bodyPost_ret (results_cell_row rfl _ _ w.heap.size 24 (vec (ofTo xs k)) (0, 0) _ rfl J2.out.row Try.underlying24 rfl Y1.out) rfl ⟨rfl, J3.out.rowK (Nat.le_refl _) _⟩
/-- Of a literal's counters. -/
theorem of_lit (xs : List (BitVec 32)) (n g : Nat) (cs : Array Value) (r : List (BitVec 32)) (w : World) (hn : xs.length = n) (hm : n ≤ 16) (hcs : cs = (xs.map V32).toArray) (hr : ofTo xs n = r) (hw : w.heap.size = g) :
    Calls Try.prog 21 #[.slice (some ⟨g, 0, none⟩) n n] (w.alloc (.cells cs 22)) fun e w' => e = .returned (.agg (vec r)) ∧ Below w.heap.size w w' := by
  subst hw hcs
  refine (of_any xs _ n n w.heap.size (w.alloc (.cells (xs.map V32).toArray 22)) hm (fun _ => rfl) (fun i hi => ?_) (fun _ => by simp)).mono fun _ _ ⟨h1, h2⟩ => ⟨by rw [h1, hr], ((Below.refl _ _).alloc (Nat.le_refl _) _).trans (h2.mono (by simp))⟩
  have := Has.at_ (Has.fresh w 22 (xs.map V32).toArray) i
  rw [this]
  exact vec_get xs i (by omega)
theorem of_none (w : World) : Calls Try.prog 21 #[.slice none 0 0] w fun e w' => e = .returned (.agg (vec zero16)) ∧ Below w.heap.size w w' :=
  of_any [] none 0 0 0 w (by omega) (fun h => by omega) (fun i h => by omega) (fun h => by omega)
theorem bumps_lay (w w1 : World) (A : Array Value) (l : List (BitVec 32)) (hb : Below ((w.alloc (.cells A 24)).alloc (.cells (vec l) 24)).heap.size ((w.alloc (.cells A 24)).alloc (.cells (vec l) 24)) w1) :
    ∃ W2, (w1.alloc (.cells zeroA 24)).setRow w1.heap.size (vec l) = W2 ∧ Hid (Has W2 (w.heap.size + 1) 24 (vec l)) ∧ Hid (Has W2 w1.heap.size 24 (vec l)) ∧ Hid (Below w.heap.size w W2) := by
  have hs := hb.size
  simp at hs
  have h2 : Has ((w.alloc (.cells A 24)).alloc (.cells (vec l) 24)) (w.heap.size + 1) 24 (vec l) := Has.fresh' (w.alloc _) 24 (vec l) (by simp)
  have k2 := h2.kept hb (by simp)
  refine ⟨_, rfl, ?_, ?_, ?_⟩
  · exact (k2.more _).rowOther (by omega)
  · exact Has.row (Has.fresh w1 24 zeroA)
  · exact (((((Below.refl _ _).alloc (Nat.le_refl _) _).alloc (by simp) _).trans (hb.mono (by simp; omega))).alloc (by omega) _).rowK (by omega) _
set_option maxRecDepth 100000 in
set_option maxHeartbeats 400000 in
theorem bumps_yes (v want : List (BitVec 32)) (hv : v.length = 16) (hl : want.length = 16) (dev time : Int) (h : bumpV v dev time = (want, 0)) (w : World) :
    Calls Try.prog 20 #[.agg (vec v), .int .i64 dev, .int .i64 time, .agg (vec want)] w fun e w' => e = .returned (.bool true) ∧ Below w.heap.size w w' := by
  have CB : Hid (∀ w, Calls Try.prog 9 #[.agg (vec v), .int .i64 dev, .int .i64 time] w fun e w' => e = .returned (.tuple #[.agg (vec want), .int .i64 0]) ∧ Below w.heap.size w w') := fun w => by
    have := bump_any v hv dev time w
    rw [h] at this; exact this
  have H0 : Hid (Has ((w.alloc (.cells (vec v) 24)).alloc (.cells (vec want) 24)) w.heap.size 24 (vec v)) := (Has.fresh w 24 (vec v)).more _
  have L0 := hid (load_vec H0.out hv)
  have Y1 := size_vec _ hl
  have Y2 := size_zero _ hl
  have HL := hid hl
  have HSM := hid (sameV_refl want)
  clear h hl hv H0
  go_enter Try.func20, Try.ntmps20
  go_wp2_with (first
    | (refine wpList_load_g (by rfl) 24 (.tmp 4) rfl w.heap.size 0 rfl (vec v) L0.out ?_)
    | (go_at_call 9; refine (CB.out _).mono ?_; rintro ee w1 ⟨rfl, hb1⟩)
    | (refine wpList_store_row rfl 24 (.tmp 9) (.tmp 16) rfl w1.heap.size (vec want) rfl rfl 24 zeroA (Has.fresh w1 24 zeroA) Y1.out Y2.out (vec_one _) ?_
       generalize hG : World.setRow _ _ _ = W3
       obtain ⟨V0, hG0, B1, B2, B3⟩ := bumps_lay w w1 (vec v) want hb1
       obtain rfl : V0 = W3 := hG0.symm.trans hG
       have LW := hid (load_vec B1.out HL.out)
       have LN := hid (load_vec B2.out HL.out)
       clear hG hG0 hb1 L0)
    | (refine wpList_load_g (by rfl) 24 (.tmp 7) rfl (w.heap.size + 1) 0 rfl (vec want) LW.out ?_)
    | (refine wpList_load_g (by rfl) 24 (.tmp 9) rfl w1.heap.size 0 rfl (vec want) LN.out ?_)
    | (refine wpList_eql_vec (by rfl) (.tmp 21) (.tmp 22) rfl want want rfl rfl HL.out HL.out _ HSM.out ?_))
  go_ret
  exact ⟨rfl, B3.out⟩
end Go.Proofs.Ytmmbnobbpnndkaa
