/- The document's digest: Words (caravanref01): what its walk needs. -/
import Derived.Test.YtoeomghebgbniaaDoorZF
import Derived.Test.YtoeomghebgbniaaDoorZE
import Derived.Test.YtoeomghebgbniaaDoorZD
import Derived.Test.YtoeomghebgbniaaDoorZH
namespace Go.Proofs.YtoeomghebgbniaaDoor.Sha
open Go.RowKit
theorem infoU32 : (Tryd.prog.info? 54).map (fun i => (i.zero, i.size, i.bytes)) = some (some (.int .u32 0), 1, 4) := by kernel_rfl
theorem one_u32 (z : Int) : ∀ u ∈ [Value.int .u32 z], u.oneCell' = true := by
  intro u hu
  rw [List.mem_singleton] at hu
  subst hu; rfl
def wRow (l : List (BitVec 32)) (t : Nat) : List Value := (List.range t).map fun i => .int .u32 (u (wAt l i))
theorem wRow_next (l : List (BitVec 32)) (t : Nat) : wRow l (t + 1) = wRow l t ++ [.int .u32 (u (wAt l t))] := by simp [wRow, List.range_succ]
theorem turn7 (x : BitVec 32) (w : World) : Calls Tryd.prog 48 #[.int .u32 (u x), .int .i64 7] w fun e w' => e = .returned (.int .u32 (u (rotR x 7))) ∧ w = w' := turned_any x 7 (by omega) (by omega) w
theorem turn18 (x : BitVec 32) (w : World) : Calls Tryd.prog 48 #[.int .u32 (u x), .int .i64 18] w fun e w' => e = .returned (.int .u32 (u (rotR x 18))) ∧ w = w' := turned_any x 18 (by omega) (by omega) w
theorem turn17 (x : BitVec 32) (w : World) : Calls Tryd.prog 48 #[.int .u32 (u x), .int .i64 17] w fun e w' => e = .returned (.int .u32 (u (rotR x 17))) ∧ w = w' := turned_any x 17 (by omega) (by omega) w
theorem turn19 (x : BitVec 32) (w : World) : Calls Tryd.prog 48 #[.int .u32 (u x), .int .i64 19] w fun e w' => e = .returned (.int .u32 (u (rotR x 19))) ∧ w = w' := turned_any x 19 (by omega) (by omega) w
theorem row_word {w : World} {B : Nat} {A : Option Addr} {n c : Nat} {l : List (BitVec 32)} (h : w.ownsRow B 54 1 (.slice A n c) n (wRow l n)) (hn : 0 < n) :
    ∃ g, A = some ⟨g, 0, none⟩ ∧ ∀ i, i < n → w.cell? ⟨g, i, none⟩ = some (.int .u32 (u (wAt l i))) := by
  have hc := fun g hg => h.cells (g := g) hg
  rcases h.2 with ⟨h1, h2⟩ | ⟨g, c', cs, h1, _⟩
  · omega
  · cases h1
    refine ⟨g, rfl, fun i hi => ?_⟩
    have := hc g rfl i (.int .u32 (u (wAt l i))) (by simp [wRow, hi])
    have e : (⟨g, 0, none⟩ : Addr).add i = ⟨g, i, none⟩ := by unfold Addr.add; split <;> simp_all
    rwa [e] at this
/- Words' walk, begun, not a proof: all but the last part (regions 13, 14, 15 of the code) went through in 8 s. There the four arms under 'first' run out of time; try one go_at_call at a time.
set_option maxRecDepth 100000 in
set_option maxHeartbeats 2000000 in
theorem refWords_any (p : List UInt8) (A : Option Addr) (cap bb off : Nat) (w : World) (hn : p.length = 64) (hs : Bytes w (.slice A 64 cap) p A cap bb off) :
    Calls Tryd.prog 47 #[.slice A 64 cap] w fun e w' => ∃ v, e = .returned v ∧ w'.ownsRow w.heap.size 54 1 v 64 (wRow (words p 16) 64) ∧ Below w.heap.size w w' := by
  obtain ⟨i0, hi, hz0, hz1, hz2⟩ := info_parts infoU32
  go_enter Tryd.func47, Tryd.ntmps47
  go_wp2
  have HP := hid hs
  have HN := hid hn
  clear hs hn
  go_loopw [3, 4] (fun v i wr => ∃ (t : Nat) (B : Option Addr) (c : Nat), t ≤ 64 ∧ v = .slice B t c ∧ i = .int .i64 (t : Int) ∧ Hid (wr.ownsRow w.heap.size 54 1 (.slice B t c) t (wRow (words p 16) t)) ∧ Hid (Below w.heap.size w wr))
    (fun _ i _ => 64 - (intOf i).toNat)
  case atStart => exact ⟨0, none, 0, by omega, rfl, rfl, World.ownsRow_nil _ _ _ _, Below.refl _ _⟩
  case round =>
    obtain ⟨t, B, c, ht, rfl, rfl, HO, HB⟩ := hrel
    by_cases hlt : t < 64
    · by_cases h16 : t < 16
      · go_wp2
        go_loopw [5, 6] (fun x i w2 => ∃ k : Nat, k ≤ 4 ∧ i = .int .i64 (k : Int) ∧ x = .int .u32 (u (hx p t k)) ∧ w2 = wr)
          (fun _ i _ => 4 - (intOf i).toNat)
        case atStart => exact ⟨0, by omega, rfl, rfl, rfl⟩
        case round =>
          obtain ⟨k, hk, rfl, rfl, rfl⟩ := hrel
          by_cases hk4 : k < 4
          · obtain ⟨q0, e0, E0⟩ : ∃ q : Nat, 4 * (t : Int) = (q : Int) ∧ Hid (4 * t = q) := ⟨4 * t, by omega, rfl⟩
            obtain ⟨q1, e1, E1⟩ : ∃ q : Nat, (q0 : Int) + (k : Int) = (q : Int) ∧ Hid (q0 + k = q) := ⟨q0 + k, by omega, rfl⟩
            have hq : (q1 : Int) < 64 := by have := E0.out; have := E1.out; omega
            have hA := HP.out.src (by rw [HN.out]; omega)
            have hc := (HP.out.kept HB.out (Nat.le_refl _)).cells q1 (by rw [HN.out]; omega)
            subst hA
            have hc' : wr.cell? ⟨bb, off + q1, none⟩ = some (.int .u8 (b8 (at8 p q1))) := hc
            clear hc
            go_wp2
            go_roundw
            case rel =>
              refine ⟨k + 1, by omega, rfl, ?_, trivial⟩
              have e : at8 p q1 = at8 p (4 * t + k) := by rw [E0.out, E1.out]
              rw [← hx_num, ← e, b8m]
            case measure => simp [intOf]; omega
          · obtain rfl : k = 4 := by omega
            have N2 : Hid (t + 1 ≤ maxLen) := by show _ ≤ _; unfold maxLen; omega
            have N3 : Hid ((t + 1) * 4 ≤ 140737488355328) := by show _ ≤ _; omega
            have N4 : Hid (∀ o, w.heap.size ≤ (wr.alloc o).heap.size) := by intro o; have := HB.out.size; simp; omega
            go_wp2_with (at_builtin; refine wpList_append_own _ rfl _ _ 53 rfl w.heap.size 54 i0 (.int .u32 0) 1 4 Tryd.underlying53 hi hz0 hz1 hz2 rfl (by omega) _ _ _ rfl (HO.out.alloc _) ⟨wr.heap.size, 0, none⟩ 1 1 [Value.int .u32 (u (hx p t 4))] rfl rfl (cell_one_new _ _ _) (one_u32 _) N2.out N3.out (N4.out _) ?_; intro v3 w3 hown hgrow _)
            have HB3 : Hid (Below w.heap.size w w3) :=
              ((HB.out.alloc HB.out.size _).grown hgrow (N4.out _) (fun g hk => (HO.out.lt g hk).1))
            obtain ⟨g3, c3, rfl⟩ := ownsRow_succ hown
            have HO3 : Hid (w3.ownsRow w.heap.size 54 1 (.slice (some ⟨g3, 0, none⟩) (t + 1) c3) (t + 1) (wRow (words p 16) (t + 1))) := by
              rw [wRow_next, wAt_low _ _ h16, at32_words _ _ h16]; exact hown
            clear hown hgrow
            go_wp2
            go_roundw
            case rel => exact ⟨t + 1, _, _, by omega, rfl, rfl, HO3, HB3⟩
            case measure => simp [intOf]; omega
      · obtain ⟨g, rfl, hcell⟩ := row_word HO.out (by omega)
        obtain ⟨a2, e2, E2⟩ : ∃ q : Nat, (t : Int) - 2 = (q : Int) ∧ Hid (t - 2 = q) := ⟨t - 2, by omega, rfl⟩
        obtain ⟨a7, e7, E7⟩ : ∃ q : Nat, (t : Int) - 7 = (q : Int) ∧ Hid (t - 7 = q) := ⟨t - 7, by omega, rfl⟩
        obtain ⟨a15, e15, E15⟩ : ∃ q : Nat, (t : Int) - 15 = (q : Int) ∧ Hid (t - 15 = q) := ⟨t - 15, by omega, rfl⟩
        obtain ⟨a16, e16, E16⟩ : ∃ q : Nat, (t : Int) - 16 = (q : Int) ∧ Hid (t - 16 = q) := ⟨t - 16, by omega, rfl⟩
        have c2 := hcell a2 (by omega)
        have c7 := hcell a7 (by omega)
        have c15 := hcell a15 (by omega)
        have c16 := hcell a16 (by omega)
        have b2 : (a2 : Int) < (t : Int) := by omega
        have b7 : (a7 : Int) < (t : Int) := by omega
        have b15 : (a15 : Int) < (t : Int) := by omega
        have b16 : (a16 : Int) < (t : Int) := by omega
        clear hcell
        go_wp2
        go_region
        obtain ⟨x, HX⟩ : ∃ x, Hid (wAt (words p 16) a15 = x) := ⟨_, rfl⟩
        obtain ⟨y, HY⟩ : ∃ y, Hid (wAt (words p 16) a2 = y) := ⟨_, rfl⟩
        rw [HX.out, HY.out]
        obtain ⟨wo, HW⟩ : ∃ wo, Hid (wr = wo) := ⟨_, rfl⟩
        go_wp2_with (first
          | (go_at_call 48; refine (turn7 _ _).mono ?_; rintro ee ww ⟨rfl, rfl⟩)
          | (go_at_call 48; refine (turn18 _ _).mono ?_; rintro ee ww ⟨rfl, rfl⟩)
          | (go_at_call 48; refine (turn17 _ _).mono ?_; rintro ee ww ⟨rfl, rfl⟩)
          | (go_at_call 48; refine (turn19 _ _).mono ?_; rintro ee ww ⟨rfl, rfl⟩))
        go_outline
        (open)
    · obtain rfl : t = 64 := by omega
      go_wp2
      go_ret
      exact ⟨_, rfl, HO.out, HB.out⟩
-/
end Go.Proofs.YtoeomghebgbniaaDoor.Sha
