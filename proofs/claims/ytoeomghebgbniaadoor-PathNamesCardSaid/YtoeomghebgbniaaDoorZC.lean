/- The document's digest: Primes (caravanref01). No conditions. -/
import Derived.Test.YtoeomghebgbniaaDoorZB
namespace Go.Proofs.YtoeomghebgbniaaDoor
open Go.RowKit
def V64 (n : Nat) : Value := .int .u64 (n : Int)
theorem infoU64 : (Tryd.prog.info? 56).map (fun i => (i.zero, i.size, i.bytes)) = some (some (.int .u64 0), 1, 8) := by kernel_rfl
theorem one_V64 (n : Nat) : ∀ u ∈ [Value.int .u64 (n : Int)], u.oneCell' = true := by
  intro u hu
  rw [List.mem_singleton] at hu
  subst hu; rfl
set_option maxRecDepth 100000 in
set_option maxHeartbeats 400000 in
theorem primes_any (w : World) : Calls Tryd.prog 43 #[.int .i64 64] w fun e w' => ∃ v, e = .returned v ∧ w'.ownsRow w.heap.size 56 1 v 64 (first64.map V64) ∧ Below w.heap.size w w' := by
  obtain ⟨i0, hi, hz0, hz1, hz2⟩ := info_parts infoU64
  go_enter Tryd.func43, Tryd.ntmps43
  go_wp2
  go_loopw [3, 4] (fun v nv wr => ∃ (n m : Nat), nv = .int .u64 (n : Int) ∧ 2 ≤ n ∧ n ≤ 312 ∧ m ≤ 64 ∧ Hid ((pl n).length = m) ∧ Hid (wr.ownsRow w.heap.size 56 1 v m ((pl n).map V64)) ∧ Hid (Below w.heap.size w wr))
    (fun _ nv _ => 312 - (intOf nv).toNat)
  case atStart => exact ⟨2, 0, rfl, by omega, by omega, by omega, rfl, World.ownsRow_nil _ _ _ _, Below.refl _ _⟩
  case round =>
    obtain ⟨n, m, rfl, hn, hn2, hm, HM, HO, HB⟩ := hrel
    have hlen : ∃ A c, u3 = .slice A m c := by
      rcases HO.out.2 with ⟨rfl, h⟩ | ⟨g, c, _, rfl, _⟩
      · exact ⟨none, 0, by rw [h]⟩
      · exact ⟨_, _, rfl⟩
    obtain ⟨A, c, rfl⟩ := hlen
    by_cases hlt : n < 312
    · have hm2 : m < 64 := by rw [← HM.out]; exact pl_short n hlt
      have hm3 : (m : Int) < 64 := by omega
      have w4 : IntKind.u64.wrap ((n : Int) + 1) = ((n + 1 : Nat) : Int) := by
        have := wrapM (n + 1)
        rw [Nat.mod_eq_of_lt (Nat.lt_trans (show n + 1 < 400 by omega) (by decide))] at this
        rw [← this]; congr 1
      have C := hid (fun W => prime_any n hn (by omega) W)
      cases hv : primeN n with
      | true =>
        rw [hv] at C
        have HP : Hid (pl (n + 1) = pl n ++ [n]) := by show _ = _; rw [pl_next n hn, hv]; rfl
        have N2 : Hid (m + 1 ≤ maxLen) := by show _ ≤ _; unfold maxLen; omega
        have N3 : Hid ((m + 1) * 8 ≤ 140737488355328) := by show _ ≤ _; omega
        have N4 : Hid (∀ o, w.heap.size ≤ (wr.alloc o).heap.size) := by intro o; have := HB.out.size; simp; omega
        clear hv
        go_wp2_with fail
        refine (C.out _).mono ?_; rintro e1 w1 ⟨rfl, rfl⟩
        go_wp2_with (at_builtin; refine wpList_append_own _ rfl _ _ 51 rfl w.heap.size 56 i0 (.int .u64 0) 1 8 Tryd.underlying51 hi hz0 hz1 hz2 rfl (by omega) _ _ _ rfl (HO.out.alloc _) ⟨wr.heap.size, 0, none⟩ 1 1 [Value.int .u64 (n : Int)] rfl rfl (cell_one_new _ _ _) (one_V64 n) N2.out N3.out (N4.out _) ?_; intro v' w1 hown' hgrow _)
        have HO2 : Hid (w1.ownsRow w.heap.size 56 1 v' (m + 1) ((pl (n + 1)).map V64)) := by
          rw [HP.out, List.map_append]; exact hown'
        have HM2 : Hid ((pl (n + 1)).length = m + 1) := by show _ = _; rw [HP.out, List.length_append, HM.out]; rfl
        have HB2 : Hid (Below w.heap.size w w1) :=
          ((HB.out.alloc HB.out.size _).grown hgrow (N4.out _) (fun g hg => by
            have := (HO.out.lt g hg).1; exact this))
        clear hown' hgrow
        go_wp2
        go_roundw
        case rel => exact ⟨n + 1, m + 1, rfl, by omega, by omega, by omega, HM2, HO2, HB2⟩
        case measure => simp [intOf]; omega
      | false =>
        rw [hv] at C
        have HP : Hid (pl (n + 1) = pl n) := by show _ = _; rw [pl_next n hn, hv]; simp
        have HO2 : Hid (wr.ownsRow w.heap.size 56 1 (.slice A m c) m ((pl (n + 1)).map V64)) := by
          rw [HP.out]; exact HO
        have HM2 : Hid ((pl (n + 1)).length = m) := by show _ = _; rw [HP.out]; exact HM.out
        clear hv
        go_wp2_with fail
        refine (C.out _).mono ?_; rintro e1 w1 ⟨rfl, rfl⟩
        go_wp2
        go_roundw
        case rel => exact ⟨n + 1, m, rfl, by omega, by omega, by omega, HM2, HO2, HB⟩
        case measure => simp [intOf]; omega
    · obtain rfl : n = 312 := by omega
      have e1 := HM.out
      rw [pl_all] at e1
      obtain rfl : m = 64 := e1.symm
      have HO2 := HO.out
      rw [pl_all] at HO2
      have HO3 := hid HO2
      clear HO2 HO HM e1
      go_wp2
      go_ret
      exact ⟨_, rfl, HO3.out, HB.out⟩
end Go.Proofs.YtoeomghebgbniaaDoor
