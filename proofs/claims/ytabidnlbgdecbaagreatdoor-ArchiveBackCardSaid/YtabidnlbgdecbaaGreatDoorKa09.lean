/- Several texts in one. Conditions: those said at each. -/
import Derived.Test.YtabidnlbgdecbaaGreatDoorKa00
import Derived.Test.YtabidnlbgdecbaaGreatDoorKa08
set_option linter.unusedSimpArgs false
set_option linter.unusedVariables false
set_option maxRecDepth 100000
namespace Go.Proofs.YtabidnlbgdecbaaGreatDoor
open Go.RowKit Go.Maps
def ckV (p : Pol) : Int := if checkM p then 0 else 2
set_option maxHeartbeats 4000000 in
theorem acheck_any (p : Pol) (w : World) : Calls Tryz.prog 27 #[.agg #[.int .i64 p.kind, .int .i64 p.keep, .int .i64 p.age]] w fun e w' => e = .returned (.int .i64 (ckV p)) ∧ Below w.heap.size w w' := by
 obtain ⟨k, n, a⟩ := p
 simp only
 have B0 : Hid (Below w.heap.size w (w.alloc (.cells #[.int .i64 k, .int .i64 n, .int .i64 a] 23))) := (Below.refl _ _).alloc (Nat.le_refl _) _
 have C2 : Hid ((w.alloc (.cells #[.int .i64 k, .int .i64 n, .int .i64 a] 23)).cell? ⟨w.heap.size, 2, none⟩ = some (.int .i64 a)) := (Has.fresh w 23 #[.int .i64 k, .int .i64 n, .int .i64 a]).at_ 2
 have CI := hid (fun W => inTime_any a W)
 by_cases k1 : k = 1
 · subst k1
   by_cases n1 : n < 0
   · have n1' : ¬ 0 ≤ n := by omega
     have HV : Hid (ckV ⟨1, n, a⟩ = 2) := by show _ = _; unfold ckV; rw [show checkM ⟨1, n, a⟩ = false by unfold checkM leastM mostM; simp [n1']]; rfl
     go_enter Tryz.func27, Tryz.ntmps27
     go_wp2
     go_ret
     rw [HV.out]
     exact ⟨rfl, B0.out⟩
   · have n1' : 0 ≤ n := by omega
     by_cases n2 : 0 < n
     · have n2' : ¬ n ≤ 0 := by omega
       have HV : Hid (ckV ⟨1, n, a⟩ = 2) := by show _ = _; unfold ckV; rw [show checkM ⟨1, n, a⟩ = false by unfold checkM leastM mostM; simp [n2']]; rfl
       go_enter Tryz.func27, Tryz.ntmps27
       go_wp2
       go_ret
       rw [HV.out]
       exact ⟨rfl, B0.out⟩
     · have n2' : n ≤ 0 := by omega
       by_cases n3 : a = nearM a
       · have CI2 : Hid (∀ W, Calls Tryz.prog 41 #[.int .i64 a] W fun e w' => e = .returned (.int .i64 a) ∧ W = w') := fun W => by have := CI.out W; rw [← n3] at this; exact this
         have HN3 := hid n3
         clear n3
         have HV : Hid (ckV ⟨1, n, a⟩ = 0) := by show _ = _; unfold ckV; rw [show checkM ⟨1, n, a⟩ = true by unfold checkM leastM mostM; rw [decide_eq_true HN3.out]; simp [n1', n2']]; rfl
         go_enter Tryz.func27, Tryz.ntmps27
         go_wp2
         refine wp_region_noPanic ?_
         refine wp_region_held_drew (S := fun W => W.cell? ⟨w.heap.size, 2, none⟩ = some (.int .i64 a)) (by kernel_rfl) (C2.out) (fun hS => ?_)
         refine tkH 0 (v := ?_) (by simp only [lkA, lkB]; rfl) (by kernel_rfl) (fun _ _ _ h => h) (by rfl) (by assumption) ?_ ?_
         rotate_left 1
         · intro w hSw
           go_simp
           with_reducible rfl
         simp only [Act.put, siA, siB, siC]
         refine tkH 1 (v := ?_) (by simp only [lkA, lkB, lkC]; rfl) (by kernel_rfl) (fun _ _ _ h => h) (by rfl) (by assumption) ?_ ?_
         rotate_left 1
         · intro w hSw
           have e1 := hSw
           go_simp
           with_reducible rfl
         simp only [Act.put, siA, siB, siC]
         refine tkH 2 (v := ?_) (by simp only [lkA, lkB, lkC]; rfl) (by kernel_rfl) (fun _ _ _ h => h) (by rfl) (by assumption) ?_ ?_
         rotate_left 1
         · intro w hSw
           go_simp
           with_reducible rfl
         simp only [Act.put, siA, siB, siC]
         refine tkH 3 (v := ?_) (by simp only [lkA, lkB, lkC]; rfl) (by kernel_rfl) (fun _ _ _ h => h) (by rfl) (by assumption) ?_ ?_
         rotate_left 1
         · intro w hSw
           have e1 := hSw
           go_simp
           with_reducible rfl
         simp only [Act.put, siA, siB, siC]
         refine wpAnyH_ready (rs := [4]) (by kernel_rfl) (by simp) ?_
         refine AllReadyH.cons (by simp only [lkA, lkB, lkC]; rfl) (fun K hK => ?_) (AllReadyH.nil)
         go_simp
         refine (CI2.out _).mono ?_
         rintro e1 w1 ⟨rfl, rfl⟩
         have hz1 := hS
         refine hK.out _ _ hz1 (fun hS => ?_)
         clear hK K hS
         refine tkH 5 (v := ?_) (by simp only [lkA, lkB, lkC]; rfl) (by kernel_rfl) (fun _ _ _ h => h) (by rfl) (by assumption) ?_ ?_
         rotate_left 1
         · intro w hSw
           go_simp
           with_reducible rfl
         simp only [Act.put, siA, siB, siC]
         refine tkH 6 (v := ?_) (by simp only [lkA, lkB, lkC]; rfl) (by kernel_rfl) (fun _ _ _ h => h) (by rfl) (by assumption) ?_ ?_
         rotate_left 1
         · intro w hSw
           go_simp
           with_reducible rfl
         simp only [Act.put, siA, siB, siC]
         refine wpAnyH_done (by kernel_rfl) ?_ _
         refine NoPanic.normal ?_
         go_wp2
         go_ret
         rw [HV.out]
         exact ⟨rfl, B0.out.drew⟩
       · have HN3 := hid n3
         obtain ⟨b, HB⟩ : ∃ b, Hid (nearM a = b) := ⟨_, rfl⟩
         rw [HB.out] at n3
         have CI2 : Hid (∀ W, Calls Tryz.prog 41 #[.int .i64 a] W fun e w' => e = .returned (.int .i64 b) ∧ W = w') := fun W => by have := CI.out W; rw [HB.out] at this; exact this
         have HV : Hid (ckV ⟨1, n, a⟩ = 2) := by show _ = _; unfold ckV; rw [show checkM ⟨1, n, a⟩ = false by unfold checkM leastM mostM; rw [decide_eq_false HN3.out]; simp]; rfl
         go_enter Tryz.func27, Tryz.ntmps27
         go_wp2
         refine wp_region_noPanic ?_
         refine wp_region_held_drew (S := fun W => W.cell? ⟨w.heap.size, 2, none⟩ = some (.int .i64 a)) (by kernel_rfl) (C2.out) (fun hS => ?_)
         refine tkH 0 (v := ?_) (by simp only [lkA, lkB]; rfl) (by kernel_rfl) (fun _ _ _ h => h) (by rfl) (by assumption) ?_ ?_
         rotate_left 1
         · intro w hSw
           go_simp
           with_reducible rfl
         simp only [Act.put, siA, siB, siC]
         refine tkH 1 (v := ?_) (by simp only [lkA, lkB, lkC]; rfl) (by kernel_rfl) (fun _ _ _ h => h) (by rfl) (by assumption) ?_ ?_
         rotate_left 1
         · intro w hSw
           have e1 := hSw
           go_simp
           with_reducible rfl
         simp only [Act.put, siA, siB, siC]
         refine tkH 2 (v := ?_) (by simp only [lkA, lkB, lkC]; rfl) (by kernel_rfl) (fun _ _ _ h => h) (by rfl) (by assumption) ?_ ?_
         rotate_left 1
         · intro w hSw
           go_simp
           with_reducible rfl
         simp only [Act.put, siA, siB, siC]
         refine tkH 3 (v := ?_) (by simp only [lkA, lkB, lkC]; rfl) (by kernel_rfl) (fun _ _ _ h => h) (by rfl) (by assumption) ?_ ?_
         rotate_left 1
         · intro w hSw
           have e1 := hSw
           go_simp
           with_reducible rfl
         simp only [Act.put, siA, siB, siC]
         refine wpAnyH_ready (rs := [4]) (by kernel_rfl) (by simp) ?_
         refine AllReadyH.cons (by simp only [lkA, lkB, lkC]; rfl) (fun K hK => ?_) (AllReadyH.nil)
         go_simp
         refine (CI2.out _).mono ?_
         rintro e1 w1 ⟨rfl, rfl⟩
         have hz1 := hS
         refine hK.out _ _ hz1 (fun hS => ?_)
         clear hK K hS
         refine tkH 5 (v := ?_) (by simp only [lkA, lkB, lkC]; rfl) (by kernel_rfl) (fun _ _ _ h => h) (by rfl) (by assumption) ?_ ?_
         rotate_left 1
         · intro w hSw
           go_simp
           with_reducible rfl
         simp only [Act.put, siA, siB, siC]
         refine tkH 6 (v := ?_) (by simp only [lkA, lkB, lkC]; rfl) (by kernel_rfl) (fun _ _ _ h => h) (by rfl) (by assumption) ?_ ?_
         rotate_left 1
         · intro w hSw
           go_simp
           with_reducible rfl
         simp only [Act.put, siA, siB, siC]
         refine wpAnyH_done (by kernel_rfl) ?_ _
         refine NoPanic.normal ?_
         go_wp2
         go_ret
         rw [HV.out]
         exact ⟨rfl, B0.out.drew⟩
 by_cases k2 : k = 2
 · subst k2
   by_cases n1 : n < 1
   · have n1' : ¬ 1 ≤ n := by omega
     have HV : Hid (ckV ⟨2, n, a⟩ = 2) := by show _ = _; unfold ckV; rw [show checkM ⟨2, n, a⟩ = false by unfold checkM leastM mostM; simp [n1']]; rfl
     go_enter Tryz.func27, Tryz.ntmps27
     go_wp2
     go_ret
     rw [HV.out]
     exact ⟨rfl, B0.out⟩
   · have n1' : 1 ≤ n := by omega
     by_cases n2 : 100 < n
     · have n2' : ¬ n ≤ 100 := by omega
       have HV : Hid (ckV ⟨2, n, a⟩ = 2) := by show _ = _; unfold ckV; rw [show checkM ⟨2, n, a⟩ = false by unfold checkM leastM mostM; simp [n2']]; rfl
       go_enter Tryz.func27, Tryz.ntmps27
       go_wp2
       go_ret
       rw [HV.out]
       exact ⟨rfl, B0.out⟩
     · have n2' : n ≤ 100 := by omega
       by_cases n3 : a = nearM a
       · have CI2 : Hid (∀ W, Calls Tryz.prog 41 #[.int .i64 a] W fun e w' => e = .returned (.int .i64 a) ∧ W = w') := fun W => by have := CI.out W; rw [← n3] at this; exact this
         have HN3 := hid n3
         clear n3
         have HV : Hid (ckV ⟨2, n, a⟩ = 0) := by show _ = _; unfold ckV; rw [show checkM ⟨2, n, a⟩ = true by unfold checkM leastM mostM; rw [decide_eq_true HN3.out]; simp [n1', n2']]; rfl
         go_enter Tryz.func27, Tryz.ntmps27
         go_wp2
         refine wp_region_noPanic ?_
         refine wp_region_held_drew (S := fun W => W.cell? ⟨w.heap.size, 2, none⟩ = some (.int .i64 a)) (by kernel_rfl) (C2.out) (fun hS => ?_)
         refine tkH 0 (v := ?_) (by simp only [lkA, lkB]; rfl) (by kernel_rfl) (fun _ _ _ h => h) (by rfl) (by assumption) ?_ ?_
         rotate_left 1
         · intro w hSw
           go_simp
           with_reducible rfl
         simp only [Act.put, siA, siB, siC]
         refine tkH 1 (v := ?_) (by simp only [lkA, lkB, lkC]; rfl) (by kernel_rfl) (fun _ _ _ h => h) (by rfl) (by assumption) ?_ ?_
         rotate_left 1
         · intro w hSw
           have e1 := hSw
           go_simp
           with_reducible rfl
         simp only [Act.put, siA, siB, siC]
         refine tkH 2 (v := ?_) (by simp only [lkA, lkB, lkC]; rfl) (by kernel_rfl) (fun _ _ _ h => h) (by rfl) (by assumption) ?_ ?_
         rotate_left 1
         · intro w hSw
           go_simp
           with_reducible rfl
         simp only [Act.put, siA, siB, siC]
         refine tkH 3 (v := ?_) (by simp only [lkA, lkB, lkC]; rfl) (by kernel_rfl) (fun _ _ _ h => h) (by rfl) (by assumption) ?_ ?_
         rotate_left 1
         · intro w hSw
           have e1 := hSw
           go_simp
           with_reducible rfl
         simp only [Act.put, siA, siB, siC]
         refine wpAnyH_ready (rs := [4]) (by kernel_rfl) (by simp) ?_
         refine AllReadyH.cons (by simp only [lkA, lkB, lkC]; rfl) (fun K hK => ?_) (AllReadyH.nil)
         go_simp
         refine (CI2.out _).mono ?_
         rintro e1 w1 ⟨rfl, rfl⟩
         have hz1 := hS
         refine hK.out _ _ hz1 (fun hS => ?_)
         clear hK K hS
         refine tkH 5 (v := ?_) (by simp only [lkA, lkB, lkC]; rfl) (by kernel_rfl) (fun _ _ _ h => h) (by rfl) (by assumption) ?_ ?_
         rotate_left 1
         · intro w hSw
           go_simp
           with_reducible rfl
         simp only [Act.put, siA, siB, siC]
         refine tkH 6 (v := ?_) (by simp only [lkA, lkB, lkC]; rfl) (by kernel_rfl) (fun _ _ _ h => h) (by rfl) (by assumption) ?_ ?_
         rotate_left 1
         · intro w hSw
           go_simp
           with_reducible rfl
         simp only [Act.put, siA, siB, siC]
         refine wpAnyH_done (by kernel_rfl) ?_ _
         refine NoPanic.normal ?_
         go_wp2
         go_ret
         rw [HV.out]
         exact ⟨rfl, B0.out.drew⟩
       · have HN3 := hid n3
         obtain ⟨b, HB⟩ : ∃ b, Hid (nearM a = b) := ⟨_, rfl⟩
         rw [HB.out] at n3
         have CI2 : Hid (∀ W, Calls Tryz.prog 41 #[.int .i64 a] W fun e w' => e = .returned (.int .i64 b) ∧ W = w') := fun W => by have := CI.out W; rw [HB.out] at this; exact this
         have HV : Hid (ckV ⟨2, n, a⟩ = 2) := by show _ = _; unfold ckV; rw [show checkM ⟨2, n, a⟩ = false by unfold checkM leastM mostM; rw [decide_eq_false HN3.out]; simp]; rfl
         go_enter Tryz.func27, Tryz.ntmps27
         go_wp2
         refine wp_region_noPanic ?_
         refine wp_region_held_drew (S := fun W => W.cell? ⟨w.heap.size, 2, none⟩ = some (.int .i64 a)) (by kernel_rfl) (C2.out) (fun hS => ?_)
         refine tkH 0 (v := ?_) (by simp only [lkA, lkB]; rfl) (by kernel_rfl) (fun _ _ _ h => h) (by rfl) (by assumption) ?_ ?_
         rotate_left 1
         · intro w hSw
           go_simp
           with_reducible rfl
         simp only [Act.put, siA, siB, siC]
         refine tkH 1 (v := ?_) (by simp only [lkA, lkB, lkC]; rfl) (by kernel_rfl) (fun _ _ _ h => h) (by rfl) (by assumption) ?_ ?_
         rotate_left 1
         · intro w hSw
           have e1 := hSw
           go_simp
           with_reducible rfl
         simp only [Act.put, siA, siB, siC]
         refine tkH 2 (v := ?_) (by simp only [lkA, lkB, lkC]; rfl) (by kernel_rfl) (fun _ _ _ h => h) (by rfl) (by assumption) ?_ ?_
         rotate_left 1
         · intro w hSw
           go_simp
           with_reducible rfl
         simp only [Act.put, siA, siB, siC]
         refine tkH 3 (v := ?_) (by simp only [lkA, lkB, lkC]; rfl) (by kernel_rfl) (fun _ _ _ h => h) (by rfl) (by assumption) ?_ ?_
         rotate_left 1
         · intro w hSw
           have e1 := hSw
           go_simp
           with_reducible rfl
         simp only [Act.put, siA, siB, siC]
         refine wpAnyH_ready (rs := [4]) (by kernel_rfl) (by simp) ?_
         refine AllReadyH.cons (by simp only [lkA, lkB, lkC]; rfl) (fun K hK => ?_) (AllReadyH.nil)
         go_simp
         refine (CI2.out _).mono ?_
         rintro e1 w1 ⟨rfl, rfl⟩
         have hz1 := hS
         refine hK.out _ _ hz1 (fun hS => ?_)
         clear hK K hS
         refine tkH 5 (v := ?_) (by simp only [lkA, lkB, lkC]; rfl) (by kernel_rfl) (fun _ _ _ h => h) (by rfl) (by assumption) ?_ ?_
         rotate_left 1
         · intro w hSw
           go_simp
           with_reducible rfl
         simp only [Act.put, siA, siB, siC]
         refine tkH 6 (v := ?_) (by simp only [lkA, lkB, lkC]; rfl) (by kernel_rfl) (fun _ _ _ h => h) (by rfl) (by assumption) ?_ ?_
         rotate_left 1
         · intro w hSw
           go_simp
           with_reducible rfl
         simp only [Act.put, siA, siB, siC]
         refine wpAnyH_done (by kernel_rfl) ?_ _
         refine NoPanic.normal ?_
         go_wp2
         go_ret
         rw [HV.out]
         exact ⟨rfl, B0.out.drew⟩
 by_cases k3 : k = 3
 · subst k3
   by_cases n1 : n < 0
   · have n1' : ¬ 0 ≤ n := by omega
     have HV : Hid (ckV ⟨3, n, a⟩ = 2) := by show _ = _; unfold ckV; rw [show checkM ⟨3, n, a⟩ = false by unfold checkM leastM mostM; simp [n1']]; rfl
     go_enter Tryz.func27, Tryz.ntmps27
     go_wp2
     go_ret
     rw [HV.out]
     exact ⟨rfl, B0.out⟩
   · have n1' : 0 ≤ n := by omega
     by_cases n2 : 0 < n
     · have n2' : ¬ n ≤ 0 := by omega
       have HV : Hid (ckV ⟨3, n, a⟩ = 2) := by show _ = _; unfold ckV; rw [show checkM ⟨3, n, a⟩ = false by unfold checkM leastM mostM; simp [n2']]; rfl
       go_enter Tryz.func27, Tryz.ntmps27
       go_wp2
       go_ret
       rw [HV.out]
       exact ⟨rfl, B0.out⟩
     · have n2' : n ≤ 0 := by omega
       by_cases n3 : a = nearM a
       · have CI2 : Hid (∀ W, Calls Tryz.prog 41 #[.int .i64 a] W fun e w' => e = .returned (.int .i64 a) ∧ W = w') := fun W => by have := CI.out W; rw [← n3] at this; exact this
         have HN3 := hid n3
         clear n3
         have HV : Hid (ckV ⟨3, n, a⟩ = 0) := by show _ = _; unfold ckV; rw [show checkM ⟨3, n, a⟩ = true by unfold checkM leastM mostM; rw [decide_eq_true HN3.out]; simp [n1', n2']]; rfl
         go_enter Tryz.func27, Tryz.ntmps27
         go_wp2
         refine wp_region_noPanic ?_
         refine wp_region_held_drew (S := fun W => W.cell? ⟨w.heap.size, 2, none⟩ = some (.int .i64 a)) (by kernel_rfl) (C2.out) (fun hS => ?_)
         refine tkH 0 (v := ?_) (by simp only [lkA, lkB]; rfl) (by kernel_rfl) (fun _ _ _ h => h) (by rfl) (by assumption) ?_ ?_
         rotate_left 1
         · intro w hSw
           go_simp
           with_reducible rfl
         simp only [Act.put, siA, siB, siC]
         refine tkH 1 (v := ?_) (by simp only [lkA, lkB, lkC]; rfl) (by kernel_rfl) (fun _ _ _ h => h) (by rfl) (by assumption) ?_ ?_
         rotate_left 1
         · intro w hSw
           have e1 := hSw
           go_simp
           with_reducible rfl
         simp only [Act.put, siA, siB, siC]
         refine tkH 2 (v := ?_) (by simp only [lkA, lkB, lkC]; rfl) (by kernel_rfl) (fun _ _ _ h => h) (by rfl) (by assumption) ?_ ?_
         rotate_left 1
         · intro w hSw
           go_simp
           with_reducible rfl
         simp only [Act.put, siA, siB, siC]
         refine tkH 3 (v := ?_) (by simp only [lkA, lkB, lkC]; rfl) (by kernel_rfl) (fun _ _ _ h => h) (by rfl) (by assumption) ?_ ?_
         rotate_left 1
         · intro w hSw
           have e1 := hSw
           go_simp
           with_reducible rfl
         simp only [Act.put, siA, siB, siC]
         refine wpAnyH_ready (rs := [4]) (by kernel_rfl) (by simp) ?_
         refine AllReadyH.cons (by simp only [lkA, lkB, lkC]; rfl) (fun K hK => ?_) (AllReadyH.nil)
         go_simp
         refine (CI2.out _).mono ?_
         rintro e1 w1 ⟨rfl, rfl⟩
         have hz1 := hS
         refine hK.out _ _ hz1 (fun hS => ?_)
         clear hK K hS
         refine tkH 5 (v := ?_) (by simp only [lkA, lkB, lkC]; rfl) (by kernel_rfl) (fun _ _ _ h => h) (by rfl) (by assumption) ?_ ?_
         rotate_left 1
         · intro w hSw
           go_simp
           with_reducible rfl
         simp only [Act.put, siA, siB, siC]
         refine tkH 6 (v := ?_) (by simp only [lkA, lkB, lkC]; rfl) (by kernel_rfl) (fun _ _ _ h => h) (by rfl) (by assumption) ?_ ?_
         rotate_left 1
         · intro w hSw
           go_simp
           with_reducible rfl
         simp only [Act.put, siA, siB, siC]
         refine wpAnyH_done (by kernel_rfl) ?_ _
         refine NoPanic.normal ?_
         go_wp2
         go_ret
         rw [HV.out]
         exact ⟨rfl, B0.out.drew⟩
       · have HN3 := hid n3
         obtain ⟨b, HB⟩ : ∃ b, Hid (nearM a = b) := ⟨_, rfl⟩
         rw [HB.out] at n3
         have CI2 : Hid (∀ W, Calls Tryz.prog 41 #[.int .i64 a] W fun e w' => e = .returned (.int .i64 b) ∧ W = w') := fun W => by have := CI.out W; rw [HB.out] at this; exact this
         have HV : Hid (ckV ⟨3, n, a⟩ = 2) := by show _ = _; unfold ckV; rw [show checkM ⟨3, n, a⟩ = false by unfold checkM leastM mostM; rw [decide_eq_false HN3.out]; simp]; rfl
         go_enter Tryz.func27, Tryz.ntmps27
         go_wp2
         refine wp_region_noPanic ?_
         refine wp_region_held_drew (S := fun W => W.cell? ⟨w.heap.size, 2, none⟩ = some (.int .i64 a)) (by kernel_rfl) (C2.out) (fun hS => ?_)
         refine tkH 0 (v := ?_) (by simp only [lkA, lkB]; rfl) (by kernel_rfl) (fun _ _ _ h => h) (by rfl) (by assumption) ?_ ?_
         rotate_left 1
         · intro w hSw
           go_simp
           with_reducible rfl
         simp only [Act.put, siA, siB, siC]
         refine tkH 1 (v := ?_) (by simp only [lkA, lkB, lkC]; rfl) (by kernel_rfl) (fun _ _ _ h => h) (by rfl) (by assumption) ?_ ?_
         rotate_left 1
         · intro w hSw
           have e1 := hSw
           go_simp
           with_reducible rfl
         simp only [Act.put, siA, siB, siC]
         refine tkH 2 (v := ?_) (by simp only [lkA, lkB, lkC]; rfl) (by kernel_rfl) (fun _ _ _ h => h) (by rfl) (by assumption) ?_ ?_
         rotate_left 1
         · intro w hSw
           go_simp
           with_reducible rfl
         simp only [Act.put, siA, siB, siC]
         refine tkH 3 (v := ?_) (by simp only [lkA, lkB, lkC]; rfl) (by kernel_rfl) (fun _ _ _ h => h) (by rfl) (by assumption) ?_ ?_
         rotate_left 1
         · intro w hSw
           have e1 := hSw
           go_simp
           with_reducible rfl
         simp only [Act.put, siA, siB, siC]
         refine wpAnyH_ready (rs := [4]) (by kernel_rfl) (by simp) ?_
         refine AllReadyH.cons (by simp only [lkA, lkB, lkC]; rfl) (fun K hK => ?_) (AllReadyH.nil)
         go_simp
         refine (CI2.out _).mono ?_
         rintro e1 w1 ⟨rfl, rfl⟩
         have hz1 := hS
         refine hK.out _ _ hz1 (fun hS => ?_)
         clear hK K hS
         refine tkH 5 (v := ?_) (by simp only [lkA, lkB, lkC]; rfl) (by kernel_rfl) (fun _ _ _ h => h) (by rfl) (by assumption) ?_ ?_
         rotate_left 1
         · intro w hSw
           go_simp
           with_reducible rfl
         simp only [Act.put, siA, siB, siC]
         refine tkH 6 (v := ?_) (by simp only [lkA, lkB, lkC]; rfl) (by kernel_rfl) (fun _ _ _ h => h) (by rfl) (by assumption) ?_ ?_
         rotate_left 1
         · intro w hSw
           go_simp
           with_reducible rfl
         simp only [Act.put, siA, siB, siC]
         refine wpAnyH_done (by kernel_rfl) ?_ _
         refine NoPanic.normal ?_
         go_wp2
         go_ret
         rw [HV.out]
         exact ⟨rfl, B0.out.drew⟩
 have q1 : (k != 1) = true := by simp [k1]
 have q2 : (k != 2) = true := by simp [k2]
 have q3 : (k != 3) = true := by simp [k3]
 have q4 : (k == 2) = false := by simp [k2]
 have HV : Hid (ckV ⟨k, n, a⟩ = 2) := by show _ = _; unfold ckV; rw [show checkM ⟨k, n, a⟩ = false by unfold checkM leastM mostM; simp [k1, k2, k3]]; rfl
 go_enter Tryz.func27, Tryz.ntmps27
 go_wp2
 go_ret
 rw [HV.out]
 exact ⟨rfl, B0.out⟩
theorem append_names (w : World) (B B2 : Nat) (v u : Value) (xs ys : List By) (h : w.ownsRow B 9 1 v xs.length (xs.map kS)) (hu : w.ownsRow B2 9 1 u ys.length (ys.map kS)) (hn : xs.length + ys.length ≤ 100000) (hB : B ≤ w.heap.size) (ty : TypeId) :
 ∃ v' w', (Builtin.append_ #[31, 31] ty #[v, u]).run Tryz.prog w = .ok v' w' ∧ w'.ownsRow B 9 1 v' (xs ++ ys).length ((xs ++ ys).map kS) ∧ w.grownBy w' v.ownBlock ∧ (v'.ownBlock = v.ownBlock ∨ v'.ownBlock = some w.heap.size) := by
 obtain ⟨i0, hi, hz0, hz1, hz2⟩ := info_parts infoStr
 rcases hu.2 with ⟨k1, k2⟩ | ⟨g, c, cur, k1, _⟩
 · have hy : ys = [] := List.eq_nil_of_length_eq_zero k2
   subst hy; subst k1
   refine ⟨v, w, run_append_owned_none (P := Tryz.prog) w B 31 ty 9 i0 1 Tryz.underlying31 hi v xs.length (xs.map kS) h, ?_, ⟨rfl, rfl, rfl, Nat.le_refl _, fun _ _ _ => rfl⟩, .inl rfl⟩
   rw [List.append_nil]; exact h
 · have hc : ∀ j x, (ys.map kS)[j]? = some x → w.cell? ((⟨g, 0, none⟩ : Addr).add j) = some x := fun j x hx => World.ownsRow.cells (g := g) hu (by rw [k1]; rfl) j x hx
   subst k1
   obtain ⟨v', w', hr, ho, hg', _, hv⟩ := run_append_own_at (P := Tryz.prog) w B 31 ty 9 i0 _ 1 16 Tryz.underlying31 hi hz0 hz1 hz2 (by simp [Value.cells]) (by omega) v xs.length (xs.map kS) h ⟨g, 0, none⟩ ys.length c (ys.map kS) (by simp) hc
    (fun x hx => by rw [List.mem_map] at hx; obtain ⟨y, _, rfl⟩ := hx; rfl) (by unfold maxLen; omega) (by omega) hB
   refine ⟨v', w', hr, ?_, hg', hv⟩
   rw [List.length_append, List.map_append]; exact ho
end Go.Proofs.YtabidnlbgdecbaaGreatDoor
namespace Go.Proofs.YtabidnlbgdecbaaGreatDoor
open Go.RowKit Go.Maps
def pathsE : List En → List By
 | [] => []
 | x :: l => if x.path ∈ pathsE l then pathsE l else x.path :: pathsE l
theorem pathsE_mem (L : List En) (q : By) : q ∈ pathsE L ↔ ∃ x ∈ L, x.path = q := by
 induction L with
 | nil => simp [pathsE]
 | cons x l ih =>
  unfold pathsE
  split
  · rename_i h
    rw [ih]
    constructor
    · rintro ⟨y, hy, e⟩; exact ⟨y, List.mem_cons_of_mem _ hy, e⟩
    · rintro ⟨y, hy, e⟩
      rcases List.mem_cons.1 hy with k | k
      · subst k; rw [e] at h; exact ih.1 h
      · exact ⟨y, k, e⟩
  · rw [List.mem_cons, ih]
    constructor
    · rintro (e | ⟨y, hy, e⟩)
      · exact ⟨x, List.mem_cons_self, e.symm⟩
      · exact ⟨y, List.mem_cons_of_mem _ hy, e⟩
    · rintro ⟨y, hy, e⟩
      rcases List.mem_cons.1 hy with k | k
      · subst k; exact .inl e.symm
      · exact .inr ⟨y, k, e⟩
theorem pathsE_nodup (L : List En) : (pathsE L).Nodup := by
 induction L with
 | nil => exact List.nodup_nil
 | cons x l ih =>
  unfold pathsE
  split
  · exact ih
  · rename_i h; exact List.nodup_cons.2 ⟨h, ih⟩
theorem entsP_nil (q : By) (L : List En) : entsP q L ≠ [] ↔ ∃ x ∈ L, x.path = q := by
 unfold entsP
 rw [Ne, List.filter_eq_nil_iff]
 simp
def goesM (p : Pol) (now : Int) (L : List En) : List By := if checkM p then sortL ((pathsE L).flatMap fun q => goingM p now (entsP q L)) else []
theorem going_le (p : Pol) (now : Int) (K : List En) : (goingM p now K).length ≤ K.length := by
 unfold goingM
 exact Nat.le_trans (goF_le _ _ _ _ _ _) (by rw [List.length_dropLast]; omega)
theorem load_po {w : World} {g : Nat} {cs : Array Value} (hg : Has w g 23 cs) (hs : cs.size = 3) : (loadVar 23 ⟨g, 0, none⟩).run Tryz.prog w = .ok (.agg cs) w :=
 run_loadVar_row (P := Tryz.prog) w g 23 23 _ (0, 0) _ hg Tryz.underlying23 rfl (by rw [hs]; kernel_rfl)
section
variable {ops : Array Oper} {Q : Exit → Act → World → Prop} {a : Act} {w : World} {rest : List Oper} {o : Oper}
theorem wpList_load_po (hw : Region.wanted o (yielded ops a.tmps) = true) (x : Operand) (ho : o.op = .load 23 x) (g : Nat) (hx : a.eval x = .pointer (some ⟨g, 0, none⟩)) (p q r : Int) (hg : Has w g 23 #[.int .i64 p, .int .i64 q, .int .i64 r])
 (h : wpList Tryz.prog ops Q rest (a.put o.dst (.agg #[.int .i64 p, .int .i64 q, .int .i64 r])) w) : wpList Tryz.prog ops Q (o :: rest) a w :=
 wpList_wanted hw fun _ hK => by
  unfold Oper.wp execOp
  simp only [ho, hx, Instr.loadAt, Instr.sureAddr, Sem.run_bind, Sem.run_pure, Result.andThen_ok, load_po hg rfl]
  exact hK _ _ h
end
theorem PM.own {B b : Nat} {w : World} {L : List En} {vals : By → Value} (h : PM B w b L vals) (_ : ∀ x ∈ L, x.path.length ≤ 4000) : ∃ (c : Nat) (D : DataW Value), w.ownsMap Tryz.prog 9 Rv b c D ∧ size D = c ∧ c ≤ L.length ∧
 (∀ q : By, q.length ≤ maxLen → has D (.string q) = decide (entsP q L ≠ [])) ∧ (∀ q : By, has D (.string q) = true → q.length ≤ maxLen) ∧ ∀ q : By, q.length ≤ maxLen → entsP q L ≠ [] → D.atKey (.string q) (.held nilV) = .held (vals q) := by
 obtain ⟨c, ⟨D, h1, h2, h3⟩, h4⟩ := h.mp
 refine ⟨c, D, h1, h2, h4, fun q hq => ?_, has_le h1, fun q hq hn => ?_⟩
 · rw [(h3 (kS q) _ (str_key q hq)).1, pfun_at]
   by_cases e : entsP q L = [] <;> simp [e]
 · rw [(h3 (kS q) _ (str_key q hq)).2, pfun_at, if_neg hn]; rfl
theorem keys_paths {D : DataW Value} {L : List En} (hp : ∀ x ∈ L, x.path.length ≤ 4000) {left : Lit → Bool} {ss : List By} (hC : Collected D left ss) (hl : ∀ kl, left kl = false) (h1 : ∀ q : By, q.length ≤ maxLen → has D (.string q) = decide (entsP q L ≠ []))
 (h2 : ∀ q : By, has D (.string q) = true → q.length ≤ maxLen) : ss.Perm (pathsE L) := by
 refine (List.perm_ext_iff_of_nodup hC.1 (pathsE_nodup L)).2 fun q => ?_
 rw [hC.2 q, hl, pathsE_mem]
 constructor
 · rintro ⟨k, _⟩
   have := h1 q (h2 q k)
   rw [k] at this
   exact (entsP_nil q L).1 (of_decide_eq_true this.symm)
 · rintro ⟨x, hx, e⟩
   have hq : q.length ≤ maxLen := by rw [← e]; exact maxLen_le (hp x hx)
   exact ⟨by rw [h1 q hq]; exact decide_eq_true ((entsP_nil q L).2 ⟨x, hx, e⟩), rfl⟩
end Go.Proofs.YtabidnlbgdecbaaGreatDoor
namespace Go.Proofs.YtabidnlbgdecbaaGreatDoor
open Go.RowKit Go.Maps
theorem flat_le (p : Pol) (now : Int) (L : List En) : ∀ ss : List By, ss.Nodup → (ss.flatMap fun q => goingM p now (entsP q L)).length ≤ L.length := by
 intro ss hss
 have h1 : (ss.flatMap fun q => goingM p now (entsP q L)).length ≤ (ss.flatMap fun q => entsP q L).length := by
  induction ss with
  | nil => simp
  | cons q ss ih =>
   rw [List.flatMap_cons, List.flatMap_cons, List.length_append, List.length_append]
   have := going_le p now (entsP q L)
   have := ih (List.nodup_cons.1 hss).2
   omega
 refine Nat.le_trans h1 ?_
 clear h1
 induction L with
 | nil =>
  have : (ss.flatMap fun q => entsP q ([] : List En)) = [] := by rw [List.flatMap_eq_nil_iff]; intro q _; rfl
  rw [this]; simp
 | cons x l ih =>
  have h2 : (ss.flatMap fun q => entsP q (x :: l)).length ≤ (ss.flatMap fun q => entsP q l).length + (ss.filter fun q => decide (x.path = q)).length := by
   clear ih
   induction ss with
   | nil => simp
   | cons q ss ih2 =>
    rw [List.flatMap_cons, List.flatMap_cons, List.length_append, List.length_append, List.filter_cons]
    have h3 := ih2 (List.nodup_cons.1 hss).2
    have h4 : (entsP q (x :: l)).length = (entsP q l).length + (if x.path = q then 1 else 0) := by
     unfold entsP
     rw [List.filter_cons]
     by_cases e : x.path = q <;> simp [e]
    rw [h4]
    by_cases e : x.path = q <;> simp [e] at h3 ⊢ <;> omega
  have h5 : (ss.filter fun q => decide (x.path = q)).length ≤ 1 := by
   have : (ss.filter fun q => decide (x.path = q)) = ss.filter fun q => q == x.path := by
    congr 1; funext q; simp [eq_comm, Bool.beq_eq_decide_eq]
   rw [this]
   have h6 : (ss.filter fun q => q == x.path).length = ss.count x.path := by rw [List.count_eq_length_filter]
   rw [h6]
   exact List.nodup_iff_count.1 hss _
  rw [List.length_cons]
  omega
theorem below_grown {w w' : World} (h : Below w.heap.size w w') : w.grownBy w' none := ⟨h.os, h.tape, h.output, h.size, fun i hi _ => h.block i hi⟩
def nmsOf (p : Pol) (now : Int) (L : List En) (ss : List By) : List By := ss.flatMap fun q => goingM p now (entsP q L)
theorem nmsOf_snoc (p : Pol) (now : Int) (L : List En) (ss : List By) (x : By) : nmsOf p now L (ss ++ [x]) = nmsOf p now L ss ++ goingM p now (entsP x L) := by simp [nmsOf]
theorem rowB_mono {B B' : Nat} {w : World} {e : TypeId} {v : Value} {n : Nat} {xs : List Value} (h : w.ownsRow B e 1 v n xs) (hb : B' ≤ B) : w.ownsRow B' e 1 v n xs := by
 refine ⟨h.1, ?_⟩
 rcases h.2 with k | ⟨g, c, cur, k1, k2, k3⟩
 · exact .inl k
 · exact .inr ⟨g, c, cur, k1, Nat.le_trans hb k2, k3⟩
set_option maxHeartbeats 8000000 in
theorem goes_any {w : World} {v : Value} {A : Option Addr} {c : Nat} {L : List En} (p : Pol) (h : EnSrc w v A c L) (hR : Rise L) (hn : L.length ≤ 19) (hp : ∀ x ∈ L, x.path.length ≤ 4000) (now : Int) :
 Calls Tryz.prog 10 #[.agg #[.int .i64 p.kind, .int .i64 p.keep, .int .i64 p.age], v, .int .i64 now] w fun e w' =>
  ∃ v', e = .returned v' ∧ w'.ownsRow w.heap.size 9 1 v' (goesM p now L).length ((goesM p now L).map kS) ∧ Below w.heap.size w w' := by
 obtain ⟨wp, hwp⟩ : ∃ V, w.alloc (.cells #[.int .i64 p.kind, .int .i64 p.keep, .int .i64 p.age] 23) = V := ⟨_, rfl⟩
 have bp : Below w.heap.size w wp := hwp ▸ (Below.refl _ _).alloc (Nat.le_refl _) _
 have BP := hid bp
 have XP : Hid (Has wp w.heap.size 23 #[.int .i64 p.kind, .int .i64 p.keep, .int .i64 p.age]) := hwp ▸ Has.fresh _ _ _
 have C1 := hid (acheck_any p wp)
 cases hck : checkM p with
 | false =>
  have HV : Hid (ckV p = 2) := by show _ = _; unfold ckV; rw [hck]; rfl
  have HG : Hid (goesM p now L = []) := by show _ = _; unfold goesM; rw [hck]; rfl
  rw [HV.out] at C1
  rw [HG.out]
  clear h hR hn hp bp hck
  go_enter Tryz.func10, Tryz.ntmps10
  go_wp2_with (first | (refine wpList_load_po rfl (.tmp 3) rfl w.heap.size rfl p.kind p.keep p.age XP.out ?_))
  refine C1.out.mono ?_; rintro e1 w1 ⟨rfl, hb1⟩
  have B1 : Hid (Below w.heap.size w w1) := BP.out.trans (hb1.mono BP.out.size)
  clear hb1
  go_wp2
  go_ret
  exact ⟨_, rfl, World.ownsRow_nil _ _ _ _, B1.out⟩
 | true =>
 have HV : Hid (ckV p = 0) := by show _ = _; unfold ckV; rw [hck]; rfl
 have HG : Hid (goesM p now L = sortL ((pathsE L).flatMap fun q => goingM p now (entsP q L))) := by show _ = _; unfold goesM; rw [hck]; rfl
 have hkp : 0 ≤ p.keep ∧ p.keep ≤ 100 := by
  unfold checkM leastM mostM at hck
  simp only [Bool.and_eq_true, Bool.or_eq_true, decide_eq_true_eq] at hck
  obtain ⟨⟨⟨_, h1⟩, h2⟩, _⟩ := hck
  split at h1 <;> split at h2 <;> omega
 rw [HV.out] at C1
 have CB := hid (fun W (hW : Below w.heap.size w W) => byPath_any (h.on hW) hR hn hp)
 have HNL := hid hn
 have HPT := hid hp
 have HKP := hid hkp
 clear h hR bp hck hn hp hkp
 go_enter Tryz.func10, Tryz.ntmps10
 go_wp2_with (first | (refine wpList_load_po rfl (.tmp 3) rfl w.heap.size rfl p.kind p.keep p.age XP.out ?_))
 refine C1.out.mono ?_; rintro e1 w1 ⟨rfl, hb1⟩
 have B1 : Hid (Below w.heap.size w w1) := BP.out.trans (hb1.mono BP.out.size)
 have X1 : Hid (Has w1 w.heap.size 23 #[.int .i64 p.kind, .int .i64 p.keep, .int .i64 p.age]) := XP.out.kept hb1 XP.out.inside
 clear hb1
 go_wp2_with fail
 refine (CB.out _ B1.out).mono ?_; rintro e2 w2 ⟨b, vals, rfl, hb0, hPM, hb2⟩
 have B2 : Hid (Below w.heap.size w w2) := B1.out.trans (hb2.mono B1.out.size)
 have X2 : Hid (Has w2 w.heap.size 23 #[.int .i64 p.kind, .int .i64 p.keep, .int .i64 p.age]) := X1.out.kept hb2 X1.out.inside
 obtain ⟨cN, D, hown, hsz, hcL, hD1, hD2, hD3⟩ := hPM.own HPT.out
 have PMx := hid hPM
 have HSZ := hid hsz
 have HCL := hid hcL
 have HDa := hid hD1
 have HDb := hid hD2
 have HDc := hid hD3
 have HMb : Hid (b < w2.heap.size) := by obtain ⟨_, h1, _⟩ := hPM.mp; exact h1.inside
 have HBl : Hid (w.heap.size ≤ b) := Nat.le_trans B1.out.size hb0
 clear hb2 hb0 hPM hsz hcL hD1 hD2 hD3
 go_wp2_with (first
  | (at_range; refine wpList_range_own _ rfl _ 70 rfl 9 24 str_keyed Tryz.underlying70 _ b cN _ rfl hown ?_; intro w3 hrg3 hg3 hs3)
  | go_in)
 clear hs3 hown
 go_frame
 go_loopw [7] (fun v7 wr => ∃ (left : Lit → Bool) (cnt : Nat) (ss : List By) (A' : Option Addr) (nm c' : Nat), v7 = .slice A' nm c' ∧ Hid ((nmsOf p now L ss).length = nm) ∧ Hid (wr.ranges Tryz.prog 9 Rv b w2.heap.size cN D left cnt) ∧
  Hid (wr.ownsRow w2.heap.size 9 1 (.slice A' nm c') (nmsOf p now L ss).length ((nmsOf p now L ss).map kS)) ∧ Hid (Collected D left ss) ∧ Hid (Below w2.heap.size w2 wr))
  (fun _ wr => wr.rangeLeft b w2.heap.size)
 case atStart => exact ⟨_, _, [], none, 0, 0, rfl, rfl, hrg3, World.ownsRow_nil _ _ _ _, Collected.start D, (Below.refl _ _).grown hg3 (Nat.le_refl _) (fun j hj => by cases hj)⟩
 case round =>
  obtain ⟨left, cnt, ss, A', nm, c', rfl, HNM, HRG, HW, HC, HB⟩ := hrel
  clear hrg3 hg3
  go_wp2_with (first
   | (at_next; refine wpList_next_ranges _ rfl _ rfl 9 str_keyed Rv kS id (fun key kl hk => by obtain ⟨x, hx, _⟩ := Maps.keyOf_str Tryz.underlying9 hk; exact ⟨x, hx⟩) rv_inv b w2.heap.size cN _ _ _ rfl HRG.out ?_ ?_)
   | go_in)
  · intro hc0 hl0
    have HP := hid (keys_paths HPT.out HC.out hl0 HDa.out HDb.out)
    have hlen := flat_le p now L ss HC.out.1
    have HBW : Below w.heap.size w wr := B2.out.trans (HB.out.mono B2.out.size)
    have CS := hid (sortNames_any HBW (rowB_mono HW.out B2.out.size) (by have := HNL.out; unfold nmsOf; omega))
    have HSQ : Hid (sortL (nmsOf p now L ss) = goesM p now L) := by
     show _ = _
     rw [HG.out]
     exact sortL_perm (HP.out.flatMap_right _)
    clear hl0 hc0 HBW hlen
    go_wp2_with fail
    refine CS.out.mono ?_; rintro e6 w6 ⟨rfl, hrow6, hb6⟩
    rw [HSQ.out] at hrow6
    have HR6 := hid hrow6
    have HB6 := hid hb6
    clear hrow6 hb6
    go_wp2
    go_ret
    exact ⟨_, rfl, HR6.out, HB6.out⟩
  · intro x cv kl yd yp w4 cnt2 hkey hlk hv hat hrg2 hlt hg2 hs2 hen
    obtain ⟨x', ex, rfl, _⟩ := Maps.keyOf_str Tryz.underlying9 hkey
    obtain rfl : x = x' := encStr_inj ex
    have hhas := has_true_of_atKey hat
    have hxl := HDb.out x hhas
    have hxe : entsP x L ≠ [] := of_decide_eq_true ((HDa.out x hxl).symm.trans hhas)
    have hyd := hat (.held nilV)
    rw [HDc.out x hxl hxe] at hyd
    have hcv : cv = vals x := by
     have hv' : (DataW.held cv, ([] : List MemPlace)) = (yd, yp) := Option.some.inj hv
     have h1 := (Prod.mk.inj hv').1
     rw [← hyd] at h1
     exact DataW.held.inj h1
    have B4 : Hid (Below w2.heap.size w2 w4) := HB.out.grown hg2 HB.out.size (fun j hj => by injection hj with hj; omega)
    have row4 : EnR 28 w1.heap.size w4 (vals x) (entsP x L) := (PMx.out.on B4.out).rows x
    obtain ⟨A3, c3, hv3⟩ := row4.form
    obtain ⟨ne, HNE⟩ : ∃ ne, Hid ((entsP x L).length = ne) := ⟨_, rfl⟩
    have hne : ne ≤ 19 := by rw [← HNE.out]; exact Nat.le_trans (List.length_filter_le _ _) HNL.out
    have X4 : Hid (Has w4 w.heap.size 23 #[.int .i64 p.kind, .int .i64 p.keep, .int .i64 p.age]) := X2.out.kept B4.out X2.out.inside
    have CG := going_any p row4 hxe (by rw [HNE.out]; omega) HKP.out now
    subst hcv
    rw [hv3, HNE.out] at CG
    rw [hv3, HNE.out] at hen
    have CG := hid CG
    have HEN := hid hen
    have RG4 := hid hrg2
    have HC4 := hid (HC.out.step hlk hat)
    have HLT := hid hlt
    have W4 : Hid (w4.ownsRow w2.heap.size 9 1 (.slice A' nm c') (nmsOf p now L ss).length ((nmsOf p now L ss).map kS)) := hid (row_of HW.out fun g hg => hg2.block g (World.ownsRow.lt HW.out g hg).2 (fun e => by
     obtain ⟨cur, hc⟩ := row_kind HW.out hg
     obtain ⟨_, _, _, _, _, _, _, _, _, k5, _⟩ := HRG.out
     injection e with e
     rw [← e, hc] at k5; cases k5))
    have HLEN : Hid ((nmsOf p now L ss).length + (goingM p now (entsP x L)).length ≤ 100000) := by
     have h1 := flat_le p now L (ss ++ [x]) HC4.out.1
     have h2 := nmsOf_snoc p now L ss x
     unfold nmsOf at h2 ⊢
     rw [h2, List.length_append] at h1
     have := HNL.out
     show _ ≤ _
     omega
    have HNE : Hid (b ≠ w2.heap.size) := by show _ ≠ _; have := HMb.out; omega
    clear hrg2 hg2 hs2 hkey hlk hv hat hlt ex hyd hhas row4 hxl hxe hne
    go_wp2_with (first | (refine wpList_load_po (by rfl) (.tmp 3) rfl w.heap.size rfl p.kind p.keep p.age X4.out ?_))
    refine CG.out.mono ?_; rintro e5 w5 ⟨v5, rfl, hrow5, hb5⟩
    have B5 : Hid (Below w2.heap.size w2 w5) := B4.out.trans (hb5.mono B4.out.size)
    have W5 : Hid (w5.ownsRow w2.heap.size 9 1 (.slice A' nm c') (nmsOf p now L ss).length ((nmsOf p now L ss).map kS)) := hid (row_of W4.out fun g hg => hb5.block g (World.ownsRow.lt W4.out g hg).2)
    have RG5 := hid (RG4.out.kept (below_grown hb5) (by simp) (by simp))
    obtain ⟨v6, w6, hrun6, hrow6, hg6, hb6⟩ := append_names w5 w2.heap.size w4.heap.size _ _ _ _ W5.out hrow5 HLEN.out B5.out.size 31
    obtain ⟨A6, n6, c6, rfl, hn6⟩ : ∃ A n c, v6 = .slice A n c ∧ (nmsOf p now L ss ++ goingM p now (entsP x L)).length = n := by
     rcases hrow6.2 with ⟨k1, k2⟩ | ⟨g, c, cur, k1, _⟩
     · exact ⟨none, 0, 0, k1, k2⟩
     · exact ⟨some ⟨g, 0, none⟩, _, c, k1, rfl⟩
    have HN6b := hid hn6
    have R6 := hid hrun6
    have HN6 : Hid (∀ g, (Value.slice A' nm c').ownBlock = some g → g ≠ b ∧ g ≠ w2.heap.size) := by
     intro g hg
     obtain ⟨cur, hc⟩ := row_kind W5.out hg
     obtain ⟨_, _, _, _, _, k1, _, _, _, k5, _⟩ := RG5.out
     refine ⟨fun e => ?_, fun e => ?_⟩
     · rw [e, k1] at hc; cases hc
     · rw [e, k5] at hc; cases hc
    have RG6 := hid (RG5.out.kept hg6 (fun e => (HN6.out _ e.symm).1 rfl) (fun e => (HN6.out _ e.symm).2 rfl))
    have W6 := hid hrow6
    have B6 : Hid (Below w2.heap.size w2 w6) := B5.out.grown hg6 B5.out.size (fun j hj => (World.ownsRow.lt W5.out j hj).1)
    have HM6 : Hid (w6.rangeLeft b w2.heap.size < wr.rangeLeft b w2.heap.size) := by
     show _ < _
     rw [RG6.out.left_eq, HRG.out.left_eq]; exact HLT.out
    clear hn6 hrow5 hb5 hrun6 hrow6 hg6 hb6
    go_wp2_with (first | (at_builtin; refine wpList_append_run rfl (.tmp 20) (.tmp 24) 31 31 rfl ⟨_, _, R6.out, ?_⟩))
    go_roundw
    case rel => exact ⟨_, cnt2, ss ++ [x], A6, n6, c6, rfl, by show _ = _; rw [nmsOf_snoc]; exact HN6b.out, RG6, by rw [nmsOf_snoc]; exact W6, HC4, B6⟩
    case measure => exact HM6.out
end Go.Proofs.YtabidnlbgdecbaaGreatDoor
namespace Go.Proofs.YtabidnlbgdecbaaGreatDoor
open Go.RowKit Go.Maps
theorem results_ndc {fn : Func} {c : Nat} (h : fn.results = #[.cell c 44]) (tmps : Array Value) (w : World) (g : Nat) (cs : Array Value) (hc : tmps.getD c undef = .pointer (some ⟨g, 0, none⟩)) (hg : Has w g 44 cs) (hi : cs.size = 4) :
 (results fn tmps).run Tryz.prog w = .ok (.agg cs) w := by
 have hp' : tmps[c]?.getD undef = .pointer (some ⟨g, 0, none⟩) := by simpa using hc
 have hl := run_loadVar_row (P := Tryz.prog) w g 44 44 cs (0, 0) _ hg Tryz.underlying44 rfl (by rw [hi]; kernel_rfl)
 simp [results, h, hp', asAddr, hl]
theorem results_enc {fn : Func} {c : Nat} (h : fn.results = #[.cell c 28]) (tmps : Array Value) (w : World) (g : Nat) (cs : Array Value) (hc : tmps.getD c undef = .pointer (some ⟨g, 0, none⟩)) (hg : Has w g 28 cs) (hi : cs.size = 4) :
 (results fn tmps).run Tryz.prog w = .ok (.agg cs) w := by
 have hp' : tmps[c]?.getD undef = .pointer (some ⟨g, 0, none⟩) := by simpa using hc
 have hl := run_loadVar_row (P := Tryz.prog) w g 28 28 cs (0, 0) _ hg Tryz.underlying28 rfl (by rw [hi]; exact iEntry)
 simp [results, h, hp', asAddr, hl]
theorem results_rd {fn : Func} {c : Nat} {t u : Tmp} (h : fn.results = #[.tmp t, .cell c 44, .tmp u]) (tmps : Array Value) (w : World) (g : Nat) (cs : Array Value) (hc : tmps.getD c undef = .pointer (some ⟨g, 0, none⟩)) (hg : Has w g 44 cs) (hi : cs.size = 4) :
 (results fn tmps).run Tryz.prog w = .ok (.tuple #[tmps.getD t undef, .agg cs, tmps.getD u undef]) w := by
 have hp' : tmps[c]?.getD undef = .pointer (some ⟨g, 0, none⟩) := by simpa using hc
 have hl := run_loadVar_row (P := Tryz.prog) w g 44 44 cs (0, 0) _ hg Tryz.underlying44 rfl (by rw [hi]; kernel_rfl)
 simp [results, h, hp', asAddr, hl]
set_option maxHeartbeats 2000000 in
theorem file_any (s : By) (t : Int) (w : World) : Calls Tryz.prog 18 #[kS s, .int .i64 t] w fun e w' => e = .returned (nodeV ⟨1, s, [], t⟩) ∧ Below w.heap.size w w' := by
 obtain ⟨wa, hwa⟩ : ∃ V, w.alloc (.cells #[.int .i64 0, .string ⟨#[]⟩, .string ⟨#[]⟩, .int .i64 0] 44) = V := ⟨_, rfl⟩
 have BA : Hid (Below w.heap.size w wa) := hwa ▸ (Below.refl _ _).alloc (Nat.le_refl _) _
 have XA : Hid (Has wa w.heap.size 44 (ndA 0 [] [] 0)) := hwa ▸ Has.fresh _ _ _
 go_enter Tryz.func18, Tryz.ntmps18
 go_wp2_with (first | (refine wpList_store_row rfl 44 (.tmp 4) (.tmp 7) rfl w.heap.size (ndA 1 s [] t) rfl rfl 44 _ XA.out (by kernel_rfl) rfl (by simp [ndA, Value.oneCell']) ?_))
 refine bodyPost_ret (results_ndc rfl _ _ w.heap.size _ rfl (Has.row XA.out) rfl) rfl ?_
 exact ⟨rfl, BA.out.rowK (Nat.le_refl _) _⟩
set_option maxHeartbeats 2000000 in
theorem at_any (t : Int) (s : By) (w : World) : Calls Tryz.prog 26 #[.int .i64 t, kS s] w fun e w' => e = .returned (.agg (enA ⟨s, [97], t, 0⟩)) ∧ Below w.heap.size w w' := by
 obtain ⟨wa, hwa⟩ : ∃ V, w.alloc (.cells #[.string ⟨#[]⟩, .string ⟨#[]⟩, .int .i64 0, .int .i64 0] 28) = V := ⟨_, rfl⟩
 have BA : Hid (Below w.heap.size w wa) := hwa ▸ (Below.refl _ _).alloc (Nat.le_refl _) _
 have XA : Hid (Has wa w.heap.size 28 (enA ⟨[], [], 0, 0⟩)) := hwa ▸ Has.fresh _ _ _
 go_enter Tryz.func26, Tryz.ntmps26
 go_wp2_with (first | (refine wpList_store_row rfl 28 (.tmp 4) (.tmp 7) rfl w.heap.size (enA ⟨s, [97], t, 0⟩) rfl rfl 28 _ XA.out (by kernel_rfl) rfl (by simp [enA, Value.oneCell']) ?_))
 refine bodyPost_ret (results_enc rfl _ _ w.heap.size _ rfl (Has.row XA.out) rfl) rfl ?_
 exact ⟨rfl, BA.out.rowK (Nat.le_refl _) _⟩
theorem if_yes {c : Prop} [Decidable c] {a b : Prop} (h : c) (k : a) : if c then a else b := by rw [if_pos h]; exact k
def readA (L : Tr) (root name : By) : (By × Nd) × Int :=
 if mayB (root ++ 47 :: name) then
  if (readM L (root ++ 47 :: name)).2 = 0 then
   match openA name (readM L (root ++ 47 :: name)).1 with
   | some x => ((x.1.path, ⟨1, x.2, [], (readM L (root ++ 47 :: name)).1.time⟩), 0)
   | none => (([], ⟨0, [], [], 0⟩), 4)
  else (([], ⟨0, [], [], 0⟩), (readM L (root ++ 47 :: name)).2)
 else (([], ⟨0, [], [], 0⟩), 10)
section
variable {w0 w : World} {av : Nat → Prop} {p : Nat} {M : Mo}
set_option maxHeartbeats 8000000 in
theorem aread_any (h : DW w0 av w p M) (hG : Gd w0) (hroom : M.room ≤ 100000) (root : By) (hr : root.length ≤ 3900) (name : By) (hn : name.length ≤ 18) :
 Calls Tryz.prog 16 #[.pointer (some ⟨p, 0, none⟩), kS root, kS name] w fun e w' =>
  e = .returned (.tuple #[kS (readA M.now root name).1.1, nodeV (readA M.now root name).1.2, .int .i64 (readA M.now root name).2]) ∧ Below w.heap.size w w' := by
 obtain ⟨wa, hwa⟩ : ∃ V, w.alloc (.cells #[.int .i64 0, .string ⟨#[]⟩, .string ⟨#[]⟩, .int .i64 0] 44) = V := ⟨_, rfl⟩
 have ba' : Below w.heap.size w wa := hwa ▸ (Below.refl _ _).alloc (Nat.le_refl _) _
 have XA : Hid (Has wa w.heap.size 44 (ndA 0 [] [] 0)) := hwa ▸ Has.fresh _ _ _
 have C1 := hid (nowhere_any (root ++ 47 :: name) wa ((h.on ba').gd hG) (by simp; omega) p)
 have CR := hid (fun W (hb : Below w.heap.size w W) => by
  have hGW := (h.on hb).gd hG
  obtain ⟨own, ho, _⟩ := h.on hb
  exact dRead_any ho hGW (root ++ 47 :: name) (by simp; omega))
 have CO : Hid (∀ W, Below w.heap.size w W → ∀ k d x t, d.length ≤ 100000 → Calls Tryz.prog 36 #[kS name, .agg #[.int .i64 k, kS d, kS x, .int .i64 t]] W fun e w' => e = .returned (openV (openA name ⟨k, d, x, t⟩)) ∧ Below W.heap.size W w') := fun W hb k d x t hd =>
  open_any name hn k d x t hd W ((h.on hb).gd hG)
 have E3 : Hid (ba root ++ ⟨#[47]⟩ = ba (root ++ [47])) := ba_append _ [47]
 have E4 : Hid (ba (root ++ [47]) ++ ba name = ba (root ++ 47 :: name)) := by show _ = _; rw [ba_append]; simp
 have z4 : (ba root).size ≤ 4000 := by rw [ba_size]; omega
 have z5 : (ba (root ++ [47])).size ≤ 4000 := by rw [ba_size, List.length_append]; simp; omega
 have z6 : (ba name).size ≤ 4000 := by rw [ba_size]; omega
 have hdl := read_data h.good hroom (root ++ 47 :: name)
 obtain ⟨⟨⟨kd, dt, tg, tm⟩, ce⟩, HRD⟩ : ∃ r, Hid (readM M.now (root ++ 47 :: name) = r) := ⟨_, rfl⟩
 obtain ⟨r, HRA⟩ : ∃ r, Hid (readA M.now root name = r) := ⟨_, rfl⟩
 have hra := HRA.out
 unfold readA at hra
 rw [HRD.out] at hdl hra
 simp only at hdl hra
 rw [HRA.out]
 have CR2 : Hid (∀ W, Below w.heap.size w W → Calls Tryz.prog 17 #[.pointer (some ⟨p, 0, none⟩), kS (root ++ 47 :: name)] W fun e w' => e = .returned (.tuple #[.agg #[.int .i64 kd, kS dt, kS tg, .int .i64 tm], .int .i64 ce]) ∧ Below W.heap.size W w') := fun W hb => by
  have := CR.out W hb
  rw [HRD.out] at this
  exact this
 have BA := hid ba'
 clear h hG hroom ba' CR HRD
 have HN : Hid (noA (root ++ 47 :: name) = if mayB (root ++ 47 :: name) then 0 else 10) := by show _ = _; unfold noA; rfl
 have HDL := hid hdl
 have HRR := hid hra
 clear hdl hra
 cases hm : mayB (root ++ 47 :: name) with
 | false =>
  rw [HN.out, hm] at C1
  have HRX := HRR.out
  rw [hm] at HRX
  simp only [Bool.false_eq_true, if_false] at HRX C1
  have HRX := hid HRX
  clear hm HRR HN
  go_enter Tryz.func16, Tryz.ntmps16
  go_wp2_with fail
  rw [E3.out, E4.out]
  refine C1.out.mono ?_; rintro e1 w1 ⟨rfl, hb1⟩
  have B1 : Hid (Below w.heap.size w w1) := BA.out.trans (hb1.mono BA.out.size)
  have X1 : Hid (Has w1 w.heap.size 44 (ndA 0 [] [] 0)) := XA.out.kept hb1 XA.out.inside
  clear hb1
  go_wp2_with (first | (refine wpList_store_row rfl 44 (.tmp 7) (.tmp 25) rfl w.heap.size (ndA 0 [] [] 0) rfl rfl 44 _ X1.out (by kernel_rfl) rfl (by simp [ndA, Value.oneCell']) ?_))
  refine bodyPost_ret (results_rd rfl _ _ w.heap.size _ rfl (Has.row X1.out) rfl) rfl ?_
  exact ⟨by rw [← HRX.out]; rfl, B1.out.rowK (Nat.le_refl _) _⟩
 | true =>
  rw [HN.out, hm] at C1
  have HRX := HRR.out
  rw [hm] at HRX
  simp only [if_true] at HRX C1
  have HRX := hid HRX
  clear hm HRR HN
  by_cases hc : ce = 0
  case neg =>
   have HRY := HRX.out
   rw [if_neg hc] at HRY
   have HRY := hid HRY
   have q1 : (ce == 0) = false := by simp [hc]
   clear HRX
   go_enter Tryz.func16, Tryz.ntmps16
   go_wp2_with fail
   rw [E3.out, E4.out]
   refine C1.out.mono ?_; rintro e1 w1 ⟨rfl, hb1⟩
   have B1 : Hid (Below w.heap.size w w1) := BA.out.trans (hb1.mono BA.out.size)
   have X1 : Hid (Has w1 w.heap.size 44 (ndA 0 [] [] 0)) := XA.out.kept hb1 XA.out.inside
   clear hb1
   go_wp2_with fail
   refine (CR2.out _ B1.out).mono ?_; rintro e2 w2 ⟨rfl, hb2⟩
   have B2 : Hid (Below w.heap.size w w2) := B1.out.trans (hb2.mono B1.out.size)
   have X2 : Hid (Has w2 w.heap.size 44 (ndA 0 [] [] 0)) := X1.out.kept hb2 X1.out.inside
   clear hb2
   obtain ⟨w3, hw3⟩ : ∃ V, w2.alloc (.cells #[.int .i64 kd, kS dt, kS tg, .int .i64 tm] 44) = V := ⟨_, rfl⟩
   have B3 : Hid (Below w.heap.size w w3) := hw3 ▸ B2.out.alloc B2.out.size _
   have X3 : Hid (Has w3 w.heap.size 44 (ndA 0 [] [] 0)) := hw3 ▸ X2.out.more _
   go_wp2_with (first | (refine wpList_store_row rfl 44 (.tmp 7) (.tmp 35) rfl w.heap.size (ndA 0 [] [] 0) rfl rfl 44 _ X3.out (by kernel_rfl) rfl (by simp [ndA, Value.oneCell']) ?_))
   refine bodyPost_ret (results_rd rfl _ _ w.heap.size _ rfl (Has.row X3.out) rfl) rfl ?_
   exact ⟨by rw [← HRY.out]; rfl, B3.out.rowK (Nat.le_refl _) _⟩
  subst hc
  have HRY := HRX.out
  rw [if_pos rfl] at HRY
  have HRY := hid HRY
  clear HRX
  go_enter Tryz.func16, Tryz.ntmps16
  go_wp2_with fail
  rw [E3.out, E4.out]
  refine C1.out.mono ?_; rintro e1 w1 ⟨rfl, hb1⟩
  have B1 : Hid (Below w.heap.size w w1) := BA.out.trans (hb1.mono BA.out.size)
  have X1 : Hid (Has w1 w.heap.size 44 (ndA 0 [] [] 0)) := XA.out.kept hb1 XA.out.inside
  clear hb1
  go_wp2_with fail
  refine (CR2.out _ B1.out).mono ?_; rintro e2 w2 ⟨rfl, hb2⟩
  have B2 : Hid (Below w.heap.size w w2) := B1.out.trans (hb2.mono B1.out.size)
  have X2 : Hid (Has w2 w.heap.size 44 (ndA 0 [] [] 0)) := X1.out.kept hb2 X1.out.inside
  clear hb2
  obtain ⟨w3, hw3⟩ : ∃ V, w2.alloc (.cells #[.int .i64 kd, kS dt, kS tg, .int .i64 tm] 44) = V := ⟨_, rfl⟩
  have B3 : Hid (Below w.heap.size w w3) := hw3 ▸ B2.out.alloc B2.out.size _
  have X3 : Hid (Has w3 w.heap.size 44 (ndA 0 [] [] 0)) := hw3 ▸ X2.out.more _
  have Z3 : Hid (Has w3 w2.heap.size 44 (ndA kd dt tg tm)) := by rw [← hw3]; exact Has.fresh _ _ _
  have CO2 := hid (CO.out w3 B3.out kd dt tg tm HDL.out)
  go_wp2_with (first | (refine wpList_load_nodeC rfl (.tmp 11) rfl w2.heap.size rfl kd dt tg tm Z3.out ?_))
  unfold ndA
  cases ho : openA name ⟨kd, dt, tg, tm⟩ with
  | none =>
   have HRZ := HRY.out
   rw [ho] at CO2 HRZ
   have HRZ := hid HRZ
   clear ho HRY
   refine CO2.out.mono ?_; rintro e4 w4 ⟨rfl, hb4⟩
   have B4 : Hid (Below w.heap.size w w4) := B3.out.trans (hb4.mono B3.out.size)
   have X4 : Hid (Has w4 w.heap.size 44 (ndA 0 [] [] 0)) := X3.out.kept hb4 X3.out.inside
   clear hb4
   obtain ⟨wz, hwz⟩ : ∃ V, w4.alloc (.cells #[.string ⟨#[]⟩, .string ⟨#[]⟩, .int .i64 0, .int .i64 0] 28) = V := ⟨_, rfl⟩
   have YZ : Hid (Has wz w4.heap.size 28 (enA ⟨[], [], 0, 0⟩)) := by rw [← hwz]; exact Has.fresh _ _ _
   have BZ : Hid (Below w.heap.size w wz) := hwz ▸ B4.out.alloc B4.out.size _
   have XZ : Hid (Has wz w.heap.size 44 (ndA 0 [] [] 0)) := hwz ▸ X4.out.more _
   obtain ⟨w5, hw5⟩ : ∃ V, wz.setRow w4.heap.size #[.string ⟨#[]⟩, .string ⟨#[]⟩, .int .i64 0, .int .i64 0] = V := ⟨_, rfl⟩
   have B5 : Hid (Below w.heap.size w w5) := hw5 ▸ BZ.out.rowK B4.out.size _
   have X5 : Hid (Has w5 w.heap.size 44 (ndA 0 [] [] 0)) := hw5 ▸ XZ.out.rowOther (by have := X4.out.inside; omega)
   unfold openV
   go_wp2_with (first
    | (refine wpList_store_row rfl 28 (.tmp 13) (.tmp 41) rfl w4.heap.size #[.string ⟨#[]⟩, .string ⟨#[]⟩, .int .i64 0, .int .i64 0] rfl rfl 28 _ YZ.out (by kernel_rfl) rfl (by simp [Value.oneCell']) ?_; rw [hw5])
    | (refine wpList_store_row rfl 44 (.tmp 7) (.tmp 46) rfl w.heap.size (ndA 0 [] [] 0) rfl rfl 44 _ X5.out (by kernel_rfl) rfl (by simp [ndA, Value.oneCell']) ?_))
   refine bodyPost_ret (results_rd rfl _ _ w.heap.size _ rfl (Has.row X5.out) rfl) rfl ?_
   exact ⟨by rw [← HRZ.out]; rfl, B5.out.rowK (Nat.le_refl _) _⟩
  | some y =>
   obtain ⟨⟨xn, xp, xt, xs⟩, dd⟩ := y
   have HRZ := HRY.out
   rw [ho] at CO2 HRZ
   have HRZ := hid HRZ
   clear ho HRY
   refine CO2.out.mono ?_; rintro e4 w4 ⟨rfl, hb4⟩
   have B4 : Hid (Below w.heap.size w w4) := B3.out.trans (hb4.mono B3.out.size)
   have X4 : Hid (Has w4 w.heap.size 44 (ndA 0 [] [] 0)) := X3.out.kept hb4 X3.out.inside
   have Z4 : Hid (Has w4 w2.heap.size 44 (ndA kd dt tg tm)) := Z3.out.kept hb4 Z3.out.inside
   clear hb4
   obtain ⟨wz, hwz⟩ : ∃ V, w4.alloc (.cells #[.string ⟨#[]⟩, .string ⟨#[]⟩, .int .i64 0, .int .i64 0] 28) = V := ⟨_, rfl⟩
   have YZ : Hid (Has wz w4.heap.size 28 (enA ⟨[], [], 0, 0⟩)) := by rw [← hwz]; exact Has.fresh _ _ _
   have BZ : Hid (Below w.heap.size w wz) := hwz ▸ B4.out.alloc B4.out.size _
   have XZ : Hid (Has wz w.heap.size 44 (ndA 0 [] [] 0)) := hwz ▸ X4.out.more _
   obtain ⟨w5, hw5⟩ : ∃ V, wz.setRow w4.heap.size #[kS xn, kS xp, .int .i64 xt, .int .i64 xs] = V := ⟨_, rfl⟩
   have B5 : Hid (Below w.heap.size w w5) := hw5 ▸ BZ.out.rowK B4.out.size _
   have X5 : Hid (Has w5 w.heap.size 44 (ndA 0 [] [] 0)) := hw5 ▸ XZ.out.rowOther (by have := X4.out.inside; omega)
   have ZZ : Hid (Has wz w2.heap.size 44 (ndA kd dt tg tm)) := hwz ▸ Z4.out.more _
   have Z5 : Hid (Has w5 w2.heap.size 44 (ndA kd dt tg tm)) := hw5 ▸ ZZ.out.rowOther (by have := Z4.out.inside; omega)
   have Y5 : Hid (Has w5 w4.heap.size 28 (enA ⟨xn, xp, xt, xs⟩)) := by rw [← hw5]; exact YZ.out.row
   have C1b : Hid (w5.cell? ⟨w4.heap.size, 1, none⟩ = some (kS xp)) := Y5.out.at_ 1
   have C2b : Hid (w5.cell? ⟨w2.heap.size, 3, none⟩ = some (.int .i64 tm)) := Z5.out.at_ 3
   unfold openV enA
   go_wp2_with (first
    | (refine wpList_store_row rfl 28 (.tmp 13) (.tmp 41) rfl w4.heap.size #[kS xn, kS xp, .int .i64 xt, .int .i64 xs] rfl rfl 28 _ YZ.out (by kernel_rfl) rfl (by simp [Value.oneCell']) ?_; rw [hw5]))
   refine wp_region_noPanic ?_
   refine wp_region_held_drew (S := fun W => W.cell? ⟨w4.heap.size, 1, none⟩ = some (kS xp) ∧ W.cell? ⟨w2.heap.size, 3, none⟩ = some (.int .i64 tm)) (by kernel_rfl) (⟨C1b.out, C2b.out⟩) (fun hS => ?_)
   refine tkH 0 (v := ?_) (by simp only [lkA, lkB]; rfl) (by kernel_rfl) (fun _ _ _ h => h) (by rfl) (by assumption) ?_ ?_
   rotate_left 1
   · intro w hSw
     go_simp
     with_reducible rfl
   simp only [Act.put, siA, siB, siC]
   refine tkH 1 (v := ?_) (by simp only [lkA, lkB, lkC]; rfl) (by kernel_rfl) (fun _ _ _ h => h) (by rfl) (by assumption) ?_ ?_
   rotate_left 1
   · intro w hSw
     have e1 := hSw.1
     go_simp
     with_reducible rfl
   simp only [Act.put, siA, siB, siC]
   refine tkH 2 (v := ?_) (by simp only [lkA, lkB, lkC]; rfl) (by kernel_rfl) (fun _ _ _ h => h) (by rfl) (by assumption) ?_ ?_
   rotate_left 1
   · intro w hSw
     go_simp
     with_reducible rfl
   simp only [Act.put, siA, siB, siC]
   refine tkH 3 (v := ?_) (by simp only [lkA, lkB, lkC]; rfl) (by kernel_rfl) (fun _ _ _ h => h) (by rfl) (by assumption) ?_ ?_
   rotate_left 1
   · intro w hSw
     go_simp
     with_reducible rfl
   simp only [Act.put, siA, siB, siC]
   refine tkH 4 (v := ?_) (by simp only [lkA, lkB, lkC]; rfl) (by kernel_rfl) (fun _ _ _ h => h) (by rfl) (by assumption) ?_ ?_
   rotate_left 1
   · intro w hSw
     have e2 := hSw.2
     go_simp
     with_reducible rfl
   simp only [Act.put, siA, siB, siC]
   refine tkH 5 (v := ?_) (by simp only [lkA, lkB, lkC]; rfl) (by kernel_rfl) (fun _ _ _ h => h) (by rfl) (by assumption) ?_ ?_
   rotate_left 1
   · intro w hSw
     go_simp
     with_reducible rfl
   simp only [Act.put, siA, siB, siC]
   refine tkH 6 (v := ?_) (by simp only [lkA, lkB, lkC]; rfl) (by kernel_rfl) (fun _ _ _ h => h) (by rfl) (by assumption) ?_ ?_
   rotate_left 1
   · intro w hSw
     go_simp
     with_reducible rfl
   simp only [Act.put, siA, siB, siC]
   refine wpAnyH_ready (rs := [7]) (by kernel_rfl) (by simp) ?_
   refine AllReadyH.cons (by simp only [lkA, lkB, lkC]; rfl) (fun K hK => ?_) (AllReadyH.nil)
   refine if_yes (by rfl) ?_
   refine wp_store_row 44 (.tmp 7) (.tmp 52) rfl w.heap.size (ndA 1 dd [] tm) rfl rfl 44 _ (X5.out.drawn 1) (by kernel_rfl) rfl (by simp [ndA, Value.oneCell']) ?_
   simp only [Act.put]
   have D5 : Has w5.drew w.heap.size 44 (ndA 0 [] [] 0) := X5.out.drawn 1
   have BD : Hid (Below w.heap.size w (w5.drew.setRow w.heap.size (ndA 1 dd [] tm))) := hid (B5.out.drew.rowK (Nat.le_refl _) _)
   have n1 : w.heap.size ≠ w4.heap.size := by have := X4.out.inside; omega
   have n2 : w.heap.size ≠ w2.heap.size := by have := X2.out.inside; omega
   have q1 : Has (w5.drew.setRow w.heap.size (ndA 1 dd [] tm)) w4.heap.size 28 (enA ⟨xn, xp, xt, xs⟩) := (Y5.out.drawn 1).rowOther n1.symm
   have q2 : Has (w5.drew.setRow w.heap.size (ndA 1 dd [] tm)) w2.heap.size 44 (ndA kd dt tg tm) := (Z5.out.drawn 1).rowOther n2.symm
   have D6 : Hid (Has (w5.drew.setRow w.heap.size (ndA 1 dd [] tm)) w.heap.size 44 (ndA 1 dd [] tm)) := hid D5.row
   have hz1 : (w5.drew.setRow w.heap.size (ndA 1 dd [] tm)).cell? ⟨w4.heap.size, 1, none⟩ = some (kS xp) ∧ (w5.drew.setRow w.heap.size (ndA 1 dd [] tm)).cell? ⟨w2.heap.size, 3, none⟩ = some (.int .i64 tm) := ⟨q1.at_ 1, q2.at_ 3⟩
   refine hK.out _ _ hz1 (fun hS => ?_)
   clear hK K hS q1 q2 n1 n2 D5
   refine tkH 8 (v := ?_) (by simp only [lkA, lkB, lkC]; rfl) (by kernel_rfl) (fun _ _ _ h => h) (by rfl) (by assumption) ?_ ?_
   rotate_left 1
   · intro w hSw
     go_simp
     with_reducible rfl
   simp only [Act.put, siA, siB, siC]
   refine wpAnyH_done (by kernel_rfl) ?_ _
   refine NoPanic.normal ?_
   go_wp2
   refine bodyPost_ret (results_rd rfl _ _ w.heap.size _ rfl D6.out rfl) rfl ?_
   exact ⟨by rw [← HRZ.out]; rfl, BD.out⟩
end
end Go.Proofs.YtabidnlbgdecbaaGreatDoor
namespace Go.Proofs.YtabidnlbgdecbaaGreatDoor
open Go.RowKit Go.Maps
def twoN : Nd := ⟨1, [120, 121], [], 3⟩
def oneM : Mo := (addM (newM 16384) [118, 49] [97, 47, 98] twoN 7).2
def twoM : Mo := (addM oneM [118, 49] [97, 47, 98] twoN 7).2
theorem one_is : (addM (newM 16384) [118, 49] [97, 47, 98] twoN 7).1 = ([48, 48, 48, 48, 48, 48, 48, 48, 48, 55, 45, 48, 48, 48, 48], 0) := by decide +kernel
theorem two_is : (addM oneM [118, 49] [97, 47, 98] twoN 7).1 = ([48, 48, 48, 48, 48, 48, 48, 48, 48, 55, 45, 48, 48, 48, 49], 0) := by decide +kernel
theorem one_len : oneM.since.length = 2 := by decide +kernel
theorem two_len : twoM.since.length = 3 := by decide +kernel
theorem two_room : twoM.room = 16384 := by decide +kernel
instance : DecidableEq En := fun a b =>
  if h : a.name = b.name ∧ a.path = b.path ∧ a.time = b.time ∧ a.size = b.size then .isTrue (by cases a; cases b; simp only at h; obtain ⟨h1, h2, h3, h4⟩ := h; subst h1 h2 h3 h4; rfl) else .isFalse (fun e => h (by subst e; exact ⟨rfl, rfl, rfl, rfl⟩))
theorem sortL_id {xs : List By} (h : xs.Pairwise fun x y => decide (x ≤ y) = true) : sortL xs = xs := List.mergeSort_of_pairwise h
def twoL : List By := [[48, 48, 48, 48, 48, 48, 48, 48, 48, 55, 45, 48, 48, 48, 48], [48, 48, 48, 48, 48, 48, 48, 48, 48, 55, 45, 48, 48, 48, 49]]
theorem two_names : listM twoM.now [118, 49] = (twoL, 0) := by
 have h1 : childL twoM.now [118, 49] = twoL := by decide +kernel
 have h2 : noDirE twoM.now [118, 49] = 0 := by decide +kernel
 have h3 : (!decide (([118, 49] : By) = []) && !mayB [118, 49]) = false := by decide +kernel
 unfold listM
 rw [h1, h2, h3, sortL_id (by decide +kernel)]
 rfl
theorem two_18 : ∀ s ∈ (listM twoM.now [118, 49]).1, s.length ≤ 18 := by rw [two_names]; decide +kernel
def twoE : List En := [⟨[48, 48, 48, 48, 48, 48, 48, 48, 48, 55, 45, 48, 48, 48, 48], [97, 47, 98], 7, 2⟩, ⟨[48, 48, 48, 48, 48, 48, 48, 48, 48, 55, 45, 48, 48, 48, 49], [97, 47, 98], 7, 2⟩]
theorem two_list : listA twoM.now [118, 49] = (twoE, 0) := by
 have h1 : mayB [118, 49] = true := by decide +kernel
 have h2 : arcs twoM.now [118, 49] twoL = twoE := by decide +kernel
 unfold listA
 rw [two_names, h1]
 simp only [if_true]
 rw [h2]
set_option maxHeartbeats 4000000 in
theorem two_any (w : World) (hG : Gd w) : Calls Tryz.prog 13 #[] w fun e w' => ∃ p, e = .returned (.pointer (some ⟨p, 0, none⟩)) ∧ DW w (fun _ => False) w' p twoM := by
 have CN := hid (dNew_any 16384 w (by decide) (by decide))
 have HG := hid hG
 clear hG
 go_enter Tryz.func13, Tryz.ntmps13
 go_wp2_with fail
 refine CN.out.mono ?_; rintro e1 w1 ⟨own, p, rfl, h1, h2, h3⟩
 have hd : DW w (fun _ => False) w1 p (newM 16384) := ⟨own, h1, fun g hg => ⟨h2 g hg, id⟩, h3, fun g hg => absurd hg id⟩
 have hq := neqPtr p
 have HD := hid hd
 have CF := hid (fun W => file_any [120, 121] 3 W)
 have CA : Hid (∀ W, Below w1.heap.size w1 W → Calls Tryz.prog 19 #[.pointer (some ⟨p, 0, none⟩), kS [118, 49], kS [97, 47, 98], .agg #[.int .i64 1, kS [120, 121], kS [], .int .i64 3], .int .i64 7] W fun e w' =>
  e = .returned (.tuple #[.string ⟨#[48, 48, 48, 48, 48, 48, 48, 48, 48, 55, 45, 48, 48, 48, 48]⟩, .int .i64 0]) ∧ DW w (fun _ => False) w' p oneM) := fun W hb => (add_any (hd.on hb) HG.out [118, 49] (by decide) [97, 47, 98] (by decide) 1 [120, 121] [] 3 7 (by decide) (by show 0 + 2 ≤ _; decide)).mono fun e w' h => by
  obtain ⟨k1, k2, _⟩ := h
  have k3 := one_is
  unfold twoN at k3
  rw [k3] at k1
  exact ⟨k1, k2⟩
 clear h1 h2 h3 hd
 go_wp2_with fail
 refine (CF.out w1).mono ?_; rintro e2 w2 ⟨rfl, hb2⟩
 have C2 := hid (CA.out w2 hb2)
 clear hb2
 unfold nodeV
 go_wp2_with fail
 refine C2.out.mono ?_; rintro e3 w3 ⟨rfl, hd3⟩
 have H3 := hid hd3
 have CB : Hid (∀ W, Below w3.heap.size w3 W → Calls Tryz.prog 19 #[.pointer (some ⟨p, 0, none⟩), kS [118, 49], kS [97, 47, 98], .agg #[.int .i64 1, kS [120, 121], kS [], .int .i64 3], .int .i64 7] W fun e w' =>
  e = .returned (.tuple #[.string ⟨#[48, 48, 48, 48, 48, 48, 48, 48, 48, 55, 45, 48, 48, 48, 49]⟩, .int .i64 0]) ∧ DW w (fun _ => False) w' p twoM) := fun W hb => (add_any (hd3.on hb) HG.out [118, 49] (by decide) [97, 47, 98] (by decide) 1 [120, 121] [] 3 7 (by decide) (by rw [one_len]; decide)).mono fun e w' h => by
  obtain ⟨k1, k2, _⟩ := h
  have k3 := two_is
  unfold twoN at k3
  rw [k3] at k1
  exact ⟨k1, k2⟩
 clear hd3
 go_wp2_with fail
 refine (CF.out w3).mono ?_; rintro e4 w4 ⟨rfl, hb4⟩
 have C4 := hid (CB.out w4 hb4)
 clear hb4
 unfold nodeV
 go_wp2_with fail
 refine C4.out.mono ?_; rintro e5 w5 ⟨rfl, hd5⟩
 have H5 := hid hd5
 clear hd5
 go_wp2
 go_ret
 exact ⟨p, rfl, H5.out⟩
end Go.Proofs.YtabidnlbgdecbaaGreatDoor
namespace Go.Proofs.YtabidnlbgdecbaaGreatDoor
open Go.RowKit Go.Maps
theorem sjoinR_any {w : World} {B : Nat} {v : Value} {xs : List By} (h : w.ownsRow B 9 1 v xs.length (xs.map kS)) (hn : xs.length ≤ 1000) (hl : (Lib.join xs [32]).length ≤ 100000) :
 Calls Tryz.prog 37 #[v, .string ⟨#[32]⟩] w fun e w' => e = .returned (kS (Lib.join xs [32])) ∧ Below w.heap.size w w' := by
 rcases h.2 with ⟨k1, k2⟩ | ⟨g, c, cur, k1, k2, k3, k4, _⟩
 · have hx : xs = [] := List.eq_nil_of_length_eq_zero k2
   subst hx; subst k1
   refine (Tryz.strings_Join_none none 0 ⟨#[32]⟩ w).mono ?_
   rintro e w' ⟨rfl, rfl⟩
   exact ⟨rfl, Below.refl _ _⟩
 · have hm : (xs.map ba).map (fun x => x.data.toList) = xs := by
    rw [List.map_map]
    conv => rhs; rw [← List.map_id xs]
    rfl
   have hlt := (World.ownsRow.lt h g (by rw [k1]; rfl)).2
   have hc : ∀ (j : Nat) x, (xs.map ba)[j]? = some x → w.cell? ⟨g, 0 + j, none⟩ = some (.string x) := fun j x hx => by
    rw [List.getElem?_map] at hx
    obtain ⟨y, hy, rfl⟩ := Option.map_eq_some_iff.1 hx
    have := World.ownsRow.cells (g := g) h (by rw [k1]; rfl) j (kS y) (by rw [List.getElem?_map, hy]; rfl)
    rwa [add_at] at this
   have := Tryz.strings_Join g 0 c (xs.map ba) ⟨#[32]⟩ w hc hlt (by rw [List.length_map]; omega) (by rw [List.length_map]; omega) (by rw [hm]; show (Lib.join xs [32]).length ≤ _; omega)
   rw [hm, List.length_map] at this
   rw [k1]
   refine this.mono fun e w' ⟨h1, h2⟩ => ⟨?_, h2⟩
   rw [h1]; rfl
set_option maxHeartbeats 4000000 in
theorem hgoes_any {w : World} {v : Value} {A : Option Addr} {c : Nat} {L : List En} (p : Pol) (h : EnSrc w v A c L) (hR : Rise L) (hn : L.length ≤ 19) (hp : ∀ x ∈ L, x.path.length ≤ 4000) (now : Int) (s : By) (hs : Lib.join (goesM p now L) [32] = s) (hl : s.length ≤ 100000) :
 Calls Tryz.prog 15 #[.agg #[.int .i64 p.kind, .int .i64 p.keep, .int .i64 p.age], v, .int .i64 now] w fun e w' => e = .returned (kS s) ∧ Below w.heap.size w w' := by
 obtain ⟨wp, hwp⟩ : ∃ V, w.alloc (.cells #[.int .i64 p.kind, .int .i64 p.keep, .int .i64 p.age] 23) = V := ⟨_, rfl⟩
 have bp : Below w.heap.size w wp := hwp ▸ (Below.refl _ _).alloc (Nat.le_refl _) _
 have BP := hid bp
 have XP : Hid (Has wp w.heap.size 23 #[.int .i64 p.kind, .int .i64 p.keep, .int .i64 p.age]) := hwp ▸ Has.fresh _ _ _
 have C1 := hid (goes_any p (h.on bp) hR hn hp now)
 have HLN : Hid ((goesM p now L).length ≤ 1000) := by
  show _ ≤ _
  unfold goesM
  split
  · unfold sortL
    rw [List.length_mergeSort]
    have := flat_le p now L (pathsE L) (pathsE_nodup L)
    omega
  · simp
 have HS := hid hs
 have HL := hid hl
 clear h hR hn hp bp hs hl
 go_enter Tryz.func15, Tryz.ntmps15
 go_wp2_with (first | (refine wpList_load_po rfl (.tmp 3) rfl w.heap.size rfl p.kind p.keep p.age XP.out ?_))
 refine C1.out.mono ?_; rintro e1 w1 ⟨v1, rfl, hr1, hb1⟩
 have B1 : Hid (Below w.heap.size w w1) := BP.out.trans (hb1.mono BP.out.size)
 have CJ := sjoinR_any hr1 HLN.out (by rw [HS.out]; exact HL.out)
 rw [HS.out] at CJ
 have CJ := hid CJ
 clear hr1 hb1
 go_wp2_with fail
 refine CJ.out.mono ?_; rintro e2 w2 ⟨rfl, hb2⟩
 have B2 : Hid (Below w.heap.size w w2) := B1.out.trans (hb2.mono B1.out.size)
 clear hb2
 go_wp2
 go_ret
 exact ⟨rfl, B2.out⟩
theorem goesM_of (p : Pol) (now : Int) (L : List En) (ps ns : List By) (hp : pathsE L = ps) (hc : checkM p = true) (hg : (ps.flatMap fun q => goingM p now (entsP q L)) = ns) (hs : ns.Pairwise fun x y => decide (x ≤ y) = true) : goesM p now L = ns := by
 unfold goesM
 rw [hc, if_pos rfl, hp, hg, sortL_id hs]
def fiveE : List En := [⟨[49], [97], 0, 0⟩, ⟨[50], [97], 5, 0⟩, ⟨[51], [97], 95, 0⟩, ⟨[52], [97], 150, 0⟩, ⟨[53], [97], 199, 0⟩]
theorem goes1 : Lib.join (goesM ⟨2, 1, 0⟩ 9 twoE) [32] = [48, 48, 48, 48, 48, 48, 48, 48, 48, 55, 45, 48, 48, 48, 48] := by
 rw [goesM_of ⟨2, 1, 0⟩ 9 twoE [[97, 47, 98]] [[48, 48, 48, 48, 48, 48, 48, 48, 48, 55, 45, 48, 48, 48, 48]] (by decide +kernel) (by decide +kernel) (by decide +kernel) (by decide +kernel)]
 decide +kernel
theorem goes2 : Lib.join (goesM ⟨3, 0, 0⟩ 200 fiveE) [32] = [51] := by
 rw [goesM_of ⟨3, 0, 0⟩ 200 fiveE [[97]] [[51]] (by decide +kernel) (by decide +kernel) (by decide +kernel) (by decide +kernel)]
 decide +kernel
end Go.Proofs.YtabidnlbgdecbaaGreatDoor
