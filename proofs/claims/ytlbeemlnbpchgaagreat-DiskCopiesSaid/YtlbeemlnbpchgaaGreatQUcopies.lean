/- The law DiskCopies, proved: whatever was done to a disk, its copy goes on as it does, also behind a crash, and neither of them knows of what is done to the other. No conditions beyond the row's. -/
import Derived.Test.YtlbeemlnbpchgaaGreatQT
import Derived.Test.YtlbeemlnbpchgaaGreatQZE
/- The law DiskCopies, proved: whatever was done to a disk, its copy goes on as it does, also behind a crash, and neither of them knows of what is done to the other. No conditions beyond the row's. -/
namespace Go.Proofs.YtlbeemlnbpchgaaGreat
open Go.ChangeShapes Go.WideShapes Go.ChangeAt Go.ChangeMaps Go.WideElems Go.RowKit Go.Deep
set_option maxRecDepth 100000 in
theorem dcopies_lifted (os : Os) (started : os.Started) (H : Type) (enc : TypeId × Value → H) :
    ReturnsInHanded {} Tryz.checked os 4 .any (Rows.diskCopiesSpec.pre6 enc Tryz.prog Tryz.f4 [] false) (Rows.diskCopiesSpec.post enc Tryz.prog Tryz.f4 false true false false) := by
  refine returnsInHanded_of_change_shaped (C := Tryz.checked) ownK started (by kernel_rfl) Tryz.func4
    (ChangeSpec.witness6 (enc := enc) (C := Tryz.checked) false ⟨#[], #[.slice none 0 0, .slice none 0 0, .slice none 0 0], []⟩ 40 (by kernel_rfl) (by kernel_rfl) (by kernel_rfl) (by kernel_rfl)) ?_
  intro W base args ds gs before hval0 hW _ hreach hsh _
  have hval : ∀ (j : Nat) t v, Tryz.f4.params[j]? = some t → args[j]? = some v → Value.okWide Tryz.prog W .any base t v := hval0
  have hW' := hW
  obtain ⟨p, q, hA0, hV, rfl, hfz, hnd⟩ := hW
  have hA : DataW.TrodAll enc Tryz.prog W 0 (fun _ => true) true Tryz.f4.params.toList args.toList ds p := hA0
  rw [Tryz.params4] at hA hval
  obtain ⟨v0, v1, v2, d0, d1, d2, p0, p1, p2, rfl, rfl, rfl, h0, h1, h2⟩ := trodAll_three hA
  obtain ⟨rfl, rfl⟩ := trodVars_none hV
  obtain ⟨A0, n0, cap0, bb0, off0, xs0, rfl, hI0, hn0⟩ := open_acts (hval 0 22 v0 rfl rfl) h0 (fun z hz => of_decide_eq_true (List.all_eq_true.1 hreach z (DataW.weights_mem_each (j := 0) (t := 22) (d := d0) (by rw [Tryz.params4]; rfl) (by rfl) z hz)))
  obtain ⟨A1, n1, cap1, bb1, off1, xs1, rfl, hI1, hn1⟩ := open_acts (hval 1 22 v1 rfl rfl) h1 (fun z hz => of_decide_eq_true (List.all_eq_true.1 hreach z (DataW.weights_mem_each (j := 1) (t := 22) (d := d1) (by rw [Tryz.params4]; rfl) (by rfl) z hz)))
  obtain ⟨A2, cap2, ks2, g2, off2, rfl, hk2, hn2⟩ := open_picks (hval 2 31 v2 rfl rfl) h2
  have hlt : ∀ x ∈ (p0 ++ p1 ++ p2) ++ [], x.block < W.heap.size := fun x hx => hW'.lt x hx
  refine (copies_any W hI0 hI1 hk2 (Gd.shaped hsh) hn0 hn1 hn2).mono fun e W' ⟨he, hb⟩ => ?_
  subst he
  refine ⟨_, rfl, post_law (pa := p0 ++ (p1 ++ p2)) rfl rfl hW' rfl hb ?_⟩
  rw [Tryz.params4]
  exact trodAll_mk3 (Below.trod laidOut (by kernel_rfl) (of_decide_eq_true (by kernel_rfl)) h0 hb (fun x hx => hlt x (by simp [hx]))) (Below.trod laidOut (by kernel_rfl) (of_decide_eq_true (by kernel_rfl)) h1 hb (fun x hx => hlt x (by simp [hx]))) (Below.trod laidOut (by kernel_rfl) (of_decide_eq_true (by kernel_rfl)) h2 hb (fun x hx => hlt x (by simp [hx])))
/-- THE STATEMENT. -/
theorem dcopies_holds : Rows.DiskCopiesSaid :=
  OpenClaim.holds_of_wide 4 Tryz.f4 rfl rfl rfl rfl rfl rfl rfl ⟨rfl, rfl, rfl, rfl, rfl⟩ rfl rfl rfl rfl rfl (by kernel_rfl) Tryz.func4 (by kernel_rfl)
    (of_decide_eq_true (by kernel_rfl)) (by unfold Func.isWrapper; first | (rw [if_pos (by decide +kernel)]; kernel_rfl) | (rw [if_neg (by decide +kernel)]; exact ⟨rfl, rfl⟩))
    (fun os started H enc _ => dcopies_lifted os started H enc)
#print axioms dcopies_holds
end Go.Proofs.YtlbeemlnbpchgaaGreat
