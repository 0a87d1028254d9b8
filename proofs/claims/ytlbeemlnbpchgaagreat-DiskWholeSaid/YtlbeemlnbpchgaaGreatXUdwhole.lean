/- The law DiskWhole, proved: whatever is done to a disk, each node's parent is a directory, all paths may be and rise, and what is used is what the nodes use, within the room. No conditions beyond the row's. -/
import Derived.Test.YtlbeemlnbpchgaaGreatXT
import Derived.Test.YtlbeemlnbpchgaaGreatXJ
namespace Go.Proofs.YtlbeemlnbpchgaaGreat
open Go.ChangeShapes Go.WideShapes Go.ChangeAt Go.ChangeMaps Go.WideElems Go.RowKit Go.Deep
set_option maxRecDepth 100000 in
theorem dwhole_lifted (os : Os) (started : os.Started) (H : Type) (enc : TypeId × Value → H) :
    ReturnsInHanded {} Tryz.checked os 7 .any (Rows.diskWholeSpec.pre6 enc Tryz.prog Tryz.f7 [] false) (Rows.diskWholeSpec.post enc Tryz.prog Tryz.f7 false true false false) := by
  refine returnsInHanded_of_change_shaped (C := Tryz.checked) ownK started (by kernel_rfl) Tryz.func7
    (ChangeSpec.witness6 (enc := enc) (C := Tryz.checked) false ⟨#[], #[.slice none 0 0], []⟩ 40 (by kernel_rfl) (by kernel_rfl) (by kernel_rfl) (by kernel_rfl)) ?_
  intro W base args ds gs before hval0 hW _ hreach hsh _
  have hval : ∀ (j : Nat) t v, Tryz.f7.params[j]? = some t → args[j]? = some v → Value.okWide Tryz.prog W .any base t v := hval0
  have hW' := hW
  obtain ⟨p, q, hA0, hV, rfl, hfz, hnd⟩ := hW
  have hA : DataW.TrodAll enc Tryz.prog W 0 (fun _ => true) true Tryz.f7.params.toList args.toList ds p := hA0
  rw [Tryz.params7] at hA hval
  obtain ⟨v0, d0, rfl, rfl, h0⟩ := trodAll_one hA
  obtain ⟨rfl, rfl⟩ := trodVars_none hV
  obtain ⟨A0, n0, cap0, bb0, off0, xs0, rfl, hI0, hn0⟩ := open_acts (hval 0 22 v0 rfl rfl) h0 (fun z hz => of_decide_eq_true (List.all_eq_true.1 hreach z (DataW.weights_mem_each (j := 0) (t := 22) (d := d0) (by rw [Tryz.params7]; rfl) (by rfl) z hz)))
  have hlt : ∀ x ∈ p ++ [], x.block < W.heap.size := fun x hx => hW'.lt x hx
  refine (whole_any W hI0 (Gd.shaped hsh) hn0).mono fun e W' ⟨he, hb⟩ => ?_
  subst he
  refine ⟨_, rfl, post_law (pa := p) rfl rfl hW' rfl hb ?_⟩
  rw [Tryz.params7]
  exact trodAll_mk1 (Below.trod laidOut (by kernel_rfl) (of_decide_eq_true (by kernel_rfl)) h0 hb (fun x hx => hlt x (by simp [hx])))
/-- THE STATEMENT. -/
theorem dwhole_holds : Rows.DiskWholeSaid :=
  OpenClaim.holds_of_wide 7 Tryz.f7 rfl rfl rfl rfl rfl rfl rfl ⟨rfl, rfl, rfl, rfl, rfl⟩ rfl rfl rfl rfl rfl (by kernel_rfl) Tryz.func7 (by kernel_rfl)
    (of_decide_eq_true (by kernel_rfl)) (by unfold Func.isWrapper; first | (rw [if_pos (by decide +kernel)]; kernel_rfl) | (rw [if_neg (by decide +kernel)]; exact ⟨rfl, rfl⟩))
    (fun os started H enc _ => dwhole_lifted os started H enc)
#print axioms dwhole_holds
end Go.Proofs.YtlbeemlnbpchgaaGreat
