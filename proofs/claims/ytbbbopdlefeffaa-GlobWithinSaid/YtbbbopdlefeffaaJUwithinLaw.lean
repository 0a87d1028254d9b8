/- The law GlobWithin, proved: what lies within what matches matches, and a pattern that is not rooted matches what it matches within anything, for every text, path, and bytes behind and ahead. No conditions beyond the row's. -/
import Derived.Test.YtbbbopdlefeffaaJT
import Derived.Test.YtbbbopdlefeffaaJW
namespace Go.Proofs.Ytbbbopdlefeffaa
open Go.ChangeShapes Go.WideShapes Go.ChangeAt Go.ChangeMaps Go.WideElems Go.RowKit Glob
set_option maxRecDepth 100000 in
theorem withinLaw_lifted (os : Os) (started : os.Started) (H : Type) (enc : TypeId × Value → H) :
    ReturnsInHanded {} Try.checked os 6 .any (Rows.globWithinSpec.pre6 enc Try.prog Try.f6 [] false) (Rows.globWithinSpec.post enc Try.prog Try.f6 false true false false) := by
  refine returnsInHanded_of_change_shaped (C := Try.checked) own started (by kernel_rfl) Try.func6
    (ChangeSpec.witness6 (enc := enc) (C := Try.checked) false ⟨#[], #[.string ⟨#[]⟩, .string ⟨#[]⟩, .string ⟨#[]⟩, .string ⟨#[]⟩], []⟩ 40 (by kernel_rfl) (by kernel_rfl) (by kernel_rfl) (by kernel_rfl)) ?_
  intro W base args ds gs before hval0 hW _ hreach hsh _
  have hval : ∀ (j : Nat) t v, Try.f6.params[j]? = some t → args[j]? = some v → Value.okWide Try.prog W .any base t v := hval0
  have hW' := hW
  obtain ⟨p, q, hA0, hV, rfl, hfz, hnd⟩ := hW
  have hA : DataW.TrodAll enc Try.prog W 0 (fun _ => true) true Try.f6.params.toList args.toList ds p := hA0
  rw [Try.params6] at hA hval
  obtain ⟨v0, v1, v2, v3, d0, d1, d2, d3, p0, p1, p2, p3, rfl, rfl, rfl, h0, h1, h2, h3⟩ := trodAll_four hA
  obtain ⟨rfl, rfl⟩ := trodVars_none hV
  obtain ⟨s0, rfl, hd0, hp0, hm0⟩ := open_string Try.underlying9 (hval 0 9 v0 rfl rfl) h0
  obtain ⟨s1, rfl, hd1, hp1, hm1⟩ := open_string Try.underlying9 (hval 1 9 v1 rfl rfl) h1
  obtain ⟨s2, rfl, hd2, hp2, hm2⟩ := open_string Try.underlying9 (hval 2 9 v2 rfl rfl) h2
  have hz2 : s2.size ≤ 140737488351232 := by
    have h := of_decide_eq_true (List.all_eq_true.1 hreach s2.data.toList.length (DataW.weights_mem_each (j := 2) (t := 9) (d := d2) (by rw [Try.params6]; rfl) (by rfl) _ (by rw [hd2]; simp [DataW.weights])))
    have e : s2.data.toList.length = s2.size := tl_length s2
    unfold reachBytes at h
    omega
  obtain ⟨s3, rfl, hd3, hp3, hm3⟩ := open_string Try.underlying9 (hval 3 9 v3 rfl rfl) h3
  have hz3 : s3.size ≤ 140737488351232 := by
    have h := of_decide_eq_true (List.all_eq_true.1 hreach s3.data.toList.length (DataW.weights_mem_each (j := 3) (t := 9) (d := d3) (by rw [Try.params6]; rfl) (by rfl) _ (by rw [hd3]; simp [DataW.weights])))
    have e : s3.data.toList.length = s3.size := tl_length s3
    unfold reachBytes at h
    omega
  have hlt : ∀ x ∈ (p0 ++ p1 ++ p2 ++ p3) ++ [], x.block < W.heap.size := fun x hx => hW'.lt x hx
  refine (within_law s0 s1 s2 s3 W hz2 hz3).mono fun e W' ⟨he, hb⟩ => ?_
  subst he
  refine ⟨_, rfl, post_law (pa := p0 ++ (p1 ++ (p2 ++ p3))) rfl rfl hW' rfl hb ?_⟩
  rw [Try.params6]
  exact trodAll_mk4 (Below.trod laidOut (by kernel_rfl) (of_decide_eq_true (by kernel_rfl)) h0 hb (fun x hx => hlt x (by simp [hx]))) (Below.trod laidOut (by kernel_rfl) (of_decide_eq_true (by kernel_rfl)) h1 hb (fun x hx => hlt x (by simp [hx]))) (Below.trod laidOut (by kernel_rfl) (of_decide_eq_true (by kernel_rfl)) h2 hb (fun x hx => hlt x (by simp [hx]))) (Below.trod laidOut (by kernel_rfl) (of_decide_eq_true (by kernel_rfl)) h3 hb (fun x hx => hlt x (by simp [hx])))
/-- THE STATEMENT. -/
theorem withinLaw_holds : Rows.GlobWithinSaid :=
  OpenClaim.holds_of_wide 6 Try.f6 rfl rfl rfl rfl rfl rfl rfl ⟨rfl, rfl, rfl, rfl, rfl⟩ rfl rfl rfl rfl rfl (by kernel_rfl) Try.func6 (by kernel_rfl)
    (of_decide_eq_true (by kernel_rfl)) (by unfold Func.isWrapper; first | (rw [if_pos (by decide +kernel)]; kernel_rfl) | (rw [if_neg (by decide +kernel)]; exact ⟨rfl, rfl⟩))
    (fun os started H enc _ => withinLaw_lifted os started H enc)
#print axioms withinLaw_holds
end Go.Proofs.Ytbbbopdlefeffaa
