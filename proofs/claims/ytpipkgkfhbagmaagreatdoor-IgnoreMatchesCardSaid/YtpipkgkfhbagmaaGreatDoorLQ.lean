/- The laws of files of patterns: few, files that come in. No conditions. -/
import Derived.Test.YtpipkgkfhbagmaaGreatDoorLM
namespace Go.Proofs.YtpipkgkfhbagmaaGreatDoor.Glob
open Go.RowKit Go.Maps
/-- The first six files, cut. -/
def fewL (fs : Fl) : Fl := (fs.take 6).map fun f => (f.1.take 40, f.2.take 600)
theorem fewL_len (fs : Fl) : (fewL fs).length ≤ 6 := by unfold fewL; simp; omega
theorem fewL_name (fs : Fl) : ∀ i (hi : i < (fewL fs).length), (fewL fs)[i].1.length ≤ 100000 := by
  intro i hi
  unfold fewL at hi ⊢
  simp only [List.getElem_map, List.length_take]
  omega
theorem fewL_text (fs : Fl) : ∀ i (hi : i < (fewL fs).length), (fewL fs)[i].2.length ≤ 100000 := by
  intro i hi
  unfold fewL at hi ⊢
  simp only [List.getElem_map, List.length_take]
  omega
theorem infoText : (Tryz.prog.info? 51).map (fun i => (i.zero, i.size, i.bytes)) = some (some (.agg #[.string ⟨#[]⟩, .string ⟨#[]⟩]), 2, 32) := by kernel_rfl
/-- Files that come in, wherever they lie. -/
structure FilesAt (w : World) (A : Option Addr) (n bb off : Nat) (fs : Fl) : Prop where
  len : fs.length = n
  src : 0 < n → A = some ⟨bb, off, none⟩ ∧ bb < w.heap.size
  at_ : ∀ i (hi : i < fs.length), w.cell? ⟨bb, off + i * 2, none⟩ = some (.string (ba fs[i].1)) ∧ w.cell? ⟨bb, off + i * 2 + 1, none⟩ = some (.string (ba fs[i].2))
  ok : ∀ i (hi : i < fs.length), fs[i].1.length ≤ maxLen ∧ fs[i].2.length ≤ maxLen
theorem FilesAt.stays {w w' : World} {A : Option Addr} {n bb off : Nat} {fs : Fl} (h : FilesAt w A n bb off fs) (hb : Below w.heap.size w w') : FilesAt w' A n bb off fs := by
  refine ⟨h.len, fun h0 => ⟨(h.src h0).1, Nat.lt_of_lt_of_le (h.src h0).2 hb.size⟩, fun i hi => ?_, h.ok⟩
  have k := (h.src (by rw [← h.len]; omega)).2
  exact ⟨(hb.cell (p := ⟨bb, off + i * 2, none⟩) k).trans (h.at_ i hi).1, (hb.cell (p := ⟨bb, off + i * 2 + 1, none⟩) k).trans (h.at_ i hi).2⟩
theorem append_file {B : Nat} {w : World} {v : Value} {fs : Fl} {f : By × By} {g : Nat} (h : w.ownsRow B 51 2 v fs.length (fcells fs)) (hg : Has w g 51 #[.string (ba f.1), .string (ba f.2)]) (hn : fs.length ≤ 1000) (hB : B ≤ w.heap.size) (ty : TypeId) :
    ∃ v' w', (Builtin.append_ #[22, 22] ty #[v, .slice (some ⟨g, 0, none⟩) 1 1]).run Tryz.prog w = .ok v' w' ∧ w'.ownsRow B 51 2 v' (fs ++ [f]).length (fcells (fs ++ [f])) ∧ w.grownBy w' v.ownBlock := by
  obtain ⟨i0, hi, hz0, hz1, hz2⟩ := info_parts infoText
  obtain ⟨v', w', hr, h1, h2, h3, h4⟩ := append_old (w := w) (B := B) (t := 22) (ty := ty) Tryz.underlying22 hi hz0 hz1 hz2 rfl (by omega) h (a := ⟨g, 0, none⟩) (m := 1) (c := 1) (news := [.string (ba f.1), .string (ba f.2)]) rfl (fun j u hj => by
    match j, hj with
    | 0, hj => simp at hj; subst hj; exact hg.at_ 0
    | 1, hj => simp at hj; subst hj; exact hg.at_ 1
    | j + 2, hj => simp at hj) (fun u hu => by simp only [List.mem_cons, List.not_mem_nil, or_false] at hu; rcases hu with rfl | rfl <;> rfl) (by omega) (by omega) hB
  refine ⟨v', w', hr, ?_, h3⟩
  have e : fcells (fs ++ [f]) = fcells fs ++ [.string (ba f.1), .string (ba f.2)] := by simp [fcells]
  rw [List.length_append, e]; exact h1
section
variable {ops : Array Oper} {S : World → Prop} {o : Oper} {a : Act}
theorem step_buildF {w : World} {K : Act → World → Prop} {Q : Exit → Act → World → Prop} {E : Prop} (hw : Region.wanted o (yielded ops a.tmps) = true) (x : Operand) (ho : o.op = .buildSlice 22 1 #[(0, x)]) (s t : ByteArray) (hx : a.eval x = .agg #[.string s, .string t])
    (hK : K (a.put o.dst (.slice (some ⟨w.heap.size, 0, none⟩) 1 1)) (w.alloc (.cells #[.string s, .string t] 51))) : if Region.wanted o (yielded ops a.tmps) = true then Oper.wp Tryz.prog o a w K Q else E := by
  have hI : (Tryz.prog.info? 51).map (fun i => (i.size, i.zero)) = some (2, some (.agg #[.string ⟨#[]⟩, .string ⟨#[]⟩])) := by kernel_rfl
  have hr : (Instr.buildSlice 22 1 #[(0, Value.agg #[.string s, .string t])]).run Tryz.prog w = .ok (.slice (some ⟨w.heap.size, 0, none⟩) 1 1) (w.alloc (.cells #[.string s, .string t] 51)) := by
    cases hie : Tryz.prog.info? 51 with
    | none => rw [hie] at hI; cases hI
    | some ie =>
      rw [hie] at hI
      simp only [Option.map_some, Option.some.injEq, Prod.mk.injEq] at hI
      refine run_buildSlice (P := Tryz.prog) w 22 51 1 _ _ ie _ Tryz.underlying22 hie hI.2 (by rw [hI.1]; omega) (by rw [hI.1]; omega) ?_
      rw [hI.1]
      refine (Great.fill_whole (s := 2) (by omega) [Value.agg #[.string s, .string t]] _ (fun v hv => ?_) (by simp)).trans (by simp [Value.cells])
      simp only [List.mem_singleton] at hv
      subst hv
      rfl
  rw [if_pos hw]
  unfold Oper.wp
  simp only [execOp, ho, hx, Sem.run_bind, List.map_toArray, List.map_cons, List.map_nil, hr, Result.andThen]
  exact hK
end
theorem few_take {fs : Fl} {k : Nat} (hk : k < fs.length) (_h6 : k < 6) : (fs.take (k + 1)).map (fun f : By × By => (f.1.take 40, f.2.take 600)) = (fs.take k).map (fun f : By × By => (f.1.take 40, f.2.take 600)) ++ [(fs[k].1.take 40, fs[k].2.take 600)] := by
  rw [List.take_succ_eq_append_getElem hk, List.map_append]; rfl
set_option maxRecDepth 100000 in
set_option maxHeartbeats 4000000 in
theorem few_any (A : Option Addr) (n cp bb off : Nat) (fs : Fl) (w : World) (hf : FilesAt w A n bb off fs) (hn : n ≤ maxLen) :
    Calls Tryz.prog 5 #[.slice A n cp] w fun e w' => (∃ v, e = .returned v ∧ FilesIs w' v (fewL fs)) ∧ Below w.heap.size w w' := by
  have HF := hid hf
  have hnl : n ≤ 9223372036854775807 := by unfold maxLen at hn; omega
  clear hf hn
  go_enter Tryz.func5, Tryz.ntmps5
  go_wp2
  go_loopw [3, 4] (fun l i wr => ∃ (k : Nat) (Al : Option Addr) (cl : Nat), i = .int .i64 (k : Int) ∧ l = .slice Al k cl ∧ k ≤ n ∧ k ≤ 6 ∧ Hid (wr.ownsRow w.heap.size 51 2 (.slice Al k cl) ((fs.take k).map (fun f : By × By => (f.1.take 40, f.2.take 600))).length (fcells ((fs.take k).map (fun f : By × By => (f.1.take 40, f.2.take 600))))) ∧ Hid (Below w.heap.size w wr))
    (fun _ i _ => 6 - (intOf i).toNat)
  case atStart => exact ⟨0, none, 0, rfl, rfl, Nat.zero_le _, by omega, World.ownsRow_nil _ _ _ _, Below.refl _ _⟩
  case round =>
    obtain ⟨k, Al, cl, rfl, rfl, hk, hk6, HA, HB⟩ := hrel
    by_cases hlt : k < n
    · by_cases h6 : k < 6
      · have hlt2 : k < fs.length := by rw [HF.out.len]; exact hlt
        obtain ⟨hA, hbb⟩ := HF.out.src (by omega)
        subst hA
        have c0 := (HB.out.cell (p := ⟨bb, off + k * 2, none⟩) hbb).trans (HF.out.at_ k hlt2).1
        have c1 := (HB.out.cell (p := ⟨bb, off + k * 2 + 1, none⟩) hbb).trans (HF.out.at_ k hlt2).2
        obtain ⟨b1, b2⟩ := HF.out.ok k hlt2
        have hkn : (k : Int) < (n : Int) := by omega
        have hki : (k : Int) < 6 := by omega
        obtain ⟨m1, hm1⟩ : ∃ m, min fs[k].1.length 40 = m := ⟨_, rfl⟩
        obtain ⟨m2, hm2⟩ : ∃ m, min fs[k].2.length 600 = m := ⟨_, rfl⟩
        have i1 : min (fs[k].1.length : Int) 40 = (m1 : Int) := by omega
        have i2 : min (fs[k].2.length : Int) 600 = (m2 : Int) := by omega
        have l1 : (m1 : Int) ≤ (fs[k].1.length : Int) := by omega
        have l2 : (m2 : Int) ≤ (fs[k].2.length : Int) := by omega
        have t1 : fs[k].1.take m1 = fs[k].1.take 40 := by rw [← hm1, Nat.min_comm, List.take_eq_take_iff]; omega
        have t2 : fs[k].2.take m2 = fs[k].2.take 600 := by rw [← hm2, Nat.min_comm, List.take_eq_take_iff]; omega
        have e1 := ba_take fs[k].1 m1
        have e2 := ba_take fs[k].2 m2
        rw [t1] at e1
        rw [t2] at e2
        have q1 := ba_size fs[k].1
        have q2 := ba_size fs[k].2
        have HFT := hid (few_take hlt2 h6)
        have HM := hid (⟨l1, l2, i1, i2, q1, q2, b1, b2⟩ : (m1 : Int) ≤ (fs[k].1.length : Int) ∧ (m2 : Int) ≤ (fs[k].2.length : Int) ∧ min (fs[k].1.length : Int) 40 = (m1 : Int) ∧ min (fs[k].2.length : Int) 600 = (m2 : Int) ∧ (ba fs[k].1).size = fs[k].1.length ∧ (ba fs[k].2).size = fs[k].2.length ∧ fs[k].1.length ≤ maxLen ∧ fs[k].2.length ≤ maxLen)
        obtain ⟨Wa, hWa⟩ : ∃ Wa, wr.alloc (.cells #[.string (ba fs[k].1), .string (ba fs[k].2)] 51) = Wa := ⟨_, rfl⟩
        have hba : Below wr.heap.size wr Wa := hWa ▸ (Below.refl _ _).alloc (Nat.le_refl _) _
        have HBA := hid (HB.out.thenG hba)
        have HXA : Hid (Has Wa wr.heap.size 51 #[.string (ba fs[k].1), .string (ba fs[k].2)]) := hWa ▸ Has.fresh _ _ _
        have HAA := hid (own_below HA.out hba)
        generalize fs[k].1.take 40 = u1 at e1 HFT t1
        generalize fs[k].2.take 600 = u2 at e2 HFT t2
        generalize fs[k].1.length = n1 at *
        generalize fs[k].2.length = n2 at *
        obtain ⟨X1, hX1⟩ : ∃ X, ba fs[k].1 = X := ⟨_, rfl⟩
        obtain ⟨X2, hX2⟩ : ∃ X, ba fs[k].2 = X := ⟨_, rfl⟩
        rw [hX1] at c0 e1 q1 HXA hWa HM
        rw [hX2] at c1 e2 q2 HXA hWa HM
        clear hba hbb t1 t2 hm1 hm2 hX1 hX2
        go_wp2_with (fail)
        refine wp_region_noPanic ?_
        refine wp_region_held_drew (S := fun U => Has U wr.heap.size 51 #[.string X1, .string X2]) (by kernel_rfl) (HXA.out) (fun hS => ?_)
        refine wpAnyH_take (i := 0) (v := ?_) (by simp only [List.getElem?_toArray, List.getElem?_cons_zero]; rfl) (by kernel_rfl) (by kernel_rfl) (by kernel_rfl) (fun _ _ _ h => h) (Or.inl ⟨by rfl, ?_⟩) (by assumption) ?_
        rotate_left 1
        · intro w hSw
          have d0 := hSw.at_ 0
          have d1 := hSw.at_ 1
          go_simp
          with_reducible rfl
        simp only [Act.put, List.setIfInBounds_toArray, List.set_cons_zero, List.set_cons_succ]
        refine wpAnyH_take (i := 1) (v := ?_) (by simp only [List.getElem?_toArray, List.getElem?_cons_zero, List.getElem?_cons_succ]; rfl) (by kernel_rfl) (by kernel_rfl) (by kernel_rfl) (fun _ _ _ h => h) (Or.inl ⟨by rfl, ?_⟩) (by assumption) ?_
        rotate_left 1
        · intro w hSw
          have d0 := hSw.at_ 0
          have d1 := hSw.at_ 1
          go_simp
          with_reducible rfl
        simp only [Act.put, List.setIfInBounds_toArray, List.set_cons_zero, List.set_cons_succ]
        refine wpAnyH_take (i := 2) (v := ?_) (by simp only [List.getElem?_toArray, List.getElem?_cons_zero, List.getElem?_cons_succ]; rfl) (by kernel_rfl) (by kernel_rfl) (by kernel_rfl) (fun _ _ _ h => h) (Or.inl ⟨by rfl, ?_⟩) (by assumption) ?_
        rotate_left 1
        · intro w hSw
          have d0 := hSw.at_ 0
          have d1 := hSw.at_ 1
          go_simp
          with_reducible rfl
        simp only [Act.put, List.setIfInBounds_toArray, List.set_cons_zero, List.set_cons_succ]
        refine wpAnyH_take (i := 3) (v := ?_) (by simp only [List.getElem?_toArray, List.getElem?_cons_zero, List.getElem?_cons_succ]; rfl) (by kernel_rfl) (by kernel_rfl) (by kernel_rfl) (fun _ _ _ h => h) (Or.inl ⟨by rfl, ?_⟩) (by assumption) ?_
        rotate_left 1
        · intro w hSw
          have d0 := hSw.at_ 0
          have d1 := hSw.at_ 1
          go_simp
          with_reducible rfl
        simp only [Act.put, List.setIfInBounds_toArray, List.set_cons_zero, List.set_cons_succ]
        refine wpAnyH_take (i := 4) (v := ?_) (by simp only [List.getElem?_toArray, List.getElem?_cons_zero, List.getElem?_cons_succ]; rfl) (by kernel_rfl) (by kernel_rfl) (by kernel_rfl) (fun _ _ _ h => h) (Or.inl ⟨by rfl, ?_⟩) (by assumption) ?_
        rotate_left 1
        · intro w hSw
          have d0 := hSw.at_ 0
          have d1 := hSw.at_ 1
          go_simp
          with_reducible rfl
        simp only [Act.put, List.setIfInBounds_toArray, List.set_cons_zero, List.set_cons_succ]
        refine wpAnyH_take (i := 5) (v := ?_) (by simp only [List.getElem?_toArray, List.getElem?_cons_zero, List.getElem?_cons_succ]; rfl) (by kernel_rfl) (by kernel_rfl) (by kernel_rfl) (fun _ _ _ h => h) (Or.inl ⟨by rfl, ?_⟩) (by assumption) ?_
        rotate_left 1
        · intro w hSw
          have d0 := hSw.at_ 0
          have d1 := hSw.at_ 1
          go_simp
          with_reducible rfl
        simp only [Act.put, List.setIfInBounds_toArray, List.set_cons_zero, List.set_cons_succ]
        refine wpAnyH_take (i := 6) (v := ?_) (by simp only [List.getElem?_toArray, List.getElem?_cons_zero, List.getElem?_cons_succ]; rfl) (by kernel_rfl) (by kernel_rfl) (by kernel_rfl) (fun _ _ _ h => h) (Or.inl ⟨by rfl, ?_⟩) (by assumption) ?_
        rotate_left 1
        · intro w hSw
          have d0 := hSw.at_ 0
          have d1 := hSw.at_ 1
          go_simp
          with_reducible rfl
        simp only [Act.put, List.setIfInBounds_toArray, List.set_cons_zero, List.set_cons_succ]
        refine wpAnyH_take (i := 7) (v := ?_) (by simp only [List.getElem?_toArray, List.getElem?_cons_zero, List.getElem?_cons_succ]; rfl) (by kernel_rfl) (by kernel_rfl) (by kernel_rfl) (fun _ _ _ h => h) (Or.inl ⟨by rfl, ?_⟩) (by assumption) ?_
        rotate_left 1
        · intro w hSw
          have d0 := hSw.at_ 0
          have d1 := hSw.at_ 1
          go_simp
          with_reducible rfl
        simp only [Act.put, List.setIfInBounds_toArray, List.set_cons_zero, List.set_cons_succ]
        refine wpAnyH_take (i := 8) (v := ?_) (by simp only [List.getElem?_toArray, List.getElem?_cons_zero, List.getElem?_cons_succ]; rfl) (by kernel_rfl) (by kernel_rfl) (by kernel_rfl) (fun _ _ _ h => h) (Or.inl ⟨by rfl, ?_⟩) (by assumption) ?_
        rotate_left 1
        · intro w hSw
          have d0 := hSw.at_ 0
          have d1 := hSw.at_ 1
          go_simp
          with_reducible rfl
        simp only [Act.put, List.setIfInBounds_toArray, List.set_cons_zero, List.set_cons_succ]
        refine wpAnyH_take (i := 9) (v := ?_) (by simp only [List.getElem?_toArray, List.getElem?_cons_zero, List.getElem?_cons_succ]; rfl) (by kernel_rfl) (by kernel_rfl) (by kernel_rfl) (fun _ _ _ h => h) (Or.inl ⟨by rfl, ?_⟩) (by assumption) ?_
        rotate_left 1
        · intro w hSw
          have d0 := hSw.at_ 0
          have d1 := hSw.at_ 1
          go_simp
          with_reducible rfl
        simp only [Act.put, List.setIfInBounds_toArray, List.set_cons_zero, List.set_cons_succ]
        refine wpAnyH_take (i := 10) (v := ?_) (by simp only [List.getElem?_toArray, List.getElem?_cons_zero, List.getElem?_cons_succ]; rfl) (by kernel_rfl) (by kernel_rfl) (by kernel_rfl) (fun _ _ _ h => h) (Or.inl ⟨by rfl, ?_⟩) (by assumption) ?_
        rotate_left 1
        · intro w hSw
          have d0 := hSw.at_ 0
          have d1 := hSw.at_ 1
          go_simp
          with_reducible rfl
        simp only [Act.put, List.setIfInBounds_toArray, List.set_cons_zero, List.set_cons_succ]
        refine wpAnyH_take (i := 11) (v := ?_) (by simp only [List.getElem?_toArray, List.getElem?_cons_zero, List.getElem?_cons_succ]; rfl) (by kernel_rfl) (by kernel_rfl) (by kernel_rfl) (fun _ _ _ h => h) (Or.inl ⟨by rfl, ?_⟩) (by assumption) ?_
        rotate_left 1
        · intro w hSw
          have d0 := hSw.at_ 0
          have d1 := hSw.at_ 1
          go_simp
          with_reducible rfl
        simp only [Act.put, List.setIfInBounds_toArray, List.set_cons_zero, List.set_cons_succ]
        refine wpAnyH_take (i := 12) (v := ?_) (by simp only [List.getElem?_toArray, List.getElem?_cons_zero, List.getElem?_cons_succ]; rfl) (by kernel_rfl) (by kernel_rfl) (by kernel_rfl) (fun _ _ _ h => h) (Or.inl ⟨by rfl, ?_⟩) (by assumption) ?_
        rotate_left 1
        · intro w hSw
          have d0 := hSw.at_ 0
          have d1 := hSw.at_ 1
          go_simp
          with_reducible rfl
        simp only [Act.put, List.setIfInBounds_toArray, List.set_cons_zero, List.set_cons_succ]
        refine wpAnyH_take (i := 13) (v := ?_) (by simp only [List.getElem?_toArray, List.getElem?_cons_zero, List.getElem?_cons_succ]; rfl) (by kernel_rfl) (by kernel_rfl) (by kernel_rfl) (fun _ _ _ h => h) (Or.inl ⟨by rfl, ?_⟩) (by assumption) ?_
        rotate_left 1
        · intro w hSw
          have d0 := hSw.at_ 0
          have d1 := hSw.at_ 1
          go_simp
          with_reducible rfl
        simp only [Act.put, List.setIfInBounds_toArray, List.set_cons_zero, List.set_cons_succ]
        refine wpAnyH_take (i := 14) (v := ?_) (by simp only [List.getElem?_toArray, List.getElem?_cons_zero, List.getElem?_cons_succ]; rfl) (by kernel_rfl) (by kernel_rfl) (by kernel_rfl) (fun _ _ _ h => h) (Or.inl ⟨by rfl, ?_⟩) (by assumption) ?_
        rotate_left 1
        · intro w hSw
          have d0 := hSw.at_ 0
          have d1 := hSw.at_ 1
          go_simp
          with_reducible rfl
        simp only [Act.put, List.setIfInBounds_toArray, List.set_cons_zero, List.set_cons_succ]
        refine wpAnyH_take (i := 15) (v := ?_) (by simp only [List.getElem?_toArray, List.getElem?_cons_zero, List.getElem?_cons_succ]; rfl) (by kernel_rfl) (by kernel_rfl) (by kernel_rfl) (fun _ _ _ h => h) (Or.inl ⟨by rfl, ?_⟩) (by assumption) ?_
        rotate_left 1
        · intro w hSw
          have d0 := hSw.at_ 0
          have d1 := hSw.at_ 1
          go_simp
          with_reducible rfl
        simp only [Act.put, List.setIfInBounds_toArray, List.set_cons_zero, List.set_cons_succ]
        refine wpAnyH_ready (rs := [16]) (by kernel_rfl) (by simp) ?_
        refine AllReadyH.cons (by simp only [List.getElem?_toArray, List.getElem?_cons_zero, List.getElem?_cons_succ]; rfl) (fun K hK => ?_) (AllReadyH.nil)
        refine step_buildF (by rfl) (.tmp 35) rfl (ba u1) (ba u2) rfl ?_
        generalize hWb : World.alloc _ _ = Wb
        have BB : Hid (Below Wa.heap.size Wa Wb) := by rw [← hWb]; exact ((Below.refl _ _).drew).alloc (Nat.le_refl _) _
        have HNG : Hid (Has Wb Wa.drew.heap.size 51 #[.string (ba u1), .string (ba u2)]) := by rw [← hWb]; exact Has.fresh Wa.drew 51 _
        clear hWb
        have hzb : Has Wb wr.heap.size 51 #[.string X1, .string X2] := HXA.out.stays BB.out
        refine hK.out _ _ hzb (fun hS => ?_)
        clear hK K hS
        obtain ⟨v', w5, hr5, ha5, hg5⟩ := append_file (f := (u1, u2)) (own_below HAA.out BB.out) HNG.out (by simp; omega) (Nat.le_trans HBA.out.size BB.out.size) 22
        have HR5 := hid hr5
        rw [← HFT.out] at ha5
        have HA5 := hid ha5
        have HB5 : Hid (Below w.heap.size w w5) := grown_below hg5 (HBA.out.thenG BB.out) (fun j hj => (own_inside HAA.out j hj).1) (Nat.le_trans HBA.out.size BB.out.size)
        have hlk : ((fs.take (k + 1)).map (fun f : By × By => (f.1.take 40, f.2.take 600))).length = k + 1 := by simp; omega
        obtain ⟨A5, c5, hv5⟩ := own_form ha5
        rw [hlk] at hv5
        subst hv5
        have hz5 : Has w5 wr.heap.size 51 #[.string X1, .string X2] := (hg5.block _ hzb.inside (fun e => by have h0 := (own_inside HA.out _ e.symm).2; omega)).trans hzb
        clear hr5 ha5 hg5 hlk
        refine wpAnyH_ready (rs := [17]) (by kernel_rfl) (by simp) ?_
        refine AllReadyH.cons (by simp only [List.getElem?_toArray, List.getElem?_cons_zero, List.getElem?_cons_succ]; rfl) (fun K hK => ?_) (AllReadyH.nil)
        refine step_append_run rfl (.tmp 20) (.tmp 36) 22 22 rfl (.slice Al k cl) (.slice (some ⟨Wa.drew.heap.size, 0, none⟩) 1 1) rfl rfl HR5.out ?_
        refine hK.out _ _ hz5 (fun hS => ?_)
        clear hK K hS
        refine wpAnyH_take (i := 18) (v := ?_) (by simp only [List.getElem?_toArray, List.getElem?_cons_zero, List.getElem?_cons_succ]; rfl) (by kernel_rfl) (by kernel_rfl) (by kernel_rfl) (fun _ _ _ h => h) (Or.inl ⟨by rfl, ?_⟩) (by assumption) ?_
        rotate_left 1
        · intro w hSw
          go_simp
          with_reducible rfl
        simp only [Act.put, List.setIfInBounds_toArray, List.set_cons_zero, List.set_cons_succ]
        refine wpAnyH_done (by kernel_rfl) ?_ _
        refine NoPanic.normal ?_
        go_wp2
        exact ⟨⟨k + 1, A5, c5, by go_num, rfl, by omega, by omega, HA5.out, HB5.out⟩, by simp [intOf]; omega⟩
      · have hk3 : k = 6 := by omega
        have HE : Hid (fewL fs = (fs.take k).map (fun f : By × By => (f.1.take 40, f.2.take 600))) := by show _ = _; rw [hk3]; rfl
        have hki : ¬ ((k : Int) < 6) := by omega
        clear hk3 h6
        go_wp2
        go_ret
        refine ⟨⟨_, rfl, ?_⟩, HB.out⟩
        unfold FilesIs
        rw [HE.out]
        exact own_mono HA.out (Nat.zero_le _)
    · have HE : Hid (fewL fs = (fs.take k).map (fun f : By × By => (f.1.take 40, f.2.take 600))) := by
        show _ = _
        have h1 : fs.length = k := by have := HF.out.len; omega
        unfold fewL
        rw [List.take_of_length_le (by omega), List.take_of_length_le (by omega)]
      go_wp2
      go_ret
      refine ⟨⟨_, rfl, ?_⟩, HB.out⟩
      unfold FilesIs
      rw [HE.out]
      exact own_mono HA.out (Nat.zero_le _)
end Go.Proofs.YtpipkgkfhbagmaaGreatDoor.Glob
