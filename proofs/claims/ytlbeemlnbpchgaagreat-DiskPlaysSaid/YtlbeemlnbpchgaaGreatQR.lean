/- Several texts in one: TF. Conditions: those said at each. -/
import Derived.Test.YtlbeemlnbpchgaaGreatQQ
/- do: an act done to a disk. Conditions: a small act whose numbers fit; fewer than a hundred thousand effects. -/
namespace Go.Proofs.YtlbeemlnbpchgaaGreat
open Go.RowKit Go.Maps
theorem iAct : (Tryz.prog.info? 33).map (·.size) = some 7 := by kernel_rfl
theorem load_act {w : World} {g : Nat} {cs : Array Value} (hg : Has w g 33 cs) (hs : cs.size = 7) : (loadVar 33 ⟨g, 0, none⟩).run Tryz.prog w = .ok (.agg cs) w :=
  run_loadVar_row (P := Tryz.prog) w g 33 33 _ (0, 0) _ hg Tryz.underlying33 rfl (by rw [hs]; exact iAct)
/-- What do answers: the act's answer, the disk as it is then. -/
def DoP (w0 : World) (q : Nat) (ds : List Th) (r : Int × Mo) (e : Ending) (w' : World) : Prop := e = .returned (.int .i64 r.1) ∧ Lv w0 w' (.d q (r.2) :: ds)
theorem post_has {own : Nat → Prop} {w1 w2 : World} {q : Nat} {K : Mo} (hp : DPost own w1 q K w2) {b : Nat} {t : TypeId} {cs : Array Value} (hb : Has w1 b t cs) (hn : ¬ own b) : Has w2 b t cs := by
  obtain ⟨own', _, hu, _⟩ := hp
  exact (hu.block b hb.inside hn).trans hb
theorem act_eff (M : Mo) (x : ActT) (y : Eff) (h : effOf x = some y) : actM M x = doM M y := by unfold actM; rw [h]
theorem eff_1 {x : ActT} (h : doK x = 1) : effOf x = some (.write x.p (dataL x) x.time) := by unfold effOf; rw [if_pos h]
theorem eff_2 {x : ActT} (h : doK x = 2) : effOf x = some (.append x.p (dataL x)) := by unfold effOf; rw [h]; rfl
theorem eff_3 {x : ActT} (h : doK x = 3) : effOf x = some (.mkdir x.p) := by unfold effOf; rw [h]; rfl
theorem eff_4 {x : ActT} (h : doK x = 4) : effOf x = some (.link x.p (dataL x) x.time) := by unfold effOf; rw [h]; rfl
theorem eff_5 {x : ActT} (h : doK x = 5) : effOf x = some (.rename x.p x.q) := by unfold effOf; rw [h]; rfl
theorem eff_6 {x : ActT} (h : doK x = 6) : effOf x = some (.remove x.p) := by unfold effOf; rw [h]; rfl
theorem eff_no {x : ActT} (h1 : doK x ≠ 1) (h2 : doK x ≠ 2) (h3 : doK x ≠ 3) (h4 : doK x ≠ 4) (h5 : doK x ≠ 5) (h6 : doK x ≠ 6) : effOf x = none := by
  unfold effOf; rw [if_neg h1, if_neg h2, if_neg h3, if_neg h4, if_neg h5, if_neg h6]
theorem act_7 (M : Mo) {x : ActT} (h : doK x = 7) : actM M x = (0, crashM M (nats x.ks)) := by
  have : effOf x = none := by unfold effOf; rw [h]; rfl
  unfold actM; rw [this]; simp only; rw [if_pos h]
theorem act_8 (M : Mo) {x : ActT} (h : doK x = 8) : actM M x = fuseM M x.long := by
  have : effOf x = none := by unfold effOf; rw [h]; rfl
  unfold actM; rw [this]; simp only; rw [h]; rfl
theorem act_9 (M : Mo) {x : ActT} (h1 : doK x ≠ 1) (h2 : doK x ≠ 2) (h3 : doK x ≠ 3) (h4 : doK x ≠ 4) (h5 : doK x ≠ 5) (h6 : doK x ≠ 6) (h7 : doK x ≠ 7) (h8 : doK x ≠ 8) : actM M x = syncM M := by
  unfold actM; rw [eff_no h1 h2 h3 h4 h5 h6]; simp only; rw [if_neg h7, if_neg h8]
theorem small_of {x : ActT} (h : smallB x = true) : x.p.length + x.q.length ≤ 1000 ∧ x.text.length ≤ 10000 := by
  unfold smallB at h
  simpa using h
set_option maxRecDepth 100000 in
set_option maxHeartbeats 8000000 in
theorem lDo {w0 w : World} {q0 : Nat} {M : Mo} {ds : List Th} (h : Lv w0 w (.d q0 M :: ds)) (hG : Gd w0) (x : ActT) (hx : ActOk x) (hsm : smallB x = true) (hpk : Pk w x.pA x.ks x.pg x.po) (hpl : 0 < x.ks.length → x.pg < w0.heap.size) (hlen : M.since.length + 1 ≤ 100000) :
    Calls Tryz.prog 12 #[.pointer (some ⟨q0, 0, none⟩), .agg (actCells x)] w fun e w' => DoP w0 q0 ds (actM M x) e w' := by
  obtain ⟨hs1, hs2⟩ := small_of hsm
  have HDL := hid (dataL_len x)
  have HXO := hid hx
  have HXE1 := hid (fun h => act_eff M x _ (eff_1 (x := x) h))
  have HXE2 := hid (fun h => act_eff M x _ (eff_2 (x := x) h))
  have HXE3 := hid (fun h => act_eff M x _ (eff_3 (x := x) h))
  have HXE4 := hid (fun h => act_eff M x _ (eff_4 (x := x) h))
  have HXE5 := hid (fun h => act_eff M x _ (eff_5 (x := x) h))
  have HXE6 := hid (fun h => act_eff M x _ (eff_6 (x := x) h))
  have HXE7 := hid (fun h => act_7 M (x := x) h)
  have HXE8 := hid (fun h => act_8 M (x := x) h)
  have HXE9 := hid (fun h1 h2 h3 h4 h5 h6 h7 h8 => act_9 M (x := x) h1 h2 h3 h4 h5 h6 h7 h8)
  obtain ⟨r, HR⟩ : ∃ r, Hid (actM M x = r) := ⟨_, rfl⟩
  rw [HR.out] at HXE1 HXE2 HXE3 HXE4 HXE5 HXE6 HXE7 HXE8 HXE9 ⊢
  obtain ⟨D, HD⟩ : ∃ D, Hid (dataL x = D) := ⟨_, rfl⟩
  have CD : Hid (∀ W, Gd W → Calls Tryz.prog 44 #[.agg (actCells x)] W fun e w' => e = .returned (kS D) ∧ Below W.heap.size W w') := fun W hg => by rw [← HD.out]; exact data_any x hx W hg
  rw [HD.out] at HXE1 HXE2 HXE4 HDL
  obtain ⟨d, hd⟩ : ∃ d, doK x = d := ⟨_, rfl⟩
  rw [hd] at HXE1 HXE2 HXE3 HXE4 HXE5 HXE6 HXE7 HXE8 HXE9
  obtain ⟨dO, p, q, text, long, time, pA, pc, ks, pg, po⟩ := x
  simp only at hs1 hs2 hpk hpl HXE1 HXE2 HXE3 HXE4 HXE5 HXE6 HXE7 HXE8
  replace hd : bits BinOp.and IntKind.i64 dO 15 = d := hd
  have HHD := hid hd
  have HP : Hid (p.length ≤ 4000) := by show _ ≤ _; omega
  have HQ : Hid (q.length ≤ 4000) := by show _ ≤ _; omega
  have HL1 : Hid (long ≤ 9223372036854775807) := hx.l1
  have HKL : Hid (ks.length ≤ 9223372036854775807) := by show _ ≤ _; have h := hx.ks; simp only at h; unfold maxLen at h; omega
  have HLEN := hid hlen
  have B1 : Hid (Below w.heap.size w (w.alloc (.cells #[.int .i64 dO, kS p, kS q, kS text, .int .i64 long, .int .i64 time, .slice pA ks.length pc] 33))) := (Below.refl _ _).alloc (Nat.le_refl _) _
  have X1 : Hid (Has (w.alloc (.cells #[.int .i64 dO, kS p, kS q, kS text, .int .i64 long, .int .i64 time, .slice pA ks.length pc] 33)) w.heap.size 33 #[.int .i64 dO, kS p, kS q, kS text, .int .i64 long, .int .i64 time, .slice pA ks.length pc]) := Has.fresh _ _ _
  have L1 := hid (h.on B1.out)
  have HPK := hid (hpk.on B1.out)
  have HPL := hid hpl
  have HG := hid hG
  have HLV := hid h
  have HCD : Hid (∀ W, Gd W → Calls Tryz.prog 44 #[.agg #[.int .i64 dO, kS p, kS q, kS text, .int .i64 long, .int .i64 time, .slice pA ks.length pc]] W fun e w' => e = .returned (kS D) ∧ Below W.heap.size W w') := CD.out
  clear h hG hx hsm hpk hpl hs1 hs2 hlen CD
  show Calls Tryz.prog 12 #[.pointer (some ⟨q0, 0, none⟩), .agg #[.int .i64 dO, kS p, kS q, kS text, .int .i64 long, .int .i64 time, .slice pA ks.length pc]] w _
  by_cases n1 : d = 1
  ·
    have q1 : (d == 1) = true := by simpa using n1
    have HF := hid (HXE1.out n1)
    clear n1
    clear HXE1 HXE2 HXE3 HXE4 HXE5 HXE6 HXE7 HXE8 HXE9 HR HD HXO
    obtain ⟨own, h1, h3, h2⟩ := HLV.out.step
    have D0 := hid h1
    have H2 := hid h2
    have NO : Hid (¬ own w.heap.size) := fun k => by have := h1.low _ k; omega
    have X1d : Hid (Has (w.alloc (.cells #[.int .i64 dO, kS p, kS q, kS text, .int .i64 long, .int .i64 time, .slice pA ks.length pc] 33)).drew w.heap.size 33 #[.int .i64 dO, kS p, kS q, kS text, .int .i64 long, .int .i64 time, .slice pA ks.length pc]) := X1.out
    have B1d := hid B1.out.drew
    have HGd := hid ((HLV.out.gd HG.out).kept B1d.out)
    have c0 : (w.alloc (.cells #[.int .i64 dO, kS p, kS q, kS text, .int .i64 long, .int .i64 time, .slice pA ks.length pc] 33)).cell? ⟨w.heap.size, 0, none⟩ = some (.int .i64 dO) := X1.out.at_ 0
    clear h1 h2 h3
    go_enter Tryz.func12, Tryz.ntmps12
    go_wp2
    refine wp_region_noPanic ?_
    refine wp_region_held_drew (S := fun W => Has W w.heap.size 33 #[.int .i64 dO, kS p, kS q, kS text, .int .i64 long, .int .i64 time, .slice pA ks.length pc]) (by kernel_rfl) (X1d.out) (fun hS => ?_)
    refine wpAnyH_take (i := 0) (v := ?_) (by simp only [List.getElem?_toArray, List.getElem?_cons_zero]; rfl) (by kernel_rfl) (by kernel_rfl) (by kernel_rfl) (fun _ _ _ h => h) (Or.inl ⟨by rfl, ?_⟩) (by assumption) ?_
    rotate_left 1
    · intro w hSw
      have c1 := hSw.at_ 1
      have c5 := hSw.at_ 5
      go_simp
      with_reducible rfl
    simp only [Act.put, List.setIfInBounds_toArray, List.set_cons_zero, List.set_cons_succ]
    refine wpAnyH_take (i := 1) (v := ?_) (by simp only [List.getElem?_toArray, List.getElem?_cons_zero, List.getElem?_cons_succ]; rfl) (by kernel_rfl) (by kernel_rfl) (by kernel_rfl) (fun _ _ _ h => h) (Or.inl ⟨by rfl, ?_⟩) (by assumption) ?_
    rotate_left 1
    · intro w hSw
      have c1 := hSw.at_ 1
      have c5 := hSw.at_ 5
      go_simp
      with_reducible rfl
    simp only [Act.put, List.setIfInBounds_toArray, List.set_cons_zero, List.set_cons_succ]
    refine wpAnyH_take (i := 2) (v := ?_) (by simp only [List.getElem?_toArray, List.getElem?_cons_zero, List.getElem?_cons_succ]; rfl) (by kernel_rfl) (by kernel_rfl) (by kernel_rfl) (fun _ _ _ h => h) (Or.inl ⟨by rfl, ?_⟩) (by assumption) ?_
    rotate_left 1
    · intro w hSw
      have c1 := hSw.at_ 1
      have c5 := hSw.at_ 5
      go_simp
      with_reducible rfl
    simp only [Act.put, List.setIfInBounds_toArray, List.set_cons_zero, List.set_cons_succ]
    refine' wpAnyH_take (i := 3) (v := _) (by simp only [List.getElem?_toArray, List.getElem?_cons_zero, List.getElem?_cons_succ]; rfl) (by kernel_rfl) (by kernel_rfl) (by kernel_rfl) (fun _ _ _ h => h) (yields_loadA (by rfl) 33 (.tmp 3) rfl w.heap.size 0 rfl #[.int .i64 dO, kS p, kS q, kS text, .int .i64 long, .int .i64 time, .slice pA ks.length pc] (fun w hSw => load_act hSw rfl)) (by assumption) ?_
    simp only [Act.put, List.setIfInBounds_toArray, List.set_cons_zero, List.set_cons_succ]
    refine wpAnyH_take (i := 5) (v := ?_) (by simp only [List.getElem?_toArray, List.getElem?_cons_zero, List.getElem?_cons_succ]; rfl) (by kernel_rfl) (by kernel_rfl) (by kernel_rfl) (fun _ _ _ h => h) (Or.inl ⟨by rfl, ?_⟩) (by assumption) ?_
    rotate_left 1
    · intro w hSw
      have c1 := hSw.at_ 1
      have c5 := hSw.at_ 5
      go_simp
      with_reducible rfl
    simp only [Act.put, List.setIfInBounds_toArray, List.set_cons_zero, List.set_cons_succ]
    refine wpAnyH_take (i := 6) (v := ?_) (by simp only [List.getElem?_toArray, List.getElem?_cons_zero, List.getElem?_cons_succ]; rfl) (by kernel_rfl) (by kernel_rfl) (by kernel_rfl) (fun _ _ _ h => h) (Or.inl ⟨by rfl, ?_⟩) (by assumption) ?_
    rotate_left 1
    · intro w hSw
      have c1 := hSw.at_ 1
      have c5 := hSw.at_ 5
      go_simp
      with_reducible rfl
    simp only [Act.put, List.setIfInBounds_toArray, List.set_cons_zero, List.set_cons_succ]
    refine wpAnyH_ready (rs := [4]) (by kernel_rfl) (by simp) ?_
    refine AllReadyH.cons (by simp only [List.getElem?_toArray, List.getElem?_cons_zero, List.getElem?_cons_succ]; rfl) (fun K hK => ?_) AllReadyH.nil
    go_simp
    refine (HCD.out _ (HGd.out)).mono ?_
    rintro e1 w1 ⟨rfl, hb1⟩
    have HB1 := hid hb1
    have BD1 := hid (B1d.out.trans (hb1.mono B1d.out.size))
    have HG1 := hid (HGd.out.kept hb1)
    clear hb1
    have hz1 := X1d.out.kept HB1.out X1d.out.inside
    refine hK.out _ _ hz1 (fun hS => ?_)
    clear hK K hS
    have HZ1 := hid hz1
    refine wpAnyH_ready (rs := [7]) (by kernel_rfl) (by simp) ?_
    refine AllReadyH.cons (by simp only [List.getElem?_toArray, List.getElem?_cons_zero, List.getElem?_cons_succ]; rfl) (fun K hK => ?_) AllReadyH.nil
    go_simp
    refine (dWrite_any (D0.out.on BD1.out) HG1.out p D time HP.out (by have := HDL.out; omega) HLEN.out).mono ?_
    rintro e2 w2 ⟨rfl, hl2⟩
    have P2 := hid (H2.out _ _ (DPost.ahead BD1.out hl2))
    have hz2 := post_has hl2 HZ1.out NO.out
    refine hK.out _ _ hz2 (fun hS => ?_)
    clear hK K hS
    refine wpAnyH_take (i := 8) (v := ?_) (by simp only [List.getElem?_toArray, List.getElem?_cons_zero, List.getElem?_cons_succ]; rfl) (by kernel_rfl) (by kernel_rfl) (by kernel_rfl) (fun _ _ _ h => h) (Or.inl ⟨by rfl, ?_⟩) (by assumption) ?_
    rotate_left 1
    · intro w hSw
      have c1 := hSw.at_ 1
      have c5 := hSw.at_ 5
      go_simp
      with_reducible rfl
    simp only [Act.put, List.setIfInBounds_toArray, List.set_cons_zero, List.set_cons_succ]
    refine wpAnyH_done (by kernel_rfl) ?_ _
    refine NoPanic.normal ?_
    go_wp2
    go_ret
    rw [HF.out]
    exact ⟨rfl, P2.out⟩
  by_cases n2 : d = 2
  ·
    have q1 : (d == 1) = false := by simpa using n1
    have q2 : (d == 2) = true := by simpa using n2
    have HF := hid (HXE2.out n2)
    clear n1 n2
    clear HXE1 HXE2 HXE3 HXE4 HXE5 HXE6 HXE7 HXE8 HXE9 HR HD HXO
    obtain ⟨own, h1, h3, h2⟩ := HLV.out.step
    have D0 := hid h1
    have H2 := hid h2
    have NO : Hid (¬ own w.heap.size) := fun k => by have := h1.low _ k; omega
    have X1d : Hid (Has (w.alloc (.cells #[.int .i64 dO, kS p, kS q, kS text, .int .i64 long, .int .i64 time, .slice pA ks.length pc] 33)).drew w.heap.size 33 #[.int .i64 dO, kS p, kS q, kS text, .int .i64 long, .int .i64 time, .slice pA ks.length pc]) := X1.out
    have B1d := hid B1.out.drew
    have HGd := hid ((HLV.out.gd HG.out).kept B1d.out)
    have c0 : (w.alloc (.cells #[.int .i64 dO, kS p, kS q, kS text, .int .i64 long, .int .i64 time, .slice pA ks.length pc] 33)).cell? ⟨w.heap.size, 0, none⟩ = some (.int .i64 dO) := X1.out.at_ 0
    clear h1 h2 h3
    go_enter Tryz.func12, Tryz.ntmps12
    go_wp2
    refine wp_region_noPanic ?_
    refine wp_region_held_drew (S := fun W => Has W w.heap.size 33 #[.int .i64 dO, kS p, kS q, kS text, .int .i64 long, .int .i64 time, .slice pA ks.length pc]) (by kernel_rfl) (X1d.out) (fun hS => ?_)
    refine wpAnyH_take (i := 0) (v := ?_) (by simp only [List.getElem?_toArray, List.getElem?_cons_zero]; rfl) (by kernel_rfl) (by kernel_rfl) (by kernel_rfl) (fun _ _ _ h => h) (Or.inl ⟨by rfl, ?_⟩) (by assumption) ?_
    rotate_left 1
    · intro w hSw
      have c1 := hSw.at_ 1
      have c5 := hSw.at_ 5
      go_simp
      with_reducible rfl
    simp only [Act.put, List.setIfInBounds_toArray, List.set_cons_zero, List.set_cons_succ]
    refine wpAnyH_take (i := 1) (v := ?_) (by simp only [List.getElem?_toArray, List.getElem?_cons_zero, List.getElem?_cons_succ]; rfl) (by kernel_rfl) (by kernel_rfl) (by kernel_rfl) (fun _ _ _ h => h) (Or.inl ⟨by rfl, ?_⟩) (by assumption) ?_
    rotate_left 1
    · intro w hSw
      have c1 := hSw.at_ 1
      have c5 := hSw.at_ 5
      go_simp
      with_reducible rfl
    simp only [Act.put, List.setIfInBounds_toArray, List.set_cons_zero, List.set_cons_succ]
    refine wpAnyH_take (i := 2) (v := ?_) (by simp only [List.getElem?_toArray, List.getElem?_cons_zero, List.getElem?_cons_succ]; rfl) (by kernel_rfl) (by kernel_rfl) (by kernel_rfl) (fun _ _ _ h => h) (Or.inl ⟨by rfl, ?_⟩) (by assumption) ?_
    rotate_left 1
    · intro w hSw
      have c1 := hSw.at_ 1
      have c5 := hSw.at_ 5
      go_simp
      with_reducible rfl
    simp only [Act.put, List.setIfInBounds_toArray, List.set_cons_zero, List.set_cons_succ]
    refine' wpAnyH_take (i := 3) (v := _) (by simp only [List.getElem?_toArray, List.getElem?_cons_zero, List.getElem?_cons_succ]; rfl) (by kernel_rfl) (by kernel_rfl) (by kernel_rfl) (fun _ _ _ h => h) (yields_loadA (by rfl) 33 (.tmp 3) rfl w.heap.size 0 rfl #[.int .i64 dO, kS p, kS q, kS text, .int .i64 long, .int .i64 time, .slice pA ks.length pc] (fun w hSw => load_act hSw rfl)) (by assumption) ?_
    simp only [Act.put, List.setIfInBounds_toArray, List.set_cons_zero, List.set_cons_succ]
    refine wpAnyH_ready (rs := [4]) (by kernel_rfl) (by simp) ?_
    refine AllReadyH.cons (by simp only [List.getElem?_toArray, List.getElem?_cons_zero, List.getElem?_cons_succ]; rfl) (fun K hK => ?_) AllReadyH.nil
    go_simp
    refine (HCD.out _ (HGd.out)).mono ?_
    rintro e1 w1 ⟨rfl, hb1⟩
    have HB1 := hid hb1
    have BD1 := hid (B1d.out.trans (hb1.mono B1d.out.size))
    have HG1 := hid (HGd.out.kept hb1)
    clear hb1
    have hz1 := X1d.out.kept HB1.out X1d.out.inside
    refine hK.out _ _ hz1 (fun hS => ?_)
    clear hK K hS
    have HZ1 := hid hz1
    refine wpAnyH_ready (rs := [5]) (by kernel_rfl) (by simp) ?_
    refine AllReadyH.cons (by simp only [List.getElem?_toArray, List.getElem?_cons_zero, List.getElem?_cons_succ]; rfl) (fun K hK => ?_) AllReadyH.nil
    go_simp
    refine (dAppend_any (D0.out.on BD1.out) HG1.out p D HP.out (by have := HDL.out; omega) HLEN.out).mono ?_
    rintro e2 w2 ⟨rfl, hl2⟩
    have P2 := hid (H2.out _ _ (DPost.ahead BD1.out hl2))
    have hz2 := post_has hl2 HZ1.out NO.out
    refine hK.out _ _ hz2 (fun hS => ?_)
    clear hK K hS
    refine wpAnyH_take (i := 6) (v := ?_) (by simp only [List.getElem?_toArray, List.getElem?_cons_zero, List.getElem?_cons_succ]; rfl) (by kernel_rfl) (by kernel_rfl) (by kernel_rfl) (fun _ _ _ h => h) (Or.inl ⟨by rfl, ?_⟩) (by assumption) ?_
    rotate_left 1
    · intro w hSw
      have c1 := hSw.at_ 1
      have c5 := hSw.at_ 5
      go_simp
      with_reducible rfl
    simp only [Act.put, List.setIfInBounds_toArray, List.set_cons_zero, List.set_cons_succ]
    refine wpAnyH_done (by kernel_rfl) ?_ _
    refine NoPanic.normal ?_
    go_wp2
    go_ret
    rw [HF.out]
    exact ⟨rfl, P2.out⟩
  by_cases n3 : d = 3
  ·
    have q1 : (d == 1) = false := by simpa using n1
    have q2 : (d == 2) = false := by simpa using n2
    have q3 : (d == 3) = true := by simpa using n3
    have HF := hid (HXE3.out n3)
    clear n1 n2 n3
    clear HXE1 HXE2 HXE3 HXE4 HXE5 HXE6 HXE7 HXE8 HXE9 HR HD HXO
    have c0 : (w.alloc (.cells #[.int .i64 dO, kS p, kS q, kS text, .int .i64 long, .int .i64 time, .slice pA ks.length pc] 33)).cell? ⟨w.heap.size, 0, none⟩ = some (.int .i64 dO) := X1.out.at_ 0
    have c1 : (w.alloc (.cells #[.int .i64 dO, kS p, kS q, kS text, .int .i64 long, .int .i64 time, .slice pA ks.length pc] 33)).cell? ⟨w.heap.size, 1, none⟩ = some (kS p) := X1.out.at_ 1
    have c2 : (w.alloc (.cells #[.int .i64 dO, kS p, kS q, kS text, .int .i64 long, .int .i64 time, .slice pA ks.length pc] 33)).cell? ⟨w.heap.size, 2, none⟩ = some (kS q) := X1.out.at_ 2
    have c4 : (w.alloc (.cells #[.int .i64 dO, kS p, kS q, kS text, .int .i64 long, .int .i64 time, .slice pA ks.length pc] 33)).cell? ⟨w.heap.size, 4, none⟩ = some (.int .i64 long) := X1.out.at_ 4
    have c6 : (w.alloc (.cells #[.int .i64 dO, kS p, kS q, kS text, .int .i64 long, .int .i64 time, .slice pA ks.length pc] 33)).cell? ⟨w.heap.size, 6, none⟩ = some (.slice pA ks.length pc) := X1.out.at_ 6
    go_enter Tryz.func12, Tryz.ntmps12
    go_wp2_with fail
    refine (lMkdir L1.out HG.out p HP.out HLEN.out).mono ?_; rintro e1 w1 ⟨rfl, hl1⟩
    have P2 := hid hl1
    clear hl1
    go_wp2
    go_ret
    rw [HF.out]
    exact ⟨rfl, P2.out⟩
  by_cases n4 : d = 4
  ·
    have q1 : (d == 1) = false := by simpa using n1
    have q2 : (d == 2) = false := by simpa using n2
    have q3 : (d == 3) = false := by simpa using n3
    have q4 : (d == 4) = true := by simpa using n4
    have HF := hid (HXE4.out n4)
    clear n1 n2 n3 n4
    clear HXE1 HXE2 HXE3 HXE4 HXE5 HXE6 HXE7 HXE8 HXE9 HR HD HXO
    obtain ⟨own, h1, h3, h2⟩ := HLV.out.step
    have D0 := hid h1
    have H2 := hid h2
    have NO : Hid (¬ own w.heap.size) := fun k => by have := h1.low _ k; omega
    have X1d : Hid (Has (w.alloc (.cells #[.int .i64 dO, kS p, kS q, kS text, .int .i64 long, .int .i64 time, .slice pA ks.length pc] 33)).drew w.heap.size 33 #[.int .i64 dO, kS p, kS q, kS text, .int .i64 long, .int .i64 time, .slice pA ks.length pc]) := X1.out
    have B1d := hid B1.out.drew
    have HGd := hid ((HLV.out.gd HG.out).kept B1d.out)
    have c0 : (w.alloc (.cells #[.int .i64 dO, kS p, kS q, kS text, .int .i64 long, .int .i64 time, .slice pA ks.length pc] 33)).cell? ⟨w.heap.size, 0, none⟩ = some (.int .i64 dO) := X1.out.at_ 0
    clear h1 h2 h3
    go_enter Tryz.func12, Tryz.ntmps12
    go_wp2
    refine wp_region_noPanic ?_
    refine wp_region_held_drew (S := fun W => Has W w.heap.size 33 #[.int .i64 dO, kS p, kS q, kS text, .int .i64 long, .int .i64 time, .slice pA ks.length pc]) (by kernel_rfl) (X1d.out) (fun hS => ?_)
    refine wpAnyH_take (i := 0) (v := ?_) (by simp only [List.getElem?_toArray, List.getElem?_cons_zero]; rfl) (by kernel_rfl) (by kernel_rfl) (by kernel_rfl) (fun _ _ _ h => h) (Or.inl ⟨by rfl, ?_⟩) (by assumption) ?_
    rotate_left 1
    · intro w hSw
      have c1 := hSw.at_ 1
      have c5 := hSw.at_ 5
      go_simp
      with_reducible rfl
    simp only [Act.put, List.setIfInBounds_toArray, List.set_cons_zero, List.set_cons_succ]
    refine wpAnyH_take (i := 1) (v := ?_) (by simp only [List.getElem?_toArray, List.getElem?_cons_zero, List.getElem?_cons_succ]; rfl) (by kernel_rfl) (by kernel_rfl) (by kernel_rfl) (fun _ _ _ h => h) (Or.inl ⟨by rfl, ?_⟩) (by assumption) ?_
    rotate_left 1
    · intro w hSw
      have c1 := hSw.at_ 1
      have c5 := hSw.at_ 5
      go_simp
      with_reducible rfl
    simp only [Act.put, List.setIfInBounds_toArray, List.set_cons_zero, List.set_cons_succ]
    refine wpAnyH_take (i := 2) (v := ?_) (by simp only [List.getElem?_toArray, List.getElem?_cons_zero, List.getElem?_cons_succ]; rfl) (by kernel_rfl) (by kernel_rfl) (by kernel_rfl) (fun _ _ _ h => h) (Or.inl ⟨by rfl, ?_⟩) (by assumption) ?_
    rotate_left 1
    · intro w hSw
      have c1 := hSw.at_ 1
      have c5 := hSw.at_ 5
      go_simp
      with_reducible rfl
    simp only [Act.put, List.setIfInBounds_toArray, List.set_cons_zero, List.set_cons_succ]
    refine' wpAnyH_take (i := 3) (v := _) (by simp only [List.getElem?_toArray, List.getElem?_cons_zero, List.getElem?_cons_succ]; rfl) (by kernel_rfl) (by kernel_rfl) (by kernel_rfl) (fun _ _ _ h => h) (yields_loadA (by rfl) 33 (.tmp 3) rfl w.heap.size 0 rfl #[.int .i64 dO, kS p, kS q, kS text, .int .i64 long, .int .i64 time, .slice pA ks.length pc] (fun w hSw => load_act hSw rfl)) (by assumption) ?_
    simp only [Act.put, List.setIfInBounds_toArray, List.set_cons_zero, List.set_cons_succ]
    refine wpAnyH_take (i := 5) (v := ?_) (by simp only [List.getElem?_toArray, List.getElem?_cons_zero, List.getElem?_cons_succ]; rfl) (by kernel_rfl) (by kernel_rfl) (by kernel_rfl) (fun _ _ _ h => h) (Or.inl ⟨by rfl, ?_⟩) (by assumption) ?_
    rotate_left 1
    · intro w hSw
      have c1 := hSw.at_ 1
      have c5 := hSw.at_ 5
      go_simp
      with_reducible rfl
    simp only [Act.put, List.setIfInBounds_toArray, List.set_cons_zero, List.set_cons_succ]
    refine wpAnyH_take (i := 6) (v := ?_) (by simp only [List.getElem?_toArray, List.getElem?_cons_zero, List.getElem?_cons_succ]; rfl) (by kernel_rfl) (by kernel_rfl) (by kernel_rfl) (fun _ _ _ h => h) (Or.inl ⟨by rfl, ?_⟩) (by assumption) ?_
    rotate_left 1
    · intro w hSw
      have c1 := hSw.at_ 1
      have c5 := hSw.at_ 5
      go_simp
      with_reducible rfl
    simp only [Act.put, List.setIfInBounds_toArray, List.set_cons_zero, List.set_cons_succ]
    refine wpAnyH_ready (rs := [4]) (by kernel_rfl) (by simp) ?_
    refine AllReadyH.cons (by simp only [List.getElem?_toArray, List.getElem?_cons_zero, List.getElem?_cons_succ]; rfl) (fun K hK => ?_) AllReadyH.nil
    go_simp
    refine (HCD.out _ (HGd.out)).mono ?_
    rintro e1 w1 ⟨rfl, hb1⟩
    have HB1 := hid hb1
    have BD1 := hid (B1d.out.trans (hb1.mono B1d.out.size))
    have HG1 := hid (HGd.out.kept hb1)
    clear hb1
    have hz1 := X1d.out.kept HB1.out X1d.out.inside
    refine hK.out _ _ hz1 (fun hS => ?_)
    clear hK K hS
    have HZ1 := hid hz1
    refine wpAnyH_ready (rs := [7]) (by kernel_rfl) (by simp) ?_
    refine AllReadyH.cons (by simp only [List.getElem?_toArray, List.getElem?_cons_zero, List.getElem?_cons_succ]; rfl) (fun K hK => ?_) AllReadyH.nil
    go_simp
    refine (dLink_any (D0.out.on BD1.out) HG1.out p D time HP.out (by have := HDL.out; omega) HLEN.out).mono ?_
    rintro e2 w2 ⟨rfl, hl2⟩
    have P2 := hid (H2.out _ _ (DPost.ahead BD1.out hl2))
    have hz2 := post_has hl2 HZ1.out NO.out
    refine hK.out _ _ hz2 (fun hS => ?_)
    clear hK K hS
    refine wpAnyH_take (i := 8) (v := ?_) (by simp only [List.getElem?_toArray, List.getElem?_cons_zero, List.getElem?_cons_succ]; rfl) (by kernel_rfl) (by kernel_rfl) (by kernel_rfl) (fun _ _ _ h => h) (Or.inl ⟨by rfl, ?_⟩) (by assumption) ?_
    rotate_left 1
    · intro w hSw
      have c1 := hSw.at_ 1
      have c5 := hSw.at_ 5
      go_simp
      with_reducible rfl
    simp only [Act.put, List.setIfInBounds_toArray, List.set_cons_zero, List.set_cons_succ]
    refine wpAnyH_done (by kernel_rfl) ?_ _
    refine NoPanic.normal ?_
    go_wp2
    go_ret
    rw [HF.out]
    exact ⟨rfl, P2.out⟩
  by_cases n5 : d = 5
  ·
    have q1 : (d == 1) = false := by simpa using n1
    have q2 : (d == 2) = false := by simpa using n2
    have q3 : (d == 3) = false := by simpa using n3
    have q4 : (d == 4) = false := by simpa using n4
    have q5 : (d == 5) = true := by simpa using n5
    have HF := hid (HXE5.out n5)
    clear n1 n2 n3 n4 n5
    clear HXE1 HXE2 HXE3 HXE4 HXE5 HXE6 HXE7 HXE8 HXE9 HR HD HXO
    have c0 : (w.alloc (.cells #[.int .i64 dO, kS p, kS q, kS text, .int .i64 long, .int .i64 time, .slice pA ks.length pc] 33)).cell? ⟨w.heap.size, 0, none⟩ = some (.int .i64 dO) := X1.out.at_ 0
    have c1 : (w.alloc (.cells #[.int .i64 dO, kS p, kS q, kS text, .int .i64 long, .int .i64 time, .slice pA ks.length pc] 33)).cell? ⟨w.heap.size, 1, none⟩ = some (kS p) := X1.out.at_ 1
    have c2 : (w.alloc (.cells #[.int .i64 dO, kS p, kS q, kS text, .int .i64 long, .int .i64 time, .slice pA ks.length pc] 33)).cell? ⟨w.heap.size, 2, none⟩ = some (kS q) := X1.out.at_ 2
    have c4 : (w.alloc (.cells #[.int .i64 dO, kS p, kS q, kS text, .int .i64 long, .int .i64 time, .slice pA ks.length pc] 33)).cell? ⟨w.heap.size, 4, none⟩ = some (.int .i64 long) := X1.out.at_ 4
    have c6 : (w.alloc (.cells #[.int .i64 dO, kS p, kS q, kS text, .int .i64 long, .int .i64 time, .slice pA ks.length pc] 33)).cell? ⟨w.heap.size, 6, none⟩ = some (.slice pA ks.length pc) := X1.out.at_ 6
    go_enter Tryz.func12, Tryz.ntmps12
    go_wp2_with fail
    refine (lRename L1.out HG.out p q HP.out HQ.out HLEN.out).mono ?_; rintro e1 w1 ⟨rfl, hl1⟩
    have P2 := hid hl1
    clear hl1
    go_wp2
    go_ret
    rw [HF.out]
    exact ⟨rfl, P2.out⟩
  by_cases n6 : d = 6
  ·
    have q1 : (d == 1) = false := by simpa using n1
    have q2 : (d == 2) = false := by simpa using n2
    have q3 : (d == 3) = false := by simpa using n3
    have q4 : (d == 4) = false := by simpa using n4
    have q5 : (d == 5) = false := by simpa using n5
    have q6 : (d == 6) = true := by simpa using n6
    have HF := hid (HXE6.out n6)
    clear n1 n2 n3 n4 n5 n6
    clear HXE1 HXE2 HXE3 HXE4 HXE5 HXE6 HXE7 HXE8 HXE9 HR HD HXO
    have c0 : (w.alloc (.cells #[.int .i64 dO, kS p, kS q, kS text, .int .i64 long, .int .i64 time, .slice pA ks.length pc] 33)).cell? ⟨w.heap.size, 0, none⟩ = some (.int .i64 dO) := X1.out.at_ 0
    have c1 : (w.alloc (.cells #[.int .i64 dO, kS p, kS q, kS text, .int .i64 long, .int .i64 time, .slice pA ks.length pc] 33)).cell? ⟨w.heap.size, 1, none⟩ = some (kS p) := X1.out.at_ 1
    have c2 : (w.alloc (.cells #[.int .i64 dO, kS p, kS q, kS text, .int .i64 long, .int .i64 time, .slice pA ks.length pc] 33)).cell? ⟨w.heap.size, 2, none⟩ = some (kS q) := X1.out.at_ 2
    have c4 : (w.alloc (.cells #[.int .i64 dO, kS p, kS q, kS text, .int .i64 long, .int .i64 time, .slice pA ks.length pc] 33)).cell? ⟨w.heap.size, 4, none⟩ = some (.int .i64 long) := X1.out.at_ 4
    have c6 : (w.alloc (.cells #[.int .i64 dO, kS p, kS q, kS text, .int .i64 long, .int .i64 time, .slice pA ks.length pc] 33)).cell? ⟨w.heap.size, 6, none⟩ = some (.slice pA ks.length pc) := X1.out.at_ 6
    go_enter Tryz.func12, Tryz.ntmps12
    go_wp2_with fail
    refine (lRemove L1.out HG.out p HP.out HLEN.out).mono ?_; rintro e1 w1 ⟨rfl, hl1⟩
    have P2 := hid hl1
    clear hl1
    go_wp2
    go_ret
    rw [HF.out]
    exact ⟨rfl, P2.out⟩
  by_cases n7 : d = 7
  ·
    have q1 : (d == 1) = false := by simpa using n1
    have q2 : (d == 2) = false := by simpa using n2
    have q3 : (d == 3) = false := by simpa using n3
    have q4 : (d == 4) = false := by simpa using n4
    have q5 : (d == 5) = false := by simpa using n5
    have q6 : (d == 6) = false := by simpa using n6
    have q7 : (d == 7) = true := by simpa using n7
    have HF := hid (HXE7.out n7)
    clear n1 n2 n3 n4 n5 n6 n7
    clear HXE1 HXE2 HXE3 HXE4 HXE5 HXE6 HXE7 HXE8 HXE9 HR HD HXO
    have c0 : (w.alloc (.cells #[.int .i64 dO, kS p, kS q, kS text, .int .i64 long, .int .i64 time, .slice pA ks.length pc] 33)).cell? ⟨w.heap.size, 0, none⟩ = some (.int .i64 dO) := X1.out.at_ 0
    have c1 : (w.alloc (.cells #[.int .i64 dO, kS p, kS q, kS text, .int .i64 long, .int .i64 time, .slice pA ks.length pc] 33)).cell? ⟨w.heap.size, 1, none⟩ = some (kS p) := X1.out.at_ 1
    have c2 : (w.alloc (.cells #[.int .i64 dO, kS p, kS q, kS text, .int .i64 long, .int .i64 time, .slice pA ks.length pc] 33)).cell? ⟨w.heap.size, 2, none⟩ = some (kS q) := X1.out.at_ 2
    have c4 : (w.alloc (.cells #[.int .i64 dO, kS p, kS q, kS text, .int .i64 long, .int .i64 time, .slice pA ks.length pc] 33)).cell? ⟨w.heap.size, 4, none⟩ = some (.int .i64 long) := X1.out.at_ 4
    have c6 : (w.alloc (.cells #[.int .i64 dO, kS p, kS q, kS text, .int .i64 long, .int .i64 time, .slice pA ks.length pc] 33)).cell? ⟨w.heap.size, 6, none⟩ = some (.slice pA ks.length pc) := X1.out.at_ 6
    go_enter Tryz.func12, Tryz.ntmps12
    go_wp2_with fail
    refine (lCrash L1.out HG.out pA ks pc pg po HPK.out HPL.out HKL.out).mono ?_; rintro e1 w1 ⟨rfl, hl1⟩
    have P2 := hid hl1
    clear hl1
    go_wp2
    go_ret
    rw [HF.out]
    exact ⟨rfl, P2.out⟩
  by_cases n8 : d = 8
  ·
    have q1 : (d == 1) = false := by simpa using n1
    have q2 : (d == 2) = false := by simpa using n2
    have q3 : (d == 3) = false := by simpa using n3
    have q4 : (d == 4) = false := by simpa using n4
    have q5 : (d == 5) = false := by simpa using n5
    have q6 : (d == 6) = false := by simpa using n6
    have q7 : (d == 7) = false := by simpa using n7
    have q8 : (d == 8) = true := by simpa using n8
    have HF := hid (HXE8.out n8)
    clear n1 n2 n3 n4 n5 n6 n7 n8
    clear HXE1 HXE2 HXE3 HXE4 HXE5 HXE6 HXE7 HXE8 HXE9 HR HD HXO
    have c0 : (w.alloc (.cells #[.int .i64 dO, kS p, kS q, kS text, .int .i64 long, .int .i64 time, .slice pA ks.length pc] 33)).cell? ⟨w.heap.size, 0, none⟩ = some (.int .i64 dO) := X1.out.at_ 0
    have c1 : (w.alloc (.cells #[.int .i64 dO, kS p, kS q, kS text, .int .i64 long, .int .i64 time, .slice pA ks.length pc] 33)).cell? ⟨w.heap.size, 1, none⟩ = some (kS p) := X1.out.at_ 1
    have c2 : (w.alloc (.cells #[.int .i64 dO, kS p, kS q, kS text, .int .i64 long, .int .i64 time, .slice pA ks.length pc] 33)).cell? ⟨w.heap.size, 2, none⟩ = some (kS q) := X1.out.at_ 2
    have c4 : (w.alloc (.cells #[.int .i64 dO, kS p, kS q, kS text, .int .i64 long, .int .i64 time, .slice pA ks.length pc] 33)).cell? ⟨w.heap.size, 4, none⟩ = some (.int .i64 long) := X1.out.at_ 4
    have c6 : (w.alloc (.cells #[.int .i64 dO, kS p, kS q, kS text, .int .i64 long, .int .i64 time, .slice pA ks.length pc] 33)).cell? ⟨w.heap.size, 6, none⟩ = some (.slice pA ks.length pc) := X1.out.at_ 6
    go_enter Tryz.func12, Tryz.ntmps12
    go_wp2_with fail
    refine (lFuse L1.out long HL1.out).mono ?_; rintro e1 w1 ⟨rfl, hl1⟩
    have P2 := hid hl1
    clear hl1
    go_wp2
    go_ret
    rw [HF.out]
    exact ⟨rfl, P2.out⟩
  have q1 : (d == 1) = false := by simpa using n1
  have q2 : (d == 2) = false := by simpa using n2
  have q3 : (d == 3) = false := by simpa using n3
  have q4 : (d == 4) = false := by simpa using n4
  have q5 : (d == 5) = false := by simpa using n5
  have q6 : (d == 6) = false := by simpa using n6
  have q7 : (d == 7) = false := by simpa using n7
  have q8 : (d == 8) = false := by simpa using n8
  have HF := hid (HXE9.out n1 n2 n3 n4 n5 n6 n7 n8)
  clear n1 n2 n3 n4 n5 n6 n7 n8
  clear HXE1 HXE2 HXE3 HXE4 HXE5 HXE6 HXE7 HXE8 HXE9 HR HD HXO
  have c0 : (w.alloc (.cells #[.int .i64 dO, kS p, kS q, kS text, .int .i64 long, .int .i64 time, .slice pA ks.length pc] 33)).cell? ⟨w.heap.size, 0, none⟩ = some (.int .i64 dO) := X1.out.at_ 0
  have c1 : (w.alloc (.cells #[.int .i64 dO, kS p, kS q, kS text, .int .i64 long, .int .i64 time, .slice pA ks.length pc] 33)).cell? ⟨w.heap.size, 1, none⟩ = some (kS p) := X1.out.at_ 1
  have c2 : (w.alloc (.cells #[.int .i64 dO, kS p, kS q, kS text, .int .i64 long, .int .i64 time, .slice pA ks.length pc] 33)).cell? ⟨w.heap.size, 2, none⟩ = some (kS q) := X1.out.at_ 2
  have c4 : (w.alloc (.cells #[.int .i64 dO, kS p, kS q, kS text, .int .i64 long, .int .i64 time, .slice pA ks.length pc] 33)).cell? ⟨w.heap.size, 4, none⟩ = some (.int .i64 long) := X1.out.at_ 4
  have c6 : (w.alloc (.cells #[.int .i64 dO, kS p, kS q, kS text, .int .i64 long, .int .i64 time, .slice pA ks.length pc] 33)).cell? ⟨w.heap.size, 6, none⟩ = some (.slice pA ks.length pc) := X1.out.at_ 6
  go_enter Tryz.func12, Tryz.ntmps12
  go_wp2_with fail
  refine (lSync L1.out).mono ?_; rintro e1 w1 ⟨rfl, hl1⟩
  have P2 := hid hl1
  clear hl1
  go_wp2
  go_ret
  rw [HF.out]
  exact ⟨rfl, P2.out⟩
end Go.Proofs.YtlbeemlnbpchgaaGreat
