/- Several texts in one. Conditions: those said at each. -/
import Derived.Test.YtahkcemdbfjilaaGreatDoorWb00
import Derived.Test.YtahkcemdbfjilaaGreatDoorWb30
set_option linter.unusedSimpArgs false
set_option linter.unusedVariables false
set_option maxRecDepth 100000
namespace Go.Proofs.YtahkcemdbfjilaaGreatDoor.Glob
open Go.RowKit Go.Maps
theorem contains_any (B : Nat) (w : World) (v : Value) (within : List By) (name : By) (h : Ar B w v within) (hn : within.length ≤ 100) :
 Calls Tryz.prog 43 #[v, .string (ba name)] w fun e w' => e = .returned (.bool (decide (name ∈ within))) ∧ w = w' := by
 rcases h.2 with ⟨rfl, h0⟩ | ⟨g, c, cur, rfl, hB, h3, h4, h5, h6, h7⟩
 · refine (Tryz.slices_Contains_string_empty none 0 (ba name) w).mono fun e w' ⟨h1, h2⟩ => ⟨?_, h2.symm⟩
   obtain rfl := List.eq_nil_of_length_eq_zero h0
   rw [h1]; rfl
 · have hh : Has w g 9 cur := h3
   refine (Tryz.slices_Contains_string g 0 within.length c (within.map ba) (ba name) w (by simp) (by omega) (fun j hj => ?_)).mono fun e w' ⟨h1, h2⟩ => ⟨?_, h2.symm⟩
   · rw [List.length_map] at hj
     rw [Nat.zero_add, hh.at_, ← Array.getElem?_toList]
     have e : (within.map strV)[j]? = some (strV within[j]) := by simp [hj]
     rw [← h7, List.getElem?_take_of_lt (by omega)] at e
     rw [e]
     simp [strV, hj]
   · rw [h1, List.take_of_length_le (by simp)]
     congr 2
     rw [Bool.eq_iff_iff, Lib.containsS_iff, decide_eq_true_eq, List.mem_map]
     exact ⟨fun ⟨a, h1, h2⟩ => ba_inj h2 ▸ h1, fun h => ⟨name, h, rfl⟩⟩
theorem grown_map {w W : World} {z : Value} {D c : Nat} {f : Value → Option Value} (hm : MapZ w z D c f) (hg : w.grownBy W (some D)) : ∀ (j : Nat) cs t q, w.heap[j]? = some (Obj.cells cs t q) → W.heap[j]? = w.heap[j]? := by
 intro j cs t q hj
 refine hg.block j (Array.getElem?_eq_some_iff.1 hj).1 fun e => ?_
 injection e with e
 obtain ⟨es, ck, h2⟩ := hm.obj
 rw [e, h2] at hj
 cases hj
theorem Fr.of_map {w W : World} {z : Value} {L D c : Nat} {r : Option Nat} {f : Value → Option Value} (hm : MapZ w z D c f) (hg : w.grownBy W (some D)) : Fr L D r w W := by
 refine ⟨hg.size, fun j o ho hc => (hg.block j (Array.getElem?_eq_some_iff.1 ho).1 fun e => ?_).trans ho⟩
 injection e with e
 obtain ⟨es, ck, h2⟩ := hm.obj
 exact hc.2.1 es ck (Option.some.inj ((e ▸ ho).symm.trans h2)) e
theorem Has.map {w W : World} {z : Value} {D c : Nat} {f : Value → Option Value} {g : Nat} {t : TypeId} {cs : Array Value} (h : Has w g t cs) (hm : MapZ w z D c f) (hg : w.grownBy W (some D)) : Has W g t cs := (grown_map hm hg g _ _ _ h).trans h
theorem ListIs.map {w W : World} {z : Value} {B L D c : Nat} {f : Value → Option Value} {ps : List By} (h : ListIs B w L ps) (hm : MapZ w z D c f) (hg : w.grownBy W (some D)) : ListIs B W L ps := by
 obtain ⟨v, h1, gs, h2, h3⟩ := h
 refine ⟨v, h1.map hm hg, gs, own_stays h2 fun k hk => ?_, h3.fr (Fr.of_map (L := L) (r := none) hm hg)⟩
 obtain ⟨cs, q, h4⟩ := own_typed h2 k hk
 exact grown_map hm hg k _ _ _ h4
theorem zero_rd (w : World) : (zeroValue 111).run Tryz.prog w = .ok zR w := by kernel_rfl
theorem findF_mem {fs : Fl} {name t : By} (h : findF fs name = some t) : name ∈ fs.map (·.1) ∧ ∃ k, ∃ hk : k < fs.length, fs[k].2 = t := by
 obtain ⟨k, hk, _, h2⟩ := plF_some h 0
 refine ⟨?_, k, hk, h2⟩
 unfold findF at h
 cases hf : fs.find? (fun f => f.1 == name) with
 | none => rw [hf] at h; cases h
 | some f =>
  have := List.find?_some hf
  have hm := List.mem_of_find?_eq_some hf
  exact List.mem_map.2 ⟨f, hm, by simpa using this⟩
theorem More.part {B : Nat} {w : World} {A : Option Addr} {n c a b : Nat} {ps : List By} (h : Pats B w (.slice A n c) ps) (hn : n = ps.length) (h1 : a ≤ b) (h2 : b ≤ n) : More w (sliced A a b c 1) ((ps.drop a).take (b - a)) ∧ n ≤ c := by
 subst hn
 obtain ⟨gs, ho, hp⟩ := h
 have hl : ((ps.drop a).take (b - a)).length = b - a := by simp; omega
 rcases ho.2 with ⟨h0, hn⟩ | ⟨g, c', cur, h0, hB, h3, h4, h5, h6, h7⟩
 · simp only [Value.slice.injEq] at h0
   obtain ⟨rfl, _, rfl⟩ := h0
   have ha : a = 0 := by omega
   have hb : b = 0 := by omega
   subst ha; subst hb
   refine ⟨⟨[], none, 0, rfl, ?_, fun _ => ⟨rfl, rfl⟩, fun a ha => nomatch ha⟩, by omega⟩
   simp only [Nat.sub_self, List.take_zero]
   exact PtrTo.nil w
 · simp only [Value.slice.injEq, true_and] at h0
   obtain ⟨rfl, rfl⟩ := h0
   refine ⟨⟨(gs.drop a).take (b - a), _, c - a, by unfold sliced; rw [hl], hp.part a (b - a), fun e => ?_, fun ad had j u hj => ?_⟩, h4⟩
   · split at e <;> cases e
   · have hh : Has w g 169 cur := h3
     rw [List.getElem?_map, List.getElem?_take] at hj
     by_cases hjb : j < b - a
     · rw [if_pos hjb, List.getElem?_drop] at hj
       have hac : ¬ (c = a) := by omega
       rw [if_neg hac] at had
       simp only [Option.map_some, Option.some.injEq] at had
       subst had
       have e : (Addr.add (Addr.add ⟨g, 0, none⟩ (a * 1)) j) = ⟨g, a + j, none⟩ := by rw [Addr.add_lit, Addr.add_lit]; simp
       rw [e, hh.at_, ← Array.getElem?_toList]
       rw [← List.getElem?_map, ← h7, List.getElem?_take] at hj
       split at hj
       · exact hj
       · cases hj
     · rw [if_neg hjb] at hj; cases hj
set_option maxHeartbeats 4000000 in
theorem read_none (x : Bx) (fs : Fl) (w0 : World) (k : Nat) (within : List By) (name : By) (ps : List By) (v : Value) (w : World) (hk : within.length + k = 4) (hnm : name.length ≤ 1000000000000000) (he : Env x fs w) (hs : St x fs ps w) (ha : Ar x.B w v within) (_hch : Chain fs within name) (_h64 : ps.length ≤ 64) (hb : Below x.B w0 w) (hf : findF fs name = none) :
 Calls Tryz.prog 42 #[.string (ba name), v, ptrV x.tb, ptrV x.db, ptrV x.lb, ptrV x.fb, ptrV x.rb] w fun e W =>
  Out (readL fs k within name ps) e True (fun qs => St x fs qs W ∧ Ar x.B W v within) ∧ Fr x.L x.D v.ownBlock w W ∧ Below x.B w0 W := by
 have hsz : x.B ≤ w.heap.size := by have := hs.low; obtain ⟨_, q, _⟩ := hs.list; have := q.inside; omega
 obtain ⟨Wa, hWa⟩ : ∃ Wa, w.alloc (.cells #[.string (ba name)] 9) = Wa := ⟨_, rfl⟩
 obtain ⟨W2, hW2⟩ : ∃ W2, Wa.alloc (.cells #[v] 34) = W2 := ⟨_, rfl⟩
 have sa : Wa.heap.size = w.heap.size + 1 := by rw [← hWa]; simp
 have s2 : W2.heap.size = w.heap.size + 2 := by rw [← hW2]; simp [sa]
 have ba1 : Below w.heap.size w Wa := hWa ▸ (Below.refl _ _).alloc (Nat.le_refl _) _
 have b2 : Below w.heap.size w W2 := hW2 ▸ ba1.alloc (by omega) _
 have n2 : Has W2 w.heap.size 9 #[.string (ba name)] := hW2 ▸ (hWa ▸ Has.fresh w 9 _ : Has Wa w.heap.size 9 _).more _
 have v2 : Has W2 (w.heap.size + 1) 34 #[v] := hW2 ▸ Has.fresh' Wa 34 _ sa.symm
 have HE2 := hid (he.below b2)
 have HS2 := hid (hs.below b2)
 have HA2 : Hid (Ar x.B W2 v within) := own_below ha b2
 have HB2 := hid b2
 have HLO : Hid (Below x.B w0 W2) := hb.trans (b2.mono hsz)
 have HSZ := hid hsz
 have HK := hid (str_key name (by unfold maxLen; omega))
 have HLK := hid hs
 obtain ⟨cp, hpl⟩ := HE2.out.places
 have hlook := hpl.lookOk Tryz.underlying101 (zero_int W2) HK.out
 have hct := HE2.out.t.at_ 0
 have hcn := n2.at_ 0
 have hcv := v2.at_ 0
 rw [plF_none hf 0] at hlook
 simp only [Option.getD_none, Option.isSome_none] at hlook
 have HR : Hid (readL fs k within name ps = .error 5) := by show _ = _; cases k <;> (unfold readL; rw [hf])
 have HN2 := hid n2
 have HV2 := hid v2
 obtain ⟨Av, cv, hv⟩ := own_form ha
 obtain ⟨nv, hnv⟩ : ∃ nv, within.length = nv := ⟨_, rfl⟩
 rw [hnv] at hv
 subst hv
 unfold ptrV
 clear he hs ha _hch hb ba1 b2 n2 v2 hpl hf
 go_enter Tryz.func42, Tryz.ntmps42
 go_wp2
 go_ret
 exact ⟨Out.err HR.out rfl (by decide) trivial, Fr.of_below HB2.out, HLO.out⟩
set_option maxHeartbeats 4000000 in
theorem read_busy (x : Bx) (fs : Fl) (w0 : World) (k : Nat) (within : List By) (name : By) (ps : List By) (v : Value) (w : World) (hk : within.length + k = 4) (hnm : name.length ≤ 1000000000000000) (he : Env x fs w) (hs : St x fs ps w) (ha : Ar x.B w v within) (_hch : Chain fs within name) (_h64 : ps.length ≤ 64) (hb : Below x.B w0 w) (t : By) (hf : findF fs name = some t) (hm : name ∈ within) :
 Calls Tryz.prog 42 #[.string (ba name), v, ptrV x.tb, ptrV x.db, ptrV x.lb, ptrV x.fb, ptrV x.rb] w fun e W =>
  Out (readL fs k within name ps) e True (fun qs => St x fs qs W ∧ Ar x.B W v within) ∧ Fr x.L x.D v.ownBlock w W ∧ Below x.B w0 W := by
 have hsz : x.B ≤ w.heap.size := by have := hs.low; obtain ⟨_, q, _⟩ := hs.list; have := q.inside; omega
 obtain ⟨Wa, hWa⟩ : ∃ Wa, w.alloc (.cells #[.string (ba name)] 9) = Wa := ⟨_, rfl⟩
 obtain ⟨W2, hW2⟩ : ∃ W2, Wa.alloc (.cells #[v] 34) = W2 := ⟨_, rfl⟩
 have sa : Wa.heap.size = w.heap.size + 1 := by rw [← hWa]; simp
 have s2 : W2.heap.size = w.heap.size + 2 := by rw [← hW2]; simp [sa]
 have ba1 : Below w.heap.size w Wa := hWa ▸ (Below.refl _ _).alloc (Nat.le_refl _) _
 have b2 : Below w.heap.size w W2 := hW2 ▸ ba1.alloc (by omega) _
 have n2 : Has W2 w.heap.size 9 #[.string (ba name)] := hW2 ▸ (hWa ▸ Has.fresh w 9 _ : Has Wa w.heap.size 9 _).more _
 have v2 : Has W2 (w.heap.size + 1) 34 #[v] := hW2 ▸ Has.fresh' Wa 34 _ sa.symm
 have HE2 := hid (he.below b2)
 have HS2 := hid (hs.below b2)
 have HA2 : Hid (Ar x.B W2 v within) := own_below ha b2
 have HB2 := hid b2
 have HLO : Hid (Below x.B w0 W2) := hb.trans (b2.mono hsz)
 have HSZ := hid hsz
 have HK := hid (str_key name (by unfold maxLen; omega))
 have HLK := hid hs
 obtain ⟨cp, hpl⟩ := HE2.out.places
 have hlook := hpl.lookOk Tryz.underlying101 (zero_int W2) HK.out
 have hct := HE2.out.t.at_ 0
 have hcn := n2.at_ 0
 have hcv := v2.at_ 0
 obtain ⟨j, hj, hpj, hjt⟩ := plF_some hf 0
 rw [hpj] at hlook
 simp only [Option.getD_some, Option.isSome_some, Nat.zero_add] at hlook
 have HCT := hid (contains_any x.B W2 v within name HA2.out (by omega))
 rw [decide_eq_true hm] at HCT
 have HR : Hid (readL fs k within name ps = .error 22) := by show _ = _; cases k <;> (unfold readL; rw [hf]; simp only; rw [if_pos hm])
 have HN2 := hid n2
 have HV2 := hid v2
 obtain ⟨Av, cv, hv⟩ := own_form ha
 obtain ⟨nv, hnv⟩ : ∃ nv, within.length = nv := ⟨_, rfl⟩
 rw [hnv] at hv
 subst hv
 unfold ptrV
 clear he hs ha _hch hb ba1 b2 n2 v2 hpl hf hm hpj hjt hj
 go_enter Tryz.func42, Tryz.ntmps42
 go_wp2_with (go_at_call 43; refine HCT.out.mono ?_; rintro e1 w1 ⟨rfl, rfl⟩)
 go_ret
 exact ⟨Out.err HR.out rfl (by decide) trivial, Fr.of_below HB2.out, HLO.out⟩
set_option maxHeartbeats 4000000 in
theorem read_deep (x : Bx) (fs : Fl) (w0 : World) (k : Nat) (within : List By) (name : By) (ps : List By) (v : Value) (w : World) (hk : within.length + k = 4) (hnm : name.length ≤ 1000000000000000) (he : Env x fs w) (hs : St x fs ps w) (ha : Ar x.B w v within) (_hch : Chain fs within name) (_h64 : ps.length ≤ 64) (hb : Below x.B w0 w) (t : By) (hf : findF fs name = some t) (hm : name ∉ within) (h0 : k = 0) :
 Calls Tryz.prog 42 #[.string (ba name), v, ptrV x.tb, ptrV x.db, ptrV x.lb, ptrV x.fb, ptrV x.rb] w fun e W =>
  Out (readL fs k within name ps) e True (fun qs => St x fs qs W ∧ Ar x.B W v within) ∧ Fr x.L x.D v.ownBlock w W ∧ Below x.B w0 W := by
 have hsz : x.B ≤ w.heap.size := by have := hs.low; obtain ⟨_, q, _⟩ := hs.list; have := q.inside; omega
 obtain ⟨Wa, hWa⟩ : ∃ Wa, w.alloc (.cells #[.string (ba name)] 9) = Wa := ⟨_, rfl⟩
 obtain ⟨W2, hW2⟩ : ∃ W2, Wa.alloc (.cells #[v] 34) = W2 := ⟨_, rfl⟩
 have sa : Wa.heap.size = w.heap.size + 1 := by rw [← hWa]; simp
 have s2 : W2.heap.size = w.heap.size + 2 := by rw [← hW2]; simp [sa]
 have ba1 : Below w.heap.size w Wa := hWa ▸ (Below.refl _ _).alloc (Nat.le_refl _) _
 have b2 : Below w.heap.size w W2 := hW2 ▸ ba1.alloc (by omega) _
 have n2 : Has W2 w.heap.size 9 #[.string (ba name)] := hW2 ▸ (hWa ▸ Has.fresh w 9 _ : Has Wa w.heap.size 9 _).more _
 have v2 : Has W2 (w.heap.size + 1) 34 #[v] := hW2 ▸ Has.fresh' Wa 34 _ sa.symm
 have HE2 := hid (he.below b2)
 have HS2 := hid (hs.below b2)
 have HA2 : Hid (Ar x.B W2 v within) := own_below ha b2
 have HB2 := hid b2
 have HLO : Hid (Below x.B w0 W2) := hb.trans (b2.mono hsz)
 have HSZ := hid hsz
 have HK := hid (str_key name (by unfold maxLen; omega))
 have HLK := hid hs
 obtain ⟨cp, hpl⟩ := HE2.out.places
 have hlook := hpl.lookOk Tryz.underlying101 (zero_int W2) HK.out
 have hct := HE2.out.t.at_ 0
 have hcn := n2.at_ 0
 have hcv := v2.at_ 0
 obtain ⟨j, hj, hpj, hjt⟩ := plF_some hf 0
 rw [hpj] at hlook
 simp only [Option.getD_some, Option.isSome_some, Nat.zero_add] at hlook
 have HCT := hid (contains_any x.B W2 v within name HA2.out (by omega))
 rw [decide_eq_false hm] at HCT
 have HR : Hid (readL fs k within name ps = .error 3) := by show _ = _; rw [h0]; unfold readL; rw [hf]; simp only; rw [if_neg hm]
 have HN2 := hid n2
 have HV2 := hid v2
 obtain ⟨Av, cv, hv⟩ := own_form ha
 obtain ⟨nv, hnv⟩ : ∃ nv, within.length = nv := ⟨_, rfl⟩
 rw [hnv] at hv
 subst hv
 have hn4 : (nv : Int) = 4 := by omega
 unfold ptrV
 clear he hs ha _hch hb ba1 b2 n2 v2 hpl hf hm hpj hjt hj
 go_enter Tryz.func42, Tryz.ntmps42
 go_wp2_with (go_at_call 43; refine HCT.out.mono ?_; rintro e1 w1 ⟨rfl, rfl⟩)
 go_ret
 exact ⟨Out.err HR.out rfl (by decide) trivial, Fr.of_below HB2.out, HLO.out⟩
set_option maxHeartbeats 4000000 in
theorem read_hit (x : Bx) (fs : Fl) (w0 : World) (k : Nat) (within : List By) (name : By) (ps : List By) (v : Value) (w : World) (hk : within.length + k = 4) (hnm : name.length ≤ 1000000000000000) (he : Env x fs w) (hs : St x fs ps w) (ha : Ar x.B w v within) (hch : Chain fs within name) (h64 : ps.length ≤ 64) (hb : Below x.B w0 w) (t : By) (hf : findF fs name = some t) (hm : name ∉ within) (hn : within.length ≤ 3) (_hfl : fs.length ≤ 1000) (d a b : Nat) (hdone : ∀ c f, MapZ w zR x.D c f → Done fs f c ps → f (.string (ba name)) = some (rdV d a b)) (hnd : within.length ≤ d) :
 Calls Tryz.prog 42 #[.string (ba name), v, ptrV x.tb, ptrV x.db, ptrV x.lb, ptrV x.fb, ptrV x.rb] w fun e W =>
  Out (readL fs k within name ps) e True (fun qs => St x fs qs W ∧ Ar x.B W v within) ∧ Fr x.L x.D v.ownBlock w W ∧ Below x.B w0 W := by
 have hsz : x.B ≤ w.heap.size := by have := hs.low; obtain ⟨_, q, _⟩ := hs.list; have := q.inside; omega
 obtain ⟨Wa, hWa⟩ : ∃ Wa, w.alloc (.cells #[.string (ba name)] 9) = Wa := ⟨_, rfl⟩
 obtain ⟨W2, hW2⟩ : ∃ W2, Wa.alloc (.cells #[v] 34) = W2 := ⟨_, rfl⟩
 have sa : Wa.heap.size = w.heap.size + 1 := by rw [← hWa]; simp
 have s2 : W2.heap.size = w.heap.size + 2 := by rw [← hW2]; simp [sa]
 have ba1 : Below w.heap.size w Wa := hWa ▸ (Below.refl _ _).alloc (Nat.le_refl _) _
 have b2 : Below w.heap.size w W2 := hW2 ▸ ba1.alloc (by omega) _
 have n2 : Has W2 w.heap.size 9 #[.string (ba name)] := hW2 ▸ (hWa ▸ Has.fresh w 9 _ : Has Wa w.heap.size 9 _).more _
 have v2 : Has W2 (w.heap.size + 1) 34 #[v] := hW2 ▸ Has.fresh' Wa 34 _ sa.symm
 have HE2 := hid (he.below b2)
 have HS2 := hid (hs.below b2)
 have HA2 : Hid (Ar x.B W2 v within) := own_below ha b2
 have HB2 := hid b2
 have HLO : Hid (Below x.B w0 W2) := hb.trans (b2.mono hsz)
 have HSZ := hid hsz
 have HK := hid (str_key name (by unfold maxLen; omega))
 have HLK := hid hs
 obtain ⟨cp, hpl⟩ := HE2.out.places
 have hlook := hpl.lookOk Tryz.underlying101 (zero_int W2) HK.out
 have hct := HE2.out.t.at_ 0
 have hcn := n2.at_ 0
 have hcv := v2.at_ 0
 obtain ⟨j, hj, hpj, hjt⟩ := plF_some hf 0
 rw [hpj] at hlook
 simp only [Option.getD_some, Option.isSome_some, Nat.zero_add] at hlook
 have HCT := hid (contains_any x.B W2 v within name HA2.out (by omega))
 rw [decide_eq_false hm] at HCT
 obtain ⟨cd, fd, hmd, hdn⟩ := HS2.out.done
 have hlkd := hmd.lookOk Tryz.underlying103 (zero_rd W2) HK.out
 have hcd := HE2.out.d.at_ 0
 have hfd : fd (.string (ba name)) = some (rdV d a b) := by
  obtain ⟨c', f', k1, k2⟩ := hs.done
  have e1 := hdone c' f' k1 k2
  have hb2 := k1.lookOk Tryz.underlying103 (zero_rd w) HK.out
  have hb3 := (k1.kept (HB2.out.block _ k1.inside)).lookOk Tryz.underlying103 (zero_rd W2) HK.out
  rw [hb3] at hlkd
  simp only [Result.ok.injEq, Value.tuple.injEq, and_true] at hlkd
  have e2 := congrArg (fun a : Array Value => a.toList) hlkd
  simp only [List.cons.injEq, Value.bool.injEq, and_true] at e2
  rw [e1] at e2
  simp only [Option.getD_some, Option.isSome_some] at e2
  cases hq : fd (.string (ba name)) with
  | none => rw [hq] at e2; simp at e2
  | some u => rw [hq] at e2; simp at e2; rw [e2]
 rw [hfd] at hlkd
 simp only [Option.getD_some, Option.isSome_some] at hlkd
 obtain ⟨d', a', b', he', hd3, hab, hbp, hfla⟩ := hdn.1 name _ hfd
 simp only [rdV, Value.agg.injEq] at he'
 have he2 := congrArg (fun a : Array Value => a.toList) he'
 simp only [List.cons.injEq, Value.int.injEq, true_and, and_true, Int.natCast_inj] at he2
 obtain ⟨rfl, rfl, rfl⟩ := he2
 have HR : Hid (readL fs k within name ps = addL ps ((ps.drop a).take (b - a))) := readL_add fs k within name ps _ (flat_mono (by omega) hfla) hch h64
 unfold rdV at hlkd
 obtain ⟨W3, hW3⟩ : ∃ W3, W2.alloc (.cells #[.int .i64 (d : Int), .int .i64 (a : Int), .int .i64 (b : Int)] 111) = W3 := ⟨_, rfl⟩
 have b3 : Below W2.heap.size W2 W3 := hW3 ▸ (Below.refl _ _).alloc (Nat.le_refl _) _
 have r3 : Has W3 (w.heap.size + 2) 111 #[.int .i64 (d : Int), .int .i64 (a : Int), .int .i64 (b : Int)] := hW3 ▸ Has.fresh' W2 111 _ s2.symm
 have HB3 := hid b3
 have HR3 := hid r3
 have HL3 := hid (HS2.out.list.below b3)
 have HE3 := hid (HE2.out.below b3)
 have hcv3 : W3.cell? ⟨w.heap.size + 1, 0, none⟩ = some v := (v2.stays b3).at_ 0
 have hrd := r3.at_ 0
 obtain ⟨lv, hLh, hLp⟩ := HL3.out
 obtain ⟨gs, howr, hptr⟩ := hLp
 obtain ⟨A, c, hlv⟩ := own_form howr
 obtain ⟨n, hnp⟩ : ∃ n, ps.length = n := ⟨_, rfl⟩
 rw [hnp] at hlv
 subst hlv
 have HMP := hid (More.part ⟨gs, howr, hptr⟩ hnp.symm hab (by omega))
 have HLH := hid hLh
 have HCA := hid (add_any x.B x.L ps ((ps.drop a).take (b - a)) (sliced A a b c 1) W3.drew (HL3.out.below (Below.refl _ _).drew) (show More W3.drew _ _ from HMP.out.1) h64 (by simp; omega) HS2.out.low)
 have HPSL := hid hnp
 have hnd2 : (within.length : Int) ≤ (d : Int) := by omega
 have hab2 : (a : Int) ≤ (b : Int) := by omega
 have hbc : (b : Int) ≤ (c : Int) := by have := HMP.out.2; omega
 have hsl : ∀ U, (Instr.sliceAt 104 (.slice A n c) (some (.int .i64 (a : Int))) (some (.int .i64 (b : Int))) none).run Tryz.prog U = .ok (sliced A a b c 1) U := fun U => by
  rw [run_sliceAt_slice U 104 _ _ _ _ (by kernel_rfl), run_slice_lh U 104 A n c (by kernel_rfl) .i64 .i64 _ _ (by omega) hab2 hbc]
  simp only [Int.toNat_natCast]
  rfl
 have HSL := hid hsl
 have HN2 := hid n2
 have HV2 := hid v2
 obtain ⟨Av, cv, hv⟩ := own_form ha
 obtain ⟨nv, hnv⟩ : ∃ nv, within.length = nv := ⟨_, rfl⟩
 rw [hnv] at hv
 subst hv
 have hn4 : ¬ ((nv : Int) = 4) := by omega
 rw [hnv] at hnd2
 obtain ⟨g, HG⟩ : ∃ g, Hid (addL ps ((ps.drop a).take (b - a)) = g) := ⟨_, rfl⟩
 rw [HG.out] at HCA HR
 generalize hsv : sliced A a b c 1 = sv at HCA HSL
 have HFDN := hid hdn
 have HMD := hid hmd
 unfold ptrV at HCA
 unfold ptrV
 clear he hs ha hch hb ba1 b2 n2 v2 hpl hf hm hpj hjt hj hdn hmd hfla he' hfd r3 b3 hLh howr hptr hsl hdone h64 hsv HMP hnp hab hbp hnd
 go_enter Tryz.func42, Tryz.ntmps42
 go_wp2_with (go_at_call 43; refine HCT.out.mono ?_; rintro e1 w1 ⟨rfl, rfl⟩)
 refine wp_region_noPanic ?_
 refine wp_region_held_drew (S := fun U => Has U x.lb 30 #[ptrV x.L] ∧ Has U (w.heap.size + 2) 111 #[.int .i64 (d : Int), .int .i64 (a : Int), .int .i64 (b : Int)]) (by kernel_rfl) (⟨HE3.out.l, HR3.out⟩) (fun hS => ?_)
 refine tkH 0 (v := ?_) (by simp only [lkA, lkB]; rfl) (by kernel_rfl) (fun _ _ _ h => h) (by rfl) (by assumption) ?_ ?_
 rotate_left 1
 · intro w hSw
   have c1 := hSw.1.at_ 0
   have c3 := hSw.2.at_ 1
   have c4 := hSw.2.at_ 2
   unfold ptrV at c1
   go_simp
   with_reducible rfl
 simp only [Act.put, siA, siB, siC]
 refine tkH 1 (v := ?_) (by simp only [lkA, lkB, lkC]; rfl) (by kernel_rfl) (fun _ _ _ h => h) (by rfl) (by assumption) ?_ ?_
 rotate_left 1
 · intro w hSw
   have c1 := hSw.1.at_ 0
   have c3 := hSw.2.at_ 1
   have c4 := hSw.2.at_ 2
   unfold ptrV at c1
   go_simp
   with_reducible rfl
 simp only [Act.put, siA, siB, siC]
 refine tkH 2 (v := ?_) (by simp only [lkA, lkB, lkC]; rfl) (by kernel_rfl) (fun _ _ _ h => h) (by rfl) (by assumption) ?_ ?_
 rotate_left 1
 · intro w hSw
   have c1 := hSw.1.at_ 0
   have c3 := hSw.2.at_ 1
   have c4 := hSw.2.at_ 2
   unfold ptrV at c1
   go_simp
   with_reducible rfl
 simp only [Act.put, siA, siB, siC]
 refine tkH 3 (v := ?_) (by simp only [lkA, lkB, lkC]; rfl) (by kernel_rfl) (fun _ _ _ h => h) (by rfl) (by assumption) ?_ ?_
 rotate_left 1
 · intro w hSw
   have c1 := hSw.1.at_ 0
   have c3 := hSw.2.at_ 1
   have c4 := hSw.2.at_ 2
   unfold ptrV at c1
   go_simp
   with_reducible rfl
 simp only [Act.put, siA, siB, siC]
 refine tkH 5 (v := ?_) (by simp only [lkA, lkB, lkC]; rfl) (by kernel_rfl) (fun _ _ _ h => h) (by rfl) (by assumption) ?_ ?_
 rotate_left 1
 · intro w hSw
   have c1 := hSw.1.at_ 0
   have c3 := hSw.2.at_ 1
   have c4 := hSw.2.at_ 2
   unfold ptrV at c1
   go_simp
   with_reducible rfl
 simp only [Act.put, siA, siB, siC]
 refine tkH 6 (v := ?_) (by simp only [lkA, lkB, lkC]; rfl) (by kernel_rfl) (fun _ _ _ h => h) (by rfl) (by assumption) ?_ ?_
 rotate_left 1
 · intro w hSw
   have c1 := hSw.1.at_ 0
   have c3 := hSw.2.at_ 1
   have c4 := hSw.2.at_ 2
   unfold ptrV at c1
   go_simp
   with_reducible rfl
 simp only [Act.put, siA, siB, siC]
 refine tkH 7 (v := ?_) (by simp only [lkA, lkB, lkC]; rfl) (by kernel_rfl) (fun _ _ _ h => h) (by rfl) (by assumption) ?_ ?_
 rotate_left 1
 · intro w hSw
   have c1 := hSw.1.at_ 0
   have c3 := hSw.2.at_ 1
   have c4 := hSw.2.at_ 2
   unfold ptrV at c1
   go_simp
   with_reducible rfl
 simp only [Act.put, siA, siB, siC]
 refine tkH 8 (v := ?_) (by simp only [lkA, lkB, lkC]; rfl) (by kernel_rfl) (fun _ _ _ h => h) (by rfl) (by assumption) ?_ ?_
 rotate_left 1
 · intro w hSw
   have c1 := hSw.1.at_ 0
   have c3 := hSw.2.at_ 1
   have c4 := hSw.2.at_ 2
   unfold ptrV at c1
   go_simp
   with_reducible rfl
 simp only [Act.put, siA, siB, siC]
 refine wpAnyH_ready (rs := [4]) (by kernel_rfl) (by simp) ?_
 refine AllReadyH.cons (by simp only [lkA, lkB, lkC]; rfl) (fun K hK => ?_) AllReadyH.nil
 have c2 : W3.drew.cell? ⟨x.L, 0, none⟩ = some (.slice A n c) := HLH.out.at_ 0
 go_simp
 refine hK.out _ _ hS (fun hS => ?_)
 clear hK K hS
 clear c2
 refine' wpAnyH_take (i := 9) (v := _) (by simp only [lkA, lkB, lkC]; rfl) (by kernel_rfl) (by kernel_rfl) (by kernel_rfl) (fun _ _ _ h => h) (yields_slice (by rfl) (.tmp 51) (.tmp 53) (.tmp 55) rfl (.slice A n c) (.int .i64 (a : Int)) (.int .i64 (b : Int)) sv rfl rfl rfl (fun U _ => HSL.out U)) (by assumption) ?_
 simp only [Act.put, siA, siB, siC]
 refine wpAnyH_ready (rs := [10]) (by kernel_rfl) (by simp) ?_
 refine AllReadyH.cons (by simp only [lkA, lkB, lkC]; rfl) (fun K hK => ?_) (AllReadyH.nil)
 go_simp
 refine HCA.out.mono ?_
 intro e6 w6 h6
 cases g with
 | error c =>
  obtain ⟨rfl, hc, hw6⟩ := h6.of_err
  have HC := hid hc
  clear h6 hc
  subst hw6
  have hz6 : Has W3.drew x.lb 30 #[ptrV x.L] ∧ Has W3.drew (w.heap.size + 2) 111 #[.int .i64 (d : Int), .int .i64 (a : Int), .int .i64 (b : Int)] := ⟨HE3.out.l, HR3.out⟩
  refine hK.out _ _ hz6 (fun hS => ?_)
  clear hK K hS
  refine tkH 11 (v := ?_) (by simp only [lkA, lkB, lkC]; rfl) (by kernel_rfl) (fun _ _ _ h => h) (by rfl) (by assumption) ?_ ?_
  rotate_left 1
  · intro w hSw
    go_simp
    with_reducible rfl
  simp only [Act.put, siA, siB, siC]
  refine wpAnyH_done (by kernel_rfl) ?_ _
  refine NoPanic.normal ?_
  go_wp2
  go_ret
  exact ⟨Out.err HR.out rfl HC.out trivial, Fr.of_below ((HB2.out.thenG HB3.out).thenG (Below.refl _ _).drew), HLO.out.trans ((HB3.out.thenG (Below.refl _ _).drew).mono (Nat.le_trans HSZ.out HB2.out.size))⟩
 | ok rs =>
  obtain ⟨rfl, hl6, hf6, hb6⟩ := h6.of_ok
  have HL6 := hid hl6
  have HF6 : Hid (∀ D r, Fr x.L D r W2 w6) := fun D r => (Fr.of_below (HB3.out.thenG (Below.refl _ _).drew)).tr (hf6 D r)
  have HB6 : Hid (Below x.B w0 w6) := hb6 w0 (HLO.out.trans ((HB3.out.thenG (Below.refl _ _).drew).mono (Nat.le_trans HSZ.out HB2.out.size)))
  have hz6 : Has w6 x.lb 30 #[ptrV x.L] ∧ Has w6 (w.heap.size + 2) 111 #[.int .i64 (d : Int), .int .i64 (a : Int), .int .i64 (b : Int)] := ⟨(hf6 0 none).has (w := W3.drew) HE3.out.l (by decide) (by decide) (by decide), (hf6 0 none).has (w := W3.drew) HR3.out (by decide) (by decide) (by decide)⟩
  clear h6 hl6 hf6 hb6
  refine hK.out _ _ hz6 (fun hS => ?_)
  clear hK K hS
  refine tkH 11 (v := ?_) (by simp only [lkA, lkB, lkC]; rfl) (by kernel_rfl) (fun _ _ _ h => h) (by rfl) (by assumption) ?_ ?_
  rotate_left 1
  · intro w hSw
    go_simp
    with_reducible rfl
  simp only [Act.put, siA, siB, siC]
  refine wpAnyH_done (by kernel_rfl) ?_ _
  refine NoPanic.normal ?_
  go_wp2
  go_ret
  refine ⟨Out.ok HR.out rfl ⟨⟨HL6.out, ⟨cd, fd, ?_, ?_⟩, HLK.out.low⟩, ?_⟩, ?_, HB6.out⟩
  · obtain ⟨es, ck, ho⟩ := HMD.out.obj
    exact HMD.out.kept (((HF6.out (x.D + 1) none).2 _ _ ho (Calm.map (by omega))).trans ho.symm)
  · have := HG.out
    unfold addL at this
    split at this
    · simp only [Except.ok.injEq] at this
      rw [← this]; exact HFDN.out.more _
    · cases this
  · exact HA2.out.fr (HF6.out 0 none) (fun k _ e => nomatch e)
  · exact (Fr.of_below HB2.out).tr (HF6.out x.D _)
end Go.Proofs.YtahkcemdbfjilaaGreatDoor.Glob
