/- Several texts in one. Conditions: those said at each. -/
import Derived.Test.YtahkcemdbfjilaaGreatDoorWb35
set_option linter.unusedSimpArgs false
set_option linter.unusedVariables false
set_option maxRecDepth 100000
namespace Go.Proofs.YtahkcemdbfjilaaGreatDoor.Glob
open Go.RowKit Go.Maps
theorem Ar.at_ {B : Nat} {w : World} {v : Value} {l : List By} (h : Ar B w v l) (h0 : 0 < l.length) : ∃ g c, v = .slice (some ⟨g, 0, none⟩) l.length c ∧ g < w.heap.size ∧ ∀ k (hk : k < l.length), w.cell? ⟨g, k, none⟩ = some (.string (ba l[k])) := by
 obtain ⟨g, c, h1, _, h3, _, h5⟩ := own_cells h h0
 exact ⟨g, c, h1, h3, fun k hk => h5 k _ (by simp [strV, hk])⟩
theorem ba_app (a b : By) : ba a ++ ba b = ba (a ++ b) := by
 apply ByteArray.ext; simp [ba]
end Go.Proofs.YtahkcemdbfjilaaGreatDoor.Glob
namespace Go.Proofs.YtahkcemdbfjilaaGreatDoor.Glob
open Go.RowKit Go.Maps
def isOk (g : Except Int (List By)) (l : List By) : Bool := match g with | .ok q => q == l | .error _ => false
theorem isOk_eq {g : Except Int (List By)} {l : List By} (h : isOk g l = true) : g = .ok l := by
 cases g with
 | error e => cases h
 | ok q => simp only [isOk, beq_iff_eq] at h; rw [h]
theorem files_one (w : World) (n t : By) : FilesIs (w.alloc (.cells #[.string (ba n), .string (ba t)] 91)) (.slice (some ⟨w.heap.size, 0, none⟩) 1 1) [(n, t)] :=
 FilesIs.of_own ⟨rfl, .inr ⟨w.heap.size, 1, #[.string (ba n), .string (ba t)], rfl, Nat.zero_le _, heap_alloc_new w _, Nat.le_refl _, by unfold maxLen; omega, rfl, rfl⟩⟩
theorem parse_one (n t name : By) (w : World) (hG : Gd w) (hn : n.length ≤ 100000) (ht : t.length ≤ 100000) (hm : name.length ≤ 100000) :
 Calls Tryz.prog 11 #[.slice (some ⟨w.heap.size, 0, none⟩) 1 1, .string (ba name)] (w.alloc (.cells #[.string (ba n), .string (ba t)] 91)) fun e W => ParseOut w.heap.size [(n, t)] name e W ∧ Below w.heap.size w W := by
 have hb : Below w.heap.size w (w.alloc (.cells #[.string (ba n), .string (ba t)] 91)) := (Below.refl _ _).alloc (Nat.le_refl _) _
 refine (iparse_any [(n, t)] name _ _ (hG.kept hb) (files_one w n t) (by simp) (fun i hi => by simp at hi; subst hi; exact hn) (fun i hi => by simp at hi; subst hi; exact ht) (by omega)).mono fun e W ⟨h1, h2⟩ => ⟨?_, hb.thenG h2⟩
 unfold ParseOut at h1 ⊢
 cases hr : readL [(n, t)] 4 [] name [] with
 | error c => rw [hr] at h1; exact h1
 | ok qs =>
  rw [hr] at h1
  obtain ⟨L, a1, a2, a3, a4⟩ := h1
  have hs := hb.size
  refine ⟨L, a1, by omega, ?_, a4⟩
  obtain ⟨v, k1, gs, k2, k3⟩ := a3
  exact ⟨v, k1, gs, own_mono k2 hs, k3⟩
end Go.Proofs.YtahkcemdbfjilaaGreatDoor.Glob
namespace Go.Proofs.YtahkcemdbfjilaaGreatDoor
open Go.RowKit Go.Maps
theorem wpList_append_at {P : Program} {ops : Array Oper} {rest : List Oper} {o : Oper} {a : Act} {w : World} {Q : Exit → Act → World → Prop} (hgd : o.guard = none) (s x : Operand) (t tn : TypeId) (ho : o.op = .call { callee := .builtin .append, args := #[s, x], argTypes := #[t, tn] })
 (u v v' : Value) (w' : World) (hs : a.eval s = u) (hx : a.eval x = v) (hr : (Builtin.append_ #[t, tn] o.type #[u, v]).run P w = .ok v' w') (h : wpList P ops Q rest (a.put o.dst v') w') : wpList P ops Q (o :: rest) a w :=
 wpList_append_run hgd s x t tn ho ⟨v', w', by rw [hs, hx]; exact hr, h⟩
theorem strR_at {B : Nat} {w : World} {v : Value} {xs : List By} (h : StrR B w v xs) (h0 : 0 < xs.length) : ∃ g c, v = .slice (some ⟨g, 0, none⟩) xs.length c ∧ g < w.heap.size ∧ ∀ k (hk : k < xs.length), w.cell? ⟨g, k, none⟩ = some (kS xs[k]) := Glob.Ar.at_ (B := B) h h0
theorem StrR.on {B : Nat} {w w' : World} {v : Value} {xs : List By} (h : StrR B w v xs) (hb : Below w.heap.size w w') : StrR B w' v xs := h.kq (Kq.of_below hb)
theorem RecR.on {B : Nat} {w w' : World} {v : Value} {l : Tr} (h : RecR B w v l) (hb : Below w.heap.size w w') : RecR B w' v l := h.kq (Kq.of_below hb)
theorem app_str {B : Nat} {w : World} {v : Value} {xs : List By} (h : StrR B w v xs) (p : By) (hn : xs.length ≤ 100000) (hB : B ≤ w.heap.size) :
 ∃ A c W2, (Builtin.append_ #[34, 34] 34 #[v, .slice (some ⟨w.heap.size, 0, none⟩) 1 1]).run Tryz.prog (w.alloc (.cells #[kS p] 9)) = .ok (.slice A (xs.length + 1) c) W2 ∧ StrR B W2 (.slice A (xs.length + 1) c) (xs ++ [p]) ∧ Below B w W2 := by
 have hb : Below w.heap.size w (w.alloc (.cells #[kS p] 9)) := (Below.refl _ _).alloc (Nat.le_refl _) _
 obtain ⟨v', W2, hr, ho, _, hg, hv⟩ := Glob.append_str (B := B) (w := w.alloc (.cells #[kS p] 9)) (v := v) (l := xs) (s := p) (g := w.heap.size) (h.on hb) (Has.fresh _ _ _) hn (by simp; omega) 34
 have ho' : StrR B W2 v' (xs ++ [p]) := ho
 obtain ⟨A, c, rfl⟩ := ho'.form
 have e : (xs ++ [p]).length = xs.length + 1 := by simp
 rw [e] at hr ho'
 exact ⟨A, c, W2, hr, ho', ((Below.refl _ _).alloc hB _).grown hg (by simp; omega) (fun g hg1 => (World.ownsRow.lt h g hg1).1)⟩
def waysTo (p : By) (k : Nat) : List By := ((List.range k).filter fun i => at8 p i == 47).map fun i => p.take i
theorem waysTo_yes {p : By} {k : Nat} (h : at8 p k = 47) : waysTo p (k + 1) = waysTo p k ++ [p.take k] := by
 unfold waysTo; rw [List.range_succ, List.filter_append, List.map_append]; simp [h]
theorem waysTo_no {p : By} {k : Nat} (h : at8 p k ≠ 47) : waysTo p (k + 1) = waysTo p k := by
 unfold waysTo; rw [List.range_succ, List.filter_append, List.map_append]; simp [h]
theorem waysTo_len (p : By) (k : Nat) : (waysTo p k).length ≤ k := by
 unfold waysTo; rw [List.length_map]; refine Nat.le_trans (List.length_filter_le _ _) ?_; simp
def waysL (p : By) : List By := waysTo p (min p.length 200) ++ [p]
theorem waysL_len (p : By) : (waysL p).length ≤ 201 := by
 unfold waysL; have := waysTo_len p (min p.length 200); rw [List.length_append, List.length_singleton]; omega
def WaysP (w : World) (p : By) (e : Ending) (w' : World) : Prop := ∃ A c, e = .returned (.slice A (waysL p).length c) ∧ StrR w.heap.size w' (.slice A (waysL p).length c) (waysL p) ∧ Below w.heap.size w w'
set_option maxHeartbeats 4000000 in
theorem ways_any (p : By) (w : World) (hp : p.length ≤ 140737488355328) : Calls Tryz.prog 36 #[kS p] w fun e w' => WaysP w p e w' := by
 obtain ⟨N, HN⟩ : ∃ N, Hid (min p.length 200 = N) := ⟨_, rfl⟩
 have HW : Hid (waysL p = waysTo p N ++ [p]) := by show _ = _; unfold waysL; rw [HN.out]
 have hs : ((ba p).size : Int) = (p.length : Int) := by rw [ba_size]
 have HIX : Hid (∀ i, i < p.length → ∀ w, (Instr.index 9 (kS p) (.int .i64 (i : Int))).run Tryz.prog w = .ok (.int .u8 (b8 (at8 p i))) w) := fun i h w => by
  have := index_at (ba p) i (by rw [ba_size]; exact h) w
  rw [tl_ba] at this; exact this
 go_enter Tryz.func36, Tryz.ntmps36
 go_wp2
 go_loopw [3, 4] (fun v3 v4 wr => ∃ (k m c : Nat) (A : Option Addr), v4 = .int .i64 (k : Int) ∧ k ≤ N ∧ v3 = .slice A m c ∧ Hid ((waysTo p k).length = m) ∧ Hid (StrR w.heap.size wr (.slice A m c) (waysTo p k)) ∧ Hid (Below w.heap.size w wr))
  (fun _ v4 _ => N - (intOf v4).toNat)
 case atStart => exact ⟨0, 0, 0, none, rfl, Nat.zero_le _, rfl, rfl, StrR.nil _ _, Below.refl _ _⟩
 case round =>
  obtain ⟨k, m, c, A, rfl, hk, rfl, HM, J1, J2⟩ := hrel
  have hml : m ≤ k := by rw [← HM.out]; exact waysTo_len p k
  by_cases hlt : k < N
  · have h1 : k < p.length := by have := HN.out; omega
    have h2 : k < 200 := by have := HN.out; omega
    have hixk := HIX.out k h1
    have w1 : IntKind.i64.wrap ((k : Int) + 1) = (k : Int) + 1 := i64in _ (by omega) (by omega)
    have g1 : (k : Int) < (p.length : Int) := by omega
    have g2 : (k : Int) < 200 := by omega
    have he : (ba p).extract 0 k = ba (p.take k) := by rw [ba_take, tl_ba]
    by_cases h47 : at8 p k = 47
    · have HX : Hid (waysTo p (k + 1) = waysTo p k ++ [p.take k]) := waysTo_yes h47
      obtain ⟨A5, c5, W5, hr5, hs5, hb5⟩ := app_str J1.out (p.take k) (by rw [HM.out]; omega) J2.out.size
      rw [HM.out] at hr5 hs5
      rw [← HX.out] at hs5
      have R5 := hid hr5
      have S5 := hid hs5
      have B5 : Hid (Below w.heap.size w W5) := J2.out.trans hb5
      have e47 : b8 (at8 p k) = 47 := by rw [h47]; rfl
      rw [e47] at hixk
      have HL5 : Hid ((waysTo p (k + 1)).length = m + 1) := by show _ = _; rw [HX.out, List.length_append, HM.out]; rfl
      clear hr5 hs5 hb5 h47 e47
      go_wp2_with (refine wpList_append_at rfl (.tmp 19) (.tmp 23) 34 34 rfl (.slice A m c) (.slice (some ⟨wr.heap.size, 0, none⟩) 1 1) _ _ rfl rfl R5.out ?_)
      go_roundw
      case rel => exact ⟨k + 1, m + 1, c5, A5, by go_num, by omega, rfl, HL5.out, S5.out, B5.out⟩
      case measure => simp [intOf]; omega
    · have HX : Hid (waysTo p (k + 1) = waysTo p k) := waysTo_no h47
      have q47 : (b8 (at8 p k) == 47) = false := by
       rw [beq_eq_false_iff_ne]
       intro e
       apply h47
       have := (at8 p k).toNat_lt
       refine UInt8.toNat_inj.1 ?_
       unfold b8 at e
       show _ = 47
       omega
      have q47' : ¬ b8 (at8 p k) = 47 := by simpa using q47
      clear h47
      go_wp2
      go_roundw
      case rel => exact ⟨k + 1, m, c, A, by go_num, by omega, rfl, by rw [HX.out]; exact HM.out, by rw [HX.out]; exact J1.out, J2.out⟩
      case measure => simp [intOf]; omega
  · obtain rfl : k = N := by omega
    obtain ⟨A5, c5, W5, hr5, hs5, hb5⟩ := app_str J1.out p (by rw [HM.out]; have := HN.out; omega) J2.out.size
    rw [HM.out] at hr5 hs5
    rw [← HW.out] at hs5
    have R5 := hid hr5
    have S5 := hid hs5
    have B5 : Hid (Below w.heap.size w W5) := J2.out.trans hb5
    have HL5 : Hid ((waysL p).length = m + 1) := by show _ = _; rw [HW.out, List.length_append, HM.out]; rfl
    have HF : Hid (WaysP w p (.returned (.slice A5 (m + 1) c5)) W5) := ⟨A5, c5, by rw [HL5.out], by rw [HL5.out]; exact S5.out, B5.out⟩
    clear hr5 hs5 hb5
    by_cases h1 : k < p.length
    · have h2 : ¬ (k : Int) < 200 := by have := HN.out; omega
      have g1 : (k : Int) < (p.length : Int) := by omega
      go_wp2_with (refine wpList_append_at rfl (.tmp 25) (.tmp 27) 34 34 rfl (.slice A m c) (.slice (some ⟨wr.heap.size, 0, none⟩) 1 1) _ _ rfl rfl R5.out ?_)
      go_ret
      exact HF.out
    · have g1 : ¬ (k : Int) < (p.length : Int) := by omega
      go_wp2_with (refine wpList_append_at rfl (.tmp 25) (.tmp 27) 34 34 rfl (.slice A m c) (.slice (some ⟨wr.heap.size, 0, none⟩) 1 1) _ _ rfl rfl R5.out ?_)
      go_ret
      exact HF.out
end Go.Proofs.YtahkcemdbfjilaaGreatDoor
namespace Go.Proofs.YtahkcemdbfjilaaGreatDoor
def isL (ls : List By) (p : By) : Nat := (ls.filter fun q => decide (q = p)).length
def howL (ls : List By) (p : By) : Nat := (ls.filter fun q => decide (q = p) || withinB p q).length
theorem count_one {α : Type} {l : List α} (hn : l.Nodup) {f : α → Bool} {a : α} (ha : a ∈ l) (hf : f a = true) (hu : ∀ b ∈ l, f b = true → b = a) : l.countP f = 1 := by
 induction l with
 | nil => cases ha
 | cons c l ih =>
  obtain ⟨h1, h2⟩ := List.nodup_cons.1 hn
  rw [List.countP_cons]
  by_cases hc : f c = true
  · have e := hu c List.mem_cons_self hc
    have h0 : l.countP f = 0 := by
     rw [List.countP_eq_zero]
     intro b hb k
     have := hu b (List.mem_cons_of_mem _ hb) k
     rw [this, ← e] at hb
     exact h1 hb
    rw [h0, if_pos hc]
  · rw [if_neg hc, Nat.add_zero]
    refine ih h2 ?_ (fun b hb => hu b (List.mem_cons_of_mem _ hb))
    rcases List.mem_cons.1 ha with e | e
    · rw [e] at hf; exact absurd hf hc
    · exact e
theorem how_count (ig : By → Bool) (l : Tr) (p : By) (y : Nat) : howL ((partF ig l l y).map (·.1)) p = l.countP fun x => (!overB ig l x.1 && decide (whyB ig x = y)) && (decide (x.1 = p) || withinB p x.1) := by
 unfold howL partF
 rw [List.filter_map, List.length_map, List.filter_filter, List.countP_eq_length_filter]
 congr 2
 funext x
 simp [Bool.and_comm, Function.comp]
theorem is_count (ig : By → Bool) (l : Tr) (p : By) : isL ((partF ig l l 0).map (·.1)) p = l.countP fun x => (!overB ig l x.1 && decide (whyB ig x = 0)) && decide (x.1 = p) := by
 unfold isL partF
 rw [List.filter_map, List.length_map, List.filter_filter, List.countP_eq_length_filter]
 congr 2
 funext x
 simp [Bool.and_comm, Function.comp]
theorem count_sum {α : Type} (l : List α) (a b c d g : α → Bool) (h : ∀ x, (a x).toNat + (b x).toNat + (c x).toNat + (d x).toNat = (g x).toNat) : l.countP a + l.countP b + l.countP c + l.countP d = l.countP g := by
 induction l with
 | nil => rfl
 | cons x l ih =>
  simp only [List.countP_cons]
  have := h x
  have e : ∀ f : α → Bool, (if f x = true then 1 else 0) = (f x).toNat := fun f => by cases f x <;> rfl
  rw [e, e, e, e, e]
  omega
theorem why_le (ig : By → Bool) (x : By × Nd) : whyB ig x = 0 ∨ whyB ig x = 1 ∨ whyB ig x = 2 ∨ whyB ig x = 3 := by
 unfold whyB; split
 · omega
 · split
   · omega
   · split <;> omega
section
variable {room : Nat} {l : Tr} (hW : WFT room l)
include hW
theorem same_at {x y : By × Nd} (hx : x ∈ l) (hy : y ∈ l) (h : x.1 = y.1) : x = y := by
 have h1 := mem_look hW.srt hx
 have h2 := mem_look hW.srt hy
 rw [h, h2] at h1
 injection h1 with h1
 exact Prod.ext h h1.symm
theorem nodup_tr : l.Nodup := hW.srt.imp fun {a b} h => by rintro rfl; rw [cmpL_self] at h; cases h
theorem over_top (ig : By → Bool) (n : Nat) : ∀ p : By, p.length ≤ n → mayB p = true → overB ig l p = true → ∃ q ∈ l, withinB p q.1 = true ∧ whyB ig q ≠ 0 ∧ overB ig l q.1 = false := by
 induction n with
 | zero =>
  intro p hp hm
  have : p = [] := List.length_eq_zero_iff.1 (by omega)
  rw [this, mayB_nil] at hm; cases hm
 | succ n ih =>
  intro p hp hm ho
  obtain ⟨q, hq, hqq⟩ := List.any_eq_true.1 ho
  simp only [Bool.and_eq_true, decide_eq_true_eq] at hqq
  have hqm := mem_may hW hq
  cases hoq : overB ig l q.1 with
  | false => exact ⟨q, hq, hqq.1, hqq.2, hoq⟩
  | true =>
   obtain ⟨r, hr⟩ := withinB_yes hqm hqq.1
   have hl : q.1.length ≤ n := by rw [hr, List.length_append, List.length_cons] at hp; omega
   obtain ⟨z, hz, k1, k2, k3⟩ := ih q.1 hl hqm hoq
   exact ⟨z, hz, within_trans hm (mem_may hW hz) hqm hqq.1 k1, k2, k3⟩
omit hW in
theorem two_over {p a b : By} (_hp : mayB p = true) (ha : mayB a = true) (hb : mayB b = true) (h1 : withinB p a = true) (h2 : withinB p b = true) : a = b ∨ withinB b a = true ∨ withinB a b = true := by
 obtain ⟨r, hr⟩ := withinB_yes ha h1
 obtain ⟨s, hs⟩ := withinB_yes hb h2
 have e := hr.symm.trans hs
 rcases List.append_eq_append_iff.1 e with ⟨t, h3, h4⟩ | ⟨t, h3, h4⟩
 · rcases t with _ | ⟨c, t⟩
   · left; rw [h3]; simp
   · right; left
     have hc : c = 47 := by rw [List.cons_append] at h4; injection h4 with h4; exact h4.symm
     exact withinB_mk hb ha ⟨t, by rw [h3, hc]⟩
 · rcases t with _ | ⟨c, t⟩
   · left; rw [h3]; simp
   · right; right
     have hc : c = 47 := by rw [List.cons_append] at h4; injection h4 with h4; exact h4.symm
     exact withinB_mk ha hb ⟨t, by rw [h3, hc]⟩
theorem all_one (ig : By → Bool) {x : By × Nd} (hx : x ∈ l) : isL ((fndF ig l l).items.map (·.1)) x.1 + howL (fndF ig l l).temps x.1 + howL (fndF ig l l).ign x.1 + howL (fndF ig l l).bad x.1 = 1 := by
 unfold fndF
 rw [is_count, how_count, how_count, how_count]
 have hxm := mem_may hW hx
 rw [count_sum l _ _ _ _ (fun q => !overB ig l q.1 && (decide (q.1 = x.1) || (decide (whyB ig q ≠ 0) && withinB x.1 q.1))) (fun q => by
  have hy := why_le ig q
  cases overB ig l q.1 with
  | true => rfl
  | false =>
   rcases hy with e | e | e | e <;> rw [e] <;> cases decide (q.1 = x.1) <;> cases withinB x.1 q.1 <;> rfl)]
 cases ho : overB ig l x.1 with
 | false =>
  refine count_one (nodup_tr hW) hx (by simp [ho]) fun b hb hG => ?_
  simp only [Bool.and_eq_true, Bool.or_eq_true, decide_eq_true_eq] at hG
  rcases hG.2 with e | e
  · exact same_at hW hb hx e
  · have : overB ig l x.1 = true := List.any_eq_true.2 ⟨b, hb, by simp [e.1, e.2]⟩
    rw [ho] at this; cases this
 | true =>
  obtain ⟨q, hq, k1, k2, k3⟩ := over_top hW ig _ x.1 (Nat.le_refl _) hxm ho
  refine count_one (nodup_tr hW) hq (by simp [k1, k2, k3]) fun b hb hG => ?_
  simp only [Bool.and_eq_true, Bool.or_eq_true, decide_eq_true_eq, Bool.not_eq_true'] at hG
  rcases hG.2 with e | e
  · rw [e, ho] at hG; cases hG.1
  · rcases two_over hxm (mem_may hW hb) (mem_may hW hq) e.2 k1 with h | h | h
    · exact same_at hW hb hq h
    · have : overB ig l q.1 = true := List.any_eq_true.2 ⟨b, hb, by simp [e.1, h]⟩
      rw [k3] at this; cases this
    · have : overB ig l b.1 = true := List.any_eq_true.2 ⟨q, hq, by simp [k2, h]⟩
      rw [hG.1] at this; cases this
theorem over_up {ig : By → Bool} {p q : By} (hp : mayB p = true) (hq : mayB q = true) (h : withinB p q = true) (ho : overB ig l q = true) : overB ig l p = true := by
 obtain ⟨z, hz, k⟩ := List.any_eq_true.1 ho
 simp only [Bool.and_eq_true, decide_eq_true_eq] at k
 exact List.any_eq_true.2 ⟨z, hz, by simp [within_trans hp (mem_may hW hz) hq h k.1, k.2]⟩
theorem item_up (ig : By → Bool) {pre rest : Tr} {x : By × Nd} (he : (fndF ig l l).items = pre ++ x :: rest) (h0 : aheadL x.1 ≠ []) : ∃ q ∈ pre, q.1 = aheadL x.1 ∧ q.2.kind = 2 := by
 have hxi : x ∈ partF ig l l 0 := by
  have : x ∈ (fndF ig l l).items := by rw [he]; simp
  exact this
 unfold partF at hxi
 rw [List.mem_filter] at hxi
 obtain ⟨hx, hxc⟩ := hxi
 simp only [Bool.and_eq_true, Bool.not_eq_true', decide_eq_true_eq] at hxc
 have hxm := mem_may hW hx
 rcases may_split hxm with ⟨k, _⟩ | ⟨_, k1, k2, k3⟩
 · exact absurd k h0
 · have hpar := hW.par x.1 (by rw [mem_look hW.srt hx]; rfl)
   unfold kindP at hpar
   rw [if_neg h0] at hpar
   cases hl : look l (aheadL x.1) with
   | none => rw [hl] at hpar; cases hpar
   | some n =>
    rw [hl] at hpar
    have hq : (aheadL x.1, n) ∈ l := look_mem hl
    have hov : overB ig l (aheadL x.1) = false := by
     cases ho : overB ig l (aheadL x.1) with
     | false => rfl
     | true => have := over_up hW hxm k2 k3 ho; rw [hxc.1] at this; cases this
    have hw : whyB ig (aheadL x.1, n) = 0 := by
     rcases Nat.eq_zero_or_pos (whyB ig (aheadL x.1, n)) with e | e
     · exact e
     · have : overB ig l x.1 = true := List.any_eq_true.2 ⟨_, hq, by simp [k3]; omega⟩
       rw [hxc.1] at this; cases this
    have hqi : (aheadL x.1, n) ∈ (fndF ig l l).items := by
     show _ ∈ partF ig l l 0
     unfold partF
     rw [List.mem_filter]
     exact ⟨hq, by simp [hov, hw]⟩
    have hs : Srt (fndF ig l l).items := hW.srt.filter _
    rw [he] at hqi hs
    have hc : cmpL (aheadL x.1) x.1 = -1 := by
     obtain ⟨r, hr⟩ := withinB_yes k2 k3
     have := cmpL_within (aheadL x.1) r
     rw [← hr] at this; exact this
    rcases List.mem_append.1 hqi with e | e
    · exact ⟨_, e, rfl, hpar⟩
    · exfalso
      rcases List.mem_cons.1 e with e | e
      · have e1 : aheadL x.1 = x.1 := congrArg Prod.fst e
        have := congrArg List.length k1
        rw [List.length_append, List.length_cons, e1] at this
        omega
      · have := (List.pairwise_cons.1 (List.pairwise_append.1 hs).2.1).1 _ e
        simp only at this
        rw [cmpL_neg, hc] at this; cases this
def keptB (ig : By → Bool) (l : Tr) (x : By × Nd) : Bool := !overB ig l x.1 && decide (whyB ig x = 0)
omit hW in
theorem why_free {ig : By → Bool} {x : By × Nd} (h : whyB (fun _ => false) x ≠ 0) : whyB ig x ≠ 0 := by
 unfold whyB at h ⊢
 split
 · omega
 · rename_i h1
   rw [if_neg h1] at h
   split
   · omega
   · simp only [Bool.false_eq_true, if_false] at h
     exact h
omit hW in
theorem over_free {ig : By → Bool} {p : By} (h : overB (fun _ => false) l p = true) : overB ig l p = true := by
 obtain ⟨z, hz, k⟩ := List.any_eq_true.1 h
 simp only [Bool.and_eq_true, decide_eq_true_eq] at k
 exact List.any_eq_true.2 ⟨z, hz, by simp [k.1, why_free (ig := ig) k.2]⟩
omit hW in
theorem less_items (ig : By → Bool) (l : Tr) : (fndF ig l l).items = (fndF (fun _ => false) l l).items.filter (keptB ig l) := by
 show partF ig l l 0 = (partF (fun _ => false) l l 0).filter (keptB ig l)
 unfold partF
 rw [List.filter_filter]
 congr 1
 funext x
 unfold keptB
 cases ho : overB ig l x.1 with
 | true => rfl
 | false =>
  by_cases hw : whyB ig x = 0
  · have h1 : overB (fun _ => false) l x.1 = false := by
     cases h : overB (fun _ => false) l x.1 with
     | false => rfl
     | true => rw [over_free h] at ho; cases ho
    have h2 : whyB (fun _ => false) x = 0 := by
     rcases Nat.eq_zero_or_pos (whyB (fun _ => false) x) with e | e
     · exact e
     · exact absurd hw (why_free (by omega))
    simp [h1, h2, hw]
  · simp [hw]
omit hW in
theorem less_ign (l : Tr) : (fndF (fun _ => false) l l).ign = [] := by
 show (partF (fun _ => false) l l 2).map (·.1) = []
 have : partF (fun _ => false) l l 2 = [] := by
  unfold partF
  rw [List.filter_eq_nil_iff]
  intro x _ h
  simp only [Bool.and_eq_true, decide_eq_true_eq] at h
  have h2 := h.2
  unfold whyB at h2
  split at h2
  · omega
  · simp only [Bool.false_eq_true, if_false] at h2
    split at h2 <;> omega
 rw [this]; rfl
omit hW in
theorem how_zero {ls : List By} {p : By} (h : ∀ q ∈ ls, q ≠ p ∧ withinB p q = false) : howL ls p = 0 := by
 unfold howL
 rw [List.length_eq_zero_iff, List.filter_eq_nil_iff]
 intro q hq k
 obtain ⟨h1, h2⟩ := h q hq
 simp [h1, h2] at k
theorem less_one (ig : By → Bool) {x : By × Nd} (hx : x ∈ (fndF (fun _ => false) l l).items) (hk : keptB ig l x = false) : howL (fndF ig l l).ign x.1 = 1 := by
 have hxf : x ∈ partF (fun _ => false) l l 0 := hx
 unfold partF at hxf
 rw [List.mem_filter] at hxf
 obtain ⟨hxl, hxc⟩ := hxf
 simp only [Bool.and_eq_true, Bool.not_eq_true', decide_eq_true_eq] at hxc
 have h1 := all_one hW ig hxl
 have hz : ∀ y, (∀ q, whyB ig q = y → whyB (fun _ => false) q ≠ 0) → howL ((partF ig l l y).map (·.1)) x.1 = 0 := by
  intro y hy
  refine how_zero fun q hq => ?_
  obtain ⟨z, hz, rfl⟩ := List.mem_map.1 hq
  unfold partF at hz
  rw [List.mem_filter] at hz
  obtain ⟨hzl, hzc⟩ := hz
  simp only [Bool.and_eq_true, decide_eq_true_eq] at hzc
  have hn := hy z hzc.2
  refine ⟨fun e => ?_, ?_⟩
  · rw [same_at hW hzl hxl e] at hn; exact hn hxc.2
  · cases hw : withinB x.1 z.1 with
    | false => rfl
    | true =>
     have : overB (fun _ => false) l x.1 = true := List.any_eq_true.2 ⟨z, hzl, by simp [hw, hn]⟩
     rw [hxc.1] at this; cases this
 have ht : howL (fndF ig l l).temps x.1 = 0 := hz 1 fun q hq => by
  unfold whyB at hq ⊢
  split at hq
  · rename_i e; rw [if_pos e]; decide
  · split at hq
    · omega
    · split at hq <;> omega
 have hb : howL (fndF ig l l).bad x.1 = 0 := hz 3 fun q hq => by
  unfold whyB at hq ⊢
  split at hq
  · omega
  · rename_i e
    rw [if_neg e]
    split at hq
    · omega
    · split at hq
      · rename_i e2; simp [e2]
      · omega
 have hi : isL ((fndF ig l l).items.map (·.1)) x.1 = 0 := by
  unfold isL
  rw [List.length_eq_zero_iff, List.filter_eq_nil_iff]
  intro q hq k
  obtain ⟨z, hz, rfl⟩ := List.mem_map.1 hq
  have hz' : z ∈ partF ig l l 0 := hz
  unfold partF at hz'
  rw [List.mem_filter] at hz'
  have e := same_at hW hz'.1 hxl (by simpa using k)
  rw [e] at hz'
  unfold keptB at hk
  rw [hk] at hz'
  cases hz'.2
 omega
end
end Go.Proofs.YtahkcemdbfjilaaGreatDoor
namespace Go.Proofs.YtahkcemdbfjilaaGreatDoor
open Go.RowKit Go.Maps
theorem howL_snoc (ls : List By) (q p : By) : howL (ls ++ [q]) p = howL ls p + (if decide (q = p) || withinB p q then 1 else 0) := by
 unfold howL; rw [List.filter_append, List.length_append]
 congr 1
 rw [List.filter_cons]
 split <;> simp
set_option maxHeartbeats 4000000 in
theorem how_any {B : Nat} {w : World} {v : Value} {ls : List By} (h : StrR B w v ls) (hG : Gd w) (p : By) (hp : p.length ≤ 4000) (hn : ls.length ≤ 100000) (hq : ∀ q ∈ ls, q.length ≤ 4000) :
 Calls Tryz.prog 32 #[v, kS p] w fun e w' => e = .returned (.int .i64 (howL ls p)) ∧ Below w.heap.size w w' := by
 have H := hid h
 have HG := hid hG
 have HQ := hid hq
 obtain ⟨A, c, rfl⟩ := h.form
 obtain ⟨n, HN⟩ : ∃ n, Hid (ls.length = n) := ⟨_, rfl⟩
 rw [HN.out] at H hn ⊢
 clear h hG hq
 go_enter Tryz.func32, Tryz.ntmps32
 go_wp2
 go_loopw [5, 6] (fun v5 v6 wr => ∃ (k m : Nat), v6 = .int .i64 (k : Int) ∧ k ≤ n ∧ v5 = .int .i64 (m : Int) ∧ m ≤ k ∧ Hid (howL (ls.take k) p = m) ∧ Hid (Below w.heap.size w wr))
  (fun _ v6 _ => n - (intOf v6).toNat)
 case atStart => exact ⟨0, 0, rfl, Nat.zero_le _, rfl, Nat.le_refl _, rfl, Below.refl _ _⟩
 case round =>
  obtain ⟨k, m, rfl, hk, rfl, hmk, HM, J⟩ := hrel
  by_cases hlt : k < n
  · have hkl : k < ls.length := by rw [HN.out]; exact hlt
    obtain ⟨g, c', e, hg, hat⟩ := strR_at H.out (by omega)
    injection e with e e2 e3
    clear e2 e3
    subst e
    have c0 : wr.cell? ⟨g, k, none⟩ = some (kS ls[k]) := (J.out.cell (p := ⟨g, k, none⟩) hg).trans (hat k hkl)
    have hql : ls[k].length ≤ 4000 := HQ.out _ (List.getElem_mem hkl)
    have HX : Hid (howL (ls.take (k + 1)) p = m + (if decide (ls[k] = p) || withinB p ls[k] then 1 else 0)) := by show _ = _; rw [List.take_succ_eq_append_getElem hkl, howL_snoc, HM.out]
    generalize ls[k] = q at c0 hql HX
    have CW : Hid (Calls Tryz.prog 51 #[kS p, kS q] wr fun e w' => e = .returned (.bool (withinB p q)) ∧ Below wr.heap.size wr w') := by
     have := within_any (ba p) (ba q) wr (HG.out.kept J.out) (by rw [ba_size]; omega) (by rw [ba_size]; omega)
     rw [tl_ba, tl_ba] at this; exact this
    have hlt' : (k : Int) < (n : Int) := by omega
    have h0 : (0 : Int) ≤ (k : Int) := by omega
    have w1 : IntKind.i64.wrap ((k : Int) + 1) = (k : Int) + 1 := i64in _ (by omega) (by omega)
    have w2 : IntKind.i64.wrap ((m : Int) + 1) = (m : Int) + 1 := i64in _ (by omega) (by omega)
    clear hat hkl
    by_cases hqp : q = p
    · have HX2 : Hid (howL (ls.take (k + 1)) p = m + 1) := by show _ = _; rw [HX.out, decide_eq_true hqp, Bool.true_or, if_pos rfl]
      subst hqp
      go_wp2
      go_roundw
      case rel => exact ⟨k + 1, m + 1, by go_num, by omega, by go_num, by omega, HX2.out, J.out⟩
      case measure => simp [intOf]; omega
    · have q1 : ¬ (ba q).toList = (ba p).toList := fun e => hqp (by rw [toList_tl, toList_tl, tl_ba, tl_ba] at e; exact e)
      have q2 : ((ba q).toList == (ba p).toList) = false := by simpa using q1
      cases hw : withinB p q with
      | true =>
       have HX2 : Hid (howL (ls.take (k + 1)) p = m + 1) := by show _ = _; rw [HX.out, hw, Bool.or_true, if_pos rfl]
       rw [hw] at CW
       clear hqp hw
       go_wp2_with (go_at_call 51; refine CW.out.mono ?_; rintro e1 w1' ⟨rfl, hb1⟩; have B1 : Hid (Below w.heap.size w w1') := J.out.trans (hb1.mono J.out.size); clear hb1)
       go_roundw
       case rel => exact ⟨k + 1, m + 1, by go_num, by omega, by go_num, by omega, HX2.out, B1.out⟩
       case measure => simp [intOf]; omega
      | false =>
       have HX2 : Hid (howL (ls.take (k + 1)) p = m) := by show _ = _; rw [HX.out, hw, decide_eq_false hqp]; simp
       rw [hw] at CW
       clear hqp hw
       go_wp2_with (go_at_call 51; refine CW.out.mono ?_; rintro e1 w1' ⟨rfl, hb1⟩; have B1 : Hid (Below w.heap.size w w1') := J.out.trans (hb1.mono J.out.size); clear hb1)
       go_roundw
       case rel => exact ⟨k + 1, m, by go_num, by omega, rfl, by omega, HX2.out, B1.out⟩
       case measure => simp [intOf]; omega
  · obtain rfl : k = n := by omega
    have HE : Hid (howL ls p = m) := by show _ = _; rw [← HM.out, List.take_of_length_le (by rw [HN.out]; omega)]
    go_wp2
    go_ret
    exact ⟨by rw [HE.out]; rfl, J.out⟩
def joinP (l : Tr) : By := l.flatMap (·.1 ++ [32])
theorem joinP_snoc (l : Tr) (x : At) : joinP (l ++ [x]) = joinP l ++ x.1 ++ [32] := by simp [joinP]
theorem joinP_len {l : Tr} {m : Nat} (h : ∀ x ∈ l, x.1.length ≤ m) : (joinP l).length ≤ l.length * (m + 1) := by
 induction l with
 | nil => simp [joinP]
 | cons x l ih =>
  have e : joinP (x :: l) = (x.1 ++ [32]) ++ joinP l := by simp [joinP]
  have h1 := h x List.mem_cons_self
  have h2 := ih fun y hy => h y (List.mem_cons_of_mem _ hy)
  have h3 : (x.1 ++ [32] ++ joinP l).length = x.1.length + 1 + (joinP l).length := by simp; omega
  rw [e, h3, List.length_cons, Nat.add_mul]
  omega
theorem flat_get {α β : Type} (f : α → List β) (n : Nat) (hf : ∀ a, (f a).length = n) : ∀ (l : List α) (i : Nat) (hi : i < l.length) (j : Nat), j < n → (l.flatMap f)[i * n + j]? = (f l[i])[j]?
 | x :: l, 0, _, j, hj => by
  rw [List.flatMap_cons, Nat.zero_mul, Nat.zero_add, List.getElem?_append_left (by rw [hf]; exact hj)]; rfl
 | x :: l, i + 1, hi, j, hj => by
  rw [List.flatMap_cons, List.getElem?_append_right (by rw [hf, Nat.add_mul]; omega), hf, show (i + 1) * n + j - n = i * n + j by rw [Nat.add_mul]; omega]
  exact flat_get f n hf l i (by simpa using hi) j hj
theorem RecP.at_ {B : Nat} {w : World} {v : Value} {ps : List (At × Value)} (h : RecP B w v ps) (h0 : 0 < ps.length) : ∃ g c, v = .slice (some ⟨g, 0, none⟩) ps.length c ∧ B ≤ g ∧ g < w.heap.size ∧
 ∀ (k : Nat) (hk : k < ps.length) (j : Nat) (u : Value), j < 27 → (recN (ps[k]).1.1 (ps[k]).1.2 (ps[k]).2).toList[j]? = some u → w.cell? ⟨g, k * 27 + j, none⟩ = some u := by
 rcases h.own.2 with ⟨_, h3⟩ | ⟨g, c, cur, h3, hB, h4, h5⟩
 · omega
 · refine ⟨g, c, h3, hB, (World.ownsRow.lt h.own g (by rw [h3]; rfl)).2, fun k hk j u hj hu => ?_⟩
   have := World.ownsRow.cells (g := g) h.own (by rw [h3]; rfl) (k * 27 + j) u (by
    unfold pcells
    rw [flat_get (fun y : At × Value => (recN y.1.1 y.1.2 y.2).toList) 27 (fun y => rfl) ps k hk j hj]; exact hu)
   rwa [add_at, Nat.zero_add] at this
set_option maxHeartbeats 4000000 in
theorem paths_any {B : Nat} {w : World} {v : Value} {l : Tr} (h : RecR B w v l) (hn : l.length ≤ 100000) (hq : ∀ x ∈ l, x.1.length ≤ 4000) :
 Calls Tryz.prog 30 #[v] w fun e w' => e = .returned (kS (joinP l)) ∧ w = w' := by
 obtain ⟨ps, hps, hP⟩ := h
 have hlp : ps.length = l.length := by rw [← hps, List.length_map]
 have hv := hP.own
 have HP := hid hP
 have HPS := hid hps
 have HQ := hid hq
 obtain ⟨A, c, rfl⟩ : ∃ A c, v = .slice A ps.length c := by
  rcases hv.2 with ⟨h1, h2⟩ | ⟨g, c, cur, h1, _⟩
  · exact ⟨none, 0, by rw [h1, h2]⟩
  · exact ⟨some ⟨g, 0, none⟩, c, h1⟩
 obtain ⟨n, HN⟩ : ∃ n, Hid (ps.length = n) := ⟨_, rfl⟩
 rw [HN.out] at HP ⊢
 rw [← hlp, HN.out] at hn
 clear hP hps hq hv hlp
 go_enter Tryz.func30, Tryz.ntmps30
 go_wp2
 go_loopw [3, 4] (fun s0 i wr => ∃ (k : Nat), i = .int .i64 (k : Int) ∧ s0 = .string (ba (joinP (l.take k))) ∧ k ≤ n ∧ w = wr)
  (fun _ i _ => n - (intOf i).toNat)
 case atStart => exact ⟨0, rfl, rfl, Nat.zero_le _, rfl⟩
 case round =>
  obtain ⟨k, rfl, rfl, hk, rfl⟩ := hrel
  by_cases hlt : k < n
  · have hkp : k < ps.length := by rw [HN.out]; exact hlt
    have hkl : k < l.length := by rw [← HPS.out, List.length_map]; exact hkp
    obtain ⟨g, cap, hve, _, hg, hcell⟩ := HP.out.at_ (by omega)
    rw [HN.out] at hve
    simp only [Value.slice.injEq, true_and] at hve
    obtain ⟨rfl, rfl⟩ := hve
    have c0 := hcell k hkp 0 _ (by omega) rfl
    have e0 : (ps[k]).1 = l[k] := by
     have := HPS.out
     subst this
     simp
    rw [e0, Nat.add_zero] at c0
    have hkn : (k : Int) < (n : Int) := by omega
    have hk0 : (0 : Int) ≤ (k : Int) := by omega
    have hjl : (joinP (l.take k)).length ≤ 500000000 := by
     have := joinP_len (l := l.take k) (m := 4000) (fun s hs => HQ.out s (List.mem_of_mem_take hs))
     rw [List.length_take, Nat.min_eq_left (by omega)] at this
     have : k * (4000 + 1) ≤ 100000 * 4001 := Nat.mul_le_mul_right _ (by omega)
     omega
    have hsl : (l[k]).1.length ≤ 4000 := HQ.out _ (List.getElem_mem hkl)
    have hts : Hid (joinP (l.take (k + 1)) = joinP (l.take k) ++ ((l[k]).1 ++ [32])) := by show _ = _; rw [List.take_succ_eq_append_getElem hkl, joinP_snoc, List.append_assoc]
    generalize (l[k]).1 = s at c0 hsl hts
    generalize joinP (l.take k) = u at hjl hts
    have zu := ba_size u
    have zs := ba_size s
    have a1 : ba u ++ ba s = ba (u ++ s) := Glob.ba_app u s
    have a2 : ba (u ++ s) ++ (⟨#[32]⟩ : ByteArray) = ba (u ++ s ++ [32]) := Glob.ba_app (u ++ s) [32]
    have z2 : (ba (u ++ s)).size = u.length + s.length := by rw [ba_size, List.length_append]
    have w1 : IntKind.i64.wrap ((k : Int) + 1) = (k : Int) + 1 := i64in _ (by omega) (by omega)
    clear hcell hg e0
    go_wp2
    go_roundw
    case rel => exact ⟨k + 1, by go_num, by rw [hts.out], by omega, trivial⟩
    case measure => simp [intOf]; omega
  · obtain rfl : k = n := by omega
    have HE : Hid (l.take k = l) := by show _ = _; rw [List.take_of_length_le (by rw [← HPS.out, List.length_map, HN.out]; omega)]
    rw [HE.out]
    go_wp2
    go_ret
    exact ⟨rfl, rfl⟩
end Go.Proofs.YtahkcemdbfjilaaGreatDoor
namespace Go.Proofs.YtahkcemdbfjilaaGreatDoor
open Go.RowKit Go.Maps
def NextP (w : World) (room : Nat) (r : Int × Tr) (e : Ending) (w' : World) : Prop :=
 (r.1 = 0 ∧ ∃ o, e = .returned (.tuple #[.pointer (some ⟨o, 0, none⟩), .int .i64 0]) ∧ TreeF w.heap.size w' o r.2 room ∧ Below w.heap.size w w') ∨ (r.1 ≠ 0 ∧ e = .returned (.tuple #[.pointer none, .int .i64 r.1]) ∧ Below w.heap.size w w')
theorem NextP.bad {w w' : World} {room : Nat} {r : Int × Tr} {c : Int} (hr : r.1 = c) (hc : c ≠ 0) (hb : Below w.heap.size w w') : NextP w room r (.returned (.tuple #[.pointer none, .int .i64 c])) w' := by
 subst hr; exact .inr ⟨hc, rfl, hb⟩
def Short (L : Tr) : Prop := ∀ x ∈ L, x.1.length ≤ 4000
theorem WFT.short {room : Nat} {L : Tr} (h : WFT room L) : Short L := fun x hx => by
 obtain ⟨p, n⟩ := x
 have := (may_parts (h.may p (by rw [mem_look h.srt hx]; rfl))).1
 show p.length ≤ 4000; omega
end Go.Proofs.YtahkcemdbfjilaaGreatDoor
