/- Several texts in one. Conditions: those said at each. -/
import Derived.Test.YtahkcemdbfjilaaGreatDoorWb28
set_option linter.unusedSimpArgs false
set_option linter.unusedVariables false
set_option maxRecDepth 100000
namespace Go.Proofs.YtahkcemdbfjilaaGreatDoor.Glob
open Go.RowKit Go.Maps
def ptrV (g : Nat) : Value := .pointer (some ⟨g, 0, none⟩)
def Calm (L D : Nat) (r : Option Nat) (j : Nat) (o : Obj) : Prop :=
 (∀ cs q, o = Obj.cells cs 106 q → j ≠ L) ∧ (∀ es c, o = Obj.map es c → j ≠ D) ∧ (∀ cs q, o ≠ Obj.cells cs 169 q) ∧ (∀ cs q, o = Obj.cells cs 9 q → some j ≠ r)
def Fr (L D : Nat) (r : Option Nat) (w W : World) : Prop := w.heap.size ≤ W.heap.size ∧ ∀ (j : Nat) (o : Obj), w.heap[j]? = some o → Calm L D r j o → W.heap[j]? = some o
theorem Calm.cells {L D : Nat} {r : Option Nat} {j : Nat} {cs : Array Value} {t : TypeId} {q : Nat × Nat} (h1 : t ≠ 106) (h2 : t ≠ 169) (h3 : t ≠ 9) : Calm L D r j (Obj.cells cs t q) := by
 refine ⟨fun cs' q' e => ?_, fun es c e => (nomatch e), fun cs' q' e => ?_, fun cs' q' e => ?_⟩
 · simp only [Obj.cells.injEq] at e; exact absurd e.2.1 h1
 · simp only [Obj.cells.injEq] at e; exact h2 e.2.1
 · simp only [Obj.cells.injEq] at e; exact absurd e.2.1 h3
theorem Calm.strs {L D : Nat} {r : Option Nat} {j : Nat} {cs : Array Value} {q : Nat × Nat} (h : some j ≠ r) : Calm L D r j (Obj.cells cs 9 q) := by
 refine ⟨fun cs' q' e => ?_, fun es c e => (nomatch e), fun cs' q' e => ?_, fun _ _ _ => h⟩
 · simp only [Obj.cells.injEq] at e; exact absurd e.2.1 (by decide)
 · simp only [Obj.cells.injEq] at e; exact absurd e.2.1 (by decide)
theorem Calm.map {L D : Nat} {r : Option Nat} {j : Nat} {es} {c} (h : j ≠ D) : Calm L D r j (Obj.map es c) := ⟨fun _ _ e => (nomatch e), fun _ _ _ => h, fun _ _ e => (nomatch e), fun _ _ e => (nomatch e)⟩
theorem Fr.of_below {L D : Nat} {r : Option Nat} {w W : World} (h : Below w.heap.size w W) : Fr L D r w W := ⟨h.size, fun j _ ho _ => (h.block j (Array.getElem?_eq_some_iff.1 ho).1).trans ho⟩
theorem Fr.refl (L D : Nat) (r : Option Nat) (w : World) : Fr L D r w w := Fr.of_below (Below.refl _ _)
theorem Fr.trans {L D : Nat} {r r' : Option Nat} {a b c : World} (h : Fr L D r a b) (k : Fr L D r' b c) (hr : ∀ j, j < a.heap.size → some j = r' → some j = r) : Fr L D r a c := by
 refine ⟨Nat.le_trans h.1 k.1, fun j o ho hc => k.2 j o (h.2 j o ho hc) ⟨hc.1, hc.2.1, hc.2.2.1, fun cs q e h2 => hc.2.2.2 cs q e (hr j (Array.getElem?_eq_some_iff.1 ho).1 h2)⟩⟩
theorem Fr.thenG {L D : Nat} {r : Option Nat} {a b c : World} (h : Fr L D r a b) (k : Below b.heap.size b c) : Fr L D r a c := h.trans (Fr.of_below (r := r) k) (fun _ _ h => h)
theorem Fr.tr {L D : Nat} {r : Option Nat} {a b c : World} (h : Fr L D r a b) (k : Fr L D r b c) : Fr L D r a c := h.trans k (fun _ _ h => h)
theorem Fr.has {L D : Nat} {r : Option Nat} {w W : World} {g : Nat} {t : TypeId} {cs : Array Value} (h : Fr L D r w W) (k : Has w g t cs) (h1 : t ≠ 106) (h2 : t ≠ 169) (h3 : t ≠ 9) : Has W g t cs := h.2 g _ k (Calm.cells h1 h2 h3)
theorem Fr.str {L D : Nat} {r : Option Nat} {w W : World} {g : Nat} {cs : Array Value} (h : Fr L D r w W) (k : Has w g 9 cs) (hr : some g ≠ r) : Has W g 9 cs := h.2 g _ k (Calm.strs hr)
theorem Fr.gx {L D : Nat} {r : Option Nat} {w W : World} (h : Fr L D r w W) : Gx w W := by
 refine ⟨h.1, fun j cs t q ho ht => h.2 j _ ho ?_⟩
 rcases ht with rfl | rfl | rfl | rfl <;> exact Calm.cells (by decide) (by decide) (by decide)
theorem Fr.own {L D : Nat} {r : Option Nat} {w W : World} {B : Nat} {e : TypeId} {s n : Nat} {v : Value} {xs : List Value} (h : Fr L D r w W) (k : w.ownsRow B e s v n xs) (h1 : e ≠ 106) (h2 : e ≠ 169) (h3 : e ≠ 9) : W.ownsRow B e s v n xs := by
 refine ⟨k.1, ?_⟩
 rcases k.2 with h1 | ⟨g, c, cur, rfl, hB, h4, h5⟩
 · exact .inl h1
 · exact .inr ⟨g, c, cur, rfl, hB, h.2 g _ h4 (Calm.cells h1 h2 h3), h5⟩
theorem Els.fr {L D : Nat} {r : Option Nat} {B : Nat} {w w' : World} {v : Value} {hs : H} (h : Els B w v hs) (hb : Fr L D r w w') : Els B w' v hs := by
 obtain ⟨ps, ho, hl, hf⟩ := h
 exact ⟨ps, hb.own ho (by decide) (by decide) (by decide), hl, fun k p x hp hx => ⟨(hf k p x hp hx).1, (hf k p x hp hx).2.gx hb.gx⟩⟩
theorem PatIs.fr {L D : Nat} {r : Option Nat} {w w' : World} {g : Nat} {s : By} {p : Pt} (h : PatIs w g s p) (hb : Fr L D r w w') : PatIs w' g s p := by
 obtain ⟨v, h1, h2, h3⟩ := h
 exact ⟨v, hb.has h1 (by decide) (by decide) (by decide), h2.fr hb, h3⟩
def PtrTo (w : World) (gs : List Nat) (ps : List By) : Prop := gs.length = ps.length ∧ ∀ (k : Nat) g s, gs[k]? = some g → ps[k]? = some s → ∃ p, PatIs w g s p ∧ parseL s = some p ∧ perr s = 0
theorem PtrTo.fr {L D : Nat} {r : Option Nat} {w w' : World} {gs : List Nat} {ps : List By} (h : PtrTo w gs ps) (hb : Fr L D r w w') : PtrTo w' gs ps :=
 ⟨h.1, fun k g s h1 h2 => by obtain ⟨p, a, b⟩ := h.2 k g s h1 h2; exact ⟨p, a.fr hb, b⟩⟩
theorem PtrTo.append {w : World} {gs hs : List Nat} {ps qs : List By} (h : PtrTo w gs ps) (k : PtrTo w hs qs) : PtrTo w (gs ++ hs) (ps ++ qs) := by
 refine ⟨by simp [h.1, k.1], fun j g s h1 h2 => ?_⟩
 by_cases hj : j < gs.length
 · rw [List.getElem?_append_left hj] at h1
   rw [List.getElem?_append_left (by rw [← h.1]; exact hj)] at h2
   exact h.2 j g s h1 h2
 · rw [List.getElem?_append_right (by omega)] at h1
   rw [List.getElem?_append_right (by rw [← h.1]; omega), ← h.1] at h2
   exact k.2 _ g s h1 h2
theorem PtrTo.nil (w : World) : PtrTo w [] [] := ⟨rfl, fun k g s h => by simp at h⟩
theorem PtrTo.one {w : World} {g : Nat} {s : By} {p : Pt} (h : PatIs w g s p) (h1 : parseL s = some p) (h2 : perr s = 0) : PtrTo w [g] [s] := by
 refine ⟨rfl, fun k g' s' a b => ?_⟩
 match k, a, b with
 | 0, a, b => simp at a b; subst a; subst b; exact ⟨p, h, h1, h2⟩
 | k + 1, a, b => simp at a
theorem PtrTo.part {w : World} {gs : List Nat} {ps : List By} (h : PtrTo w gs ps) (a n : Nat) : PtrTo w ((gs.drop a).take n) ((ps.drop a).take n) := by
 refine ⟨by simp [h.1], fun k g s h1 h2 => ?_⟩
 rw [List.getElem?_take, List.getElem?_drop] at h1 h2
 split at h1
 · rename_i hk; rw [if_pos hk] at h2; exact h.2 _ g s h1 h2
 · cases h1
def Pats (B : Nat) (w : World) (v : Value) (ps : List By) : Prop := ∃ gs : List Nat, w.ownsRow B 169 1 v ps.length (gs.map ptrV) ∧ PtrTo w gs ps
theorem Pats.nil (B : Nat) (w : World) : Pats B w (.slice none 0 0) [] := ⟨[], World.ownsRow_nil _ _ _ _, PtrTo.nil w⟩
theorem Pats.form {B : Nat} {w : World} {v : Value} {ps : List By} (h : Pats B w v ps) : ∃ A c, v = .slice A ps.length c := by obtain ⟨_, ho, _⟩ := h; exact own_form ho
theorem Pats.below {B : Nat} {w w' : World} {v : Value} {ps : List By} (h : Pats B w v ps) (hb : Below w.heap.size w w') : Pats B w' v ps := by
 obtain ⟨gs, ho, hp⟩ := h
 exact ⟨gs, own_below ho hb, hp.fr (Fr.of_below (L := 0) (D := 0) (r := none) hb)⟩
theorem infoPatP : (Tryz.prog.info? 169).map (fun i => (i.zero, i.size, i.bytes)) = some (some (.pointer none), 1, 8) := by kernel_rfl
def More (w : World) (x : Value) (qs : List By) : Prop := ∃ (gs : List Nat) (A : Option Addr) (c : Nat), x = .slice A qs.length c ∧ PtrTo w gs qs ∧ (A = none → qs = [] ∧ c = 0) ∧ ∀ a, A = some a → ∀ (j : Nat) u, (gs.map ptrV)[j]? = some u → w.cell? (a.add j) = some u
theorem append_pats {B : Nat} {w : World} {v x : Value} {ps qs : List By} (h : Pats B w v ps) (hx : More w x qs) (hn : ps.length + qs.length ≤ 64) (hB : B ≤ w.heap.size) (ty : TypeId) :
 ∃ v' w', (Builtin.append_ #[104, 104] ty #[v, x]).run Tryz.prog w = .ok v' w' ∧ Pats B w' v' (ps ++ qs) ∧ (∀ L D r, Fr L D r w w') ∧ (∀ (a : World), Below B a w → Below B a w') ∧ (∀ g t cs, Has w g t cs → t ≠ 169 → Has w' g t cs) := by
 obtain ⟨gs, ho, hp⟩ := h
 obtain ⟨hs, A, c, rfl, hq, hA0, hA⟩ := hx
 obtain ⟨i0, hi, hz0, hz1, hz2⟩ := info_parts infoPatP
 cases A with
 | none =>
  obtain ⟨hq0, hc0⟩ := hA0 rfl
  subst hq0; subst hc0
  have hr := run_append_owned_none (P := Tryz.prog) w B 104 ty 169 i0 1 Tryz.underlying104 hi v ps.length _ ho
  exact ⟨v, w, hr, by rw [List.append_nil]; exact ⟨gs, ho, hp⟩, fun _ _ _ => Fr.refl _ _ _ _, fun _ h => h, fun _ _ _ h _ => h⟩
 | some a =>
  obtain ⟨v', w', hr, ho', hg, _, _⟩ := run_append_own_at (P := Tryz.prog) w B 104 ty 169 i0 (.pointer none) 1 8 Tryz.underlying104 hi hz0 hz1 hz2 rfl (by omega) v ps.length _ ho a qs.length c (hs.map ptrV) (by simp [hq.1]) (hA a rfl) (fun y hy => by
   obtain ⟨g, _, rfl⟩ := List.mem_map.1 hy; rfl) (by unfold maxLen; omega) (by omega) hB
  have hty := own_typed ho
  have hF : ∀ L D r, Fr L D r w w' := fun L D r => ⟨hg.size, fun j o hj hc => (hg.block j (Array.getElem?_eq_some_iff.1 hj).1 fun e => by
   obtain ⟨cs, q, h2⟩ := hty j e.symm
   exact hc.2.2.1 cs q (Option.some.inj (hj.symm.trans h2))).trans hj⟩
  refine ⟨v', w', hr, ⟨gs ++ hs, by rw [List.map_append, List.length_append]; exact ho', (hp.append hq).fr (hF 0 0 none)⟩, hF, fun a ha => grown_below hg ha (fun k hk => (own_inside ho k hk).1) hB, fun g t cs hh ht => ?_⟩
  refine (hg.block g hh.inside fun e => ?_).trans hh
  obtain ⟨cs', q, h2⟩ := hty g e.symm
  have e2 := Option.some.inj (hh.symm.trans h2)
  simp only [Obj.cells.injEq] at e2
  exact ht e2.2.1
def Out (g : Except Int (List By)) (e : Ending) (X : Prop) (Y : List By → Prop) : Prop :=
 match g with
 | .error c => e = .returned (.int .i64 c) ∧ c ≠ 0 ∧ X
 | .ok qs => e = .returned (.int .i64 0) ∧ Y qs
theorem Out.err {g : Except Int (List By)} {c : Int} (h : g = .error c) {e : Ending} {X : Prop} {Y : List By → Prop} (h1 : e = .returned (.int .i64 c)) (h2 : c ≠ 0) (h3 : X) : Out g e X Y := by subst h; exact ⟨h1, h2, h3⟩
theorem Out.ok {g : Except Int (List By)} {qs : List By} (h : g = .ok qs) {e : Ending} {X : Prop} {Y : List By → Prop} (h1 : e = .returned (.int .i64 0)) (h2 : Y qs) : Out g e X Y := by subst h; exact ⟨h1, h2⟩
theorem Out.of_err {c : Int} {e : Ending} {X : Prop} {Y : List By → Prop} (h : Out (.error c) e X Y) : e = .returned (.int .i64 c) ∧ c ≠ 0 ∧ X := h
theorem Out.of_ok {qs : List By} {e : Ending} {X : Prop} {Y : List By → Prop} (h : Out (.ok qs) e X Y) : e = .returned (.int .i64 0) ∧ Y qs := h
def ListIs (B : Nat) (w : World) (L : Nat) (ps : List By) : Prop := ∃ v, Has w L 106 #[v] ∧ Pats B w v ps
theorem ListIs.below {B L : Nat} {w w' : World} {ps : List By} (h : ListIs B w L ps) (hb : Below w.heap.size w w') : ListIs B w' L ps := by
 obtain ⟨v, h1, h2⟩ := h
 exact ⟨v, h1.stays hb, h2.below hb⟩
theorem Fr.setL {L D : Nat} {r : Option Nat} {w : World} {cs : Array Value} (h : Has w L 106 cs) (v : Value) : Fr L D r w (w.setCell ⟨L, 0, none⟩ v) := by
 refine ⟨by simp, fun j o ho hc => ?_⟩
 by_cases hj : j = L
 · subst hj
   exact absurd rfl (hc.1 _ _ (Option.some.inj (ho.symm.trans h)))
 · exact (Below.heap_setCell w ⟨L, 0, none⟩ v j hj).trans ho
theorem Pats.setL {B L : Nat} {w : World} {cs : Array Value} {v : Value} {ps : List By} (h : Pats B w v ps) (hL : Has w L 106 cs) (u : Value) : Pats B (w.setCell ⟨L, 0, none⟩ u) v ps := by
 obtain ⟨gs, ho, hp⟩ := h
 refine ⟨gs, own_stays ho fun k hk => ?_, hp.fr (Fr.setL (D := 0) (r := none) hL u)⟩
 have : k ≠ L := by
  rintro rfl
  obtain ⟨cs', q, h2⟩ := own_typed ho k hk
  have e2 := Option.some.inj (hL.symm.trans h2)
  simp only [Obj.cells.injEq] at e2
  exact absurd e2.2.1 (by decide)
 exact Below.heap_setCell w ⟨L, 0, none⟩ u k this
set_option maxHeartbeats 1000000 in
theorem add_any (B L : Nat) (ps qs : List By) (x : Value) (w : World) (hL : ListIs B w L ps) (hx : More w x qs) (h1 : ps.length ≤ 64) (h2 : qs.length ≤ 64) (hB : B ≤ L) :
 Calls Tryz.prog 44 #[ptrV L, x] w fun e w' => Out (addL ps qs) e (w = w') (fun rs => ListIs B w' L rs ∧ (∀ D r, Fr L D r w w') ∧ (∀ (a : World), Below B a w → Below B a w')) := by
 obtain ⟨v, hh, hp⟩ := hL
 have hBs : B ≤ w.heap.size := by have := hh.inside; omega
 have c0 := hh.at_ 0
 obtain ⟨A, cp, rfl⟩ := hp.form
 obtain ⟨X, cx, hxe⟩ : ∃ X cx, x = .slice X qs.length cx := by obtain ⟨_, A, c, h, _⟩ := hx; exact ⟨A, c, h⟩
 have h1' := h1
 have h2' := h2
 by_cases h64 : ps.length + qs.length ≤ 64
 · have HE : Hid (addL ps qs = .ok (ps ++ qs)) := by show _ = _; unfold addL; rw [if_pos h64]
   obtain ⟨v', w1, hr, hp', hF, hBel, hH⟩ := append_pats hp hx h64 hBs 104
   have HL1 := hid (hH L 106 _ hh (by decide))
   have d0 := HL1.out.at_ 0
   have f0 := HL1.out.free 0
   have HP := hid hp'
   have HF := hid hF
   have HBel := hid hBel
   have HR := hid hr
   obtain ⟨A', cp', hv'⟩ := hp'.form
   rw [List.length_append] at hv'
   subst hv'
   subst hxe
   have g1 : ¬ ((64 : Int) < (ps.length : Int) + (qs.length : Int)) := by omega
   generalize hn : ps.length = n at *
   generalize hm : qs.length = m at *
   clear hp hx hp' hF hBel hH hr hh
   unfold ptrV
   go_enter Tryz.func44, Tryz.ntmps44
   go_wp2_with (at_builtin; refine wpList_append_run rfl (.tmp 18) (.tmp 19) 104 104 rfl ⟨_, w1, HR.out, ?_⟩)
   go_ret
   exact Out.ok HE.out rfl ⟨⟨_, HL1.out.put 0 _, HP.out.setL HL1.out _⟩, fun D r => (HF.out L D r).tr (Fr.setL HL1.out _), fun a ha => (HBel.out a ha).setCell hB _⟩
 · have HE : Hid (addL ps qs = .error 3) := by show _ = _; unfold addL; rw [if_neg h64]
   subst hxe
   have g1 : (64 : Int) < (ps.length : Int) + (qs.length : Int) := by omega
   generalize hn : ps.length = n at *
   generalize hm : qs.length = m at *
   clear hp hx hh
   unfold ptrV
   go_enter Tryz.func44, Tryz.ntmps44
   go_wp2
   go_ret
   exact Out.err HE.out rfl (by decide) rfl
end Go.Proofs.YtahkcemdbfjilaaGreatDoor.Glob
namespace Go.Proofs.YtahkcemdbfjilaaGreatDoor.Glob
open Go.RowKit Go.Maps
def lineP (s : By) (ps : List By) : Except Int (List By) := if ps.length = 64 then .error 3 else if perr s ≠ 0 then .error (perr s) else .ok (ps ++ [s])
def lineL (rd : By → List By → Except Int (List By)) (s : By) (ps : List By) : Except Int (List By) := if pre incM s then rd (s.drop 9) ps else lineP s ps
def foldE (f : By → List By → Except Int (List By)) : List By → List By → Except Int (List By)
 | [], ps => .ok ps
 | s :: ls, ps => match f s ps with | .error e => .error e | .ok qs => foldE f ls qs
theorem stepL_fold (rd : By → List By → Except Int (List By)) : ∀ ls ps, stepL rd ls ps = foldE (lineL rd) ls ps := by
 intro ls
 induction ls with
 | nil => intro ps; rfl
 | cons s ls ih =>
  intro ps
  unfold stepL foldE lineL lineP
  split
  · cases rd (s.drop 9) ps with
    | error e => rfl
    | ok qs => exact ih qs
  · split
    · rfl
    · split
      · rfl
      · exact ih _
theorem sclone_any (s : By) (w : World) (hs : s.length ≤ 100000) : Calls Tryz.prog 78 #[.string (ba s)] w fun e w' => e = .returned (.string (ba s)) ∧ Below w.heap.size w w' := by
 have HC := hid (Tryz.stringslite_Clone (ba s) w (by rw [ba_size]; omega))
 go_enter Tryz.func78, Tryz.ntmps78
 go_wp2_with (go_at_call 126; refine HC.out.mono ?_; rintro e1 w1 ⟨rfl, hb1⟩)
 go_ret
 exact ⟨rfl, hb1⟩
theorem More.one {w : World} {g : Nat} {s : By} {p : Pt} (h : PatIs w g s p) (h1 : parseL s = some p) (h2 : perr s = 0) : More (w.alloc (.cells #[ptrV g] 169)) (.slice (some ⟨w.heap.size, 0, none⟩) 1 1) [s] := by
 have hb : Below w.heap.size w (w.alloc (.cells #[ptrV g] 169)) := (Below.refl _ _).alloc (Nat.le_refl _) _
 refine ⟨[g], _, 1, rfl, PtrTo.one (h.stays hb) h1 h2, fun e => (nomatch e), fun a ha j u hj => ?_⟩
 simp only [Option.some.injEq] at ha
 subst ha
 match j, hj with
 | 0, hj => simp at hj; subst hj; exact (Has.fresh w 169 #[ptrV g]).at_ 0
 | j + 1, hj => simp at hj
set_option maxHeartbeats 1000000 in
theorem lparse_any (B L : Nat) (ps : List By) (s : By) (w : World) (hL : ListIs B w L ps) (h1 : ps.length ≤ 64) (hs : s.length ≤ 100000) (hB : B ≤ L) :
 Calls Tryz.prog 48 #[ptrV L, .string (ba s)] w fun e w' => Out (lineP s ps) e True (fun rs => ListIs B w' L rs) ∧ (∀ D r, Fr L D r w w') ∧ (∀ (a : World), Below B a w → Below B a w') := by
 have HL := hid hL
 obtain ⟨v, hh, hp⟩ := hL
 have hBs : B ≤ w.heap.size := by have := hh.inside; omega
 have c0 := hh.at_ 0
 obtain ⟨A, cp, rfl⟩ := hp.form
 have HBS := hid hBs
 have HB := hid hB
 have H1 := hid h1
 have HCL := hid (sclone_any s w hs)
 by_cases h64 : ps.length = 64
 · have HE : Hid (lineP s ps = .error 3) := by show _ = _; unfold lineP; rw [if_pos h64]
   have g1 : (ps.length : Int) = 64 := by omega
   generalize hn : ps.length = n at *
   clear hp hh HL H1 h1 h64 hs hB hBs
   unfold ptrV
   go_enter Tryz.func48, Tryz.ntmps48
   go_wp2
   go_ret
   exact ⟨Out.err HE.out rfl (by decide) trivial, fun D r => Fr.refl _ _ _ _, fun _ h => h⟩
 · have HE : Hid (lineP s ps = if perr s ≠ 0 then .error (perr s) else .ok (ps ++ [s])) := by show _ = _; unfold lineP; rw [if_neg h64]
   have g1 : ¬ ((ps.length : Int) = 64) := by omega
   have HAD : Hid (addL ps [s] = .ok (ps ++ [s])) := by show _ = _; unfold addL; rw [if_pos (by simp; omega)]
   generalize hn : ps.length = n at g1 c0
   clear hp hh h1 h64 hs hB hBs
   unfold ptrV
   go_enter Tryz.func48, Tryz.ntmps48
   go_wp2_with (fail)
   refine HCL.out.mono ?_
   rintro e1 w1 ⟨rfl, hb1⟩
   go_wp2_with (fail)
   refine (parse_any s w1).mono ?_
   rintro e2 w2 ⟨hp2, hb2⟩
   have HB2 : Hid (Below w.heap.size w w2) := hb1.thenG hb2
   clear hb1 hb2
   rcases parse_cases hp2 with ⟨c, hc, hpe, rfl⟩ | ⟨p, g, hl, hpl, hpe, rfl, hpat⟩
   · have hc0 : (c == 0) = false := by simp [hc]
     have HPE := hid hpe
     have HC := hid hc
     have HGE : Hid (lineP s ps = .error c) := by show _ = _; rw [HE.out, if_pos (by rw [hpe]; exact hc), hpe]
     clear hp2 hpe hc
     go_wp2
     go_ret
     exact ⟨Out.err HGE.out rfl HC.out trivial, fun D r => Fr.of_below HB2.out, fun a ha => ha.trans (HB2.out.mono HBS.out)⟩
   · have HPE := hid hpe
     have HGE : Hid (lineP s ps = .ok (ps ++ [s])) := by show _ = _; rw [HE.out, if_neg (by rw [hpe]; decide)]
     have HM := hid (More.one hpat hpl hpe)
     have HL3 : Hid (ListIs B (w2.alloc (.cells #[ptrV g] 169)) L ps) := HL.out.below (HB2.out.alloc HB2.out.size _)
     have HB3 : Hid (Below w.heap.size w (w2.alloc (.cells #[ptrV g] 169))) := HB2.out.alloc HB2.out.size _
     have HCA := hid (add_any B L ps [s] _ _ HL3.out HM.out H1.out (by simp) HB.out)
     rw [HAD.out] at HCA
     unfold ptrV at HCA HB3 HM HL3
     clear hp2 hpe hl hpl hpat
     go_wp2_with (fail)
     refine HCA.out.mono ?_
     intro e3 w3 h3
     obtain ⟨rfl, hl3, hf3, hbb3⟩ := h3.of_ok
     clear h3
     have HLL := hid hl3
     have HF := hid hf3
     have HBB := hid hbb3
     clear hl3 hf3 hbb3
     go_wp2
     go_ret
     exact ⟨Out.ok HGE.out rfl HLL.out, fun D r => (Fr.of_below HB3.out).tr (HF.out D r), fun a ha => HBB.out a (ha.trans (HB3.out.mono HBS.out))⟩
theorem idle_no {u : By} (h : idle u = false) : ∃ x u', u = x :: u' ∧ pre [47, 47] u = false := by
 unfold idle at h
 cases u with
 | nil => simp at h
 | cons x u' => exact ⟨x, u', rfl, by simpa using h⟩
theorem idle_yes {u : By} (h : idle u = true) : u = [] ∨ ∃ x u', u = x :: u' ∧ pre [47, 47] u = true := by
 cases u with
 | nil => exact .inl rfl
 | cons x u' => exact .inr ⟨x, u', rfl, by unfold idle at h; simpa using h⟩
set_option maxHeartbeats 2000000 in
theorem lines_any (text : By) (k : Nat) (lb : Array Value) (ek : ∀ (args : Array Value) (w : World), (callFunc k args).run Tryz.prog w = .ok (.enter k args) w) (I : List By → World → Prop) (E : World → Prop) (stp : By → List By → Except Int (List By))
 (hI : ∀ ps W W', I ps W → Below W.heap.size W W' → I ps W') (hG : ∀ ps W, I ps W → Gd W)
 (hst : ∀ ps W s, s ∈ linesL text → I ps W → Calls Tryz.prog k (#[.string (ba s)] ++ lb) W fun e W' => Out (stp s ps) e (E W') (fun qs => I qs W'))
 (ps : List By) (w : World) (h0 : I ps w) (hl : text.length ≤ 100000) :
 Calls Tryz.prog 45 #[.string (ba text), .func (.func k) #[] lb] w fun e W => Out (foldE stp (linesL text) ps) e (E W) (fun qs => I qs W) := by
 have HI := hid hI; have HG := hid hG; have HST := hid hst; have H0 := hid h0
 clear hI hG hst h0
 obtain ⟨goal, HC⟩ : ∃ g, Hid (foldE stp (linesL text) ps = g) := ⟨_, rfl⟩
 rw [HC.out]
 go_enter Tryz.func45, Tryz.ntmps45
 go_wp2
 go_loopw [0, 5] (fun s0 m wr => ∃ (t : By) (g : Bool) (qs : List By), s0 = .string (ba t) ∧ m = .bool g ∧ t.length ≤ 100000 ∧ Hid (goal = if g then foldE stp (linesL t) qs else .ok qs) ∧ Hid (I qs wr) ∧ Hid (g = true → ∀ s ∈ linesL t, s ∈ linesL text))
  (fun s0 m _ => match s0, m with | .string x, .bool true => x.size + 1 | _, _ => 0)
 case atStart => exact ⟨text, true, ps, rfl, rfl, hl, HC.out.symm, H0, fun _ _ h => h⟩
 case round =>
  obtain ⟨t, g, qs, rfl, rfl, ht, HE, HW, HM⟩ := hrel
  cases g with
  | false =>
   go_wp2
   go_ret
   exact Out.ok HE.out rfl HW.out
  | true =>
   obtain ⟨p, q, m, HCU⟩ : ∃ p q m, Hid (cutN t = (p, q, m)) := ⟨_, _, _, rfl⟩
   have hp : p.length ≤ 100000 := by have := (cutYtahkcemdbfjilaaGreatDoorlen t).2.1; rw [HCU.out] at this; simp only at this; omega
   have hq : q.length ≤ 100000 := by have := (cutYtahkcemdbfjilaaGreatDoorlen t).1; rw [HCU.out] at this; simp only at this; omega
   have HQ : Hid (m = true → q.length < t.length) := by intro hm; have := (cutYtahkcemdbfjilaaGreatDoorlen t).2.2; rw [HCU.out] at this; exact this hm
   have HLN : Hid (linesL t = (if idle (trimB p) then [] else [trimB p]) ++ (if m then linesL q else [])) := by show _ = _; rw [linesL_cut, HCU.out]
   have HNL := hid (nl_any t p q m HCU wr (HG.out _ _ HW.out) ht)
   have HTR := hid (fun W => trim_any p W hp)
   have HZT := hid (ba_size t)
   have HZQ := hid (ba_size q)
   have HQL := hid hq
   generalize trimB p = u at HLN HTR
   cases hid0 : idle u with
   | true =>
    rw [hid0] at HLN
    have HE2 : Hid (goal = if m then foldE stp (linesL q) qs else .ok qs) := by
     show _ = _; rw [HE.out, if_pos rfl, HLN.out]; cases m <;> rfl
    have HM2 : Hid (m = true → ∀ s ∈ linesL q, s ∈ linesL text) := fun hm s hs => HM.out rfl s (by rw [HLN.out, hm]; simpa using hs)
    rcases idle_yes hid0 with rfl | ⟨x, u', rfl, hpre⟩
    · have zt : (ba ([] : By)).toList = [] := toList_ba _
      generalize ba ([] : By) = X at zt HTR
      clear hid0 hp hq
      go_wp2_with (first
       | (go_at_call 90; refine HNL.out.mono ?_; rintro e1 w1 ⟨rfl, nd, rfl⟩)
       | (go_at_call 91; refine (HTR.out _).mono ?_; rintro e2 w2 ⟨rfl, hb2⟩
          have HW2 : Hid (I qs w2) := HI.out _ _ _ HW.out (((Below.refl _ _).drewG nd).thenG hb2)
          clear hb2))
      go_roundw
      case rel => exact ⟨q, m, qs, rfl, rfl, HQL.out, HE2, HW2, HM2⟩
      case measure =>
       cases m with
       | false => simp
       | true => simp only; rw [HZQ.out, HZT.out]; have := HQ.out rfl; omega
    · have HPR := hid (fun W => pre_any (x :: u') [47, 47] W)
      rw [hpre] at HPR
      have zt : (ba (x :: u')).toList = x :: u' := toList_ba _
      generalize ba (x :: u') = X at zt HTR HPR
      clear hid0 hp hq hpre
      go_wp2_with (first
       | (go_at_call 90; refine HNL.out.mono ?_; rintro e1 w1 ⟨rfl, nd, rfl⟩)
       | (go_at_call 91; refine (HTR.out _).mono ?_; rintro e2 w2 ⟨rfl, hb2⟩
          have HW2 : Hid (I qs w2) := HI.out _ _ _ HW.out (((Below.refl _ _).drewG nd).thenG hb2)
          clear hb2)
       | (go_at_call 75; refine (HPR.out _).mono ?_; rintro e3 w3 ⟨rfl, rfl⟩))
      go_roundw
      case rel => exact ⟨q, m, qs, rfl, rfl, HQL.out, HE2, HW2, HM2⟩
      case measure =>
       cases m with
       | false => simp
       | true => simp only; rw [HZQ.out, HZT.out]; have := HQ.out rfl; omega
   | false =>
    obtain ⟨x, u', hu, hpre⟩ := idle_no hid0
    rw [hid0] at HLN
    have HIN : Hid (u ∈ linesL text) := HM.out rfl u (by rw [HLN.out]; simp)
    have HT : Hid (∀ W, I qs W → Calls Tryz.prog k (#[.string (ba u)] ++ lb) W fun e W' => Out (stp u qs) e (E W') (fun rs => I rs W')) := fun W h => HST.out qs W u HIN.out h
    have HPR := hid (fun W => pre_any u [47, 47] W)
    rw [hpre] at HPR
    have zt : (ba u).toList = x :: u' := by rw [toList_ba, hu]
    cases hsp : stp u qs with
    | error c =>
     have HE2 : Hid (goal = .error c) := by
      show _ = _; rw [HE.out, if_pos rfl, HLN.out]; show foldE stp ([u] ++ _) qs = _
      rw [List.singleton_append, foldE, hsp]
     rw [hsp] at HT
     generalize ba u = X at zt HTR HPR HT
     clear hid0 hp hq hpre hsp hu
     go_wp2_with (first
      | (go_at_call 90; refine HNL.out.mono ?_; rintro e1 w1 ⟨rfl, nd, rfl⟩)
      | (go_at_call 91; refine (HTR.out _).mono ?_; rintro e2 w2 ⟨rfl, hb2⟩
         have HW2 : Hid (I qs w2) := HI.out _ _ _ HW.out (((Below.refl _ _).drewG nd).thenG hb2)
         clear hb2)
      | (go_at_call 75; refine (HPR.out _).mono ?_; rintro e3 w3 ⟨rfl, rfl⟩)
      | (go_at_fn k; refine (HT.out _ HW2.out).mono ?_; intro e4 w4 h4; obtain ⟨rfl, hc4, he4⟩ := h4.of_err; clear h4
         have hcz : (c == 0) = false := by simp [hc4]
         have HC4 := hid hc4
         have HE4 := hid he4
         clear hc4 he4))
     go_ret
     exact Out.err HE2.out rfl HC4.out HE4.out
    | ok rs =>
     have HE2 : Hid (goal = if m then foldE stp (linesL q) rs else .ok rs) := by
      show _ = _; rw [HE.out, if_pos rfl, HLN.out]; show foldE stp ([u] ++ _) qs = _
      rw [List.singleton_append, foldE, hsp]; cases m <;> rfl
     have HM2 : Hid (m = true → ∀ s ∈ linesL q, s ∈ linesL text) := fun hm s hs => HM.out rfl s (by rw [HLN.out, hm]; simp [hs])
     rw [hsp] at HT
     generalize ba u = X at zt HTR HPR HT
     clear hid0 hp hq hpre hsp hu
     go_wp2_with (first
      | (go_at_call 90; refine HNL.out.mono ?_; rintro e1 w1 ⟨rfl, nd, rfl⟩)
      | (go_at_call 91; refine (HTR.out _).mono ?_; rintro e2 w2 ⟨rfl, hb2⟩
         have HW2 : Hid (I qs w2) := HI.out _ _ _ HW.out (((Below.refl _ _).drewG nd).thenG hb2)
         clear hb2)
      | (go_at_call 75; refine (HPR.out _).mono ?_; rintro e3 w3 ⟨rfl, rfl⟩)
      | (go_at_fn k; refine (HT.out _ HW2.out).mono ?_; intro e4 w4 h4; obtain ⟨rfl, he4⟩ := h4.of_ok; clear h4
         have HE4 := hid he4
         clear he4))
     go_roundw
     case rel => exact ⟨q, m, rs, rfl, rfl, HQL.out, HE2, HE4, HM2⟩
     case measure =>
      cases m with
      | false => simp
      | true => simp only; rw [HZQ.out, HZT.out]; have := HQ.out rfl; omega
end Go.Proofs.YtahkcemdbfjilaaGreatDoor.Glob
