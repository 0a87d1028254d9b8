/- Glob: elementsOf: what the call does. Conditions: at most 128 bytes. -/
import Derived.Test.YtpipkgkfhbagmaaGreatDoorJG
namespace Go.Proofs.YtpipkgkfhbagmaaGreatDoor.Glob
open Go.RowKit
/-- A row of elements of the call's own: each one's function value holds of just what it should. -/
def ecells (ps : List (Value × Bool)) : List Value := ps.flatMap fun p => [p.1, .bool p.2]
theorem ecells_len (ps : List (Value × Bool)) : (ecells ps).length = ps.length * 2 := by
  induction ps with
  | nil => rfl
  | cons r rs ih => have : ecells (r :: rs) = [r.1, .bool r.2] ++ ecells rs := by simp [ecells]
                    rw [this, List.length_append, ih, List.length_cons]; simp; omega
theorem ecells_at (ps : List (Value × Bool)) (k : Nat) (p : Value × Bool) (h : ps[k]? = some p) : (ecells ps)[k * 2]? = some p.1 ∧ (ecells ps)[k * 2 + 1]? = some (.bool p.2) := by
  induction ps generalizing k with
  | nil => simp at h
  | cons r rs ih =>
    have e : ecells (r :: rs) = [r.1, .bool r.2] ++ ecells rs := by simp [ecells]
    rw [e]
    cases k with
    | zero => simp at h; subst h; simp
    | succ k =>
      have := ih k (by simpa using h)
      rw [show (k + 1) * 2 = k * 2 + 2 by omega, show k * 2 + 2 + 1 = (k * 2 + 1) + 2 by omega]
      simpa using this
def Els (B : Nat) (w : World) (v : Value) (hs : H) : Prop :=
  ∃ ps : List (Value × Bool), w.ownsRow B 107 2 v hs.length (ecells ps) ∧ ps.length = hs.length ∧ ∀ (k : Nat) p h, ps[k]? = some p → hs[k]? = some h → p.2 = h.2 ∧ IsFn w p.1 h.1
theorem Els.nil (B : Nat) (w : World) : Els B w (.slice none 0 0) [] := ⟨[], World.ownsRow_nil _ _ _ _, rfl, fun k p h hp => by simp at hp⟩
theorem Els.mono {B B' : Nat} {w : World} {v : Value} {hs : H} (h : Els B w v hs) (hb : B' ≤ B) : Els B' w v hs := by
  obtain ⟨ps, ho, h2⟩ := h
  refine ⟨ps, ⟨ho.1, ?_⟩, h2⟩
  rcases ho.2 with h1 | ⟨g, c, cur, h1, h2, h3⟩
  · exact .inl h1
  · exact .inr ⟨g, c, cur, h1, by omega, h3⟩
theorem Els.stays {B : Nat} {w w' : World} {v : Value} {hs : H} (h : Els B w v hs) (hb : Below w.heap.size w w') : Els B w' v hs := by
  obtain ⟨ps, ho, hl, hf⟩ := h
  refine ⟨ps, ⟨ho.1, ?_⟩, hl, fun k p x hp hx => ⟨(hf k p x hp hx).1, (hf k p x hp hx).2.stays hb⟩⟩
  rcases ho.2 with h1 | ⟨g, c, cur, h1, hB, h3, h4⟩
  · exact .inl h1
  · exact .inr ⟨g, c, cur, h1, hB, (hb.block g (Array.getElem?_eq_some_iff.1 h3).1).trans h3, h4⟩
theorem Els.form {B : Nat} {w : World} {v : Value} {hs : H} (h : Els B w v hs) : ∃ A c, v = .slice A hs.length c := by
  obtain ⟨ps, ho, _⟩ := h
  rcases ho.2 with ⟨h1, h2⟩ | ⟨g, c, cur, h1, _⟩
  · exact ⟨none, 0, by rw [h1, h2]⟩
  · exact ⟨some ⟨g, 0, none⟩, c, h1⟩
/-- Each element's cells. -/
theorem Els.at_ {B : Nat} {w : World} {v : Value} {hs : H} (h : Els B w v hs) (h0 : 0 < hs.length) :
    ∃ g c, v = .slice (some ⟨g, 0, none⟩) hs.length c ∧ B ≤ g ∧ g < w.heap.size ∧ ∀ (k : Nat) x, hs[k]? = some x → ∃ f, w.cell? ⟨g, k * 2, none⟩ = some f ∧ w.cell? ⟨g, k * 2 + 1, none⟩ = some (.bool x.2) ∧ IsFn w f x.1 := by
  obtain ⟨ps, ho, hl, hf⟩ := h
  rcases ho.2 with ⟨_, h2⟩ | ⟨g, c, cur, h1, hB, h3, h4, h5, h6, h7⟩
  · omega
  · refine ⟨g, c, h1, hB, (Array.getElem?_eq_some_iff.1 h3).1, fun k x hx => ?_⟩
    have hk : k < hs.length := (List.getElem?_eq_some_iff.1 hx).1
    obtain ⟨p, hp⟩ : ∃ p, ps[k]? = some p := ⟨ps[k]'(by omega), List.getElem?_eq_getElem (by omega)⟩
    have hh : Has w g 107 cur := h3
    have e := ecells_at ps k p hp
    rw [← h7, List.getElem?_take_of_lt (by omega), List.getElem?_take_of_lt (by omega)] at e
    refine ⟨p.1, ?_, ?_, (hf k p x hp hx).2⟩
    · rw [hh.at_]; simpa using e.1
    · rw [hh.at_, ← (hf k p x hp hx).1]; simpa using e.2
theorem infoElem : (Tryz.prog.info? 107).map (fun i => (i.zero, i.size, i.bytes)) = some (some (.agg #[.nilFunc, .bool false]), 2, 16) := by kernel_rfl
theorem own_typed {B : Nat} {w : World} {e : TypeId} {s n : Nat} {v : Value} {xs : List Value} (h : w.ownsRow B e s v n xs) : ∀ k, v.ownBlock = some k → ∃ cs q, w.heap[k]? = some (Obj.cells cs e q) := by
  intro k hk
  rcases h.2 with ⟨rfl, _⟩ | ⟨g, c, cur, rfl, hB, h3, _⟩
  · cases hk
  · obtain rfl := Option.some.inj hk; exact ⟨_, _, h3⟩
theorem append_el (w : World) (B : Nat) (v : Value) (hs : H) (h : Els B w v hs) (f : Value) (x : UInt8 → Bool) (m : Bool) (hx : IsFn w f x) (a : Addr) (h0 : w.cell? (a.add 0) = some f) (h1 : w.cell? (a.add 1) = some (.bool m)) (hn : hs.length ≤ 1000) (hB : B ≤ w.heap.size) (ty : TypeId) :
    ∃ v' w', (Builtin.append_ #[82, 82] ty #[v, .slice (some a) 1 1]).run Tryz.prog w = .ok v' w' ∧ Els B w' v' (hs ++ [(x, m)]) ∧ w.grownBy w' v.ownBlock ∧ (∀ k, v.ownBlock = some k → B ≤ k) := by
  obtain ⟨ps, ho, hl, hf⟩ := h
  obtain ⟨i0, hi, hz0, hz1, hz2⟩ := info_parts infoElem
  obtain ⟨v', w', hr, ho', hg, _, _⟩ := run_append_own_at (P := Tryz.prog) w B 82 ty 107 i0 (.agg #[.nilFunc, .bool false]) 2 16 Tryz.underlying82 hi hz0 hz1 hz2 rfl (by omega) v hs.length (ecells ps) ho a 1 1 [f, .bool m] rfl (fun j u' hj => by
      match j, hj with
      | 0, hj => obtain rfl := Option.some.inj hj; exact h0
      | 1, hj => obtain rfl := Option.some.inj hj; exact h1
      | j + 2, hj => simp at hj) (fun y hy => by
        simp only [List.mem_cons, List.not_mem_nil, or_false] at hy
        rcases hy with rfl | rfl
        · exact hx.one
        · rfl) (by unfold maxLen; omega) (by omega) hB
  have G : Gx w w' := Gx.of_grown hg (own_typed ho)
  refine ⟨v', w', hr, ⟨ps ++ [(f, m)], ?_, by simp [hl], fun k p y hp hy => ?_⟩, hg, own_base ho⟩
  · have : ecells (ps ++ [(f, m)]) = ecells ps ++ [f, .bool m] := by simp [ecells]
    rw [this, List.length_append]; exact ho'
  · by_cases hk : k < ps.length
    · rw [List.getElem?_append_left hk] at hp
      rw [List.getElem?_append_left (by omega)] at hy
      exact ⟨(hf k p y hp hy).1, (hf k p y hp hy).2.gx G⟩
    · have hk2 : k = ps.length := by have := (List.getElem?_eq_some_iff.1 hp).1; simp at this; omega
      subst hk2
      simp at hp
      rw [hl] at hy
      simp at hy
      subst hp; subst hy
      exact ⟨rfl, hx.gx G⟩
set_option maxRecDepth 100000 in
set_option maxHeartbeats 2000000 in
theorem elems_any (s : By) (fold : Bool) (w : World) (hs : s.length ≤ 128) :
    Calls Tryz.prog 60 #[.string (ba s), .bool fold] w fun e w' => (match elems s [] with
      | none => ∃ v, e = .returned (.tuple #[v, .bool false])
      | some l => ∃ v, e = .returned (.tuple #[v, .bool true]) ∧ Els w.heap.size w' v (hsOf fold l)) ∧ Below w.heap.size w w' := by
  obtain ⟨goal, HC⟩ : ∃ g, Hid (elems s [] = g) := ⟨_, rfl⟩
  rw [HC.out]
  go_enter Tryz.func60, Tryz.ntmps60
  go_wp2
  go_loopw [0, 4] (fun s0 l wr => ∃ (t : By) (es : List El) (A : Option Addr) (cap : Nat), s0 = .string (ba t) ∧ l = .slice A es.length cap ∧ t.length ≤ 128 ∧ es.length + t.length ≤ 128 ∧ Hid (elems s [] = elems t es) ∧ Hid (Els w.heap.size wr (.slice A es.length cap) (hsOf fold es)) ∧ Hid (Below w.heap.size w wr))
    (fun s0 _ _ => match s0 with | .string x => x.size | _ => 0)
  case atStart => exact ⟨s, [], none, 0, rfl, rfl, hs, by simp; exact hs, rfl, Els.nil _ _, Below.refl _ _⟩
  case round =>
    obtain ⟨t, es, A, cap, rfl, rfl, hl, hrl, HT, HS, HB⟩ := hrel
    have HE : Hid (goal = if t.length = 0 then (if es.length = 0 then none else some es) else match elemL t with | none => none | some (e, u) => elems u (es ++ [e])) := by
      show _ = _; rw [← HC.out, HT.out, elems_eq]; rfl
    have HW := hid HB.out.size
    have zt := toList_ba t
    clear HT
    by_cases h0 : t.length = 0
    · obtain rfl := List.length_eq_zero_iff.1 h0
      have HE2 : goal = if es.length = 0 then none else some es := HE.out
      clear h0 HE HC
      by_cases h1 : es.length = 0
      · rw [if_pos h1] at HE2
        subst HE2
        go_wp2
        go_ret2
        exact ⟨⟨.slice A es.length cap, by simp [h1]⟩, HB.out⟩
      · rw [if_neg h1] at HE2
        subst HE2
        go_wp2
        go_ret2
        exact ⟨⟨_, by simp [Nat.pos_of_ne_zero h1], HS.out⟩, HB.out⟩
    · have CE := hid (elem_any t fold wr (by omega) hl)
      have e0 : (t == []) = false := by cases t with | nil => exact absurd rfl h0 | cons _ _ => rfl
      obtain ⟨x, HU⟩ : ∃ x, Hid (elemL t = x) := ⟨_, rfl⟩
      rw [HU.out] at CE HE
      have H0 := hid h0
      clear h0
      cases x with
      | none =>
        have HE2 : goal = none := HE.out.trans (if_neg H0.out)
        subst HE2
        go_wp2_with (fail)
        refine CE.out.mono ?_
        rintro e2 w2 ⟨⟨f, m, r, rfl, hf⟩, hb2⟩
        have H2 := hid hb2
        clear hb2 HE HC
        rcases hf with rfl | ⟨x, hf⟩
        · go_wp2
          go_ret2
          exact ⟨⟨_, rfl⟩, (HB.out.thenG H2.out).alloc (by have := HB.out.size; have := H2.out.size; omega) _⟩
        · obtain ⟨k2, lb2, rfl⟩ := hf.form
          clear hf
          go_wp2
          go_ret2
          exact ⟨⟨_, rfl⟩, (HB.out.thenG H2.out).alloc (by have := HB.out.size; have := H2.out.size; omega) _⟩
      | some y =>
        obtain ⟨el, u⟩ := y
        have HE2 : Hid (elems s [] = elems u (es ++ [el])) := HC.out.trans <| HE.out.trans (if_neg H0.out)
        clear HE
        go_wp2_with (fail)
        refine CE.out.mono ?_
        rintro e2 w2 ⟨⟨f, rfl, hf⟩, hb2⟩
        have hul : u.length < t.length := elemL_len (fun e => H0.out (by rw [e]; rfl)) HU.out
        have HF := hid hf
        obtain ⟨k2, lb2, rfl⟩ := hf.form
        obtain ⟨W3, hW3⟩ : ∃ W3, w2.alloc (.cells #[.func (.func k2) #[] lb2, .bool el.many] 107) = W3 := ⟨_, rfl⟩
        obtain ⟨W4, hW4⟩ : ∃ W4, W3.alloc (.cells #[.func (.func k2) #[] lb2, .bool el.many] 107) = W4 := ⟨_, rfl⟩
        have B3 : Below w2.heap.size w2 W3 := hW3 ▸ (Below.refl _ _).alloc (Nat.le_refl _) _
        have B4 : Below W3.heap.size W3 W4 := hW4 ▸ (Below.refl _ _).alloc (Nat.le_refl _) _
        have B24 := (hb2.thenG B3).thenG B4
        have hf4 : Has W4 W3.heap.size 107 #[.func (.func k2) #[] lb2, .bool el.many] := hW4 ▸ Has.fresh _ _ _
        have hs3 : W3.heap.size = w2.heap.size + 1 := by rw [← hW3]; simp
        obtain ⟨v', w', har, hsp', hgr, hob⟩ := append_el W4 w.heap.size _ (hsOf fold es) (HS.out.stays B24) _ (holdsE fold el) el.many ((HF.out.stays B3).stays B4) ⟨W3.heap.size, 0, none⟩ (hf4.at_ 0) (hf4.at_ 1) (by rw [hsOf_len]; omega) (Nat.le_trans HW.out B24.size) 82
        rw [hs3] at har
        have HAR := hid har
        have hsp2 : Els w.heap.size w' v' (hsOf fold (es ++ [el])) := by simpa [hsOf] using hsp'
        have HSP := hid hsp2
        have HBL : Hid (Below w.heap.size w w') := Below.grown (HB.out.trans (B24.mono HW.out)) hgr (Nat.le_trans HW.out B24.size) hob
        have hf3 : Has W3 w2.heap.size 107 #[.func (.func k2) #[] lb2, .bool el.many] := hW3 ▸ Has.fresh _ _ _
        have k0 := hf3.at_ 0
        have k1 := hf3.at_ 1
        clear har hsp' hsp2 hgr hf4 B3 B4 B24 hb2 hf3 hf hob HC
        go_wp2_with (at_builtin; refine wpList_append_run rfl (.tmp 20) (.tmp 22) 82 82 rfl ⟨v', w', HAR.out, ?_⟩)
        obtain ⟨A', c', hv'⟩ := HSP.out.form
        rw [hsOf_len] at hv'
        subst hv'
        refine ⟨⟨u, es ++ [el], A', c', rfl, rfl, by omega, by simp; omega, HE2.out, HSP.out, HBL.out⟩, ?_⟩
        simp [ba_size]; omega
end Go.Proofs.YtpipkgkfhbagmaaGreatDoor.Glob
