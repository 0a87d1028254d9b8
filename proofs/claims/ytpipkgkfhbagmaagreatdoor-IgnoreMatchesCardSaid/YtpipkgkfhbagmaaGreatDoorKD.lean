/- The document's patterns: Parse: what the call does. No conditions. -/
import Derived.Test.YtpipkgkfhbagmaaGreatDoorKC
namespace Go.Proofs.YtpipkgkfhbagmaaGreatDoor.Glob
open Go.RowKit
/-- The document's element's four cells. -/
structure RF where
  a : Int
  b : Int
  c : Bool
  A : Option Addr
  n : Nat
  k : Nat
def RF.cells (f : RF) : List Value := [.int .i64 f.a, .int .u8 f.b, .bool f.c, .slice f.A f.n f.k]
def rcells (fs : List RF) : List Value := fs.flatMap RF.cells
theorem rcells_len (fs : List RF) : (rcells fs).length = fs.length * 4 := by
  induction fs with
  | nil => rfl
  | cons r rs ih => have : rcells (r :: rs) = r.cells ++ rcells rs := by simp [rcells]
                    rw [this, List.length_append, ih, List.length_cons]; simp [RF.cells]; omega
theorem rcells_at (fs : List RF) (k : Nat) (f : RF) (h : fs[k]? = some f) : (rcells fs)[k * 4]? = some (.int .i64 f.a) ∧ (rcells fs)[k * 4 + 1]? = some (.int .u8 f.b) ∧ (rcells fs)[k * 4 + 2]? = some (.bool f.c) ∧ (rcells fs)[k * 4 + 3]? = some (.slice f.A f.n f.k) := by
  induction fs generalizing k with
  | nil => simp at h
  | cons r rs ih =>
    have e : rcells (r :: rs) = r.cells ++ rcells rs := by simp [rcells]
    rw [e]
    cases k with
    | zero => simp at h; subst h; simp [RF.cells]
    | succ k =>
      have := ih k (by simpa using h)
      rw [show (k + 1) * 4 = k * 4 + 4 by omega, show k * 4 + 4 + 1 = (k * 4 + 1) + 4 by omega, show k * 4 + 4 + 2 = (k * 4 + 2) + 4 by omega, show k * 4 + 4 + 3 = (k * 4 + 3) + 4 by omega]
      simpa [RF.cells] using this
def RLs (B : Nat) (w : World) (v : Value) (els : List El) : Prop :=
  ∃ fs : List RF, w.ownsRow B 90 4 v els.length (rcells fs) ∧ fs.length = els.length ∧ ∀ (k : Nat) f el, fs[k]? = some f → els[k]? = some el → REl w el f.a f.b f.c f.A f.n f.k
theorem REl.map {w w' : World} {el : El} {a b : Int} {c : Bool} {A : Option Addr} {n k : Nat} (h : REl w el a b c A n k) (hr : ∀ v rs, Rgs 0 w v rs → Rgs 0 w' v rs) : REl w' el a b c A n k := by
  cases el with
  | all => exact h
  | part => exact h
  | one => exact h
  | byt x => exact h
  | set neg rs => obtain ⟨h1, h2, h3, h4, h5⟩ := h; exact ⟨h1, h2, h3, h4, hr _ _ h5⟩
theorem REl.stays {w w' : World} {el : El} {a b : Int} {c : Bool} {A : Option Addr} {n k : Nat} (h : REl w el a b c A n k) (hb : Below w.heap.size w w') : REl w' el a b c A n k := h.map fun _ _ hr => hr.stays hb
theorem RLs.nil (B : Nat) (w : World) : RLs B w (.slice none 0 0) [] := ⟨[], World.ownsRow_nil _ _ _ _, rfl, fun k p h hp => by simp at hp⟩
theorem RLs.mono {B B' : Nat} {w : World} {v : Value} {els : List El} (h : RLs B w v els) (hb : B' ≤ B) : RLs B' w v els := by
  obtain ⟨ps, ho, h2⟩ := h
  refine ⟨ps, ⟨ho.1, ?_⟩, h2⟩
  rcases ho.2 with h1 | ⟨g, c, cur, h1, h2, h3⟩
  · exact .inl h1
  · exact .inr ⟨g, c, cur, h1, by omega, h3⟩
theorem RLs.form {B : Nat} {w : World} {v : Value} {els : List El} (h : RLs B w v els) : ∃ A c, v = .slice A els.length c := by
  obtain ⟨ps, ho, _⟩ := h
  rcases ho.2 with ⟨h1, h2⟩ | ⟨g, c, cur, h1, _⟩
  · exact ⟨none, 0, by rw [h1, h2]⟩
  · exact ⟨some ⟨g, 0, none⟩, c, h1⟩
theorem RLs.stays {B : Nat} {w w' : World} {v : Value} {els : List El} (h : RLs B w v els) (hb : Below w.heap.size w w') : RLs B w' v els := by
  obtain ⟨ps, ho, hl, hf⟩ := h
  refine ⟨ps, ⟨ho.1, ?_⟩, hl, fun k p x hp hx => (hf k p x hp hx).stays hb⟩
  rcases ho.2 with h1 | ⟨g, c, cur, h1, hB, h3, h4⟩
  · exact .inl h1
  · exact .inr ⟨g, c, cur, h1, hB, (hb.block g (Array.getElem?_eq_some_iff.1 h3).1).trans h3, h4⟩
/-- A store into a block of a pattern leaves them. -/
theorem RLs.other {B : Nat} {w w' : World} {v : Value} {els : List El} (h : RLs B w v els) (hk : ∀ g t cs, t ≠ 62 → Has w g t cs → Has w' g t cs) : RLs B w' v els := by
  obtain ⟨ps, ho, hl, hf⟩ := h
  refine ⟨ps, ⟨ho.1, ?_⟩, hl, fun k p x hp hx => (hf k p x hp hx).map fun v rs hr => ⟨hr.1, ?_⟩⟩
  · rcases ho.2 with h1 | ⟨g, c, cur, h1, hB, h3, h4⟩
    · exact .inl h1
    · exact .inr ⟨g, c, cur, h1, hB, hk g 90 cur (by decide) h3, h4⟩
  · rcases hr.2 with h1 | ⟨g, c, cur, h1, hB, h3, h4⟩
    · exact .inl h1
    · exact .inr ⟨g, c, cur, h1, hB, hk g 123 cur (by decide) h3, h4⟩
theorem keep_put {w : World} {g : Nat} {t : TypeId} {cs : Array Value} (hg : Has w g t cs) (i : Nat) (u : Value) : ∀ g' t' cs', t' ≠ t → Has w g' t' cs' → Has (w.setCell ⟨g, i, none⟩ u) g' t' cs' := fun g' t' cs' ht h =>
  h.other (p := ⟨g, i, none⟩) (fun e => by
    subst e
    have := Option.some.inj (h.symm.trans hg)
    simp only [Obj.cells.injEq] at this
    exact ht this.2.1) u
theorem keep_row {w : World} {g : Nat} {t : TypeId} {cs : Array Value} (hg : Has w g t cs) (cs0 : Array Value) : ∀ g' t' cs', t' ≠ t → Has w g' t' cs' → Has (w.setRow g cs0) g' t' cs' := fun g' t' cs' ht h =>
  h.rowOther (fun e => by
    subst e
    have := Option.some.inj (h.symm.trans hg)
    simp only [Obj.cells.injEq] at this
    exact ht this.2.1)
theorem infoRE : (Tryz.prog.info? 90).map (fun i => (i.zero, i.size, i.bytes)) = some (some (.agg #[.int .i64 0, .int .u8 0, .bool false, .slice none 0 0]), 4, 40) := by kernel_rfl
theorem append_re (w : World) (B : Nat) (v : Value) (els : List El) (h : RLs B w v els) (el : El) (f : RF) (hf : REl w el f.a f.b f.c f.A f.n f.k) (a : Addr) (h0 : ∀ j u, f.cells[j]? = some u → w.cell? (a.add j) = some u) (hn : els.length ≤ 1000) (hB : B ≤ w.heap.size) (ty : TypeId) :
    ∃ v' w', (Builtin.append_ #[60, 60] ty #[v, .slice (some a) 1 1]).run Tryz.prog w = .ok v' w' ∧ RLs B w' v' (els ++ [el]) ∧ (∀ a0 B0, B0 ≤ B → Below B0 a0 w → Below B0 a0 w') ∧ ∀ g t cs, t ≠ 90 → Has w g t cs → Has w' g t cs := by
  obtain ⟨ps, ho, hl, hfs⟩ := h
  obtain ⟨i0, hi, hz0, hz1, hz2⟩ := info_parts infoRE
  obtain ⟨v', w', hr, ho', hg, _, _⟩ := run_append_own_at (P := Tryz.prog) w B 60 ty 90 i0 (.agg #[.int .i64 0, .int .u8 0, .bool false, .slice none 0 0]) 4 40 Tryz.underlying60 hi hz0 hz1 hz2 rfl (by omega) v els.length (rcells ps) ho a 1 1 f.cells rfl h0 (fun y hy => by
        simp only [RF.cells, List.mem_cons, List.not_mem_nil, or_false] at hy
        rcases hy with rfl | rfl | rfl | rfl <;> rfl) (by unfold maxLen; omega) (by omega) hB
  have hk : ∀ g t cs, t ≠ 90 → Has w g t cs → Has w' g t cs := fun g t cs ht hh => Has.grown ho hg hh ht
  have hrg : ∀ v rs, Rgs 0 w v rs → Rgs 0 w' v rs := fun v rs hr => ⟨hr.1, by
    rcases hr.2 with h1 | ⟨g, c, cur, h1, hB, h3, h4⟩
    · exact .inl h1
    · exact .inr ⟨g, c, cur, h1, hB, hk g 123 cur (by decide) h3, h4⟩⟩
  refine ⟨v', w', hr, ⟨ps ++ [f], ?_, by simp [hl], fun k p y hp hy => ?_⟩, fun a0 B0 hb ha => Below.grown ha hg (by omega) (fun k hk => by have := own_base ho k hk; omega), hk⟩
  · have : rcells (ps ++ [f]) = rcells ps ++ f.cells := by simp [rcells]
    rw [this, List.length_append]; exact ho'
  · by_cases hk : k < ps.length
    · rw [List.getElem?_append_left hk] at hp
      rw [List.getElem?_append_left (by omega)] at hy
      exact (hfs k p y hp hy).map hrg
    · have hk2 : k = ps.length := by have := (List.getElem?_eq_some_iff.1 hp).1; simp at this; omega
      subst hk2
      simp at hp
      rw [hl] at hy
      simp at hy
      subst hp; subst hy
      exact hf.map hrg
theorem iRP : (Tryz.prog.info? 62).map (·.size) = some 5 := by kernel_rfl
abbrev zeroP : Array Value := #[.bool false, .bool false, .bool false, .bool false, .slice none 0 0]
abbrev rpC (n f d r : Bool) (A : Option Addr) (l c : Nat) : Array Value := #[.bool n, .bool f, .bool d, .bool r, .slice A l c]
theorem rpOne (n f d r : Bool) (A : Option Addr) (l c : Nat) : (#[.bool n, .bool f, .bool d, .bool r, .slice A l c] : Array Value).all (·.oneCell') = true := by simp [Value.oneCell']
theorem load_rp {w : World} {g : Nat} {a b c d e : Value} (k : Has w g 62 #[a, b, c, d, e]) : (loadVar 62 ⟨g, 0, none⟩).run Tryz.prog w = .ok (.agg #[a, b, c, d, e]) w :=
  run_loadVar_row (P := Tryz.prog) w g 62 62 #[a, b, c, d, e] (0, 0) _ k Tryz.underlying62 rfl iRP
theorem results_ct {fn : Func} {p t : Tmp} {ty : TypeId} (h : fn.results = #[.cell p ty, .tmp t]) (tmps : Array Value) (P : Program) (w : World) (g : Nat) (cs : Array Value) (b : Value)
    (hl : (loadVar ty ⟨g, 0, none⟩).run P w = .ok (.agg cs) w) (hp : tmps.getD p undef = .pointer (some ⟨g, 0, none⟩)) (hb : tmps.getD t undef = b) :
    (results fn tmps).run P w = .ok (.tuple #[.agg cs, b]) w := by
  subst hb
  simp only [Array.getD_eq_getD_getElem?] at hp ⊢
  simp [results, h, hp, asAddr, hl]
/-- The document's pattern. -/
def RPatIs (w : World) (p : Pt) (n f d r : Bool) (A : Option Addr) (l c : Nat) : Prop :=
  n = (p.m &&& 1 != 0) ∧ f = (p.m &&& 2 != 0) ∧ d = (p.m &&& 4 != 0) ∧ r = p.rooted ∧ l = p.els.length ∧ RLs 0 w (.slice A l c) p.els
def RParseIs (s : By) (e : Ending) (w' : World) : Prop :=
  ∃ n f d r A l c, e = .returned (.tuple #[.agg (rpC n f d r A l c), .int .i64 (perr s)]) ∧ ∀ p, perr s = 0 → parseL s = some p → RPatIs w' p n f d r A l c
theorem mk8 : ∀ m : Fin 8, ((m.val ||| 1) &&& 1 != 0) = true ∧ ((m.val ||| 1) &&& 2 != 0) = (m.val &&& 2 != 0) ∧ ((m.val ||| 1) &&& 4 != 0) = (m.val &&& 4 != 0)
    ∧ ((m.val ||| 2) &&& 1 != 0) = (m.val &&& 1 != 0) ∧ ((m.val ||| 2) &&& 2 != 0) = true ∧ ((m.val ||| 2) &&& 4 != 0) = (m.val &&& 4 != 0)
    ∧ ((m.val ||| 4) &&& 1 != 0) = (m.val &&& 1 != 0) ∧ ((m.val ||| 4) &&& 2 != 0) = (m.val &&& 2 != 0) ∧ ((m.val ||| 4) &&& 4 != 0) = true := by decide +kernel
set_option maxRecDepth 100000 in
theorem rparse_long (s : By) (w : World) (hl : 128 < s.length) : Calls Tryz.prog 26 #[.string (ba s)] w fun e w' => RParseIs s e w' ∧ Below w.heap.size w w' := by
  have z := ba_size s
  have HP : Hid (perr s = 3) := by show _ = _; unfold perr; rw [if_pos hl]
  have hi : (128 : Int) < (s.length : Int) := by omega
  have HR := hid (Has.fresh w 62 zeroP)
  have k0 := HR.out.at_ 0
  have k1 := HR.out.at_ 1
  have k2 := HR.out.at_ 2
  have k3 := HR.out.at_ 3
  have k4 := HR.out.at_ 4
  clear hl
  go_enter Tryz.func26, Tryz.ntmps26
  go_wp2
  refine bodyPost_ret (results_ct rfl _ _ _ w.heap.size _ _ (load_rp HR.out) rfl rfl) rfl ⟨⟨false, false, false, false, none, 0, 0, by rw [HP.out]; rfl, fun p h0 => by rw [HP.out] at h0; cases h0⟩, (Below.refl _ _).alloc (Nat.le_refl _) _⟩
theorem add_at (g j : Nat) : (⟨g, 0, none⟩ : Addr).add j = ⟨g, j, none⟩ := by unfold Addr.add; split <;> simp_all
theorem RPat_zero (s : By) (h : perr s ≠ 0) (w' : World) : ∀ p, perr s = 0 → parseL s = some p → RPatIs w' p false false false false none 0 0 := fun _ h0 => absurd h0 h
set_option maxRecDepth 100000 in
set_option maxHeartbeats 8000000 in
theorem rparse_short (s : By) (w : World) (hl : ¬ 128 < s.length) : Calls Tryz.prog 26 #[.string (ba s)] w fun e w' => RParseIs s e w' ∧ Below w.heap.size w w' := by
  have z := ba_size s
  have hi : ¬ ((128 : Int) < (s.length : Int)) := by omega
  have HPE : Hid (perr s = match parseL s with | none => 4 | some _ => 0) := by show _ = _; unfold perr; rw [if_neg hl]; rfl
  go_enter Tryz.func26, Tryz.ntmps26
  go_wp2
  obtain ⟨W2, hW2⟩ : ∃ W2, (w.alloc (.cells #[.bool false, .bool false, .bool false, .bool false, .slice none 0 0] 62)).alloc (.cells #[.bool false, .bool false, .bool false, .bool false, .slice none 0 0] 62) = W2 := ⟨_, rfl⟩
  rw [hW2]
  have HR2 : Hid (Has W2 w.heap.size 62 zeroP) := hW2 ▸ (Has.fresh w 62 zeroP).more _
  have HP2 : Hid (Has W2 (w.heap.size + 1) 62 zeroP) := hW2 ▸ Has.fresh' _ 62 zeroP (by simp)
  have HB2 : Hid (Below w.heap.size w W2) := hW2 ▸ ((Below.refl w.heap.size w).alloc (Nat.le_refl _) _).alloc (by simp) _
  clear hW2
  go_loopw [0, 5] (fun s0 _ wr => ∃ (t : By) (m : Nat), s0 = .string (ba t) ∧ t.length ≤ 128 ∧ m < 8 ∧ Hid (marks 0 s = marks m t) ∧ Hid (Has wr w.heap.size 62 zeroP) ∧ Hid (Has wr (w.heap.size + 1) 62 #[.bool (m &&& 1 != 0), .bool (m &&& 2 != 0), .bool (m &&& 4 != 0), .bool false, .slice none 0 0]) ∧ Hid (Below w.heap.size w wr))
    (fun s0 _ _ => match s0 with | .string x => x.size | _ => 0)
  case atStart => exact ⟨s, 0, rfl, by omega, by omega, rfl, HR2, HP2, HB2⟩
  case round =>
    obtain ⟨t, m, rfl, htl, hm, HT, HR, HX, HB⟩ := hrel
    clear HR2 HP2 HB2 hi hl z
    have z := ba_size t
    have c1 : ∀ W, Calls Tryz.prog 47 #[.string (ba t), .string ⟨#[33]⟩] W fun e w' => e = .returned (.bool (pre [33] t)) ∧ W = w' := fun W => begins_any t [33] W
    have c2 : ∀ W, Calls Tryz.prog 47 #[.string (ba t), .string ⟨#[40, 63, 105, 41]⟩] W fun e w' => e = .returned (.bool (pre [40, 63, 105, 41] t)) ∧ W = w' := fun W => begins_any t [40, 63, 105, 41] W
    have c3 : ∀ W, Calls Tryz.prog 47 #[.string (ba t), .string ⟨#[40, 63, 100, 41]⟩] W fun e w' => e = .returned (.bool (pre [40, 63, 100, 41] t)) ∧ W = w' := fun W => begins_any t [40, 63, 100, 41] W
    have HC : Hid (cutM t = if pre [33] t then (1, t.drop 1) else if pre [40, 63, 105, 41] t then (2, t.drop 4) else if pre [40, 63, 100, 41] t then (4, t.drop 4) else (0, t)) := rfl
    have l1 := pre_len (p := [33]) (s := t)
    have l2 := pre_len (p := [40, 63, 105, 41]) (s := t)
    have l3 := pre_len (p := [40, 63, 100, 41]) (s := t)
    have HE : Hid (marks 0 s = if (cutM t).1 = 0 then some (m, t) else if m &&& (cutM t).1 ≠ 0 then none else marks (m ||| (cutM t).1) (cutM t).2) := by show _ = _; rw [HT.out, marks_eq]
    have zd := ba_drop t 1
    have zd4 := ba_drop t 4
    have d1 : (t.drop 1).length ≤ t.length := by simp
    have d4 : (t.drop 4).length ≤ t.length := by simp
    have e1 : 1 ≤ t.length → (t.drop 1).length < t.length := fun h => by rw [List.length_drop]; omega
    have e4 : 4 ≤ t.length → (t.drop 4).length < t.length := fun h => by rw [List.length_drop]; omega
    generalize t.drop 1 = u1 at *
    generalize t.drop 4 = u4 at *
    have k0 := HR.out.at_ 0
    have k1 := HR.out.at_ 1
    have k2 := HR.out.at_ 2
    have k3 := HR.out.at_ 3
    have k4 := HR.out.at_ 4
    have f0 := HR.out.free 0
    have f1 := HR.out.free 1
    have f2 := HR.out.free 2
    have f3 := HR.out.free 3
    have f4 := HR.out.free 4
    clear HT
    generalize pre [33] t = b1 at c1 HC l1
    generalize pre [40, 63, 105, 41] t = b2 at c2 HC l2
    generalize pre [40, 63, 100, 41] t = b3 at c3 HC l3
    cases b1 with
    | true =>
      have hlt := l1 rfl
      have hlen : 1 ≤ t.length := by simpa using hlt
      have hln : (1 : Int) ≤ (t.length : Int) := by omega
      have hul := e1 hlen
      have HE1 : Hid (marks 0 s = if m &&& 1 ≠ 0 then none else marks (m ||| 1) u1) := by show _ = _; rw [HE.out, HC.out]; rfl
      have hk := (or8 m 1 hm (by omega)).2
      have MK := hid (mk8 ⟨m, hm⟩)
      have x0 := HX.out.at_ 0
      have y0 := HX.out.free 0
      obtain ⟨tw, htw⟩ : ∃ tw, (m &&& 1 != 0) = tw := ⟨_, rfl⟩
      have x1 : wr.cell? ⟨w.heap.size + 1, 0, none⟩ = some (.bool tw) := by rw [x0, ← htw]; rfl
      clear HE HC l1 l2 l3 x0
      cases tw with
      | true =>
        have HP : Hid (perr s = 4) := by
          show _ = _; rw [HPE.out, parse_marks (by rw [HE1.out, if_pos (by simpa using htw)])]
        clear HE1 htw
        go_wp2_with (fail)
        refine (c1 _).mono ?_
        rintro e1 w1 ⟨rfl, rfl⟩
        go_wp2_with (fail)
        refine (c1 _).mono ?_
        rintro e1 w1 ⟨rfl, rfl⟩
        go_wp2
        have HRx : Has (wr.setCell ⟨w.heap.size + 1, 0, none⟩ (.bool true)) w.heap.size 62 zeroP := HR.out.other (by simp) _
        have HF := hid (((((HRx.put 0 (.bool false)).put 1 (.bool false)).put 2 (.bool false)).put 3 (.bool false)).put 4 (.slice none 0 0))
        refine bodyPost_ret (results_ct rfl _ _ _ w.heap.size _ _ (load_rp HF.out) rfl rfl) rfl ⟨⟨false, false, false, false, none, 0, 0, by rw [HP.out]; rfl, fun p h0 => by rw [HP.out] at h0; cases h0⟩, (((((HB.out.setCell (by simp) _).setCell (Nat.le_refl _) _).setCell (Nat.le_refl _) _).setCell (Nat.le_refl _) _).setCell (Nat.le_refl _) _).setCell (Nat.le_refl _) _⟩
      | false =>
        have HE2 : Hid (marks 0 s = marks (m ||| 1) u1) := by show _ = _; rw [HE1.out, if_neg (by simpa using htw)]
        clear HE1 htw
        go_wp2_with (fail)
        refine (c1 _).mono ?_
        rintro e1 w1 ⟨rfl, rfl⟩
        go_wp2_with (fail)
        refine (c1 _).mono ?_
        rintro e1 w1 ⟨rfl, rfl⟩
        go_wp2
        refine ⟨⟨u1, m ||| 1, rfl, by omega, hk, HE2.out, HR.out.other (by simp) _, ?_, HB.out.setCell (by simp) _⟩, by simp [ba_size]; exact hul⟩
        have := HX.out.put 0 (.bool true)
        obtain ⟨q1, q2, q3, q4, q5, q6, q7, q8, q9⟩ := MK.out
        try simp only at q1 q2 q3 q4 q5 q6 q7 q8 q9
        rw [q1, q2, q3]
        exact this
    | false =>
      cases b2 with
      | true =>
        have hlt := l2 rfl
        have hlen : 4 ≤ t.length := by simpa using hlt
        have hln : (4 : Int) ≤ (t.length : Int) := by omega
        have hul := e4 hlen
        have HE1 : Hid (marks 0 s = if m &&& 2 ≠ 0 then none else marks (m ||| 2) u4) := by show _ = _; rw [HE.out, HC.out]; rfl
        have hk := (or8 m 2 hm (by omega)).2
        have MK := hid (mk8 ⟨m, hm⟩)
        have x0 := HX.out.at_ 1
        have y0 := HX.out.free 1
        obtain ⟨tw, htw⟩ : ∃ tw, (m &&& 2 != 0) = tw := ⟨_, rfl⟩
        have x1 : wr.cell? ⟨w.heap.size + 1, 1, none⟩ = some (.bool tw) := by rw [x0, ← htw]; rfl
        clear HE HC l1 l2 l3 x0
        cases tw with
        | true =>
          have HP : Hid (perr s = 4) := by
            show _ = _; rw [HPE.out, parse_marks (by rw [HE1.out, if_pos (by simpa using htw)])]
          clear HE1 htw
          go_wp2_with (fail)
          refine (c1 _).mono ?_
          rintro e1 w1 ⟨rfl, rfl⟩
          go_wp2_with (fail)
          refine (c2 _).mono ?_
          rintro e1 w1 ⟨rfl, rfl⟩
          go_wp2_with (fail)
          refine (c1 _).mono ?_
          rintro e1 w1 ⟨rfl, rfl⟩
          go_wp2_with (fail)
          refine (c2 _).mono ?_
          rintro e1 w1 ⟨rfl, rfl⟩
          go_wp2
          have HRx : Has (wr.setCell ⟨w.heap.size + 1, 1, none⟩ (.bool true)) w.heap.size 62 zeroP := HR.out.other (by simp) _
          have HF := hid (((((HRx.put 0 (.bool false)).put 1 (.bool false)).put 2 (.bool false)).put 3 (.bool false)).put 4 (.slice none 0 0))
          refine bodyPost_ret (results_ct rfl _ _ _ w.heap.size _ _ (load_rp HF.out) rfl rfl) rfl ⟨⟨false, false, false, false, none, 0, 0, by rw [HP.out]; rfl, fun p h0 => by rw [HP.out] at h0; cases h0⟩, (((((HB.out.setCell (by simp) _).setCell (Nat.le_refl _) _).setCell (Nat.le_refl _) _).setCell (Nat.le_refl _) _).setCell (Nat.le_refl _) _).setCell (Nat.le_refl _) _⟩
        | false =>
          have HE2 : Hid (marks 0 s = marks (m ||| 2) u4) := by show _ = _; rw [HE1.out, if_neg (by simpa using htw)]
          clear HE1 htw
          go_wp2_with (fail)
          refine (c1 _).mono ?_
          rintro e1 w1 ⟨rfl, rfl⟩
          go_wp2_with (fail)
          refine (c2 _).mono ?_
          rintro e1 w1 ⟨rfl, rfl⟩
          go_wp2_with (fail)
          refine (c1 _).mono ?_
          rintro e1 w1 ⟨rfl, rfl⟩
          go_wp2_with (fail)
          refine (c2 _).mono ?_
          rintro e1 w1 ⟨rfl, rfl⟩
          go_wp2
          refine ⟨⟨u4, m ||| 2, rfl, by omega, hk, HE2.out, HR.out.other (by simp) _, ?_, HB.out.setCell (by simp) _⟩, by simp [ba_size]; exact hul⟩
          have := HX.out.put 1 (.bool true)
          obtain ⟨q1, q2, q3, q4, q5, q6, q7, q8, q9⟩ := MK.out
          try simp only at q1 q2 q3 q4 q5 q6 q7 q8 q9
          rw [q4, q5, q6]
          exact this
      | false =>
        cases b3 with
        | true =>
          have hlt := l3 rfl
          have hlen : 4 ≤ t.length := by simpa using hlt
          have hln : (4 : Int) ≤ (t.length : Int) := by omega
          have hul := e4 hlen
          have HE1 : Hid (marks 0 s = if m &&& 4 ≠ 0 then none else marks (m ||| 4) u4) := by show _ = _; rw [HE.out, HC.out]; rfl
          have hk := (or8 m 4 hm (by omega)).2
          have MK := hid (mk8 ⟨m, hm⟩)
          have x0 := HX.out.at_ 2
          have y0 := HX.out.free 2
          obtain ⟨tw, htw⟩ : ∃ tw, (m &&& 4 != 0) = tw := ⟨_, rfl⟩
          have x1 : wr.cell? ⟨w.heap.size + 1, 2, none⟩ = some (.bool tw) := by rw [x0, ← htw]; rfl
          clear HE HC l1 l2 l3 x0
          cases tw with
          | true =>
            have HP : Hid (perr s = 4) := by
              show _ = _; rw [HPE.out, parse_marks (by rw [HE1.out, if_pos (by simpa using htw)])]
            clear HE1 htw
            go_wp2_with (fail)
            refine (c1 _).mono ?_
            rintro e1 w1 ⟨rfl, rfl⟩
            go_wp2_with (fail)
            refine (c2 _).mono ?_
            rintro e1 w1 ⟨rfl, rfl⟩
            go_wp2_with (fail)
            refine (c3 _).mono ?_
            rintro e1 w1 ⟨rfl, rfl⟩
            go_wp2_with (fail)
            refine (c1 _).mono ?_
            rintro e1 w1 ⟨rfl, rfl⟩
            go_wp2_with (fail)
            refine (c2 _).mono ?_
            rintro e1 w1 ⟨rfl, rfl⟩
            go_wp2
            have HRx : Has (wr.setCell ⟨w.heap.size + 1, 2, none⟩ (.bool true)) w.heap.size 62 zeroP := HR.out.other (by simp) _
            have HF := hid (((((HRx.put 0 (.bool false)).put 1 (.bool false)).put 2 (.bool false)).put 3 (.bool false)).put 4 (.slice none 0 0))
            refine bodyPost_ret (results_ct rfl _ _ _ w.heap.size _ _ (load_rp HF.out) rfl rfl) rfl ⟨⟨false, false, false, false, none, 0, 0, by rw [HP.out]; rfl, fun p h0 => by rw [HP.out] at h0; cases h0⟩, (((((HB.out.setCell (by simp) _).setCell (Nat.le_refl _) _).setCell (Nat.le_refl _) _).setCell (Nat.le_refl _) _).setCell (Nat.le_refl _) _).setCell (Nat.le_refl _) _⟩
          | false =>
            have HE2 : Hid (marks 0 s = marks (m ||| 4) u4) := by show _ = _; rw [HE1.out, if_neg (by simpa using htw)]
            clear HE1 htw
            go_wp2_with (fail)
            refine (c1 _).mono ?_
            rintro e1 w1 ⟨rfl, rfl⟩
            go_wp2_with (fail)
            refine (c2 _).mono ?_
            rintro e1 w1 ⟨rfl, rfl⟩
            go_wp2_with (fail)
            refine (c3 _).mono ?_
            rintro e1 w1 ⟨rfl, rfl⟩
            go_wp2_with (fail)
            refine (c1 _).mono ?_
            rintro e1 w1 ⟨rfl, rfl⟩
            go_wp2_with (fail)
            refine (c2 _).mono ?_
            rintro e1 w1 ⟨rfl, rfl⟩
            go_wp2
            refine ⟨⟨u4, m ||| 4, rfl, by omega, hk, HE2.out, HR.out.other (by simp) _, ?_, HB.out.setCell (by simp) _⟩, by simp [ba_size]; exact hul⟩
            have := HX.out.put 2 (.bool true)
            obtain ⟨q1, q2, q3, q4, q5, q6, q7, q8, q9⟩ := MK.out
            try simp only at q1 q2 q3 q4 q5 q6 q7 q8 q9
            rw [q7, q8, q9]
            exact this
        | false =>
          have HM : Hid (marks 0 s = some (m, t)) := by show _ = _; rw [HE.out, HC.out]; rfl
          clear HE HC l1 l2 l3 d1 d4 e1 e4 k0 k1 k2 k3 k4 f0 f1 f2 f3 f4 zd zd4
          go_wp2_with (fail)
          refine (c1 _).mono ?_
          rintro e1 w1 ⟨rfl, rfl⟩
          go_wp2_with (fail)
          refine (c2 _).mono ?_
          rintro e1 w1 ⟨rfl, rfl⟩
          go_wp2_with (fail)
          refine (c3 _).mono ?_
          rintro e1 w1 ⟨rfl, rfl⟩
          have HPF := hid (parse_form HM.out)
          obtain ⟨bs, hbs⟩ : ∃ bs, pre [47] t = bs := ⟨_, rfl⟩
          have c4 : ∀ W, Calls Tryz.prog 47 #[.string (ba t), .string ⟨#[47]⟩] W fun e w' => e = .returned (.bool bs) ∧ W = w' := fun W => by have := begins_any t [47] W; rw [hbs] at this; exact this
          have HU : Hid (cutP [47] t = if bs then t.drop 1 else t) := by show _ = _; unfold cutP; rw [hbs]; rfl
          have hb1 : bs = true → (1 : Int) ≤ (t.length : Int) := fun h => by have := pre_len (hbs.trans h); simp at this; omega
          have hul : (cutP [47] t).length ≤ 128 := by have := cutP_len [47] t; omega
          have zd := ba_drop t 1
          rw [hbs] at HPF
          clear HM hbs htl
          obtain ⟨u, hu⟩ : ∃ u, cutP [47] t = u := ⟨_, rfl⟩
          rw [hu] at HPF HU hul
          clear hu
          go_upto_if 45 with (go_at_call 47; refine (c4 _).mono ?_; rintro e1 w1 ⟨rfl, rfl⟩)
          go_cut [0] (fun s0 w' => s0 = .string (ba u) ∧ Hid (Has w' w.heap.size 62 zeroP) ∧ Hid (Has w' (w.heap.size + 1) 62 #[.bool (m &&& 1 != 0), .bool (m &&& 2 != 0), .bool (m &&& 4 != 0), .bool bs, .slice none 0 0]) ∧ Hid (Below w.heap.size w w'))
          case first => as_aux_lemma =>
            have x3 := HX.out.at_ 3
            have y3 := HX.out.free 3
            cases bs with
            | false =>
              have ht : u = t := HU.out
              subst ht
              clear HPF c4 hb1 zd
              go_wp2
              go_meet
              case rel => exact ⟨rfl, HR, HX, HB⟩
            | true =>
              have ht : u = t.drop 1 := HU.out
              rw [← ht] at zd
              have hb := hb1 rfl
              clear HPF c4 hb1 ht HU
              go_wp2
              go_meet
              case rel => exact ⟨rfl, HR.out.other (by simp) _, HX.out.put 3 _, HB.out.setCell (by simp) _⟩
          case rest =>
            obtain ⟨rfl, HR3, HX3, HB3⟩ := hcut
            clear HU hb1 zd z c1 c2 c3 c4 HR HX HB
            have z := ba_size u
            by_cases hu0 : u.length = 0
            · have hui : ((u.length : Int) == 0) = true := by simp [hu0]
              have HP : Hid (perr s = 4) := by
                show _ = _; rw [HPE.out, HPF.out, elems_eq, if_pos hu0]; rfl
              have k0 := HR3.out.at_ 0
              have k1 := HR3.out.at_ 1
              have k2 := HR3.out.at_ 2
              have k3 := HR3.out.at_ 3
              have k4 := HR3.out.at_ 4
              have f0 := HR3.out.free 0
              have f1 := HR3.out.free 1
              have f2 := HR3.out.free 2
              have f3 := HR3.out.free 3
              have f4 := HR3.out.free 4
              clear hu0 HPF
              go_wp2
              have HF := hid (((((HR3.out.put 0 (.bool false)).put 1 (.bool false)).put 2 (.bool false)).put 3 (.bool false)).put 4 (.slice none 0 0))
              refine bodyPost_ret (results_ct rfl _ _ _ w.heap.size _ _ (load_rp HF.out) rfl rfl) rfl ⟨⟨false, false, false, false, none, 0, 0, by rw [HP.out]; rfl, fun p h0 => by rw [HP.out] at h0; cases h0⟩, ((((HB3.out.setCell (Nat.le_refl _) _).setCell (Nat.le_refl _) _).setCell (Nat.le_refl _) _).setCell (Nat.le_refl _) _).setCell (Nat.le_refl _) _⟩
            · have hui : ((u.length : Int) == 0) = false := by simp; intro h; exact hu0 (by rw [h]; rfl)
              have hu0' : 0 < u.length := by omega
              clear hu0
              go_wp2
              go_loopw [0, 6, 7, 8] (fun s0 _ _ _ wr => ∃ (v : By) (es : List El) (A : Option Addr) (cap : Nat), s0 = .string (ba v) ∧ v.length ≤ 128 ∧ es.length + v.length ≤ 128 ∧ 0 < es.length + v.length ∧ Hid (elems u [] = elems v es) ∧ Hid (Has wr w.heap.size 62 zeroP) ∧ Hid (Has wr (w.heap.size + 1) 62 #[.bool (m &&& 1 != 0), .bool (m &&& 2 != 0), .bool (m &&& 4 != 0), .bool bs, .slice A es.length cap]) ∧ Hid (RLs (w.heap.size + 2) wr (.slice A es.length cap) es) ∧ Hid (Below w.heap.size w wr))
                (fun s0 _ _ _ _ => match s0 with | .string x => x.size | _ => 0)
              case atStart => exact ⟨u, [], none, 0, rfl, hul, by simp; exact hul, by simp; exact hu0', rfl, HR3, HX3, RLs.nil _ _, HB3⟩
              case round =>
                obtain ⟨v, es, A, cap, rfl, hvl, hev, h0, HT, HR, HX, HS, HB⟩ := hrel
                clear HR3 HX3 HB3 z hul
                have z := ba_size v
                have HE : Hid (elems u [] = if v.length = 0 then (if es.length = 0 then none else some es) else match elemL v with | none => none | some (e, r) => elems r (es ++ [e])) := by show _ = _; rw [HT.out, elems_eq]; rfl
                clear HT
                by_cases hv0 : v.length = 0
                · have hvi : ¬ ((0 : Int) < (v.length : Int)) := by omega
                  have HPL : Hid (parseL s = some ⟨m, bs, es⟩) := by
                    show _ = _; rw [HPF.out, HE.out, if_pos hv0, if_neg (by omega)]
                  have HP : Hid (perr s = 0) := by show _ = _; rw [HPE.out, HPL.out]
                  clear hv0 HE h0 HPF
                  obtain ⟨nn, hnn⟩ : ∃ n, es.length = n := ⟨_, rfl⟩
                  obtain ⟨m1, hm1⟩ : ∃ b, (m &&& 1 != 0) = b := ⟨_, rfl⟩
                  obtain ⟨m2, hm2⟩ : ∃ b, (m &&& 2 != 0) = b := ⟨_, rfl⟩
                  obtain ⟨m4, hm4⟩ : ∃ b, (m &&& 4 != 0) = b := ⟨_, rfl⟩
                  have HM := hid (And.intro hm1.symm (And.intro hm2.symm (And.intro hm4.symm hnn.symm)))
                  rw [hm1, hm2, hm4, hnn] at HX
                  rw [hnn] at HS
                  clear hm1 hm2 hm4 hnn
                  go_wp2_with (first
                    | (refine wpList_load_row rfl 62 _ rfl (w.heap.size + 1) rfl 62 #[.bool m1, .bool m2, .bool m4, .bool bs, .slice A nn cap] (0, 0) _ HX.out Tryz.underlying62 rfl iRP ?_)
                    | (refine wpList_store_row rfl 62 (.tmp 2) (.tmp 72) rfl w.heap.size #[.bool m1, .bool m2, .bool m4, .bool bs, .slice A nn cap] rfl rfl 62 zeroP HR.out iRP rfl (rpOne _ _ _ _ _ _ _) ?_))
                  have HF := hid (Has.row (cs' := #[.bool m1, .bool m2, .bool m4, .bool bs, .slice A nn cap]) HR.out)
                  refine bodyPost_ret (results_ct rfl _ _ _ w.heap.size _ _ (load_rp HF.out) rfl rfl) rfl ⟨⟨m1, m2, m4, bs, A, nn, cap, by rw [HP.out]; rfl, fun p _ hp => ?_⟩, HB.out.rowG (Nat.le_refl _) _⟩
                  rw [HPL.out] at hp
                  obtain rfl := Option.some.inj hp
                  exact ⟨HM.out.1, HM.out.2.1, HM.out.2.2.1, rfl, HM.out.2.2.2, (HS.out.mono (Nat.zero_le _)).other (keep_row HR.out _)⟩
                · have hvi : (0 : Int) < (v.length : Int) := by omega
                  have CE := hid (relem_any v wr (by omega) hvl)
                  have HE1 : Hid (elems u [] = match elemL v with | none => none | some (e, r) => elems r (es ++ [e])) := HE.out.trans (if_neg hv0)
                  have hlt : ∀ e r, elemL v = some (e, r) → r.length < v.length := fun e r h => elemL_len (fun e0 => hv0 (by rw [e0]; rfl)) h
                  clear hv0 HE h0
                  go_wp2_with (fail)
                  refine CE.out.mono ?_
                  rintro e2 w2 ⟨⟨a, b, c, A2, n2, k2', r, ok, rfl, hor⟩, hb2⟩
                  have HR2 := hid (HR.out.stays hb2)
                  have HX2 := hid (HX.out.stays hb2)
                  have HS2 := hid (HS.out.stays hb2)
                  have HB2 := hid (HB.out.thenG hb2)
                  obtain ⟨W3, hW3⟩ : ∃ W3, w2.alloc (.cells #[.int .i64 a, .int .u8 b, .bool c, .slice A2 n2 k2'] 90) = W3 := ⟨_, rfl⟩
                  have B3 : Below w2.heap.size w2 W3 := hW3 ▸ (Below.refl _ _).alloc (Nat.le_refl _) _
                  have HR3 := hid (HR2.out.stays B3)
                  have HX3 := hid (HX2.out.stays B3)
                  have HB3 := hid (HB2.out.thenG B3)
                  cases ok with
                  | false =>
                    have hn : elemL v = none := by
                      rcases hor with ⟨h, _⟩ | ⟨el, _, h, _⟩
                      · exact h
                      · cases h
                    have HP : Hid (perr s = 4) := by
                      show _ = _; rw [HPE.out, HPF.out, HE1.out, hn]
                    have k0 := HR3.out.at_ 0
                    have k1 := HR3.out.at_ 1
                    have k2 := HR3.out.at_ 2
                    have k3 := HR3.out.at_ 3
                    have k4 := HR3.out.at_ 4
                    have f0 := HR3.out.free 0
                    have f1 := HR3.out.free 1
                    have f2 := HR3.out.free 2
                    have f3 := HR3.out.free 3
                    have f4 := HR3.out.free 4
                    clear hor hn HE1 HPF hlt B3 hb2
                    go_wp2
                    have HF := hid (((((HR3.out.put 0 (.bool false)).put 1 (.bool false)).put 2 (.bool false)).put 3 (.bool false)).put 4 (.slice none 0 0))
                    refine bodyPost_ret (results_ct rfl _ _ _ w.heap.size _ _ (load_rp HF.out) rfl rfl) rfl ⟨⟨false, false, false, false, none, 0, 0, by rw [HP.out]; rfl, fun p h0 => by rw [HP.out] at h0; cases h0⟩, ((((HB3.out.setCell (Nat.le_refl _) _).setCell (Nat.le_refl _) _).setCell (Nat.le_refl _) _).setCell (Nat.le_refl _) _).setCell (Nat.le_refl _) _⟩
                  | true =>
                    obtain ⟨el, hel, hrel⟩ : ∃ el, elemL v = some (el, r) ∧ REl w2 el a b c A2 n2 k2' := by
                      rcases hor with ⟨_, h⟩ | ⟨el, h1, _, h2⟩
                      · cases h
                      · exact ⟨el, h1, h2⟩
                    have hrl := hlt el r hel
                    have HE2 : Hid (elems u [] = elems r (es ++ [el])) := by show _ = _; rw [HE1.out, hel]
                    have s3 : W3.heap.size = w2.heap.size + 1 := by rw [← hW3]; simp
                    have hE3 : Has W3 w2.heap.size 90 #[.int .i64 a, .int .u8 b, .bool c, .slice A2 n2 k2'] := hW3 ▸ Has.fresh _ _ _
                    obtain ⟨W4, hW4⟩ : ∃ W4, W3.alloc (.cells #[.int .i64 a, .int .u8 b, .bool c, .slice A2 n2 k2'] 90) = W4 := ⟨_, rfl⟩
                    have B4 : Below W3.heap.size W3 W4 := hW4 ▸ (Below.refl _ _).alloc (Nat.le_refl _) _
                    have hE4 : Has W4 W3.heap.size 90 #[.int .i64 a, .int .u8 b, .bool c, .slice A2 n2 k2'] := hW4 ▸ Has.fresh _ _ _
                    have HR4 := HR3.out.stays B4
                    have HX4 := HX3.out.stays B4
                    have HB4 := HB3.out.thenG B4
                    obtain ⟨v7, w7, har, hrl7, hbl7, hhas⟩ := append_re W4 (w.heap.size + 2) _ es ((HS2.out.stays B3).stays B4) el ⟨a, b, c, A2, n2, k2'⟩ ((hrel.stays B3).stays B4) ⟨W3.heap.size, 0, none⟩ (fun j y hy => by rw [add_at, hE4.at_]; simpa [RF.cells] using hy) (by omega) (by have := HX4.inside; omega) 60
                    rw [s3] at har
                    have HAR := hid har
                    have HR7 := hid (hhas _ _ _ (by decide) HR4)
                    have HX7 := hid (hhas _ _ _ (by decide) HX4)
                    have HB7 := hid (hbl7 w w.heap.size (by omega) HB4)
                    have HS7 := hid hrl7
                    obtain ⟨A7, cp7, hv7⟩ := HS7.out.form
                    obtain ⟨n7, hn7⟩ : ∃ n, (es ++ [el]).length = n := ⟨_, rfl⟩
                    rw [hn7] at hv7
                    subst hv7
                    have e0 := hE3.at_ 0
                    have e1 := hE3.at_ 1
                    have e2 := hE3.at_ 2
                    have e3 := hE3.at_ 3
                    have x4 := HX3.out.at_ 4
                    have k47 := HX7.out.at_ 4
                    have f47 := HX7.out.free 4
                    clear hor hel hrel HE1 HPF hlt B3 hb2 hE3 hE4 HR4 HX4 HB4 B4 har hrl7 hbl7 hhas
                    go_wp2_with (at_builtin; refine wpList_append_run rfl (.tmp 66) (.tmp 68) 60 60 rfl ⟨_, w7, HAR.out, ?_⟩)
                    subst hn7
                    refine ⟨⟨r, es ++ [el], A7, cp7, rfl, by omega, by rw [List.length_append, List.length_singleton]; omega, by simp; omega, HE2.out, HR7.out.other (by simp) _, HX7.out.put 4 _, HS7.out.other (keep_put HX7.out 4 _), HB7.out.setCell (by simp) _⟩, ?_⟩
                    simp [ba_size]; omega
theorem rparse_any (s : By) (w : World) : Calls Tryz.prog 26 #[.string (ba s)] w fun e w' => RParseIs s e w' ∧ Below w.heap.size w w' := by
  by_cases hl : 128 < s.length
  · exact rparse_long s w hl
  · exact rparse_short s w hl
end Go.Proofs.YtpipkgkfhbagmaaGreatDoor.Glob
