/- Glob: function values: what each holds of. Conditions: a row of ranges of the call's own. -/
import Derived.Test.YtpipkgkfhbagmaaGreatDoorJD
namespace Go.Proofs.YtpipkgkfhbagmaaGreatDoor.Glob
open Go.RowKit
/-- The types of what a function value captures. -/
abbrev Firm (t : TypeId) : Prop := t = 105 ∨ t = 135 ∨ t = 4 ∨ t = 134
/-- What of such types lay in w lies in W. -/
def Gx (w W : World) : Prop := w.heap.size ≤ W.heap.size ∧ ∀ (j : Nat) (cs : Array Value) (t : TypeId) (q : Nat × Nat), w.heap[j]? = some (Obj.cells cs t q) → Firm t → W.heap[j]? = some (Obj.cells cs t q)
theorem Gx.of_below {w W : World} (h : Below w.heap.size w W) : Gx w W :=
  ⟨h.size, fun j _ _ _ ho _ => (h.block j (Array.getElem?_eq_some_iff.1 ho).1).trans ho⟩
theorem Gx.refl (w : World) : Gx w w := Gx.of_below (Below.refl _ _)
theorem Gx.trans {a b c : World} (h : Gx a b) (k : Gx b c) : Gx a c := ⟨Nat.le_trans h.1 k.1, fun j cs t q ho hn => k.2 j cs t q (h.2 j cs t q ho hn) hn⟩
theorem Gx.of_grown {w w' : World} {row : Option Nat} (hg : w.grownBy w' row) (hr : ∀ k, row = some k → ∃ cs q, w.heap[k]? = some (Obj.cells cs 107 q)) : Gx w w' := by
  refine ⟨hg.size, fun j ds t q ho hn => ?_⟩
  refine (hg.block j (Array.getElem?_eq_some_iff.1 ho).1 fun e => ?_).trans ho
  obtain ⟨cs, q, h⟩ := hr j e.symm
  have e2 := Option.some.inj (ho.symm.trans h)
  simp only [Obj.cells.injEq] at e2
  rw [e2.2.1] at hn
  exact absurd hn (by decide)
theorem Gx.then_below {a b c : World} (h : Gx a b) (k : Below b.heap.size b c) : Gx a c := h.trans (Gx.of_below k)
theorem Has.gx {w W : World} {g : Nat} {t : TypeId} {cs : Array Value} (h : Has w g t cs) (ht : Firm t) (hG : Gx w W) : Has W g t cs :=
  hG.2 g _ _ _ h ht
theorem Sps.gx {B : Nat} {w W : World} {v : Value} {rs : List Rg} (h : Sps B w v rs) (hG : Gx w W) : Sps B W v rs := by
  refine ⟨h.1, ?_⟩
  rcases h.2 with h1 | ⟨g, c, cur, h1, hB, h3, h4⟩
  · exact .inl h1
  · exact .inr ⟨g, c, cur, h1, hB, Has.gx (show Has w g 134 cur from h3) (by decide) hG, h4⟩
/-- A function value that, in every world that grows out of w, holds of just what h holds of. -/
def IsFn (w : World) (f : Value) (h : UInt8 → Bool) : Prop :=
  ∃ g lb, f = .func (.func g) #[] lb ∧ (∀ (args : Array Value) (w : World), (callFunc g args).run Tryz.prog w = .ok (.enter g args) w) ∧ ∀ (W : World) (c : UInt8), Gx w W → Calls Tryz.prog g (#[.int .u8 (b8 c)] ++ lb) W fun e W' => e = .returned (.bool (h c)) ∧ Below W.heap.size W W'
theorem IsFn.gx {w w' : World} {f : Value} {h : UInt8 → Bool} (k : IsFn w f h) (hb : Gx w w') : IsFn w' f h := by
  obtain ⟨g, lb, h1, h2, h3⟩ := k
  exact ⟨g, lb, h1, h2, fun W c hW => h3 W c (hb.trans hW)⟩
theorem IsFn.stays {w w' : World} {f : Value} {h : UInt8 → Bool} (k : IsFn w f h) (hb : Below w.heap.size w w') : IsFn w' f h := k.gx (Gx.of_below hb)
theorem IsFn.form {w : World} {f : Value} {h : UInt8 → Bool} (k : IsFn w f h) : ∃ g lb, f = .func (.func g) #[] lb := by
  obtain ⟨g, lb, h1, _⟩ := k; exact ⟨g, lb, h1⟩
theorem IsFn.one {w : World} {f : Value} {h : UInt8 → Bool} (k : IsFn w f h) : f.oneCell' = true := by
  obtain ⟨g, lb, rfl, _⟩ := k; rfl
theorem anyByteC_any (c : UInt8) (w : World) : Calls Tryz.prog 94 #[.int .u8 (b8 c)] w fun e w' => e = .returned (.bool true) ∧ Below w.heap.size w w' := by
  go_enter Tryz.func94, Tryz.ntmps94
  go_wp2
  go_ret
  exact ⟨rfl, Below.refl _ _⟩
theorem anyByte_any (w : World) : Calls Tryz.prog 85 #[] w fun e w' => (∃ f, e = .returned f ∧ IsFn w' f (fun _ => true)) ∧ w = w' := by
  go_enter Tryz.func85, Tryz.ntmps85
  go_wp2
  go_ret
  exact ⟨⟨_, rfl, 94, #[], rfl, enters_of Tryz.func94 (by kernel_rfl) rfl, fun W c _ => anyByteC_any c W⟩, rfl⟩
theorem inPartC_any (c : UInt8) (f : Value) (h : UInt8 → Bool) (g : Nat) (w : World) (hf : IsFn w f h) (hg : Has w g 105 #[f]) :
    Calls Tryz.prog 95 #[.int .u8 (b8 c), .pointer (some ⟨g, 0, none⟩)] w fun e w' => e = .returned (.bool (!(c == 47) && h c)) ∧ Below w.heap.size w w' := by
  obtain ⟨k, lb, rfl, ek, hk⟩ := hf
  have c0 : w.cell? ⟨g, 0, none⟩ = some (.func (.func k) #[] lb) := hg.at_ 0
  have ne := ne8 c 47
  rw [show b8 47 = 47 from rfl] at ne
  have CK := hid (hk w c (Gx.refl _))
  generalize h c = r at CK
  clear hg hk
  cases h7 : c == 47 with
  | true =>
    rw [h7] at ne
    simp only [Bool.not_true] at ne
    clear h7
    go_enter Tryz.func95, Tryz.ntmps95
    go_wp2
    go_ret
    exact ⟨rfl, Below.refl _ _⟩
  | false =>
    rw [h7] at ne
    simp only [Bool.not_false] at ne
    clear h7
    go_enter Tryz.func95, Tryz.ntmps95
    go_wp2_with (go_at_fn k; refine CK.out.mono ?_; rintro e1 w1 ⟨rfl, hb1⟩)
    go_ret
    exact ⟨rfl, hb1⟩
theorem inPart_any (f : Value) (h : UInt8 → Bool) (w : World) (hf : IsFn w f h) :
    Calls Tryz.prog 86 #[f] w fun e w' => (∃ f', e = .returned f' ∧ IsFn w' f' (fun c => !(c == 47) && h c)) ∧ Below w.heap.size w w' := by
  have hmf : ∀ (fn : Fn) (first cap : Array Value) (w : World), (Instr.makeFunc fn first cap).run Tryz.prog w = .ok (.func fn first cap) w := fun _ _ _ _ => rfl
  have HF := hid hf
  obtain ⟨k, lb, hfe, _⟩ := hf
  subst hfe
  go_enter Tryz.func86, Tryz.ntmps86
  go_wp2
  go_ret
  refine ⟨⟨_, rfl, 95, _, rfl, enters_of Tryz.func95 (by kernel_rfl) rfl, fun W c hW => ?_⟩, (Below.refl _ _).alloc (Nat.le_refl _) _⟩
  exact inPartC_any c _ h w.heap.size W ((HF.out.stays ((Below.refl _ _).alloc (Nat.le_refl _) _)).gx hW) ((Has.fresh w 105 _).gx (by decide) hW)
theorem notC_any (c : UInt8) (f : Value) (h : UInt8 → Bool) (g : Nat) (w : World) (hf : IsFn w f h) (hg : Has w g 105 #[f]) :
    Calls Tryz.prog 103 #[.int .u8 (b8 c), .pointer (some ⟨g, 0, none⟩)] w fun e w' => e = .returned (.bool (!h c)) ∧ Below w.heap.size w w' := by
  obtain ⟨k, lb, rfl, ek, hk⟩ := hf
  have c0 : w.cell? ⟨g, 0, none⟩ = some (.func (.func k) #[] lb) := hg.at_ 0
  have CK := hid (hk w c (Gx.refl _))
  generalize h c = r at CK
  clear hg hk
  go_enter Tryz.func103, Tryz.ntmps103
  go_wp2_with (go_at_fn k; refine CK.out.mono ?_; rintro e1 w1 ⟨rfl, hb1⟩)
  go_ret
  exact ⟨rfl, hb1⟩
theorem not_any (f : Value) (h : UInt8 → Bool) (w : World) (hf : IsFn w f h) :
    Calls Tryz.prog 97 #[f] w fun e w' => (∃ f', e = .returned f' ∧ IsFn w' f' (fun c => !h c)) ∧ Below w.heap.size w w' := by
  have hmf : ∀ (fn : Fn) (first cap : Array Value) (w : World), (Instr.makeFunc fn first cap).run Tryz.prog w = .ok (.func fn first cap) w := fun _ _ _ _ => rfl
  have HF := hid hf
  obtain ⟨k, lb, hfe, _⟩ := hf
  subst hfe
  go_enter Tryz.func97, Tryz.ntmps97
  go_wp2
  go_ret
  refine ⟨⟨_, rfl, 103, _, rfl, enters_of Tryz.func103 (by kernel_rfl) rfl, fun W c hW => ?_⟩, (Below.refl _ _).alloc (Nat.le_refl _) _⟩
  exact notC_any c _ h w.heap.size W ((HF.out.stays ((Below.refl _ _).alloc (Nat.le_refl _) _)).gx hW) ((Has.fresh w 105 _).gx (by decide) hW)
theorem Has.grow {w w' : World} {g : Nat} {t : TypeId} {cs : Array Value} (h : Has w g t cs) (hb : Below w.heap.size w w') : Has w' g t cs := h.stays hb
theorem withinC_any (B : Nat) (v : Value) (rs : List Rg) (fold : Bool) (c : UInt8) (gl gf : Nat) (w : World) (hr : Sps B w v rs) (hn : rs.length ≤ 1000) (hl : Has w gl 135 #[v]) (hf : Has w gf 4 #[.bool fold]) :
    Calls Tryz.prog 98 #[.int .u8 (b8 c), .pointer (some ⟨gl, 0, none⟩), .pointer (some ⟨gf, 0, none⟩)] w fun e w' => e = .returned (.bool (inF fold rs c)) ∧ Below w.heap.size w w' := by
  have hmf : ∀ (fn : Fn) (first cap : Array Value) (w : World), (Instr.makeFunc fn first cap).run Tryz.prog w = .ok (.func fn first cap) w := fun _ _ _ _ => rfl
  obtain ⟨W0, hW0⟩ : ∃ W0, w.alloc (.cells #[.int .u8 (b8 c)] 5) = W0 := ⟨_, rfl⟩
  have B0 : Below w.heap.size w W0 := hW0 ▸ (Below.refl _ _).alloc (Nat.le_refl _) _
  have c0 : W0.cell? ⟨gl, 0, none⟩ = some v := (hl.stays B0).at_ 0
  have HC := hid (contf_any B v rs c fold w.heap.size gf W0 (hr.stays B0) hn (hW0 ▸ Has.fresh _ _ _) (hf.stays B0))
  have HB := hid B0
  obtain ⟨A, n, cap, rfl⟩ : ∃ A n cap, v = .slice A n cap := by
    rcases hr.form with ⟨_, h⟩ | ⟨g, cap, h, _⟩
    · exact ⟨_, _, _, h⟩
    · exact ⟨_, _, _, h⟩
  generalize inF fold rs c = b at HC
  clear hr hn hl hf B0
  go_enter Tryz.func98, Tryz.ntmps98
  go_wp2_with (go_at_call 99; refine HC.out.mono ?_; rintro e1 w1 ⟨rfl, hb1⟩)
  go_ret
  exact ⟨rfl, HB.out.thenG hb1⟩
theorem within_any (B : Nat) (v : Value) (rs : List Rg) (fold : Bool) (w : World) (hr : Sps B w v rs) (hn : rs.length ≤ 1000) :
    Calls Tryz.prog 89 #[v, .bool fold] w fun e w' => (∃ f, e = .returned f ∧ IsFn w' f (inF fold rs)) ∧ Below w.heap.size w w' := by
  have hmf : ∀ (fn : Fn) (first cap : Array Value) (w : World), (Instr.makeFunc fn first cap).run Tryz.prog w = .ok (.func fn first cap) w := fun _ _ _ _ => rfl
  have HR := hid hr
  have HN := hid hn
  obtain ⟨A, n, cap, rfl⟩ : ∃ A n cap, v = .slice A n cap := by
    rcases hr.form with ⟨_, h⟩ | ⟨g, cap, h, _⟩
    · exact ⟨_, _, _, h⟩
    · exact ⟨_, _, _, h⟩
  clear hr hn
  go_enter Tryz.func89, Tryz.ntmps89
  go_wp2
  go_ret
  have B2 : Below w.heap.size w ((w.alloc (.cells #[.slice A n cap] 135)).alloc (.cells #[.bool fold] 4)) := ((Below.refl _ _).alloc (Nat.le_refl _) _).alloc (by simp) _
  refine ⟨⟨_, rfl, 98, _, rfl, enters_of Tryz.func98 (by kernel_rfl) rfl, fun W c hW => ?_⟩, B2⟩
  exact withinC_any B _ rs fold c w.heap.size (w.heap.size + 1) W ((HR.out.stays B2).gx hW) HN.out ((Has.more (Has.fresh w 135 _) _).gx (by decide) hW) ((Has.fresh' _ 4 _ (by simp)).gx (by decide) hW)
end Go.Proofs.YtpipkgkfhbagmaaGreatDoor.Glob
