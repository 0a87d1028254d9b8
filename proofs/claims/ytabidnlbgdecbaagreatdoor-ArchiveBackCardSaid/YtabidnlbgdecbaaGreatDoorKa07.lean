/- Several texts in one. Conditions: those said at each. -/
import Derived.Test.YtabidnlbgdecbaaGreatDoorKa00
import Derived.DeepKeys4
import Derived.Test.YtabidnlbgdecbaaGreatDoorKa06
set_option linter.unusedSimpArgs false
set_option linter.unusedVariables false
set_option maxRecDepth 100000
namespace Go.Proofs.YtabidnlbgdecbaaGreatDoor
open Go.RowKit Go.Maps
structure EnSrc (w : World) (v : Value) (A : Option Addr) (c : Nat) (L : List En) : Prop where
 form : v = .slice A L.length c
 off : ∀ a, A = some a → ∃ g o, a = ⟨g, o, none⟩
 nil : A = none → L = []
 cell : ∀ g o, A = some ⟨g, o, none⟩ → ∀ j u, (ecells L)[j]? = some u → w.cell? ⟨g, o + j, none⟩ = some u
theorem EnSrc.on {w w' : World} {v : Value} {A : Option Addr} {c : Nat} {L : List En} (h : EnSrc w v A c L) (hb : Below w.heap.size w w') : EnSrc w' v A c L :=
 ⟨h.form, h.off, h.nil, fun g o ha j u hu => by
  have k := h.cell g o ha j u hu
  exact (hb.cell (p := ⟨g, o + j, none⟩) (block_lt_of_cell (a := ⟨g, o + j, none⟩) k)).trans k⟩
theorem EnR.src {e : TypeId} {B : Nat} {w : World} {v : Value} {L : List En} (h : EnR e B w v L) : ∃ A c, EnSrc w v A c L := by
 rcases h.2 with ⟨h1, h2⟩ | ⟨g, c, cur, h1, _⟩
 · have hl : L = [] := List.eq_nil_of_length_eq_zero h2
   subst hl
   exact ⟨none, 0, h1, fun a e => (by cases e), fun _ => rfl, fun g o e => (by cases e)⟩
 · refine ⟨some ⟨g, 0, none⟩, c, h1, fun a e => (by injection e with e; exact ⟨g, 0, e.symm⟩), fun e => (by cases e), fun g' o e j u hu => ?_⟩
   injection e with e
   injection e with e1 e2
   subst e1; subst e2
   subst h1
   have := World.ownsRow.cells (g := g) h rfl j u hu
   rwa [add_at] at this
theorem eqNilN (c n : Nat) (w : World) : (binOp .eql 24 (.slice none n c) (.slice none 0 0)).run Tryz.prog w = .ok (.bool true) w := by kernel_rfl
theorem eqSomeN (g o n c : Nat) (w : World) : (binOp .eql 24 (.slice (some ⟨g, o, none⟩) n c) (.slice none 0 0)).run Tryz.prog w = .ok (.bool false) w := by kernel_rfl
theorem ecells_one (L : List En) : ∀ u ∈ ecells L, u.oneCell' = true := by
 intro u hu
 unfold ecells at hu
 rw [List.mem_flatMap] at hu
 obtain ⟨x, _, hx⟩ := hu
 simp only [enA, List.mem_cons, List.not_mem_nil, or_false] at hx
 rcases hx with rfl | rfl | rfl | rfl <;> rfl
set_option maxHeartbeats 4000000 in
theorem cloneEn_any {w : World} {v : Value} {A : Option Addr} {c : Nat} {L : List En} (h : EnSrc w v A c L) (hn : L.length ≤ 1000) :
 Calls Tryz.prog 55 #[v] w fun e w' => ∃ v', e = .returned v' ∧ EnR 28 w.heap.size w' v' L ∧ Below w.heap.size w w' := by
 obtain ⟨i0, hi, hz0, hz1, hz2⟩ := info_parts infoEn
 have hf := h.form
 subst hf
 cases hA : A with
 | none =>
  have hl := h.nil hA
  subst hl
  have q0 := eqNilN c 0
  clear h hn hA
  go_enter Tryz.func55, Tryz.ntmps55
  go_wp2
  go_ret
  exact ⟨_, rfl, EnR.nil _ _ _, Below.refl _ _⟩
 | some a =>
  obtain ⟨g, o, rfl⟩ := h.off a hA
  obtain ⟨n, HN⟩ : ∃ n, Hid (L.length = n) := ⟨_, rfl⟩
  have hc := h.cell g o hA
  have HLen := hid (ecells_len L)
  have HO := hid (ecells_one L)
  rw [HN.out] at hn HLen
  have N2 : Hid (0 + n ≤ maxLen) := by show _ ≤ _; unfold maxLen; omega
  have N3 : Hid ((0 + n) * 48 ≤ 140737488355328) := by show _ ≤ _; omega
  have R0 : Hid ((w.alloc (.cells #[] 28)).ownsRow w.heap.size 28 4 (.slice (some ⟨w.heap.size, 0, none⟩) 0 0) 0 []) :=
   ⟨rfl, .inr ⟨w.heap.size, 0, #[], rfl, Nat.le_refl _, Has.fresh _ _ _, Nat.le_refl _, by unfold maxLen; omega, rfl, rfl⟩⟩
  have HC2 : Hid (∀ j u, (ecells L)[j]? = some u → (w.alloc (.cells #[] 28)).cell? ((⟨g, o, none⟩ : Addr).add j) = some u) := by
   intro j u hu
   have k := hc j u hu
   rw [add_at]
   exact (Below.refl w.heap.size w |>.alloc (Nat.le_refl _) (.cells #[] 28)).cell (p := ⟨g, o + j, none⟩) (block_lt_of_cell (a := ⟨g, o + j, none⟩) k) |>.trans k
  rw [HN.out]
  have q0 := eqSomeN g o n c
  clear h hc hn hA
  go_enter Tryz.func55, Tryz.ntmps55
  go_wp2_with (at_builtin; refine wpList_append_own_at _ rfl _ _ 24 rfl w.heap.size 28 i0 _ 4 48 Tryz.underlying24 hi hz0 hz1 hz2 rfl (by decide) _ _ _ rfl R0.out ⟨g, o, none⟩ n c (ecells L) rfl HLen.out HC2.out HO.out N2.out N3.out (by simp) ?_; intro v' w3 hown' hg3 hnil3 hloc3)
  go_ret
  refine ⟨v', rfl, ?_, ?_⟩
  · rw [Nat.zero_add, List.nil_append] at hown'
    unfold EnR
    rw [HN.out]; exact hown'
  · exact ((Below.refl _ _).alloc (Nat.le_refl _) _).grown hg3 (by simp) (fun j hj => by injection hj with hj; rw [← hj]; exact Nat.le_refl _)
def MapK (w : World) (k : TypeId) (z : Value) (b c : Nat) (f : Value → Option Value) : Prop :=
 ∃ D : DataW Value, w.ownsMap Tryz.prog k Rv b c D ∧ size D = c ∧ ∀ x kl, keyOf Tryz.prog k x = some kl → has D kl = (f x).isSome ∧ D.atKey kl (.held z) = .held ((f x).getD z)
section
variable {w w' : World} {k t e : TypeId} {z : Value} {b c : Nat} {f f' : Value → Option Value}
theorem MapK.kept (h : MapK w k z b c f) (he : w'.heap[b]? = w.heap[b]?) : MapK w' k z b c f := by
 obtain ⟨D, ⟨es, clock, hb, r⟩, h2⟩ := h
 exact ⟨D, ⟨es, clock, he.trans hb, r⟩, h2⟩
theorem MapK.inside (h : MapK w k z b c f) : b < w.heap.size := by
 obtain ⟨D, h1, _⟩ := h; exact h1.lt
theorem MapK.obj (h : MapK w k z b c f) : ∃ es clock, w.heap[b]? = some (.map es clock) := by
 obtain ⟨D, ⟨es, clock, hb, _⟩, _⟩ := h; exact ⟨es, clock, hb⟩
theorem MapK.made (w : World) (k : TypeId) (z : Value) : MapK (w.alloc (.map #[] 0)) k z w.heap.size 0 (fun _ => none) :=
 ⟨.map [], World.ownsMap_made w _ k Rv, rfl, fun _ _ _ => ⟨rfl, rfl⟩⟩
theorem MapK.as (h : MapK w k z b c f) (he : ∀ x kl, keyOf Tryz.prog k x = some kl → f x = f' x) : MapK w k z b c f' := by
 obtain ⟨D, h1, h2, h3⟩ := h
 exact ⟨D, h1, h2, fun x kl hk => by rw [← he x kl hk]; exact h3 x kl hk⟩
theorem MapK.look (K : Keyed Tryz.prog k) (ht : Tryz.prog.underlying t = some (.map k e)) (h : MapK w k z b c f) (hz : (zeroValue e).run Tryz.prog w = .ok z w) {x : Value} {kl : Lit} (hk : keyOf Tryz.prog k x = some kl) :
 (Instr.lookup t (.map (some b)) x false).run Tryz.prog w = .ok ((f x).getD z) w := by
 obtain ⟨D, h1, _, h3⟩ := h
 obtain ⟨v, ps, hr, hv⟩ := h1.lookup K ht hz (zd := .held z) (zp := []) rfl hk
 rw [(h3 x kl hk).2] at hv
 simp only [Rv, Option.some.injEq, Prod.mk.injEq, DataW.held.injEq] at hv
 rw [hr, hv.1]
open Classical in
theorem MapK.store (K : Keyed Tryz.prog k) (ht : Tryz.prog.underlying t = some (.map k e)) (h : MapK w k z b c f) (hc : c < 1000000000) {x v : Value} {kl : Lit} (hk : keyOf Tryz.prog k x = some kl) :
 ∃ w', (Instr.mapUpdate t (.map (some b)) x v).run Tryz.prog w = .ok () w' ∧ MapK w' k z b (if (f x).isSome then c else c + 1) (fun y => if y = x then some v else f y) ∧ w.grownBy w' (some b) := by
 obtain ⟨D, h1, h2, h3⟩ := h
 obtain ⟨w', hr, ho, hg⟩ := h1.store K ht (by unfold maxLen; omega) (d := .held v) (ps := []) hk rfl
 refine ⟨w', hr, ⟨D.put kl (.held v), ?_, ?_, ?_⟩, hg.grown⟩
 · obtain ⟨es, clock, a1, a2, a3, a4⟩ := ho
   refine ⟨es, clock, a1, a2, ?_, a4⟩
   have hsz := size_put (k := kl) (h1.tidy K) (.held v)
   rw [(h3 x kl hk).1, h2] at hsz
   rw [← hsz, a4]
   simp [size, length_sorted]
 · have hsz := size_put (k := kl) (h1.tidy K) (.held v)
   rw [(h3 x kl hk).1, h2] at hsz
   exact hsz
 · intro y kl2 hk2
   by_cases hy : y = x
   · subst hy
     obtain rfl : kl = kl2 := Option.some.inj (hk.symm.trans hk2)
     simp only [if_pos]
     exact ⟨has_put_same h1.isMap (K.key hk) _, atKey_put_same h1.isMap (K.key hk) _ _⟩
   · have hne : kl2 ≠ kl := fun e0 => hy (K.inj hk2 (by rw [e0]; exact hk))
     simp only [if_neg hy]
     rw [has_put_other hne, atKey_put_other hne]
     exact h3 y kl2 hk2
end
end Go.Proofs.YtabidnlbgdecbaaGreatDoor
namespace Go.Proofs.YtabidnlbgdecbaaGreatDoor
open Go.RowKit Go.Maps
def nilV : Value := .slice none 0 0
def entsP (q : By) (L : List En) : List En := L.filter fun x => decide (x.path = q)
theorem entsP_snoc (q : By) (L : List En) (x : En) : entsP q (L ++ [x]) = if x.path = q then entsP q L ++ [x] else entsP q L := by
 unfold entsP
 rw [List.filter_append]
 by_cases h : x.path = q <;> simp [h]
def pfun (vals : By → Value) (L : List En) : Value → Option Value
 | .string s => if entsP (tl s) L = [] then none else some (vals (tl s))
 | _ => none
theorem pfun_at (vals : By → Value) (L : List En) (q : By) : pfun vals L (kS q) = if entsP q L = [] then none else some (vals q) := by
 show (if entsP (tl (ba q)) L = [] then none else some (vals (tl (ba q)))) = _
 rw [tl_ba]
structure PM (B : Nat) (w : World) (b : Nat) (L : List En) (vals : By → Value) : Prop where
 mp : ∃ c, MapK w 9 nilV b c (pfun vals L) ∧ c ≤ L.length
 rows : ∀ q, EnR 28 B w (vals q) (entsP q L)
 ap : ∀ q r, q ≠ r → ∀ g, (vals q).ownBlock = some g → (vals r).ownBlock ≠ some g
 no : ∀ q, entsP q L = [] → vals q = nilV
theorem PM.start (B : Nat) (w : World) : PM B (w.alloc (.map #[] 0)) w.heap.size [] (fun _ => nilV) where
 mp := ⟨0, (MapK.made w 9 nilV).as fun x kl hk => by
  cases x <;> first | rfl | (show none = if entsP _ [] = [] then none else _; rw [if_pos rfl]), Nat.le_refl _⟩
 rows q := EnR.nil _ _ _
 ap q r _ g hg := by cases hg
 no q _ := rfl
section
variable {B b : Nat} {w w' : World} {L : List En} {vals : By → Value}
theorem PM.nb (h : PM B w b L vals) (q : By) : (vals q).ownBlock ≠ some b := by
 obtain ⟨c, h1, _⟩ := h.mp
 obtain ⟨es, ck, ho⟩ := h1.obj
 intro e
 rcases (h.rows q).2 with ⟨k1, _⟩ | ⟨g, cc, cur, k1, _, k3, _⟩
 · rw [k1] at e; cases e
 · rw [k1] at e
   injection e with e
   have e : g = b := e
   rw [← e, k3] at ho; cases ho
theorem PM.mono {B' : Nat} (h : PM B w b L vals) (hb : B' ≤ B) : PM B' w b L vals := ⟨h.mp, fun q => (h.rows q).mono hb, h.ap, h.no⟩
theorem PM.on (h : PM B w b L vals) (hb : Below w.heap.size w w') : PM B w' b L vals := by
 obtain ⟨c, h1, h2⟩ := h.mp
 exact ⟨⟨c, h1.kept (hb.block _ h1.inside), h2⟩, fun q => (h.rows q).on hb, h.ap, h.no⟩
theorem PM.look (h : PM B w b L vals) (q : By) (hq : q.length ≤ 4000) : (Instr.lookup 70 (.map (some b)) (kS q) false).run Tryz.prog w = .ok (vals q) w := by
 obtain ⟨c, h1, _⟩ := h.mp
 have := h1.look str_keyed Tryz.underlying70 (x := kS q) (by kernel_rfl) (str_key q (maxLen_le hq))
 rw [this, pfun_at]
 by_cases e : entsP q L = []
 · rw [if_pos e, h.no q e]; rfl
 · rw [if_neg e]; rfl
theorem PM.step (h : PM B w b L vals) (x : En) (hq : x.path.length ≤ 4000) {v' : Value} {w1 : World} (he : EnR 28 B w1 v' (entsP x.path L ++ [x])) (hg : w.grownBy w1 (vals x.path).ownBlock)
 (hl : v'.ownBlock = (vals x.path).ownBlock ∨ v'.ownBlock = some w.heap.size) (hc : L.length < 1000000) :
 ∃ w2, (Instr.mapUpdate 70 (.map (some b)) (kS x.path) v').run Tryz.prog w1 = .ok () w2 ∧ PM B w2 b (L ++ [x]) (fun r => if r = x.path then v' else vals r) ∧ w1.grownBy w2 (some b) := by
 obtain ⟨c, h1, h2⟩ := h.mp
 have hb : b < w.heap.size := h1.inside
 have k1 : MapK w1 9 nilV b c (pfun vals L) := h1.kept (hg.block b hb (fun e => h.nb x.path e.symm))
 obtain ⟨w2, hr, hm, hg2⟩ := k1.store str_keyed Tryz.underlying70 (by omega) (x := kS x.path) (v := v') (str_key x.path (maxLen_le hq))
 have hlow : ∀ q g, (vals q).ownBlock = some g → g < w.heap.size := fun q g hg => (World.ownsRow.lt (h.rows q) g hg).2
 have hv'b : v'.ownBlock ≠ some b := by
  rcases hl with k | k
  · rw [k]; exact h.nb _
  · rw [k]; intro e; injection e with e; omega
 refine ⟨w2, hr, ⟨⟨_, hm.as ?_, ?_⟩, fun q => ?_, fun q r hqr g hgq => ?_, fun q hqn => ?_⟩, hg2⟩
 · intro y kl hk
   obtain ⟨s, rfl, _⟩ : ∃ s : By, y = kS s ∧ True := by
    obtain ⟨s, e, _⟩ := Maps.keyOf_str Tryz.underlying9 hk
    exact ⟨s, e, trivial⟩
   rw [pfun_at, pfun_at, entsP_snoc]
   by_cases e : s = x.path
   · subst e
     have n1 : ¬ entsP x.path L ++ [x] = [] := by simp
     simp only [if_pos, if_neg n1]
   · have n1 : ¬ kS s = kS x.path := fun k => e (ba_inj (by injection k))
     have n2 : ¬ x.path = s := fun k => e k.symm
     simp only [if_neg n1, if_neg n2, if_neg e]
 · rw [List.length_append, List.length_singleton]
   split <;> omega
 · rw [entsP_snoc]
   by_cases e : q = x.path
   · subst e
     simp only [if_pos]
     exact he.to fun g hgv => hg2.block g ((World.ownsRow.lt he g hgv).2) (fun k => hv'b (by rw [hgv, ← k]))
   · simp only [if_neg e, if_neg (fun k : x.path = q => e k.symm)]
     exact (h.rows q).to fun g hgv => (hg2.block g (Nat.lt_of_lt_of_le (hlow q g hgv) hg.size) (fun k => h.nb q (by rw [hgv, ← k]))).trans (hg.block g (hlow q g hgv) (fun k => h.ap q x.path e g hgv k.symm))
 · by_cases e1 : q = x.path
   · have e2 : ¬ r = x.path := fun k => hqr (by rw [e1, k])
     simp only [if_pos e1] at hgq
     simp only [if_neg e2]
     rcases hl with k | k
     · rw [k] at hgq; exact h.ap _ _ (fun k2 => e2 k2.symm) g hgq
     · rw [k] at hgq; injection hgq with hgq
       intro k2
       have := hlow r g k2; omega
   · simp only [if_neg e1] at hgq
     by_cases e2 : r = x.path
     · simp only [if_pos e2]
       rcases hl with k | k
       · rw [k]; exact h.ap _ _ e1 g hgq
       · rw [k]; intro k2; injection k2 with k2
         have := hlow q g hgq; omega
     · simp only [if_neg e2]
       exact h.ap _ _ hqr g hgq
 · rw [entsP_snoc] at hqn
   by_cases e : q = x.path
   · rw [if_pos e.symm] at hqn; simp at hqn
   · rw [if_neg (fun k => e k.symm)] at hqn
     simp only [if_neg e]
     exact h.no q hqn
end
section
open Builtin
theorem step_append_at {P : Program} {ops : Array Oper} {o : Oper} {a : Act} {w : World} {K : Act → World → Prop} {Q : Exit → Act → World → Prop} {E : Prop}
 (hg : o.guard = none) (s x : Operand) (sT xT : TypeId) (hop : o.op = Op.call { callee := Callee.builtin Builtin.append, args := #[s, x], argTypes := #[sT, xT] })
 (v u : Value) (hs : a.eval s = v) (hx : a.eval x = u) {v' : Value} {w' : World} (hr : (Builtin.append_ #[sT, xT] o.type #[v, u]).run P w = .ok v' w') (hK : K (a.put o.dst v') w') :
 if Region.wanted o (yielded ops a.tmps) = true then Oper.wp P o a w K Q else E := by
 have hw : Region.wanted o (yielded ops a.tmps) = true := by simp [Region.wanted, hg]
 rw [if_pos hw]
 unfold Oper.wp
 simp [execOp, hop, resolve, invoke, builtin, hs, hx, hr, Result.andThen]
 exact hK
end
set_option maxHeartbeats 8000000 in
theorem byPath_any {w : World} {v : Value} {A : Option Addr} {c : Nat} {L : List En} (h : EnSrc w v A c L) (hR : Rise L) (hn : L.length ≤ 19) (hp : ∀ x ∈ L, x.path.length ≤ 4000) :
 Calls Tryz.prog 28 #[v] w fun e w' => ∃ b vals, e = .returned (.map (some b)) ∧ w.heap.size ≤ b ∧ PM w.heap.size w' b L vals ∧ Below w.heap.size w w' := by
 have C1 := hid (cloneEn_any h (by omega))
 have C2 := hid (fun W v' (hv : EnR 28 w.heap.size W v' L) => sort_small hv hR hn)
 have C3 := hid (fun W v' (hv : EnR 28 w.heap.size W v' L) => compact_rise hv hR (by omega))
 have hmm := @run_makeMap Tryz.prog
 have HPT := hid hp
 clear h hR hp
 go_enter Tryz.func28, Tryz.ntmps28
 go_wp2_with fail
 refine C1.out.mono ?_; rintro e1 w1 ⟨v1, rfl, hv1, hb1⟩
 have B1 := hid hb1
 have V1 := hid hv1
 clear hb1 hv1
 go_wp2_with fail
 refine (C2.out _ _ V1.out).mono ?_; rintro e2 w2 ⟨rfl, hb2⟩
 have B2 : Hid (Below w.heap.size w w2) := B1.out.trans (hb2.mono B1.out.size)
 have V2 := hid (V1.out.on hb2)
 clear hb2
 go_wp2_with fail
 refine (C3.out _ _ V2.out).mono ?_; rintro e3 w3 ⟨rfl, hb3⟩
 have B3 : Hid (Below w.heap.size w w3) := B2.out.trans (hb3.mono B2.out.size)
 have V3 := hid (V2.out.on hb3)
 clear hb3
 obtain ⟨A1, c1, rfl⟩ := V3.out.form
 obtain ⟨n, HN⟩ : ∃ n, Hid (L.length = n) := ⟨_, rfl⟩
 have HV3 := hid V3.out
 rw [HN.out] at hn V3 ⊢
 obtain ⟨wm, hwm⟩ : ∃ V, w3.alloc (.map #[] 0) = V := ⟨_, rfl⟩
 have bm : Below w3.heap.size w3 wm := hwm ▸ (Below.refl _ _).alloc (Nat.le_refl _) _
 have BM : Hid (Below w3.heap.size w3 wm) := bm
 have PM0 : Hid (PM w3.heap.size wm w3.heap.size [] (fun _ => nilV)) := hwm ▸ PM.start _ w3
 have L3 : Hid (w.heap.size ≤ w3.heap.size) := B3.out.size
 clear bm V3
 go_wp2
 go_loopw [15] (fun v15 wr => ∃ (k : Nat) (vals : By → Value), v15 = .int .i64 (k : Int) ∧ k ≤ n ∧ Hid (PM w3.heap.size wr w3.heap.size (L.take k) vals) ∧ Hid (Below w3.heap.size w3 wr))
  (fun v15 _ => n - (intOf v15).toNat)
 case atStart => exact ⟨0, _, rfl, Nat.zero_le _, PM0, BM⟩
 case round =>
  obtain ⟨k, vals, rfl, hk, HPM, HB⟩ := hrel
  by_cases hlt : k < n
  · have hlt2 : (k : Int) < (n : Int) := by omega
    have h0 : (0 : Int) ≤ (k : Int) := by omega
    have hkl : k < L.length := by rw [HN.out]; exact hlt
    have E1 := HV3.out.on HB.out
    obtain ⟨g, c', hv, _, hx⟩ := E1.at_ k hkl
    injection hv with hv e2 e3
    subst e3
    clear e2
    subst hv
    have HTK := hid (en_take hkl)
    have hxp := HPT.out (L.getD k en0) (by rw [en_getD hkl]; exact List.getElem_mem _)
    have hkt : (L.take k).length < 1000000 := by rw [List.length_take]; omega
    generalize L.getD k en0 = x at hx HTK hxp
    obtain ⟨xn, xp, xt, xs⟩ := x
    simp only at hxp
    have w1' : IntKind.i64.wrap ((k : Int) + 1) = (k : Int) + 1 := i64in _ (by omega) (by omega)
    obtain ⟨w5, hw5⟩ : ∃ V, wr.alloc (.cells #[kS xn, kS xp, .int .i64 xt, .int .i64 xs] 28) = V := ⟨_, rfl⟩
    have b5 : Below wr.heap.size wr w5 := hw5 ▸ (Below.refl _ _).alloc (Nat.le_refl _) _
    have x5 : Has w5 wr.heap.size 28 (enA ⟨xn, xp, xt, xs⟩) := by rw [← hw5]; exact Has.fresh _ _ _
    obtain ⟨w5d, hw5d⟩ : ∃ V, w5.drew = V := ⟨_, rfl⟩
    have b5d : Below wr.heap.size wr w5d := hw5d ▸ b5.drew
    have X5 : Hid (Has w5d wr.heap.size 28 (enA ⟨xn, xp, xt, xs⟩)) := by rw [← hw5d]; exact x5
    have P5 := HPM.out.on b5d
    have LK5 := hid (P5.look xp hxp)
    obtain ⟨w6, hw6⟩ : ∃ V, w5d.alloc (.cells (enA ⟨xn, xp, xt, xs⟩) 28) = V := ⟨_, rfl⟩
    have HW6 : Hid (w5d.alloc (.cells #[kS xn, kS xp, .int .i64 xt, .int .i64 xs] 28) = w6) := hw6
    have b6 : Below w5d.heap.size w5d w6 := hw6 ▸ (Below.refl _ _).alloc (Nat.le_refl _) _
    have BD : Hid ((Instr.buildSlice 24 1 #[(0, Value.agg #[kS xn, kS xp, .int .i64 xt, .int .i64 xs])]).run Tryz.prog w5d = .ok (.slice (some ⟨w5d.heap.size, 0, none⟩) 1 1) w6) := by
     have := run_build_en w5d ⟨xn, xp, xt, xs⟩
     rw [hw6] at this; exact this
    have X6 : Hid (Has w6 wr.heap.size 28 (enA ⟨xn, xp, xt, xs⟩)) := X5.out.kept b6 X5.out.inside
    have P6 := P5.on b6
    have LK6 := hid (P6.look xp hxp)
    have hrow := P6.rows xp
    have hfr : Has w6 w5d.heap.size 28 (enA ⟨xn, xp, xt, xs⟩) := by rw [← hw6]; exact Has.fresh _ _ _
    have B6 : Below w3.heap.size w3 w6 := (HB.out.trans (b5d.mono HB.out.size)).trans (b6.mono (Nat.le_trans HB.out.size b5d.size))
    have hel : (entsP xp (L.take k)).length ≤ 100000 := Nat.le_trans (List.length_filter_le _ _) (by rw [List.length_take]; omega)
    obtain ⟨v7, w7, hr7, he7, hg7, hl7⟩ := append_en w6 w3.heap.size (vals xp) (entsP xp (L.take k)) hrow ⟨xn, xp, xt, xs⟩ w5d.heap.size hfr hel B6.size 24
    obtain ⟨w8, hr8, P8, hg8⟩ := P6.step ⟨xn, xp, xt, xs⟩ hxp he7 hg7 hl7 hkt
    have R7 := hid hr7
    have R8 := hid hr8
    have hwn : (vals xp).ownBlock ≠ some wr.heap.size := fun e => by have := (World.ownsRow.lt (HPM.out.rows xp) _ e).2; omega
    have X7 : Hid (Has w7 wr.heap.size 28 (enA ⟨xn, xp, xt, xs⟩)) := (hg7.block _ X6.out.inside (fun e => hwn e.symm)).trans X6.out
    have hbw : w3.heap.size < wr.heap.size := by obtain ⟨cc, h1, _⟩ := HPM.out.mp; exact h1.inside
    have X8 : Hid (Has w8 wr.heap.size 28 (enA ⟨xn, xp, xt, xs⟩)) := (hg8.block _ X7.out.inside (fun e => by injection e with e; omega)).trans X7.out
    have PM8 := hid P8
    have B8 : Hid (Below w3.heap.size w3 w8) := by
     have q7 : Below w3.heap.size w3 w7 := B6.grown hg7 B6.size (fun j hj => (World.ownsRow.lt hrow j hj).1)
     exact q7.grown hg8 q7.size (fun j hj => by injection hj with hj; omega)
    have XX := hid hx
    clear E1 b5 x5 b5d P5 b6 P6 hrow hfr B6 hel hr7 he7 hg7 hl7 hr8 P8 hg8 hwn hbw hkl hkt hxp hx
    go_wp2_with (first | (refine wpList_load_en rfl (.tmp 17) rfl g (k * 4) rfl xn xp xt xs XX.out ?_))
    refine wp_region_noPanic ?_
    refine wp_region_held_drew (S := fun W => EnAt W wr.heap.size 0 ⟨xn, xp, xt, xs⟩) (by kernel_rfl) (by rw [hw5d]; exact X5.out.en) (fun hS => ?_)
    rw [hw5d] at hS ⊢
    refine tkH 0 (v := ?_) (by simp only [lkA, lkB]; rfl) (by kernel_rfl) (fun _ _ _ h => h) (by rfl) (by assumption) ?_ ?_
    rotate_left 1
    · intro w hSw
      go_simp
      with_reducible rfl
    simp only [Act.put, siA, siB, siC]
    refine tkH 1 (v := ?_) (by simp only [lkA, lkB, lkC]; rfl) (by kernel_rfl) (fun _ _ _ h => h) (by rfl) (by assumption) ?_ ?_
    rotate_left 1
    · intro w hSw
      go_simp
      with_reducible rfl
    simp only [Act.put, siA, siB, siC]
    refine tkH 2 (v := ?_) (by simp only [lkA, lkB, lkC]; rfl) (by kernel_rfl) (fun _ _ _ h => h) (by rfl) (by assumption) ?_ ?_
    rotate_left 1
    · intro w hSw
      have e1 := hSw.c1
      simp only at e1
      go_simp
      with_reducible rfl
    simp only [Act.put, siA, siB, siC]
    refine tkH 3 (v := ?_) (by simp only [lkA, lkB, lkC]; rfl) (by kernel_rfl) (fun _ _ _ h => h) (by rfl) (by assumption) ?_ ?_
    rotate_left 1
    · intro w hSw
      go_simp
      with_reducible rfl
    simp only [Act.put, siA, siB, siC]
    refine tkH 4 (v := ?_) (by simp only [lkA, lkB, lkC]; rfl) (by kernel_rfl) (fun _ _ _ h => h) (by rfl) (by assumption) ?_ ?_
    rotate_left 1
    · intro w hSw
      go_simp
      with_reducible rfl
    simp only [Act.put, siA, siB, siC]
    refine tkH 5 (v := ?_) (by simp only [lkA, lkB, lkC]; rfl) (by kernel_rfl) (fun _ _ _ h => h) (by rfl) (by assumption) ?_ ?_
    rotate_left 1
    · intro w hSw
      have e1 := hSw.c1
      simp only at e1
      go_simp
      with_reducible rfl
    simp only [Act.put, siA, siB, siC]
    refine' wpAnyH_take (i := 7) (v := _) (by simp only [lkA, lkB, lkC]; rfl) (by kernel_rfl) (by kernel_rfl) (by kernel_rfl) (fun _ _ _ h => h) (yields_loadE (by rfl) (.tmp 5) rfl wr.heap.size 0 rfl ⟨xn, xp, xt, xs⟩ (fun W hW => hW)) (by assumption) ?_
    simp only [Act.put, siA, siB, siC]
    unfold enA
    refine wpAnyH_ready (rs := [6, 8]) (by kernel_rfl) (by simp) ?_
    refine AllReadyH.cons (by simp only [lkA, lkB, lkC]; rfl) (fun K hK => ?_) (AllReadyH.cons (by simp only [lkA, lkB, lkC]; rfl) (fun K hK => ?_) (AllReadyH.nil))
    · have h1 := LK5.out
      go_simp
      refine hK.out _ _ X5.out.en (fun hS => ?_)
      clear hK K hS
      refine wpAnyH_ready (rs := [8]) (by kernel_rfl) (by simp) ?_
      refine AllReadyH.cons (by simp only [lkA, lkB, lkC]; rfl) (fun K hK => ?_) (AllReadyH.nil)
      have h2 := BD.out
      have h3 := X6.out.en
      go_simp
      try rw [HW6.out]
      refine hK.out _ _ h3 (fun hS => ?_)
      clear hK K hS
      refine wpAnyH_ready (rs := [9]) (by kernel_rfl) (by simp) ?_
      refine AllReadyH.cons (by simp only [lkA, lkB, lkC]; rfl) (fun K hK => ?_) (AllReadyH.nil)
      have h3 := X7.out.en
      refine step_append_at (by rfl) (.tmp 25) (.tmp 27) 24 24 rfl (vals xp) (.slice (some ⟨w5d.heap.size, 0, none⟩) 1 1) rfl rfl R7.out ?_
      refine hK.out _ _ h3 (fun hS => ?_)
      clear hK K hS h3
      refine wpAnyH_ready (rs := [10]) (by kernel_rfl) (by simp) ?_
      refine AllReadyH.cons (by simp only [lkA, lkB, lkC]; rfl) (fun K hK => ?_) (AllReadyH.nil)
      have h1 := R8.out
      have h3 := X8.out.en
      go_simp
      refine hK.out _ _ h3 (fun hS => ?_)
      clear hK K hS
      refine wpAnyH_done (by kernel_rfl) ?_ _
      refine NoPanic.normal ?_
      go_wp2
      go_roundw
      case rel => exact ⟨k + 1, _, by go_num, by omega, by rw [HTK.out]; exact PM8, B8⟩
      case measure => simp [intOf]; omega
    · have h2 := BD.out
      have h3 := X6.out.en
      go_simp
      try rw [HW6.out]
      refine hK.out _ _ h3 (fun hS => ?_)
      clear hK K hS
      refine wpAnyH_ready (rs := [6]) (by kernel_rfl) (by simp) ?_
      refine AllReadyH.cons (by simp only [lkA, lkB, lkC]; rfl) (fun K hK => ?_) (AllReadyH.nil)
      have h1 := LK6.out
      have h3 := X6.out.en
      go_simp
      refine hK.out _ _ h3 (fun hS => ?_)
      clear hK K hS
      refine wpAnyH_ready (rs := [9]) (by kernel_rfl) (by simp) ?_
      refine AllReadyH.cons (by simp only [lkA, lkB, lkC]; rfl) (fun K hK => ?_) (AllReadyH.nil)
      have h3 := X7.out.en
      refine step_append_at (by rfl) (.tmp 25) (.tmp 27) 24 24 rfl (vals xp) (.slice (some ⟨w5d.heap.size, 0, none⟩) 1 1) rfl rfl R7.out ?_
      refine hK.out _ _ h3 (fun hS => ?_)
      clear hK K hS h3
      refine wpAnyH_ready (rs := [10]) (by kernel_rfl) (by simp) ?_
      refine AllReadyH.cons (by simp only [lkA, lkB, lkC]; rfl) (fun K hK => ?_) (AllReadyH.nil)
      have h1 := R8.out
      have h3 := X8.out.en
      go_simp
      refine hK.out _ _ h3 (fun hS => ?_)
      clear hK K hS
      refine wpAnyH_done (by kernel_rfl) ?_ _
      refine NoPanic.normal ?_
      go_wp2
      go_roundw
      case rel => exact ⟨k + 1, _, by go_num, by omega, by rw [HTK.out]; exact PM8, B8⟩
      case measure => simp [intOf]; omega
  · obtain rfl : k = n := by omega
    have HF : Hid (L.take k = L) := List.take_of_length_le (by rw [HN.out]; omega)
    go_wp2
    go_ret
    exact ⟨_, vals, rfl, L3.out, by rw [HF.out] at HPM; exact HPM.out.mono L3.out, B3.out.trans (HB.out.mono B3.out.size)⟩
end Go.Proofs.YtabidnlbgdecbaaGreatDoor
namespace Go.Proofs.YtabidnlbgdecbaaGreatDoor
open Go.RowKit Go.Maps
open Go.ChangeMaps (setBlock heap_setBlock_same heap_setBlock_other)
open Go.WideElems (entry_then_store)
theorem rowB : 111 < Tryz.prog.types.size := of_decide_eq_true (by kernel_rfl)
theorem bucket_law : WideMaps.KeyLaw Tryz.prog 111 := deep_law_laid (by kernel_rfl) (m := 2) (by omega) rowB (by kernel_rfl) (by kernel_rfl)
theorem bucket_keyed : Keyed Tryz.prog 111 := Keyed.of_law bucket_law
theorem MapK.entry {w : World} {k t e : TypeId} {z : Value} {b c : Nat} {f : Value → Option Value} (KL : WideMaps.KeyLaw Tryz.prog k) (ht : Tryz.prog.underlying t = some (.map k e)) (hz : ∀ u : World, (zeroValue e).run Tryz.prog u = .ok z u) (h : MapK w k z b c f) (hc : c < 1000000000) {x : Value} {kl : Lit} (hk : keyOf Tryz.prog k x = some kl) (v : Value) :
 ∃ v0 st w1, (Instr.mapEntry t (.map (some b)) x).run Tryz.prog w = .ok (.tuple #[v0, goInt st]) w1 ∧ (w.grownBy w1 (some b) ∧ ∃ es ck, w1.heap[b]? = some (.map es ck)) ∧
  ∀ w2 : World, w2.heap[b]? = w1.heap[b]? → ∃ w3 f', (Instr.entryStore t (.map (some b)) (goInt st) v).run Tryz.prog w2 = .ok () w3 ∧ MapK w3 k z b (if (f x).isSome then c else c + 1) f' ∧ (f' x = some v ∧ ∀ y, y ≠ x → f' y = f y) ∧ w2.grownBy w3 (some b) := by
 obtain ⟨w', hr, hm, _⟩ := h.store (Keyed.of_law KL) ht hc (v := v) hk
 obtain ⟨D, ⟨es, clock, hb, hF, hrest⟩, h2⟩ := h
 obtain ⟨v0, st, es1, clock1, h1, _, h2⟩ := entry_then_store KL ht (z := z) hz hb hF hk
 refine ⟨v0, st, _, h1, ⟨⟨rfl, rfl, rfl, by simp [setBlock], fun i _ hi => heap_setBlock_other hb _ (fun e => hi (by rw [e]))⟩, _, _, heap_setBlock_same hb _⟩, fun w2 hw2 => ?_⟩
 have hw2' : w2.heap[b]? = some (.map es1 clock1) := hw2.trans (heap_setBlock_same hb _)
 obtain ⟨es', clock', h3, h4⟩ := h2 w2 v hw2'
 have e : w' = setBlock w b (.map es' clock') := by
  have := hr.symm.trans h4
  injection this
 refine ⟨_, _, h3, hm.kept ?_, ⟨by simp, fun y hy => by simp [hy]⟩, ⟨rfl, rfl, rfl, by simp [setBlock], fun i _ hi => heap_setBlock_other hw2' _ (fun e => hi (by rw [e]))⟩⟩
 rw [e, heap_setBlock_same hw2', heap_setBlock_same hb]
theorem MapK.entryLook {w : World} {k t e : TypeId} {z : Value} {b c : Nat} {f : Value → Option Value} (KL : WideMaps.KeyLaw Tryz.prog k) (ht : Tryz.prog.underlying t = some (.map k e)) (hz : ∀ u : World, (zeroValue e).run Tryz.prog u = .ok z u) (h : MapK w k z b c f) (hc : c < 1000000000) {x : Value} {kl : Lit} (hk : keyOf Tryz.prog k x = some kl)
 {v1 r : Value} {w1 : World} (he : (Instr.mapEntry t (.map (some b)) x).run Tryz.prog w = .ok v1 w1) (hl : (Instr.lookup t (.map (some b)) x false).run Tryz.prog w = .ok r w) : (Instr.lookup t (.map (some b)) x false).run Tryz.prog w1 = .ok r w1 := by
 have K := Keyed.of_law KL
 obtain ⟨w', hr, hm, _⟩ := h.store K ht hc (v := z) hk
 have h0 := h
 obtain ⟨D, ⟨es, clock, hb, F, hrest⟩, h2⟩ := h
 rcases KL.find w hk es.toList F.keys with ⟨h1, h2⟩ | ⟨j, e0, h1, h2, h3⟩
 · have e1 : (Instr.mapEntry t (.map (some b)) x).run Tryz.prog w = .ok (.tuple #[z, goInt clock]) (setBlock w b (.map (es.push ⟨x, z, clock⟩) (clock + 1))) := by
    simp [Instr.mapEntry, run_underlying ht, Go.MapKept.run_getObj_map hb, KL.check w false hk, h1, hz, Go.MapKept.run_setObj_map _ hb, Result.andThen, setBlock]
   have e2 : (Instr.mapUpdate t (.map (some b)) x z).run Tryz.prog w = .ok () (setBlock w b (.map (es.push ⟨x, z, clock⟩) (clock + 1))) := by
    simp [Instr.mapUpdate, run_underlying ht, Go.MapKept.run_getObj_map hb, KL.check w false hk, h1, Go.MapKept.run_setObj_map _ hb, Result.andThen, setBlock]
   have w1e := (Result.ok.inj (he.symm.trans e1)).2
   have we := (Result.ok.inj (hr.symm.trans e2)).2
   have hww : w' = w1 := we.trans w1e.symm
   subst hww
   have l1 := hm.look K ht (hz w') hk
   rw [if_pos rfl] at l1
   have l2 : (Instr.lookup t (.map (some b)) x false).run Tryz.prog w = .ok z w := by
    simp [Instr.lookup, run_underlying ht, Go.MapKept.run_getObj_map hb, KL.check w _ hk, h1, hz, Result.andThen]
   have hrz := (Result.ok.inj (hl.symm.trans l2)).1
   rw [l1, hrz]; rfl
 · have hj : es[j]? = some e0 := by simpa using h2
   have hsame : es.modify j (fun e => { e with key := x }) = es := by
    apply Array.ext'
    rw [Array.toList_modify, Go.ChangeMaps.modify_eq_set _ _ _ _ h2]
    have : ({ e0 with key := x } : MapEntry) = e0 := by rw [← h3]
    rw [this]
    exact Go.WideElems.set_self _ _ _ h2
   have e1 : (Instr.mapEntry t (.map (some b)) x).run Tryz.prog w = .ok (.tuple #[e0.val, goInt e0.born]) (setBlock w b (.map es clock)) := by
    simp [Instr.mapEntry, run_underlying ht, Go.MapKept.run_getObj_map hb, KL.check w false hk, h1, hj, h3, KL.stays w hk, hsame, Go.MapKept.run_setObj_map _ hb, Result.andThen, setBlock]
   have w1e := (Result.ok.inj (he.symm.trans e1)).2
   have hm1 : MapK w1 k z b c f := h0.kept (by rw [w1e, heap_setBlock_same hb, hb])
   have l1 := hm1.look K ht (hz w1) hk
   have l2 := h0.look K ht (hz w) hk
   have hrz := (Result.ok.inj (hl.symm.trans l2)).1
   rw [l1, hrz]
def bkV (q : Int × Int) : Value := .agg #[.int .i64 q.1, .int .i64 q.2]
theorem klArr {P : Program} {d : Nat} {t e : TypeId} {n : Nat} {cs : List Value} (h : P.underlying t = some (.array n e)) :
 P.keyLits (d + 1) t cs = if cs.length = P.cellsOf t then ((List.range n).mapM fun i => P.keyLits d e ((cs.drop (i * P.cellsOf e)).take (P.cellsOf e))).map List.flatten else none := by
 simp only [Program.keyLits, h]
theorem bkV_key (q : Int × Int) (h1 : 0 ≤ q.1 ∧ q.1 ≤ 4294967295) (h2 : 0 ≤ q.2 ∧ q.2 ≤ 4294967295) : ∃ kl, keyOf Tryz.prog 111 (bkV q) = some kl := by
 obtain ⟨a, b⟩ := q
 simp only at h1 h2
 have hk : Tryz.prog.keyType 111 = true := by kernel_rfl
 have hc : Tryz.prog.cellsOf 111 = 2 := by kernel_rfl
 have hc5 : Tryz.prog.cellsOf 2 = 1 := by kernel_rfl
 have hf : (bkV (a, b)).formed Tryz.prog 111 = true := by
  simp only [bkV, Value.formed, Tryz.underlying111, hc]; rfl
 obtain ⟨n, hn⟩ : ∃ n, Tryz.prog.types.size + 1 = n + 2 := ⟨Tryz.prog.types.size - 1, by have := rowB; omega⟩
 have hi : ∀ x : Int, 0 ≤ x ∧ x ≤ 4294967295 → Tryz.prog.keyLits (n + 1) 2 [.int .i64 x] = some [.int .i64 x] := fun x hx => by
  simp only [Program.keyLits, Tryz.underlying2, Lit.wf, IntKind.min, IntKind.max, IntKind.signed, IntKind.bits]
  simp
  omega
 have hl : Tryz.prog.keyLits (n + 2) 111 [.int .i64 a, .int .i64 b] = some [.int .i64 a, .int .i64 b] := by
  rw [klArr Tryz.underlying111, hc, hc5]
  simp [List.range_succ, hi a h1, hi b h2]
 refine ⟨.string (keyBytes [.int .i64 a, .int .i64 b]), ?_⟩
 have e : (bkV (a, b)).cells.toList = [.int .i64 a, .int .i64 b] := by simp [Value.cells, bkV]
 simp only [keyOf, Tryz.underlying111, hk, hf, Bool.and_self, if_true, e, hn, hl, Option.map_some]
theorem int_zero (w : World) : (zeroValue 3).run Tryz.prog w = .ok (.int .i64 0) w := by kernel_rfl
theorem bkV_inj {q r : Int × Int} (h : bkV q = bkV r) : q = r := by
 unfold bkV at h
 simp at h
 exact Prod.ext h.1 h.2
theorem append_kS (w : World) (B : Nat) (v : Value) (xs : List By) (h : w.ownsRow B 9 1 v xs.length (xs.map kS)) (x : By) (g : Nat) (hg : Has w g 9 #[kS x]) (hn : xs.length ≤ 100000) (hB : B ≤ w.heap.size) (ty : TypeId) :
 ∃ v' w', (Builtin.append_ #[31, 31] ty #[v, .slice (some ⟨g, 0, none⟩) 1 1]).run Tryz.prog w = .ok v' w' ∧ w'.ownsRow B 9 1 v' (xs ++ [x]).length ((xs ++ [x]).map kS) ∧ w.grownBy w' v.ownBlock ∧ (v'.ownBlock = v.ownBlock ∨ v'.ownBlock = some w.heap.size) := by
 obtain ⟨i0, hi, hz0, hz1, hz2⟩ := info_parts infoStr
 obtain ⟨v', w', hr, ho, hg', _, hv⟩ := run_append_own_at (P := Tryz.prog) w B 31 ty 9 i0 _ 1 16 Tryz.underlying31 hi hz0 hz1 hz2 (by simp [Value.cells]) (by omega) v xs.length (xs.map kS) h ⟨g, 0, none⟩ 1 1 [kS x] rfl
  (fun j u hj => by
    rw [add_at, Nat.zero_add, hg.at_ j]
    rw [← Array.getElem?_toList]; exact hj) (kS_one x) (by unfold maxLen; omega) (by omega) hB
 refine ⟨v', w', hr, ?_, hg', hv⟩
 rw [List.length_append, List.map_append]; exact ho
theorem bucket_in (a : Int) (h0 : 0 ≤ a) (h1 : a ≤ 4294967295) : (0 ≤ (bucketM a).1 ∧ (bucketM a).1 ≤ 4294967295) ∧ (0 ≤ (bucketM a).2 ∧ (bucketM a).2 ≤ 4294967295) := by
 have hw : 10 ≤ widthM a ∧ widthM a ≤ 10000 := by unfold widthM; repeat' split <;> omega
 have k1 : 0 ≤ a / widthM a := Int.ediv_nonneg h0 (by omega)
 have k2 : a / widthM a ≤ a := Int.ediv_le_self _ h0
 unfold bucketM
 simp only
 omega
structure TkM (w : World) (b : Nat) (i : Nat) (tk : List (Int × Int)) : Prop where
 ex : ∃ (c : Nat) (f : Value → Option Value) (cnt : Int × Int → Nat), MapK w 111 (.int .i64 0) b c f ∧ c ≤ i ∧ (∀ q, cnt q ≤ i) ∧ (∀ q, cnt q = 0 ↔ q ∉ tk) ∧ ∀ q, f (bkV q) = if cnt q = 0 then none else some (.int .i64 (cnt q : Int))
theorem TkM.start (w : World) : TkM (w.alloc (.map #[] 0)) w.heap.size 0 [] :=
 ⟨0, _, fun _ => 0, MapK.made w 111 _, Nat.le_refl _, fun _ => Nat.le_refl _, fun q => by simp, fun q => by simp⟩
section
variable {w w' : World} {b i : Nat} {tk : List (Int × Int)}
theorem TkM.inside (h : TkM w b i tk) : b < w.heap.size := by obtain ⟨_, _, _, h, _⟩ := h.ex; exact h.inside
theorem TkM.obj (h : TkM w b i tk) : ∃ es clock, w.heap[b]? = some (.map es clock) := by obtain ⟨_, _, _, h, _⟩ := h.ex; exact h.obj
theorem TkM.kept (h : TkM w b i tk) (he : w'.heap[b]? = w.heap[b]?) : TkM w' b i tk := by
 obtain ⟨c, f, cnt, h1, h2⟩ := h.ex; exact ⟨c, f, cnt, h1.kept he, h2⟩
theorem TkM.more (h : TkM w b i tk) : TkM w b (i + 1) tk := by
 obtain ⟨c, f, cnt, h1, h2, h3, h4⟩ := h.ex; exact ⟨c, f, cnt, h1, by omega, fun q => Nat.le_succ_of_le (h3 q), h4⟩
theorem TkM.look (h : TkM w b i tk) (q : Int × Int) (q1 : 0 ≤ q.1 ∧ q.1 ≤ 4294967295) (q2 : 0 ≤ q.2 ∧ q.2 ≤ 4294967295) :
 ∃ m : Nat, (Instr.lookup 109 (.map (some b)) (bkV q) false).run Tryz.prog w = .ok (.int .i64 (m : Int)) w ∧ m ≤ i ∧ (m = 0 ↔ q ∉ tk) := by
 obtain ⟨c, f, cnt, h1, h2, h3, h4, h5⟩ := h.ex
 obtain ⟨kl, hk⟩ := bkV_key q q1 q2
 refine ⟨cnt q, ?_, h3 q, h4 q⟩
 rw [h1.look bucket_keyed Tryz.underlying109 (int_zero w) hk, h5 q]
 by_cases e : cnt q = 0
 · rw [if_pos e, e]; rfl
 · rw [if_neg e]; rfl
theorem TkM.entryLook (h : TkM w b i tk) (hi : i < 1000000) (q : Int × Int) (q1 : 0 ≤ q.1 ∧ q.1 ≤ 4294967295) (q2 : 0 ≤ q.2 ∧ q.2 ≤ 4294967295) {v1 r : Value} {w1 : World} (he : (Instr.mapEntry 109 (.map (some b)) (bkV q)).run Tryz.prog w = .ok v1 w1)
 (hl : (Instr.lookup 109 (.map (some b)) (bkV q) false).run Tryz.prog w = .ok r w) : (Instr.lookup 109 (.map (some b)) (bkV q) false).run Tryz.prog w1 = .ok r w1 := by
 obtain ⟨c, f, cnt, h1, h2, h3, h4, h5⟩ := h.ex
 obtain ⟨kl, hk⟩ := bkV_key q q1 q2
 exact h1.entryLook bucket_law Tryz.underlying109 int_zero (by omega) hk he hl
theorem TkM.put (h : TkM w b i tk) (hi : i < 1000000) (q : Int × Int) (q1 : 0 ≤ q.1 ∧ q.1 ≤ 4294967295) (q2 : 0 ≤ q.2 ∧ q.2 ≤ 4294967295) {m : Nat} (hm : (Instr.lookup 109 (.map (some b)) (bkV q) false).run Tryz.prog w = .ok (.int .i64 (m : Int)) w) :
 ∃ v0 st w1, (Instr.mapEntry 109 (.map (some b)) (bkV q)).run Tryz.prog w = .ok (.tuple #[v0, goInt st]) w1 ∧ (w.grownBy w1 (some b) ∧ ∃ es ck, w1.heap[b]? = some (.map es ck)) ∧
  ∃ w3, (Instr.entryStore 109 (.map (some b)) (goInt st) (.int .i64 ((m : Int) + 1))).run Tryz.prog w1 = .ok () w3 ∧ TkM w3 b (i + 1) (q :: tk) ∧ w1.grownBy w3 (some b) := by
 obtain ⟨m', hm', _, _⟩ := h.look q q1 q2
 obtain ⟨c, f, cnt, h1, h2, h3, h4, h5⟩ := h.ex
 obtain ⟨kl, hk⟩ := bkV_key q q1 q2
 have hmc : cnt q = m := by
  have e1 := h1.look bucket_keyed Tryz.underlying109 (int_zero w) hk
  have e2 := (Result.ok.inj (hm.symm.trans e1)).1
  rw [h5 q] at e2
  by_cases e : cnt q = 0
  · rw [if_pos e] at e2
    have e3 : (m : Int) = 0 := by
     simp only [Option.getD_none] at e2
     exact (Value.int.inj e2).2
    omega
  · rw [if_neg e] at e2
    have e3 : (m : Int) = (cnt q : Int) := by
     simp only [Option.getD_some] at e2
     exact (Value.int.inj e2).2
    omega
 obtain ⟨v0, st, w1, r1, g1, r2⟩ := h1.entry bucket_law Tryz.underlying109 int_zero (by omega) hk (.int .i64 ((m : Int) + 1))
 obtain ⟨w3, f', r3, m3, ⟨f1, f2⟩, g3⟩ := r2 w1 rfl
 refine ⟨v0, st, w1, r1, g1, w3, r3, ⟨_, f', fun r => if r = q then m + 1 else cnt r, m3, by split <;> omega, fun r => ?_, fun r => ?_, fun r => ?_⟩, g3⟩
 · have := h3 q; have := h3 r; simp only; split <;> omega
 · simp only
   by_cases e : r = q
   · subst e; simp
   · rw [if_neg e, h4 r]; simp [e]
 · simp only
   by_cases e : r = q
   · subst e
     rw [f1, if_pos rfl, if_neg (by omega)]; simp
   · rw [f2 _ (fun k => e (bkV_inj k)), h5 r, if_neg e]
end
end Go.Proofs.YtabidnlbgdecbaaGreatDoor
