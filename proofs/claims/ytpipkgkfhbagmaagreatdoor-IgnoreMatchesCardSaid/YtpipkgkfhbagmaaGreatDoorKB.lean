/- The document's patterns: class: what the call does. Conditions: at most 128 bytes. -/
import Derived.Test.YtpipkgkfhbagmaaGreatDoorKA
namespace Go.Proofs.YtpipkgkfhbagmaaGreatDoor.Glob
open Go.RowKit
theorem infoRng : (Tryz.prog.info? 123).map (fun i => (i.zero, i.size, i.bytes)) = some (some (.agg #[.int .u8 0, .int .u8 0]), 2, 2) := by kernel_rfl
def Rgs (B : Nat) (w : World) (v : Value) (rs : List Rg) : Prop := w.ownsRow B 123 2 v rs.length (scells rs)
theorem Rgs.form {B : Nat} {w : World} {v : Value} {rs : List Rg} (h : Rgs B w v rs) : ∃ A c, v = .slice A rs.length c := by
  rcases h.2 with ⟨h1, h2⟩ | ⟨g, c, cur, h1, _⟩
  · exact ⟨none, 0, by rw [h1, h2]⟩
  · exact ⟨some ⟨g, 0, none⟩, c, h1⟩
theorem Rgs.stays {B : Nat} {w w' : World} {v : Value} {rs : List Rg} (h : Rgs B w v rs) (hb : Below w.heap.size w w') : Rgs B w' v rs := by
  refine ⟨h.1, ?_⟩
  rcases h.2 with h1 | ⟨g, c, cur, h1, hB, h3, h4⟩
  · exact .inl h1
  · exact .inr ⟨g, c, cur, h1, hB, (hb.block g (Array.getElem?_eq_some_iff.1 h3).1).trans h3, h4⟩
theorem Rgs.mono {B B' : Nat} {w : World} {v : Value} {rs : List Rg} (h : Rgs B w v rs) (hb : B' ≤ B) : Rgs B' w v rs := by
  refine ⟨h.1, ?_⟩
  rcases h.2 with h1 | ⟨g, c, cur, h1, hB, h3⟩
  · exact .inl h1
  · exact .inr ⟨g, c, cur, h1, by omega, h3⟩
/-- A store into a block of another type leaves them. -/
theorem Rgs.put {B : Nat} {w : World} {v : Value} {rs : List Rg} (h : Rgs B w v rs) {g : Nat} {t : TypeId} {cs : Array Value} (hg : Has w g t cs) (ht : t ≠ 123) (i : Nat) (u : Value) : Rgs B (w.setCell ⟨g, i, none⟩ u) v rs := by
  refine ⟨h.1, ?_⟩
  rcases h.2 with h1 | ⟨k, c, cur, h1, hB, h3, h4⟩
  · exact .inl h1
  · refine .inr ⟨k, c, cur, h1, hB, ?_, h4⟩
    have hk : Has w k 123 cur := h3
    refine hk.other (p := ⟨g, i, none⟩) (fun e => ?_) u
    subst e
    have := Option.some.inj (hk.symm.trans hg)
    simp only [Obj.cells.injEq] at this
    exact ht this.2.1.symm
theorem Rgs.putRow {B : Nat} {w : World} {v : Value} {rs : List Rg} (h : Rgs B w v rs) {g : Nat} {t : TypeId} {cs : Array Value} (hg : Has w g t cs) (ht : t ≠ 123) (cs' : Array Value) : Rgs B (w.setRow g cs') v rs := by
  refine ⟨h.1, ?_⟩
  rcases h.2 with h1 | ⟨k, c, cur, h1, hB, h3, h4⟩
  · exact .inl h1
  · refine .inr ⟨k, c, cur, h1, hB, ?_, h4⟩
    have hk : Has w k 123 cur := h3
    refine hk.rowOther (fun e => ?_)
    subst e
    have := Option.some.inj (hk.symm.trans hg)
    simp only [Obj.cells.injEq] at this
    exact ht this.2.1.symm
theorem Has.grown {B : Nat} {w w' : World} {e : TypeId} {s n : Nat} {v : Value} {xs : List Value} (ho : w.ownsRow B e s v n xs) (hg : w.grownBy w' v.ownBlock) {g : Nat} {t : TypeId} {cs : Array Value} (h : Has w g t cs) (ht : t ≠ e) : Has w' g t cs := by
  refine (hg.block g h.inside fun e' => ?_).trans h
  obtain ⟨cs', q, h2⟩ := own_typed ho g e'.symm
  have := Option.some.inj (h.symm.trans h2)
  simp only [Obj.cells.injEq] at this
  exact ht this.2.1
theorem append_rg (w : World) (B : Nat) (v : Value) (rs : List Rg) (h : Rgs B w v rs) (r : Rg) (a : Addr) (h0 : w.cell? (a.add 0) = some (.int .u8 (b8 r.1))) (h1 : w.cell? (a.add 1) = some (.int .u8 (b8 r.2))) (hn : rs.length ≤ 1000) (hB : B ≤ w.heap.size) (ty : TypeId) :
    ∃ v' w', (Builtin.append_ #[88, 88] ty #[v, .slice (some a) 1 1]).run Tryz.prog w = .ok v' w' ∧ Rgs B w' v' (rs ++ [r]) ∧ (∀ a0 B0, B0 ≤ B → Below B0 a0 w → Below B0 a0 w') ∧ ∀ g t cs, t ≠ 123 → Has w g t cs → Has w' g t cs := by
  obtain ⟨i0, hi, hz0, hz1, hz2⟩ := info_parts infoRng
  obtain ⟨v', w', hr, ho', hg, _, _⟩ := run_append_own_at (P := Tryz.prog) w B 88 ty 123 i0 (.agg #[.int .u8 0, .int .u8 0]) 2 2 Tryz.underlying88 hi hz0 hz1 hz2 rfl (by omega) v rs.length (scells rs) h a 1 1 [.int .u8 (b8 r.1), .int .u8 (b8 r.2)] rfl (fun j u' hj => by
      match j, hj with
      | 0, hj => obtain rfl := Option.some.inj hj; exact h0
      | 1, hj => obtain rfl := Option.some.inj hj; exact h1
      | j + 2, hj => simp at hj) (fun x hx => by simp only [List.mem_cons, List.not_mem_nil, or_false] at hx; rcases hx with rfl | rfl <;> rfl) (by unfold maxLen; omega) (by omega) hB
  refine ⟨v', w', hr, ?_, fun a0 B0 h0 ha => Below.grown ha hg (by omega) (fun k hk => by have := own_base h k hk; omega), fun g t cs ht hh => Has.grown h hg hh ht⟩
  unfold Rgs
  rw [scells_append, List.length_append]
  exact ho'
theorem iRE : (Tryz.prog.info? 90).map (·.size) = some 4 := by kernel_rfl
theorem load_re {w : World} {g : Nat} {a b c d : Value} (k : Has w g 90 #[a, b, c, d]) : (loadVar 90 ⟨g, 0, none⟩).run Tryz.prog w = .ok (.agg #[a, b, c, d]) w :=
  run_loadVar_row (P := Tryz.prog) w g 90 90 #[a, b, c, d] (0, 0) _ k Tryz.underlying90 rfl iRE
abbrev zeroE : Array Value := #[.int .i64 0, .int .u8 0, .bool false, .slice none 0 0]
theorem xcOne (neg : Bool) (A : Option Addr) (n c : Nat) : (#[.int .i64 4, .int .u8 0, .bool neg, .slice A n c] : Array Value).all (·.oneCell') = true := by simp [Value.oneCell']
/-- What class answers. -/
def ClassIs (s : By) (e : Ending) (w' : World) : Prop :=
  ∃ neg A n c r ok, e = .returned (.tuple #[.agg #[.int .i64 4, .int .u8 0, .bool neg, .slice A n c], .string (ba r), .bool ok]) ∧
    ((clsL s = none ∧ ok = false) ∨ ∃ rs, clsL s = some (.set neg rs, r) ∧ ok = true ∧ Rgs 0 w' (.slice A n c) rs)
set_option maxRecDepth 100000 in
set_option maxHeartbeats 4000000 in
theorem rclass_any (s : By) (w : World) (hs : s.length ≤ 128) :
    Calls Tryz.prog 66 #[.string (ba s)] w fun e w' => ClassIs s e w' ∧ Below w.heap.size w w' := by
  obtain ⟨t0, ht0⟩ : ∃ t, t = cutP [33] s := ⟨_, rfl⟩
  obtain ⟨neg, hneg⟩ : ∃ b, pre [33] s = b := ⟨_, rfl⟩
  have hl0 : t0.length ≤ 128 := by have := cutP_len [33] s; rw [ht0]; omega
  have hc : ∀ W, Calls Tryz.prog 47 #[.string (ba s), .string ⟨#[33]⟩] W fun e w' => e = .returned (.bool neg) ∧ W = w' := by
    intro W; have := begins_any s [33] W; rw [hneg] at this; exact this
  have HC : Hid (clsL s = match cls t0 [] with | none => none | some (rs, r) => some (.set neg rs, r)) := by subst ht0; subst hneg; rfl
  have z := ba_size s
  have HT0 : Hid (t0 = if neg then s.drop 1 else s) := by subst ht0; subst hneg; rfl
  have hpl : neg = true → (1 : Int) ≤ (s.length : Int) := fun h => by have := pre_len (hneg.trans h); simp at this; omega
  have zd := ba_drop s 1
  obtain ⟨goal, HG⟩ : ∃ g, Hid (clsL s = g) := ⟨_, rfl⟩
  rw [HG.out] at HC
  obtain ⟨W1, hW1⟩ : ∃ W1, w.alloc (.cells #[.int .i64 0, .int .u8 0, .bool false, .slice none 0 0] 90) = W1 := ⟨_, rfl⟩
  have hs1 : W1.heap.size = w.heap.size + 1 := by rw [← hW1]; simp
  clear ht0 hneg hs
  go_enter Tryz.func66, Tryz.ntmps66
  go_wp2_with (fail)
  obtain ⟨W2, hW2⟩ : ∃ W2, W1.alloc (.cells #[.int .i64 4, .int .u8 0, .bool false, .slice none 0 0] 90) = W2 := ⟨_, rfl⟩
  rw [hW2]
  have HR2 : Hid (Has W2 w.heap.size 90 zeroE) := hW2 ▸ Has.more (hW1 ▸ Has.fresh w 90 zeroE : Has W1 w.heap.size 90 zeroE) _
  have HX2 : Hid (Has W2 (w.heap.size + 1) 90 #[.int .i64 4, .int .u8 0, .bool false, .slice none 0 0]) := hW2 ▸ Has.fresh' W1 90 _ hs1.symm
  have HB2 : Hid (Below w.heap.size w W2) := hW2 ▸ (hW1 ▸ (Below.refl w.heap.size w).alloc (Nat.le_refl _) _ : Below w.heap.size w W1).alloc (by omega) _
  have HS : Hid (∃ W5, Has W5 w.heap.size 90 zeroE ∧ Has W5 (w.heap.size + 1) 90 #[.int .i64 4, .int .u8 0, .bool neg, .slice none 0 0] ∧ Below w.heap.size w W5 ∧ (neg = false → W5 = W2) ∧ (neg = true → W2.setCell ⟨w.heap.size + 1, 2, none⟩ (.bool true) = W5)) := by
    cases neg with
    | false => exact ⟨W2, HR2.out, HX2.out, HB2.out, fun _ => rfl, fun h => by cases h⟩
    | true => exact ⟨_, HR2.out.other (by simp) _, HX2.out.put 2 _, HB2.out.setCell (by simp) _, fun h => (by cases h), fun _ => rfl⟩
  obtain ⟨W5, hR5, hX5, hB5, hWf, hWt⟩ := HS.out
  have HR5 := hid hR5
  have HX5 := hid hX5
  have HB5 := hid hB5
  have HWf := hid hWf
  have HWt := hid hWt
  have k2 := HX2.out.at_ 2
  have f2 := HX2.out.free 2
  clear HS hR5 hX5 hB5 hWf hWt hW2 hW1 hs1
  refine (hc _).mono ?_
  rintro e1 w1 ⟨rfl, rfl⟩
  go_upto_if 12 with (fail)
  go_cut [0] (fun s0 w' => s0 = .string (ba t0) ∧ W5 = w')
  case first => as_aux_lemma =>
    cases neg with
    | false =>
      obtain rfl := HWf.out rfl
      have ht : t0 = s := HT0.out
      subst ht
      go_wp2
      go_meet
      case rel => exact ⟨rfl, rfl⟩
    | true =>
      have ht : t0 = s.drop 1 := HT0.out
      have hw := HWt.out rfl
      have hp := hpl rfl
      rw [← ht] at zd
      clear ht HT0 hpl
      go_wp2
      go_meet
      case rel => exact ⟨rfl, rfl⟩
  case rest =>
    obtain ⟨rfl, rfl⟩ := hcut
    clear HWf HWt k2 f2 hc HT0 hpl zd z HR2 HX2 HB2
    go_wp2
    go_loopw [0, 6, 7, 8, 9] (fun s0 _ _ _ _ wr => ∃ (t : By) (rs : List Rg) (A : Option Addr) (cap : Nat), s0 = .string (ba t) ∧ t.length ≤ 128 ∧ rs.length + t.length ≤ 128 ∧ Hid (cls t0 [] = cls t rs) ∧ Hid (Has wr w.heap.size 90 zeroE) ∧ Hid (Has wr (w.heap.size + 1) 90 #[.int .i64 4, .int .u8 0, .bool neg, .slice A rs.length cap]) ∧ Hid (Rgs (w.heap.size + 2) wr (.slice A rs.length cap) rs) ∧ Hid (Below w.heap.size w wr))
      (fun s0 _ _ _ _ _ => match s0 with | .string x => x.size | _ => 0)
    case atStart => exact ⟨t0, [], none, 0, rfl, hl0, by simp; exact hl0, rfl, HR5, HX5, World.ownsRow_nil _ _ _ _, HB5⟩
    case round =>
      obtain ⟨t, rs, A, cap, rfl, hl, hrl, HT, HR, HX, HS, HB⟩ := hrel
      have HE : Hid (cls t0 [] = if pre [93] t then (if rs.length = 0 then none else some (rs, t.drop 1)) else match spanR t with | none => none | some (r, u) => cls u (rs ++ [r])) := by
        show _ = _; rw [HT.out, cls_eq, spanR_eq]; rfl
      have kx3 := HX.out.at_ 3
      have z := ba_size t
      have hp1 := pre_one 93 t
      clear HT
      by_cases h0 : t.length = 0
      · obtain rfl := List.length_eq_zero_iff.1 h0
        have HN : Hid (clsL s = none) := by
          show _ = _; rw [HG.out, HC.out, HE.out]; rfl
        clear HE HC HG hp1 h0
        go_wp2_with (first
          | (refine wpList_load_row rfl 90 _ rfl (w.heap.size + 1) rfl 90 #[.int .i64 4, .int .u8 0, .bool neg, .slice A rs.length cap] (0, 0) _ (HX.out) Tryz.underlying90 rfl iRE ?_)
          | (refine wpList_store_row rfl 90 (.tmp 2) (.tmp 80) rfl w.heap.size #[.int .i64 4, .int .u8 0, .bool neg, .slice A rs.length cap] rfl rfl 90 zeroE (HR.out) iRE rfl (xcOne _ _ _ _) ?_))
        exact bodyPost_ret (results_ctt rfl _ _ _ w.heap.size _ _ _ (load_re (Has.row (HR.out))) rfl rfl rfl) rfl
          ⟨⟨neg, A, _, cap, [], false, rfl, .inl ⟨HN.out, rfl⟩⟩, (HB.out).rowG (Nat.le_refl _) _⟩

      · have g0 : (0 : Int) < (t.length : Int) := by omega
        have g0' : ((t.length : Int) == 0) = false := by simp; intro h; exact h0 (by rw [h]; rfl)
        have i0 := idx0 t (by omega)
        have q93 := ne8 (at8 t 0) 93
        rw [show b8 93 = 93 from rfl] at q93
        rw [show decide (t = []) = false by simp; rintro rfl; exact h0 rfl, Bool.not_false, Bool.true_and] at hp1
        generalize at8 t 0 = x at *
        obtain ⟨b, hb⟩ : ∃ b, pre [93] t = b := ⟨_, rfl⟩
        rw [← hp1, hb] at q93
        rw [hb] at HE
        clear hp1 hb h0
        cases b with
        | true =>
          simp only [Bool.not_true] at q93
          by_cases hr : rs.length = 0
          · have HN : Hid (clsL s = none) := by
              show _ = _; rw [HG.out, HC.out, HE.out, if_pos rfl, if_pos hr]
            have gr : ((rs.length : Int) == 0) = true := by simp [hr]
            clear HE HC HG
            go_wp2_with (first
              | (refine wpList_load_row rfl 90 _ rfl (w.heap.size + 1) rfl 90 #[.int .i64 4, .int .u8 0, .bool neg, .slice A rs.length cap] (0, 0) _ (HX.out) Tryz.underlying90 rfl iRE ?_)
              | (refine wpList_store_row rfl 90 (.tmp 2) (.tmp 80) rfl w.heap.size #[.int .i64 4, .int .u8 0, .bool neg, .slice A rs.length cap] rfl rfl 90 zeroE (HR.out) iRE rfl (xcOne _ _ _ _) ?_))
            exact bodyPost_ret (results_ctt rfl _ _ _ w.heap.size _ _ _ (load_re (Has.row (HR.out))) rfl rfl rfl) rfl
              ⟨⟨neg, A, _, cap, [], false, rfl, .inl ⟨HN.out, rfl⟩⟩, (HB.out).rowG (Nat.le_refl _) _⟩

          · have HO : Hid (clsL s = some (.set neg rs, t.drop 1)) := by
              show _ = _; rw [HG.out, HC.out, HE.out, if_pos rfl, if_neg hr]
            have gr : ((rs.length : Int) == 0) = false := by simp; intro h; exact hr (by rw [h]; rfl)
            have g1 : (1 : Int) ≤ (t.length : Int) := by omega
            have zd := ba_drop t 1
            generalize t.drop 1 = u at zd HO
            clear HE HC HG hr
            go_wp2
            refine wp_region_noPanic ?_
            refine wp_region_held_drew (S := fun _ => True) (by kernel_rfl) (trivial) (fun hS => ?_)
            refine wpAnyH_take (i := 1) (v := ?_) (by simp only [List.getElem?_toArray, List.getElem?_cons_zero, List.getElem?_cons_succ]; rfl) (by kernel_rfl) (by kernel_rfl) (by kernel_rfl) (fun _ _ _ h => h) (Or.inl ⟨by rfl, ?_⟩) (by assumption) ?_
            rotate_left 1
            · intro w hSw
              go_simp
              with_reducible rfl
            simp only [Act.put, List.setIfInBounds_toArray, List.set_cons_zero, List.set_cons_succ]
            refine wpAnyH_take (i := 2) (v := ?_) (by simp only [List.getElem?_toArray, List.getElem?_cons_zero, List.getElem?_cons_succ]; rfl) (by kernel_rfl) (by kernel_rfl) (by kernel_rfl) (fun _ _ _ h => h) (Or.inl ⟨by rfl, ?_⟩) (by assumption) ?_
            rotate_left 1
            · intro w hSw
              go_simp
              with_reducible rfl
            simp only [Act.put, List.setIfInBounds_toArray, List.set_cons_zero, List.set_cons_succ]
            refine wpAnyH_ready (rs := [0]) (by kernel_rfl) (by simp) ?_
            refine AllReadyH.cons (by simp only [List.getElem?_toArray, List.getElem?_cons_zero]; rfl) (fun K hK => ?_) AllReadyH.nil
            rw [if_pos (by rfl)]
            refine wp_load_row 90 (.tmp 5) rfl (w.heap.size + 1) rfl 90 #[.int .i64 4, .int .u8 0, .bool neg, .slice A rs.length cap] (0, 0) _ (HX.out.drawn 1) Tryz.underlying90 rfl iRE ?_
            refine hK.out _ _ trivial (fun hS => ?_)
            clear hK K hS
            simp only [Act.put, List.setIfInBounds_toArray, List.set_cons_zero, List.set_cons_succ]
            refine wpAnyH_ready (rs := [3]) (by kernel_rfl) (by simp) ?_
            refine AllReadyH.cons (by simp only [List.getElem?_toArray, List.getElem?_cons_zero, List.getElem?_cons_succ]; rfl) (fun K hK => ?_) AllReadyH.nil
            rw [if_pos (by rfl)]
            refine wp_store_row 90 (.tmp 2) (.tmp 81) rfl w.heap.size #[.int .i64 4, .int .u8 0, .bool neg, .slice A rs.length cap] rfl rfl 90 zeroE (HR.out.drawn 1) iRE rfl (xcOne _ _ _ _) ?_
            refine hK.out _ _ trivial (fun hS => ?_)
            clear hK K hS
            refine wpAnyH_take (i := 4) (v := ?_) (by simp only [List.getElem?_toArray, List.getElem?_cons_zero, List.getElem?_cons_succ]; rfl) (by kernel_rfl) (by kernel_rfl) (by kernel_rfl) (fun _ _ _ h => h) (Or.inl ⟨by rfl, ?_⟩) (by assumption) ?_
            rotate_left 1
            · intro w hSw
              go_simp
              with_reducible rfl
            simp only [Act.put, List.setIfInBounds_toArray, List.set_cons_zero, List.set_cons_succ]
            refine wpAnyH_take (i := 5) (v := ?_) (by simp only [List.getElem?_toArray, List.getElem?_cons_zero, List.getElem?_cons_succ]; rfl) (by kernel_rfl) (by kernel_rfl) (by kernel_rfl) (fun _ _ _ h => h) (Or.inl ⟨by rfl, ?_⟩) (by assumption) ?_
            rotate_left 1
            · intro w hSw
              go_simp
              with_reducible rfl
            simp only [Act.put, List.setIfInBounds_toArray, List.set_cons_zero, List.set_cons_succ]
            refine wpAnyH_done (by kernel_rfl) ?_ _
            refine NoPanic.normal ?_
            go_wp2
            exact bodyPost_ret (results_ctt rfl _ _ _ w.heap.size _ _ _ (load_re (Has.row (HR.out.drawn 1))) rfl rfl rfl) rfl
              ⟨⟨neg, A, _, cap, u, true, rfl, .inr ⟨rs, HO.out, rfl, ((HS.out.mono (Nat.zero_le _)).stays (Below.refl _ _).drew).putRow (HR.out.drawn 1) (by decide) _⟩⟩, (HB.out.drew).rowG (Nat.le_refl _) _⟩

        | false =>
          simp only [Bool.not_false] at q93
          have HE2 : Hid (cls t0 [] = match spanR t with | none => none | some (r, u) => cls u (rs ++ [r])) := HE.out.trans (if_neg (by decide))
          have hw1 := wr_any t
          clear HE
          cases hx : wrL t with
          | none =>
            have HN : Hid (clsL s = none) := by
              show _ = _; rw [HG.out, HC.out, HE2.out]; unfold spanR; rw [hx]
            rw [hx] at hw1
            simp only [cbV] at hw1
            clear HE2 HC HG hx
            go_wp2_with (fail)
            refine (hw1 _).mono ?_
            rintro e1 w1 ⟨rfl, n1, rfl⟩
            go_wp2_with (first
              | (refine wpList_load_row rfl 90 _ rfl (w.heap.size + 1) rfl 90 #[.int .i64 4, .int .u8 0, .bool neg, .slice A rs.length cap] (0, 0) _ (HX.out.drawn n1) Tryz.underlying90 rfl iRE ?_)
              | (refine wpList_store_row rfl 90 (.tmp 2) (.tmp 32) rfl w.heap.size #[.int .i64 4, .int .u8 0, .bool neg, .slice A rs.length cap] rfl rfl 90 zeroE (HR.out.drawn n1) iRE rfl (xcOne _ _ _ _) ?_))
            exact bodyPost_ret (results_ctt rfl _ _ _ w.heap.size _ _ _ (load_re (Has.row (HR.out.drawn n1))) rfl rfl rfl) rfl
              ⟨⟨neg, A, _, cap, [], false, rfl, .inl ⟨HN.out, rfl⟩⟩, (HB.out.drewG n1).rowG (Nat.le_refl _) _⟩

          | some y =>
            obtain ⟨lo, r⟩ := y
            have hrt : r.length < t.length := wrL_len hx
            rw [hx] at hw1
            simp only [cbV] at hw1
            obtain ⟨cnd, hcnd⟩ : ∃ cnd, (decide (1 < r.length) && (at8 r 0 == 45) && !(at8 r 1 == 93)) = cnd := ⟨_, rfl⟩
            have HE3 : Hid (cls t0 [] = match (if cnd then (match wrL (r.drop 1) with | none => none | some (hi, r2) => if decide (hi.toNat < lo.toNat) then none else some ((lo, hi), r2)) else some ((lo, lo), r)) with | none => none | some (x, u) => cls u (rs ++ [x])) := by
              show _ = _; rw [HE2.out]; unfold spanR; rw [hx]; simp only; rw [hcnd]; rfl
            clear HE2 hx
            go_wp2_with (fail)
            refine (hw1 _).mono ?_
            rintro e1 w1 ⟨rfl, n1, rfl⟩
            go_upto_region 10 with (fail)
            go_cut [46] from 16 to 70 (fun c w' => c = .bool cnd ∧ wr.drewN n1 = w')
            case first => as_aux_lemma =>
              have zr := ba_size r
              by_cases h1 : 1 < r.length
              · have e1 : (1 : Int) < (r.length : Int) := by omega
                have j0 := idx0 r (by omega)
                have j1 := idx1 r h1
                have q0 := b8_eq (at8 r 0) 45
                rw [show b8 45 = 45 from rfl] at q0
                have q1 := ne8 (at8 r 1) 93
                rw [show b8 93 = 93 from rfl] at q1
                rw [decide_eq_true h1, Bool.true_and] at hcnd
                generalize at8 r 0 = x0 at *
                generalize at8 r 1 = x1 at *
                generalize (x0 == 45) = b0 at q0 hcnd
                generalize (x1 == 93) = b1 at q1 hcnd
                clear h1
                cases b0 with
                | false =>
                  go_wp2
                  go_meet
                  case rel => exact ⟨by rw [← hcnd]; rfl, rfl⟩
                | true =>
                  cases b1 with
                  | true =>
                    simp only [Bool.not_true] at q1
                    go_wp2
                    go_meet
                    case rel => exact ⟨by rw [← hcnd]; rfl, rfl⟩
                  | false =>
                    simp only [Bool.not_false] at q1
                    go_wp2
                    go_meet
                    case rel => exact ⟨by rw [← hcnd]; rfl, rfl⟩
              · have e1 : ¬ ((1 : Int) < (r.length : Int)) := by omega
                rw [decide_eq_false h1, Bool.false_and, Bool.false_and] at hcnd
                clear h1
                subst hcnd
                go_wp2
                go_meet
                case rel => exact ⟨rfl, rfl⟩
            case rest =>
              obtain ⟨rfl, rfl⟩ := hcut
              have h1 : cnd = true → 1 < r.length := fun h => by
                rw [h] at hcnd
                simp only [Bool.and_eq_true, decide_eq_true_eq] at hcnd
                exact hcnd.1.1
              clear hcnd
              cases cnd with
              | false =>
                have HE4 : Hid (cls t0 [] = cls r (rs ++ [(lo, lo)])) := HE3.out
                have qll : decide (b8 lo < b8 lo) = false := by simp
                clear HE3 h1
                obtain ⟨W6, hW6⟩ : ∃ W6, (wr.drewN n1).alloc (.cells #[.int .u8 (b8 lo), .int .u8 (b8 lo)] 123) = W6 := ⟨_, rfl⟩
                have B6 : Below wr.heap.size wr W6 := hW6 ▸ ((Below.refl _ _).drewG n1).alloc (Nat.le_refl _) _
                have hf6 : Has W6 wr.heap.size 123 #[.int .u8 (b8 lo), .int .u8 (b8 lo)] := hW6 ▸ Has.fresh (wr.drewN n1) _ _
                obtain ⟨v7, w7, har, hrg, hbl, hhas⟩ := append_rg W6 (w.heap.size + 2) _ rs (HS.out.stays B6) (lo, lo) ⟨wr.heap.size, 0, none⟩ (hf6.at_ 0) (hf6.at_ 1) (by omega) (by have := B6.size; have := HX.out.inside; omega) 88
                have HAR := hid har
                have HR7 := hid (hhas _ _ _ (by decide) (HR.out.stays B6))
                have HX7 := hid (hhas _ _ _ (by decide) (HX.out.stays B6))
                have HB7 := hid (hbl w w.heap.size (by omega) (HB.out.thenG B6))
                have HS7 := hid hrg
                obtain ⟨A7, cp7, hv7⟩ := HS7.out.form
                obtain ⟨n7, hn7⟩ : ∃ n, (rs ++ [(lo, lo)]).length = n := ⟨_, rfl⟩
                rw [hn7] at hv7
                subst hv7
                have k37 := HX7.out.at_ 3
                have f37 := HX7.out.free 3
                clear har hrg hbl hhas hf6 B6
                go_wp2_with (at_builtin; refine wpList_append_run rfl (.tmp 63) (.tmp 67) 88 88 rfl ⟨_, w7, HAR.out, ?_⟩)
                subst hn7
                refine ⟨⟨r, rs ++ [(lo, lo)], A7, cp7, rfl, by omega, by rw [List.length_append, List.length_singleton]; omega, HE4.out, HR7.out.other (by simp) _, HX7.out.put 3 _, HS7.out.put HX7.out (by decide) 3 _, HB7.out.setCell (by simp) _⟩, ?_⟩
                simp [ba_size]; omega

              | true =>
                have hr1 := h1 rfl
                have gr1 : (1 : Int) ≤ (r.length : Int) := by omega
                have zr := ba_size r
                have zd := ba_drop r 1
                have hdl : (r.drop 1).length < r.length := by rw [List.length_drop]; omega
                have hw2 := wr_any (r.drop 1)
                have hln : ∀ c r2, wrL (r.drop 1) = some (c, r2) → r2.length < (r.drop 1).length := fun c r2 hx => wrL_len hx
                generalize r.drop 1 = rd at *
                have HE4 : Hid (cls t0 [] = match (match wrL rd with | none => none | some (hi, r2) => if decide (hi.toNat < lo.toNat) then none else some ((lo, hi), r2)) with | none => none | some (x, u) => cls u (rs ++ [x])) := HE3.out
                clear HE3 h1
                cases hx : wrL rd with
                | none =>
                  have HN : Hid (clsL s = none) := by
                    show _ = _; rw [HG.out, HC.out, HE4.out, hx]
                  rw [hx] at hw2
                  simp only [cbV] at hw2
                  clear HE4 HC HG hx hln
                  go_wp2_with (fail)
                  refine (hw2 _).mono ?_
                  rintro e2 w2 ⟨rfl, n2, rfl⟩
                  go_wp2_with (first
                    | (refine wpList_load_row rfl 90 _ rfl (w.heap.size + 1) rfl 90 #[.int .i64 4, .int .u8 0, .bool neg, .slice A rs.length cap] (0, 0) _ (HX.out.drawn (n1 + n2)) Tryz.underlying90 rfl iRE ?_)
                    | (refine wpList_store_row rfl 90 (.tmp 2) (.tmp 61) rfl w.heap.size #[.int .i64 4, .int .u8 0, .bool neg, .slice A rs.length cap] rfl rfl 90 zeroE (HR.out.drawn (n1 + n2)) iRE rfl (xcOne _ _ _ _) ?_))
                  exact bodyPost_ret (results_ctt rfl _ _ _ w.heap.size _ _ _ (load_re (Has.row (HR.out.drawn (n1 + n2)))) rfl rfl rfl) rfl
                    ⟨⟨neg, A, _, cap, [], false, rfl, .inl ⟨HN.out, rfl⟩⟩, (HB.out.drewG (n1 + n2)).rowG (Nat.le_refl _) _⟩

                | some y =>
                  obtain ⟨hi, r2⟩ := y
                  have hr2 := hln hi r2 hx
                  rw [hx] at hw2 HE4
                  simp only [cbV] at hw2
                  have qlt : decide (b8 hi < b8 lo) = decide (hi.toNat < lo.toNat) := by unfold b8; rw [decide_eq_decide]; omega
                  obtain ⟨bl, hbl⟩ : ∃ bl, decide (hi.toNat < lo.toNat) = bl := ⟨_, rfl⟩
                  rw [hbl] at qlt
                  have HE5 : Hid (cls t0 [] = match (if bl then none else some ((lo, hi), r2)) with | none => none | some (x, u) => cls u (rs ++ [x])) := by show _ = _; rw [HE4.out]; simp only; rw [hbl]
                  clear HE4 hx hln hbl
                  cases bl with
                  | true =>
                    have HN : Hid (clsL s = none) := by
                      show _ = _; rw [HG.out, HC.out, HE5.out]; rfl
                    clear HE5 HC HG
                    go_wp2_with (fail)
                    refine (hw2 _).mono ?_
                    rintro e2 w2 ⟨rfl, n2, rfl⟩
                    go_wp2_with (first
                      | (refine wpList_load_row rfl 90 _ rfl (w.heap.size + 1) rfl 90 #[.int .i64 4, .int .u8 0, .bool neg, .slice A rs.length cap] (0, 0) _ (HX.out.drawn (n1 + n2)) Tryz.underlying90 rfl iRE ?_)
                      | (refine wpList_store_row rfl 90 (.tmp 2) (.tmp 61) rfl w.heap.size #[.int .i64 4, .int .u8 0, .bool neg, .slice A rs.length cap] rfl rfl 90 zeroE (HR.out.drawn (n1 + n2)) iRE rfl (xcOne _ _ _ _) ?_))
                    exact bodyPost_ret (results_ctt rfl _ _ _ w.heap.size _ _ _ (load_re (Has.row (HR.out.drawn (n1 + n2)))) rfl rfl rfl) rfl
                      ⟨⟨neg, A, _, cap, [], false, rfl, .inl ⟨HN.out, rfl⟩⟩, (HB.out.drewG (n1 + n2)).rowG (Nat.le_refl _) _⟩

                  | false =>
                    have HE6 : Hid (cls t0 [] = cls r2 (rs ++ [(lo, hi)])) := HE5.out
                    clear HE5
                    go_wp2_with (fail)
                    refine (hw2 _).mono ?_
                    rintro e2 w2 ⟨rfl, n2, rfl⟩
                    obtain ⟨W6, hW6⟩ : ∃ W6, (wr.drewN (n1 + n2)).alloc (.cells #[.int .u8 (b8 lo), .int .u8 (b8 hi)] 123) = W6 := ⟨_, rfl⟩
                    have B6 : Below wr.heap.size wr W6 := hW6 ▸ ((Below.refl _ _).drewG (n1 + n2)).alloc (Nat.le_refl _) _
                    have hf6 : Has W6 wr.heap.size 123 #[.int .u8 (b8 lo), .int .u8 (b8 hi)] := hW6 ▸ Has.fresh (wr.drewN (n1 + n2)) _ _
                    obtain ⟨v7, w7, har, hrg, hbl, hhas⟩ := append_rg W6 (w.heap.size + 2) _ rs (HS.out.stays B6) (lo, hi) ⟨wr.heap.size, 0, none⟩ (hf6.at_ 0) (hf6.at_ 1) (by omega) (by have := B6.size; have := HX.out.inside; omega) 88
                    have HAR := hid har
                    have HR7 := hid (hhas _ _ _ (by decide) (HR.out.stays B6))
                    have HX7 := hid (hhas _ _ _ (by decide) (HX.out.stays B6))
                    have HB7 := hid (hbl w w.heap.size (by omega) (HB.out.thenG B6))
                    have HS7 := hid hrg
                    obtain ⟨A7, cp7, hv7⟩ := HS7.out.form
                    obtain ⟨n7, hn7⟩ : ∃ n, (rs ++ [(lo, hi)]).length = n := ⟨_, rfl⟩
                    rw [hn7] at hv7
                    subst hv7
                    have k37 := HX7.out.at_ 3
                    have f37 := HX7.out.free 3
                    clear har hrg hbl hhas hf6 B6
                    go_wp2_with (at_builtin; refine wpList_append_run rfl (.tmp 63) (.tmp 67) 88 88 rfl ⟨_, w7, HAR.out, ?_⟩)
                    subst hn7
                    refine ⟨⟨r2, rs ++ [(lo, hi)], A7, cp7, rfl, by omega, by rw [List.length_append, List.length_singleton]; omega, HE6.out, HR7.out.other (by simp) _, HX7.out.put 3 _, HS7.out.put HX7.out (by decide) 3 _, HB7.out.setCell (by simp) _⟩, ?_⟩
                    simp [ba_size]; omega

end Go.Proofs.YtpipkgkfhbagmaaGreatDoor.Glob
