/- Several texts in one: WI, WJ. Conditions: those said at each. -/
import Derived.Test.YtlbeemlnbpchgaaGreatQC
import Derived.Test.YtlbeemlnbpchgaaGreatQG
/- Effects as function values: what each does to a tree in a world. Conditions: paths of at most 4000 bytes, data of at most a million. -/
namespace Go.Proofs.YtlbeemlnbpchgaaGreat
open Go.RowKit Go.Maps
/-- The types of what an effect captures. -/
abbrev Firm (t : TypeId) : Prop := t = 9 ∨ t = 2
/-- What of such types lay in w lies in W. -/
def Gx (w W : World) : Prop := w.heap.size ≤ W.heap.size ∧ ∀ (j : Nat) (cs : Array Value) (t : TypeId) (q : Nat × Nat), w.heap[j]? = some (Obj.cells cs t q) → Firm t → W.heap[j]? = some (Obj.cells cs t q)
theorem Gx.of_below {w W : World} (h : Below w.heap.size w W) : Gx w W :=
  ⟨h.size, fun j _ _ _ ho _ => (h.block j (Array.getElem?_eq_some_iff.1 ho).1).trans ho⟩
theorem Gx.refl (w : World) : Gx w w := Gx.of_below (Below.refl _ _)
theorem Gx.trans {a b c : World} (h : Gx a b) (k : Gx b c) : Gx a c := ⟨Nat.le_trans h.1 k.1, fun j cs t q ho hn => k.2 j cs t q (h.2 j cs t q ho hn) hn⟩
theorem Gx.then_below {a b c : World} (h : Gx a b) (k : Below b.heap.size b c) : Gx a c := h.trans (Gx.of_below k)
theorem Has.gx {w W : World} {g : Nat} {t : TypeId} {cs : Array Value} (h : Has w g t cs) (ht : Firm t) (hG : Gx w W) : Has W g t cs :=
  hG.2 g _ _ _ h ht
/-- Blocks that no effect captures. -/
def Loose (w : World) (g : Nat) : Prop := ∀ (cs : Array Value) (t : TypeId) (q : Nat × Nat), w.heap[g]? = some (Obj.cells cs t q) → ¬ Firm t
theorem Gx.of_turn {own : Nat → Prop} {w W : World} (h : Turn own w W) (hl : ∀ g, own g → Loose w g) : Gx w W :=
  ⟨h.size, fun j cs t q ho hn => (h.block j (Array.getElem?_eq_some_iff.1 ho).1 (fun e => hl j e cs t q ho hn)).trans ho⟩
theorem MapT.loose {w : World} {m : Nat} {L : Tr} (h : MapT w m L) : Loose w m := fun cs t q ho => by
  obtain ⟨es, ck, hh, _⟩ := h
  rw [hh] at ho; cases ho
theorem Has.loose {w : World} {g : Nat} {t : TypeId} {cs : Array Value} (h : Has w g t cs) (ht : ¬ Firm t) : Loose w g := fun cs2 t2 q ho => by
  unfold Has at h
  rw [h] at ho
  injection ho with ho
  injection ho with _ ho
  rw [← ho]; exact ht
theorem TreeS.gx {w W : World} {g o m : Nat} {cs : Array Value} {L : Tr} {u room : Nat} (h : TreeS w g o m 62 cs L u room) (hu : Turn (Two g m) w W) : Gx w W :=
  Gx.of_turn hu (fun k hk => by rcases hk with e | e <;> rw [e]; exact h.has.loose (by decide); exact h.mp.loose)
/-- A function value that does an effect to a tree of a disk, in every world that grows out of w. -/
def IsEff (w : World) (f : Value) (x : Eff) : Prop :=
  dataE x ≤ 1000000 ∧ ∃ k lb, f = .func (.func k) #[] lb ∧ (∀ (args : Array Value) (w : World), (callFunc k args).run Tryz.prog w = .ok (.enter k args) w) ∧
    ∀ (W : World) (g o m : Nat) (cs : Array Value) (L : Tr) (room most : Nat), Gx w W → TreeS W g o m 62 cs L (usedL L) room → WFT room L → room ≤ 1048576 → Gd W → most ≤ 9223372036854775807 →
      Calls Tryz.prog k (#[.pointer (some ⟨g, o, none⟩), .int .i64 (most : Int)] ++ lb) W fun e w' => SP W g o m 62 cs room (stepE room L (cutE x most)) e w'
theorem IsEff.gx {w w' : World} {f : Value} {x : Eff} (h : IsEff w f x) (hg : Gx w w') : IsEff w' f x := by
  obtain ⟨hd, k, lb, h1, h2, h3⟩ := h
  exact ⟨hd, k, lb, h1, h2, fun W g o m cs L room most hW => h3 W g o m cs L room most (hg.trans hW)⟩
theorem IsEff.one {w : World} {f : Value} {x : Eff} (h : IsEff w f x) : f.oneCell' = true := by
  obtain ⟨_, k, lb, rfl, _⟩ := h; rfl
theorem ba_take0 (s : By) (k : Nat) : (ba s).extract 0 k = ba (s.take k) := by
  apply ByteArray.ext; simp [ba]
set_option maxRecDepth 100000 in
set_option maxHeartbeats 2000000 in
theorem dcut_any (d : By) (most : Nat) (w : World) (hd : d.length ≤ 1000000) (hm : most ≤ 9223372036854775807) : Calls Tryz.prog 65 #[kS d, .int .i64 (most : Int)] w fun e w' => e = .returned (kS (d.take most)) ∧ w = w' := by
  have hz2 : (ba d).size ≤ 1000000 := by rw [ba_size]; exact hd
  have HT : Hid ((ba d).extract 0 (min ((ba d).size : Int) (most : Int)).toNat = ba (d.take most)) := by
    show _ = _
    rw [ba_take0, ba_size, show (min (d.length : Int) (most : Int)).toNat = min d.length most by omega]
    rcases Nat.le_total d.length most with h | h
    · rw [Nat.min_eq_left h, List.take_length, List.take_of_length_le h]
    · rw [Nat.min_eq_right h]
  go_enter Tryz.func65, Tryz.ntmps65
  go_wp2
  go_ret
  refine ⟨?_, rfl⟩
  show Ending.returned (.string ((ba d).extract 0 (min ((ba d).size : Int) (most : Int)).toNat)) = _
  rw [HT.out]
/-- The boxes that an effect captures: two texts. -/
structure BxA (b1 b2 : Nat) (p d : By) (W : World) : Prop where
  x1 : Has W b1 9 #[kS p]
  x2 : Has W b2 9 #[kS d]
theorem BxA.gx {b1 b2 : Nat} {p d : By} {w W : World} (h : BxA b1 b2 p d w) (hg : Gx w W) : BxA b1 b2 p d W := ⟨h.x1.gx (.inl rfl) hg, h.x2.gx (.inl rfl) hg⟩
theorem BxA.drew {b1 b2 : Nat} {p d : By} {w : World} (h : BxA b1 b2 p d w) : BxA b1 b2 p d w.drew := ⟨h.x1, h.x2⟩
/-- .. two texts and a time. -/
structure BxW (b1 b2 b3 : Nat) (p d : By) (tm : Int) (W : World) : Prop where
  x1 : Has W b1 9 #[kS p]
  x2 : Has W b2 9 #[kS d]
  x3 : Has W b3 2 #[.int .i64 tm]
theorem BxW.gx {b1 b2 b3 : Nat} {p d : By} {tm : Int} {w W : World} (h : BxW b1 b2 b3 p d tm w) (hg : Gx w W) : BxW b1 b2 b3 p d tm W := ⟨h.x1.gx (.inl rfl) hg, h.x2.gx (.inl rfl) hg, h.x3.gx (.inr rfl) hg⟩
theorem BxW.drew {b1 b2 b3 : Nat} {p d : By} {tm : Int} {w : World} (h : BxW b1 b2 b3 p d tm w) : BxW b1 b2 b3 p d tm w.drew := ⟨h.x1, h.x2, h.x3⟩
set_option maxRecDepth 100000 in
set_option maxHeartbeats 4000000 in
theorem writeC_any {W : World} {g o m : Nat} {cs : Array Value} {L : Tr} {room most : Nat} (h : TreeS W g o m 62 cs L (usedL L) room) (hW : WFT room L) (hr : room ≤ 1048576) (hG : Gd W) (hm : most ≤ 9223372036854775807)
    {b1 b2 b3 : Nat} {p d : By} {tm : Int} (hx : BxW b1 b2 b3 p d tm W) (hp : p.length ≤ 4000) (hd : d.length ≤ 1000000) :
    Calls Tryz.prog 63 #[.pointer (some ⟨g, o, none⟩), .int .i64 (most : Int), .pointer (some ⟨b1, 0, none⟩), .pointer (some ⟨b2, 0, none⟩), .pointer (some ⟨b3, 0, none⟩)] W fun e w' => SP W g o m 62 cs room (stepE room L (.write p (d.take most) tm)) e w' := by
  have S0 : Hid (BxW b1 b2 b3 p d tm W.drew) := hx.drew
  have TG := hid h.drew
  have CC := hid (dcut_any d most W.drew hd hm)
  have CW := hid (twrite_any h.drew hW hr (hG.below (Below.refl 1 W).drew (by omega)) p (d.take most) tm hp (by rw [List.length_take]; omega))
  obtain ⟨r, HR⟩ : ∃ r, Hid (stepE room L (.write p (d.take most) tm) = r) := ⟨_, rfl⟩
  rw [HR.out] at CW
  rw [HR.out]
  clear h hx hG hW
  go_enter Tryz.func63, Tryz.ntmps63
  go_wp2
  refine wp_region_noPanic ?_
  refine wp_region_held_drew (S := BxW b1 b2 b3 p d tm) (by kernel_rfl) (S0.out) (fun hS => ?_)
  refine wpAnyH_take (i := 0) (v := ?_) (by simp only [List.getElem?_toArray, List.getElem?_cons_zero]; rfl) (by kernel_rfl) (by kernel_rfl) (by kernel_rfl) (fun _ _ _ h => h) (Or.inl ⟨by rfl, ?_⟩) (by assumption) ?_
  rotate_left 1
  · intro w hSw
    go_simp
    with_reducible rfl
  simp only [Act.put, List.setIfInBounds_toArray, List.set_cons_zero, List.set_cons_succ]
  refine wpAnyH_take (i := 1) (v := ?_) (by simp only [List.getElem?_toArray, List.getElem?_cons_zero, List.getElem?_cons_succ]; rfl) (by kernel_rfl) (by kernel_rfl) (by kernel_rfl) (fun _ _ _ h => h) (Or.inl ⟨by rfl, ?_⟩) (by assumption) ?_
  rotate_left 1
  · intro w hSw
    have hc := hSw.x1.at_ 0
    go_simp
    with_reducible rfl
  simp only [Act.put, List.setIfInBounds_toArray, List.set_cons_zero, List.set_cons_succ]
  refine wpAnyH_take (i := 2) (v := ?_) (by simp only [List.getElem?_toArray, List.getElem?_cons_zero, List.getElem?_cons_succ]; rfl) (by kernel_rfl) (by kernel_rfl) (by kernel_rfl) (fun _ _ _ h => h) (Or.inl ⟨by rfl, ?_⟩) (by assumption) ?_
  rotate_left 1
  · intro w hSw
    have hc := hSw.x2.at_ 0
    go_simp
    with_reducible rfl
  simp only [Act.put, List.setIfInBounds_toArray, List.set_cons_zero, List.set_cons_succ]
  refine wpAnyH_take (i := 3) (v := ?_) (by simp only [List.getElem?_toArray, List.getElem?_cons_zero, List.getElem?_cons_succ]; rfl) (by kernel_rfl) (by kernel_rfl) (by kernel_rfl) (fun _ _ _ h => h) (Or.inl ⟨by rfl, ?_⟩) (by assumption) ?_
  rotate_left 1
  · intro w hSw
    go_simp
    with_reducible rfl
  simp only [Act.put, List.setIfInBounds_toArray, List.set_cons_zero, List.set_cons_succ]
  refine wpAnyH_take (i := 5) (v := ?_) (by simp only [List.getElem?_toArray, List.getElem?_cons_zero, List.getElem?_cons_succ]; rfl) (by kernel_rfl) (by kernel_rfl) (by kernel_rfl) (fun _ _ _ h => h) (Or.inl ⟨by rfl, ?_⟩) (by assumption) ?_
  rotate_left 1
  · intro w hSw
    have hc := hSw.x3.at_ 0
    go_simp
    with_reducible rfl
  simp only [Act.put, List.setIfInBounds_toArray, List.set_cons_zero, List.set_cons_succ]
  refine wpAnyH_ready (rs := [4]) (by kernel_rfl) (by simp) ?_
  refine AllReadyH.cons (by simp only [List.getElem?_toArray, List.getElem?_cons_zero, List.getElem?_cons_succ]; rfl) (fun K hK => ?_) AllReadyH.nil
  go_simp
  refine (CC.out).mono ?_
  rintro e1 w1 ⟨rfl, rfl⟩
  have hz1 := S0.out
  refine hK.out _ _ hz1 (fun hS => ?_)
  clear hK K hS
  refine wpAnyH_ready (rs := [6]) (by kernel_rfl) (by simp) ?_
  refine AllReadyH.cons (by simp only [List.getElem?_toArray, List.getElem?_cons_zero, List.getElem?_cons_succ]; rfl) (fun K hK => ?_) AllReadyH.nil
  go_simp
  refine (CW.out).mono ?_
  rintro e2 w2 ⟨rfl, hu2, ht2⟩
  have hz2 := S0.out.gx (TG.out.gx hu2)
  refine hK.out _ _ hz2 (fun hS => ?_)
  clear hK K hS
  refine wpAnyH_take (i := 7) (v := ?_) (by simp only [List.getElem?_toArray, List.getElem?_cons_zero, List.getElem?_cons_succ]; rfl) (by kernel_rfl) (by kernel_rfl) (by kernel_rfl) (fun _ _ _ h => h) (Or.inl ⟨by rfl, ?_⟩) (by assumption) ?_
  rotate_left 1
  · intro w hSw
    go_simp
    with_reducible rfl
  simp only [Act.put, List.setIfInBounds_toArray, List.set_cons_zero, List.set_cons_succ]
  refine wpAnyH_done (by kernel_rfl) ?_ _
  refine NoPanic.normal ?_
  go_wp2
  go_ret
  exact ⟨rfl, (Turn.refl _ W).drew.then hu2, ht2⟩
set_option maxRecDepth 100000 in
set_option maxHeartbeats 4000000 in
theorem appendC_any {W : World} {g o m : Nat} {cs : Array Value} {L : Tr} {room most : Nat} (h : TreeS W g o m 62 cs L (usedL L) room) (hW : WFT room L) (hr : room ≤ 1048576) (hG : Gd W) (hm : most ≤ 9223372036854775807)
    {b1 b2 : Nat} {p d : By} (hx : BxA b1 b2 p d W) (hp : p.length ≤ 4000) (hd : d.length ≤ 1000000) :
    Calls Tryz.prog 66 #[.pointer (some ⟨g, o, none⟩), .int .i64 (most : Int), .pointer (some ⟨b1, 0, none⟩), .pointer (some ⟨b2, 0, none⟩)] W fun e w' => SP W g o m 62 cs room (stepE room L (.append p (d.take most))) e w' := by
  have S0 : Hid (BxA b1 b2 p d W.drew) := hx.drew
  have TG := hid h.drew
  have CC := hid (dcut_any d most W.drew hd hm)
  have CW := hid (tappend_any h.drew hW hr (hG.below (Below.refl 1 W).drew (by omega)) p (d.take most) hp (by rw [List.length_take]; omega))
  obtain ⟨r, HR⟩ : ∃ r, Hid (stepE room L (.append p (d.take most)) = r) := ⟨_, rfl⟩
  rw [HR.out] at CW
  rw [HR.out]
  clear h hx hG hW
  go_enter Tryz.func66, Tryz.ntmps66
  go_wp2
  refine wp_region_noPanic ?_
  refine wp_region_held_drew (S := BxA b1 b2 p d) (by kernel_rfl) (S0.out) (fun hS => ?_)
  refine wpAnyH_take (i := 0) (v := ?_) (by simp only [List.getElem?_toArray, List.getElem?_cons_zero]; rfl) (by kernel_rfl) (by kernel_rfl) (by kernel_rfl) (fun _ _ _ h => h) (Or.inl ⟨by rfl, ?_⟩) (by assumption) ?_
  rotate_left 1
  · intro w hSw
    go_simp
    with_reducible rfl
  simp only [Act.put, List.setIfInBounds_toArray, List.set_cons_zero, List.set_cons_succ]
  refine wpAnyH_take (i := 1) (v := ?_) (by simp only [List.getElem?_toArray, List.getElem?_cons_zero, List.getElem?_cons_succ]; rfl) (by kernel_rfl) (by kernel_rfl) (by kernel_rfl) (fun _ _ _ h => h) (Or.inl ⟨by rfl, ?_⟩) (by assumption) ?_
  rotate_left 1
  · intro w hSw
    have hc := hSw.x1.at_ 0
    go_simp
    with_reducible rfl
  simp only [Act.put, List.setIfInBounds_toArray, List.set_cons_zero, List.set_cons_succ]
  refine wpAnyH_take (i := 2) (v := ?_) (by simp only [List.getElem?_toArray, List.getElem?_cons_zero, List.getElem?_cons_succ]; rfl) (by kernel_rfl) (by kernel_rfl) (by kernel_rfl) (fun _ _ _ h => h) (Or.inl ⟨by rfl, ?_⟩) (by assumption) ?_
  rotate_left 1
  · intro w hSw
    have hc := hSw.x2.at_ 0
    go_simp
    with_reducible rfl
  simp only [Act.put, List.setIfInBounds_toArray, List.set_cons_zero, List.set_cons_succ]
  refine wpAnyH_take (i := 3) (v := ?_) (by simp only [List.getElem?_toArray, List.getElem?_cons_zero, List.getElem?_cons_succ]; rfl) (by kernel_rfl) (by kernel_rfl) (by kernel_rfl) (fun _ _ _ h => h) (Or.inl ⟨by rfl, ?_⟩) (by assumption) ?_
  rotate_left 1
  · intro w hSw
    go_simp
    with_reducible rfl
  simp only [Act.put, List.setIfInBounds_toArray, List.set_cons_zero, List.set_cons_succ]
  refine wpAnyH_ready (rs := [4]) (by kernel_rfl) (by simp) ?_
  refine AllReadyH.cons (by simp only [List.getElem?_toArray, List.getElem?_cons_zero, List.getElem?_cons_succ]; rfl) (fun K hK => ?_) AllReadyH.nil
  go_simp
  refine (CC.out).mono ?_
  rintro e1 w1 ⟨rfl, rfl⟩
  have hz1 := S0.out
  refine hK.out _ _ hz1 (fun hS => ?_)
  clear hK K hS
  refine wpAnyH_ready (rs := [5]) (by kernel_rfl) (by simp) ?_
  refine AllReadyH.cons (by simp only [List.getElem?_toArray, List.getElem?_cons_zero, List.getElem?_cons_succ]; rfl) (fun K hK => ?_) AllReadyH.nil
  go_simp
  refine (CW.out).mono ?_
  rintro e2 w2 ⟨rfl, hu2, ht2⟩
  have hz2 := S0.out.gx (TG.out.gx hu2)
  refine hK.out _ _ hz2 (fun hS => ?_)
  clear hK K hS
  refine wpAnyH_take (i := 6) (v := ?_) (by simp only [List.getElem?_toArray, List.getElem?_cons_zero, List.getElem?_cons_succ]; rfl) (by kernel_rfl) (by kernel_rfl) (by kernel_rfl) (fun _ _ _ h => h) (Or.inl ⟨by rfl, ?_⟩) (by assumption) ?_
  rotate_left 1
  · intro w hSw
    go_simp
    with_reducible rfl
  simp only [Act.put, List.setIfInBounds_toArray, List.set_cons_zero, List.set_cons_succ]
  refine wpAnyH_done (by kernel_rfl) ?_ _
  refine NoPanic.normal ?_
  go_wp2
  go_ret
  exact ⟨rfl, (Turn.refl _ W).drew.then hu2, ht2⟩
set_option maxRecDepth 100000 in
set_option maxHeartbeats 4000000 in
theorem linkC_any {W : World} {g o m : Nat} {cs : Array Value} {L : Tr} {room most : Nat} (h : TreeS W g o m 62 cs L (usedL L) room) (hW : WFT room L) (hr : room ≤ 1048576) (hG : Gd W) (_hm : most ≤ 9223372036854775807)
    {b1 b2 b3 : Nat} {p d : By} {tm : Int} (hx : BxW b1 b2 b3 p d tm W) (hp : p.length ≤ 4000) (hd : d.length ≤ 1000000) :
    Calls Tryz.prog 86 #[.pointer (some ⟨g, o, none⟩), .int .i64 (most : Int), .pointer (some ⟨b1, 0, none⟩), .pointer (some ⟨b2, 0, none⟩), .pointer (some ⟨b3, 0, none⟩)] W fun e w' => SP W g o m 62 cs room (stepE room L (.link p d tm)) e w' := by
  have c1 := hx.x1.at_ 0
  have c2 := hx.x2.at_ 0
  have c3 := hx.x3.at_ 0
  have CW := hid (tlink_any h hW hr hG p d tm hp hd)
  obtain ⟨r, HR⟩ : ∃ r, Hid (stepE room L (.link p d tm) = r) := ⟨_, rfl⟩
  rw [HR.out] at CW
  rw [HR.out]
  clear h hx hG hW
  go_enter Tryz.func86, Tryz.ntmps86
  go_wp2_with (go_at_call 87; refine CW.out.mono ?_; rintro e2 w2 ⟨rfl, hu2, ht2⟩)
  go_ret
  exact ⟨rfl, hu2, ht2⟩
set_option maxRecDepth 100000 in
set_option maxHeartbeats 4000000 in
theorem renameC_any {W : World} {g o m : Nat} {cs : Array Value} {L : Tr} {room most : Nat} (h : TreeS W g o m 62 cs L (usedL L) room) (hW : WFT room L) (hr : room ≤ 1048576) (hG : Gd W) (_hm : most ≤ 9223372036854775807)
    {b1 b2 : Nat} {p d : By} (hx : BxA b1 b2 p d W) (hp : p.length ≤ 4000) (hd : d.length ≤ 4000) :
    Calls Tryz.prog 68 #[.pointer (some ⟨g, o, none⟩), .int .i64 (most : Int), .pointer (some ⟨b1, 0, none⟩), .pointer (some ⟨b2, 0, none⟩)] W fun e w' => SP W g o m 62 cs room (stepE room L (.rename p d)) e w' := by
  have c1 := hx.x1.at_ 0
  have c2 := hx.x2.at_ 0
  have CW := hid (trename_any h hW hr hG p d hp hd)
  obtain ⟨r, HR⟩ : ∃ r, Hid (stepE room L (.rename p d) = r) := ⟨_, rfl⟩
  rw [HR.out] at CW
  rw [HR.out]
  clear h hx hG hW
  go_enter Tryz.func68, Tryz.ntmps68
  go_wp2_with (go_at_call 69; refine CW.out.mono ?_; rintro e2 w2 ⟨rfl, hu2, ht2⟩)
  go_ret
  exact ⟨rfl, hu2, ht2⟩
set_option maxRecDepth 100000 in
set_option maxHeartbeats 4000000 in
theorem mkdirC_any {W : World} {g o m : Nat} {cs : Array Value} {L : Tr} {room most : Nat} (h : TreeS W g o m 62 cs L (usedL L) room) (hW : WFT room L) (hr : room ≤ 1048576) (hG : Gd W) (_hm : most ≤ 9223372036854775807)
    {b1 : Nat} {p : By} (hx : Has W b1 9 #[kS p]) (hp : p.length ≤ 4000) :
    Calls Tryz.prog 61 #[.pointer (some ⟨g, o, none⟩), .int .i64 (most : Int), .pointer (some ⟨b1, 0, none⟩)] W fun e w' => SP W g o m 62 cs room (stepE room L (.mkdir p)) e w' := by
  have c1 := hx.at_ 0
  have CW := hid (tmkdir_any h hW hr hG p hp)
  obtain ⟨r, HR⟩ : ∃ r, Hid (stepE room L (.mkdir p) = r) := ⟨_, rfl⟩
  rw [HR.out] at CW
  rw [HR.out]
  clear h hx hG hW
  go_enter Tryz.func61, Tryz.ntmps61
  go_wp2_with (go_at_call 62; refine CW.out.mono ?_; rintro e2 w2 ⟨rfl, hu2, ht2⟩)
  go_ret
  exact ⟨rfl, hu2, ht2⟩
set_option maxRecDepth 100000 in
set_option maxHeartbeats 4000000 in
theorem removeC_any {W : World} {g o m : Nat} {cs : Array Value} {L : Tr} {room most : Nat} (h : TreeS W g o m 62 cs L (usedL L) room) (hW : WFT room L) (hr : room ≤ 1048576) (hG : Gd W) (_hm : most ≤ 9223372036854775807)
    {b1 : Nat} {p : By} (hx : Has W b1 9 #[kS p]) (hp : p.length ≤ 4000) :
    Calls Tryz.prog 88 #[.pointer (some ⟨g, o, none⟩), .int .i64 (most : Int), .pointer (some ⟨b1, 0, none⟩)] W fun e w' => SP W g o m 62 cs room (stepE room L (.remove p)) e w' := by
  have c1 := hx.at_ 0
  have CW := hid (tremove_any h hW hr hG p hp)
  obtain ⟨r, HR⟩ : ∃ r, Hid (stepE room L (.remove p) = r) := ⟨_, rfl⟩
  rw [HR.out] at CW
  rw [HR.out]
  clear h hx hG hW
  go_enter Tryz.func88, Tryz.ntmps88
  go_wp2_with (go_at_call 89; refine CW.out.mono ?_; rintro e2 w2 ⟨rfl, hu2, ht2⟩)
  go_ret
  exact ⟨rfl, hu2, ht2⟩
theorem eff_write {w : World} {b1 b2 b3 : Nat} {p d : By} {tm : Int} (hx : BxW b1 b2 b3 p d tm w) (hp : p.length ≤ 4000) (hd : d.length ≤ 1000000) : IsEff w (.func (.func 63) #[] #[.pointer (some ⟨b1, 0, none⟩), .pointer (some ⟨b2, 0, none⟩), .pointer (some ⟨b3, 0, none⟩)]) (.write p d tm) :=
  ⟨hd, _, _, rfl, enters_of Tryz.func63 (by kernel_rfl) rfl, fun W g o m cs L room most hg h hW hr hG hm => writeC_any h hW hr hG hm (hx.gx hg) hp hd⟩
theorem eff_append {w : World} {b1 b2 : Nat} {p d : By} (hx : BxA b1 b2 p d w) (hp : p.length ≤ 4000) (hd : d.length ≤ 1000000) : IsEff w (.func (.func 66) #[] #[.pointer (some ⟨b1, 0, none⟩), .pointer (some ⟨b2, 0, none⟩)]) (.append p d) :=
  ⟨hd, _, _, rfl, enters_of Tryz.func66 (by kernel_rfl) rfl, fun W g o m cs L room most hg h hW hr hG hm => appendC_any h hW hr hG hm (hx.gx hg) hp hd⟩
theorem eff_link {w : World} {b1 b2 b3 : Nat} {p d : By} {tm : Int} (hx : BxW b1 b2 b3 p d tm w) (hp : p.length ≤ 4000) (hd : d.length ≤ 1000000) : IsEff w (.func (.func 86) #[] #[.pointer (some ⟨b1, 0, none⟩), .pointer (some ⟨b2, 0, none⟩), .pointer (some ⟨b3, 0, none⟩)]) (.link p d tm) :=
  ⟨Nat.zero_le _, _, _, rfl, enters_of Tryz.func86 (by kernel_rfl) rfl, fun W g o m cs L room most hg h hW hr hG hm => linkC_any h hW hr hG hm (hx.gx hg) hp hd⟩
theorem eff_rename {w : World} {b1 b2 : Nat} {p d : By} (hx : BxA b1 b2 p d w) (hp : p.length ≤ 4000) (hd : d.length ≤ 4000) : IsEff w (.func (.func 68) #[] #[.pointer (some ⟨b1, 0, none⟩), .pointer (some ⟨b2, 0, none⟩)]) (.rename p d) :=
  ⟨Nat.zero_le _, _, _, rfl, enters_of Tryz.func68 (by kernel_rfl) rfl, fun W g o m cs L room most hg h hW hr hG hm => renameC_any h hW hr hG hm (hx.gx hg) hp hd⟩
theorem eff_mkdir {w : World} {b1 : Nat} {p : By} (hx : Has w b1 9 #[kS p]) (hp : p.length ≤ 4000) : IsEff w (.func (.func 61) #[] #[.pointer (some ⟨b1, 0, none⟩)]) (.mkdir p) :=
  ⟨Nat.zero_le _, _, _, rfl, enters_of Tryz.func61 (by kernel_rfl) rfl, fun W g o m cs L room most hg h hW hr hG hm => mkdirC_any h hW hr hG hm (hx.gx (.inl rfl) hg) hp⟩
theorem eff_remove {w : World} {b1 : Nat} {p : By} (hx : Has w b1 9 #[kS p]) (hp : p.length ≤ 4000) : IsEff w (.func (.func 88) #[] #[.pointer (some ⟨b1, 0, none⟩)]) (.remove p) :=
  ⟨Nat.zero_le _, _, _, rfl, enters_of Tryz.func88 (by kernel_rfl) rfl, fun W g o m cs L room most hg h hW hr hG hm => removeC_any h hW hr hG hm (hx.gx (.inl rfl) hg) hp⟩
end Go.Proofs.YtlbeemlnbpchgaaGreat
/- A disk in a world; made, Off, ready, burn, do: what each does. Conditions: fewer than a hundred thousand effects. -/
namespace Go.Proofs.YtlbeemlnbpchgaaGreat
open Go.RowKit Go.Maps
theorem infoEff : (Tryz.prog.info? 97).map (fun i => (i.zero, i.size, i.bytes)) = some (some .nilFunc, 1, 8) := by kernel_rfl
def cellsD (m1 m2 : Nat) (sv : Value) (M : Mo) : Array Value :=
  #[.map (some m1), .int .i64 ((usedL M.now : Nat) : Int), .int .i64 (M.room : Int), .map (some m2), .int .i64 ((usedL M.last : Nat) : Int), .int .i64 (M.room : Int), sv, .int .i64 M.fuse]
/-- Function values that do effects, one by one. -/
def AllEff (w : World) (vs : List Value) (xs : List Eff) : Prop := vs.length = xs.length ∧ ∀ i (h1 : i < vs.length) (h2 : i < xs.length), IsEff w vs[i] xs[i]
theorem AllEff.gx {w w' : World} {vs : List Value} {xs : List Eff} (h : AllEff w vs xs) (hg : Gx w w') : AllEff w' vs xs := ⟨h.1, fun i h1 h2 => (h.2 i h1 h2).gx hg⟩
theorem AllEff.snoc {w : World} {vs : List Value} {xs : List Eff} (h : AllEff w vs xs) {v : Value} {x : Eff} (hv : IsEff w v x) : AllEff w (vs ++ [v]) (xs ++ [x]) := by
  refine ⟨by simp [h.1], fun i h1 h2 => ?_⟩
  rcases Nat.lt_or_ge i vs.length with k | k
  · rw [List.getElem_append_left k, List.getElem_append_left (by rw [← h.1]; exact k)]
    exact h.2 i k (by rw [← h.1]; exact k)
  · rw [List.length_append, List.length_singleton] at h1
    obtain rfl : i = vs.length := by omega
    rw [List.getElem_append_right (Nat.le_refl _), List.getElem_append_right (by rw [h.1]; exact Nat.le_refl _)]
    simpa using hv
/-- A disk: its block, its maps, its row of effects, all its own. -/
structure DskI (own : Nat → Prop) (w : World) (p m1 m2 : Nat) (sv : Value) (vs : List Value) (M : Mo) : Prop where
  low : ∀ g, own g → g < w.heap.size
  loose : ∀ g, own g → Loose w g
  has : Has w p 62 (cellsD m1 m2 sv M)
  op : own p
  o1 : own m1
  o2 : own m2
  t1 : MapT w m1 M.now
  t2 : MapT w m2 M.last
  ne : m1 ≠ m2
  row : w.ownsRow 0 97 1 sv vs.length vs
  osv : ∀ b, sv.ownBlock = some b → own b
  effs : AllEff w vs M.since
  good : Good M
  r0 : 1024 ≤ M.room
  r1 : M.room ≤ 1048576
  len : M.since.length ≤ 100000
def Dsk (own : Nat → Prop) (w : World) (p : Nat) (M : Mo) : Prop := ∃ m1 m2 sv vs, DskI own w p m1 m2 sv vs M
theorem row_of {B : Nat} {w w' : World} {e : TypeId} {s n : Nat} {v : Value} {xs : List Value} (h : w.ownsRow B e s v n xs) (hs : ∀ g, v.ownBlock = some g → w'.heap[g]? = w.heap[g]?) : w'.ownsRow B e s v n xs := by
  refine ⟨h.1, ?_⟩
  rcases h.2 with h1 | ⟨g, c, cur, h1, h2, h3, h4⟩
  · exact .inl h1
  · exact .inr ⟨g, c, cur, h1, h2, (hs g (by rw [h1]; rfl)).trans h3, h4⟩
section
variable {own : Nat → Prop} {w : World} {p m1 m2 : Nat} {sv : Value} {vs : List Value} {M : Mo}
theorem DskI.pne1 (h : DskI own w p m1 m2 sv vs M) : m1 ≠ p := fun e => by
  obtain ⟨es, ck, hh, _⟩ := h.t1
  have := h.has
  unfold Has at this
  rw [← e, hh] at this; cases this
theorem DskI.pne2 (h : DskI own w p m1 m2 sv vs M) : m2 ≠ p := fun e => by
  obtain ⟨es, ck, hh, _⟩ := h.t2
  have := h.has
  unfold Has at this
  rw [← e, hh] at this; cases this
theorem len_room {room : Nat} {L : Tr} (h : WFT room L) (hr : room ≤ 1048576) : L.length ≤ 100000 := by
  have h1 := used_len (L := L)
  have h2 := h.used
  omega
theorem DskI.tr1 (h : DskI own w p m1 m2 sv vs M) : TreeS w p 0 m1 62 (cellsD m1 m2 sv M) M.now (usedL M.now) M.room :=
  ⟨h.has, rfl, rfl, rfl, h.t1, h.good.w1.srt, h.pne1, len_room h.good.w1 h.r1⟩
theorem DskI.tr2 (h : DskI own w p m1 m2 sv vs M) : TreeS w p 3 m2 62 (cellsD m1 m2 sv M) M.last (usedL M.last) M.room :=
  ⟨h.has, rfl, rfl, rfl, h.t2, h.good.w2.srt, h.pne2, len_room h.good.w2 h.r1⟩
/-- All that it owns being as it was, it is as it was. -/
theorem DskI.kept {w' : World} (h : DskI own w p m1 m2 sv vs M) (hg : Gx w w') (hb : ∀ g, own g → w'.heap[g]? = w.heap[g]?) : DskI own w' p m1 m2 sv vs M where
  low g hgo := Nat.lt_of_lt_of_le (h.low g hgo) hg.1
  loose g hgo cs t q ho := h.loose g hgo cs t q ((hb g hgo).symm.trans ho)
  has := (hb p h.op).trans h.has
  op := h.op
  o1 := h.o1
  o2 := h.o2
  t1 := h.t1.kept (hb _ h.o1)
  t2 := h.t2.kept (hb _ h.o2)
  ne := h.ne
  row := row_of h.row (fun g hgo => hb g (h.osv g hgo))
  osv := h.osv
  effs := h.effs.gx hg
  good := h.good
  r0 := h.r0
  r1 := h.r1
  len := h.len
theorem DskI.on {w' : World} (h : DskI own w p m1 m2 sv vs M) (hb : Below w.heap.size w w') : DskI own w' p m1 m2 sv vs M :=
  h.kept (Gx.of_below hb) (fun g hg => hb.block g (h.low g hg))
theorem Dsk.on {w' : World} (h : Dsk own w p M) (hb : Below w.heap.size w w') : Dsk own w' p M := by
  obtain ⟨m1, m2, sv, vs, h⟩ := h; exact ⟨m1, m2, sv, vs, h.on hb⟩
/-- What is done to others' blocks does not touch it. -/
theorem Dsk.turn {own2 : Nat → Prop} {w' : World} (h : Dsk own w p M) (hu : Turn own2 w w') (hl : ∀ g, own2 g → Loose w g) (ha : ∀ g, own g → ¬ own2 g) : Dsk own w' p M := by
  obtain ⟨m1, m2, sv, vs, h⟩ := h
  exact ⟨m1, m2, sv, vs, h.kept (Gx.of_turn hu hl) (fun g hg => hu.block g (h.low g hg) (ha g hg))⟩
theorem Dsk.low (h : Dsk own w p M) : ∀ g, own g → g < w.heap.size := by obtain ⟨_, _, _, _, h⟩ := h; exact h.low
theorem Dsk.loose (h : Dsk own w p M) : ∀ g, own g → Loose w g := by obtain ⟨_, _, _, _, h⟩ := h; exact h.loose
theorem Dsk.good (h : Dsk own w p M) : Good M := by obtain ⟨_, _, _, _, h⟩ := h; exact h.good
end
/-- What a call on a disk leaves. -/
def DPost (own : Nat → Prop) (w : World) (p : Nat) (M : Mo) (w' : World) : Prop :=
  ∃ own', Dsk own' w' p M ∧ Turn own w w' ∧ ∀ g, own' g → own g ∨ w.heap.size ≤ g
theorem DPost.refl {own : Nat → Prop} {w w' : World} {p : Nat} {M : Mo} (h : Dsk own w p M) (hb : Below w.heap.size w w') : DPost own w p M w' :=
  ⟨own, h.on hb, Turn.of_below hb, fun _ h => .inl h⟩
theorem DPost.ahead {own : Nat → Prop} {w w1 w2 : World} {p : Nat} {M : Mo} (hb : Below w.heap.size w w1) (h : DPost own w1 p M w2) : DPost own w p M w2 := by
  obtain ⟨own', h1, h2, h4⟩ := h
  exact ⟨own', h1, (Turn.of_below hb).then h2, fun g hg => by rcases h4 g hg with k | k; exact .inl k; exact .inr (Nat.le_trans hb.size k)⟩
theorem Turn.mono {own own' : Nat → Prop} {w w' : World} (h : Turn own w w') (ho : ∀ g, own g → own' g) : Turn own' w w' :=
  ⟨h.os, h.tape, h.output, h.size, fun g hg hn => h.block g hg (fun k => hn (ho g k))⟩
theorem Turn.of_grown {own : Nat → Prop} {w w' : World} {r : Option Nat} (h : w.grownBy w' r) (ho : ∀ g, r = some g → own g) : Turn own w w' :=
  ⟨h.os, h.tape, h.output, h.size, fun g hg hn => h.block g hg (fun e => hn (ho g e.symm))⟩
theorem row_kind {w : World} {B n : Nat} {e : TypeId} {v : Value} {xs : List Value} (h : w.ownsRow B e 1 v n xs) {b : Nat} (hb : v.ownBlock = some b) : ∃ cur, w.heap[b]? = some (.cells cur e (0, 0)) := by
  rcases h.2 with ⟨k1, _⟩ | ⟨g', c, cur, k1, _, k3, _⟩
  · rw [k1] at hb; cases hb
  · rw [k1] at hb; injection hb with hb; exact ⟨cur, by rw [← hb]; exact k3⟩
theorem neqSome (m : Nat) (w : World) : (binOp .neq 57 (.map (some m)) (.map none)).run Tryz.prog w = .ok (.bool true) w := by kernel_rfl
theorem neqNone (w : World) : (binOp .neq 57 (.map none) (.map none)).run Tryz.prog w = .ok (.bool false) w := by kernel_rfl
set_option maxRecDepth 100000 in
set_option maxHeartbeats 2000000 in
theorem dmade_any {w : World} {p m1 : Nat} (c1 : w.cell? ⟨p, 0, none⟩ = some (.map (some m1))) :
    Calls Tryz.prog 55 #[.pointer (some ⟨p, 0, none⟩)] w fun e w' => e = .returned (.bool true) ∧ w = w' := by
  have q1 := neqSome m1
  go_enter Tryz.func55, Tryz.ntmps55
  go_wp2
  go_ret
  exact ⟨rfl, rfl⟩
set_option maxRecDepth 100000 in
set_option maxHeartbeats 2000000 in
theorem dmade_nil (w : World) : Calls Tryz.prog 55 #[.pointer none] w fun e w' => e = .returned (.bool false) ∧ w = w' := by
  go_enter Tryz.func55, Tryz.ntmps55
  go_wp2
  go_ret
  exact ⟨rfl, rfl⟩
set_option maxRecDepth 100000 in
set_option maxHeartbeats 2000000 in
theorem dmade_zero (w : World) (p : Nat) (c1 : w.cell? ⟨p, 0, none⟩ = some (.map none)) : Calls Tryz.prog 55 #[.pointer (some ⟨p, 0, none⟩)] w fun e w' => e = .returned (.bool false) ∧ w = w' := by
  have q1 := neqNone
  go_enter Tryz.func55, Tryz.ntmps55
  go_wp2
  go_ret
  exact ⟨rfl, rfl⟩
set_option maxRecDepth 100000 in
set_option maxHeartbeats 2000000 in
theorem dOff_any {w : World} {p m1 : Nat} {f : Int} (c1 : w.cell? ⟨p, 0, none⟩ = some (.map (some m1))) (c7 : w.cell? ⟨p, 7, none⟩ = some (.int .i64 f)) :
    Calls Tryz.prog 37 #[.pointer (some ⟨p, 0, none⟩)] w fun e w' => e = .returned (.bool (f == 0)) ∧ w = w' := by
  have C1 := hid (dmade_any c1)
  clear c1
  go_enter Tryz.func37, Tryz.ntmps37
  go_wp2_with (go_at_call 55; refine C1.out.mono ?_; rintro e1 w1 ⟨rfl, rfl⟩)
  go_ret
  exact ⟨rfl, rfl⟩
def readyE (f : Int) : Int := if f = 0 then 20 else 0
theorem readyE_off {f : Int} (h : f = 0) : readyE f = 20 := if_pos h
theorem readyE_on {f : Int} (h : f ≠ 0) : readyE f = 0 := if_neg h
set_option maxRecDepth 100000 in
set_option maxHeartbeats 2000000 in
theorem dready_any {w : World} {p m1 : Nat} {f : Int} (c1 : w.cell? ⟨p, 0, none⟩ = some (.map (some m1))) (c7 : w.cell? ⟨p, 7, none⟩ = some (.int .i64 f)) :
    Calls Tryz.prog 78 #[.pointer (some ⟨p, 0, none⟩)] w fun e w' => e = .returned (.int .i64 (readyE f)) ∧ w = w' := by
  have C1 := hid (dmade_any c1)
  obtain ⟨b, HB⟩ : ∃ b, Hid ((f == 0) = b) := ⟨_, rfl⟩
  have C2 : Hid (Calls Tryz.prog 37 #[.pointer (some ⟨p, 0, none⟩)] w fun e w' => e = .returned (.bool b) ∧ w = w') := by rw [← HB.out]; exact dOff_any c1 c7
  clear c1 c7
  cases b with
  | true =>
    go_enter Tryz.func78, Tryz.ntmps78
    go_wp2_with (first
      | (go_at_call 55; refine C1.out.mono ?_; rintro e1 w1 ⟨rfl, rfl⟩)
      | (go_at_call 37; refine C2.out.mono ?_; rintro e1 w1 ⟨rfl, rfl⟩))
    go_ret
    exact ⟨by rw [readyE_off (by simpa using HB.out)]; rfl, rfl⟩
  | false =>
    go_enter Tryz.func78, Tryz.ntmps78
    go_wp2_with (first
      | (go_at_call 55; refine C1.out.mono ?_; rintro e1 w1 ⟨rfl, rfl⟩)
      | (go_at_call 37; refine C2.out.mono ?_; rintro e1 w1 ⟨rfl, rfl⟩))
    go_ret
    exact ⟨by rw [readyE_on (by simpa using HB.out)]; rfl, rfl⟩
/-- One block. -/
def One (p k : Nat) : Prop := k = p
theorem set_same {cs : Array Value} {i : Nat} {v : Value} (h : cs[i]? = some v) : cs.setIfInBounds i v = cs := by
  apply Array.ext_getElem?
  intro j
  rw [Array.getElem?_setIfInBounds]
  split
  · rename_i hi
    subst hi
    split
    · exact h.symm
    · rename_i hn
      rw [Array.getElem?_eq_none (by omega)]
  · rfl
set_option maxRecDepth 100000 in
set_option maxHeartbeats 2000000 in
theorem dburn_any {w : World} {p : Nat} {cs : Array Value} {f : Int} (h : Has w p 62 cs) (h7 : cs[7]? = some (.int .i64 f)) (f0 : -1 ≤ f) (f1 : f ≤ 9223372036854775807) :
    Calls Tryz.prog 79 #[.pointer (some ⟨p, 0, none⟩)] w fun e w' => e = .returned (.tuple #[]) ∧ Turn (One p) w w' ∧ Has w' p 62 (cs.setIfInBounds 7 (.int .i64 (burnF f))) := by
  have c7 : w.cell? ⟨p, 7, none⟩ = some (.int .i64 f) := (h.at_ 7).trans h7
  have f7 := h.free 7
  have H := hid h
  have H7 := hid h7
  clear h h7
  by_cases hf : 0 < f
  · have hd : decide (0 < f) = true := by simpa using hf
    have HB : Hid (burnF f = f - 1) := by show _ = _; unfold burnF; rw [if_pos hf]
    go_enter Tryz.func79, Tryz.ntmps79
    go_wp2
    go_end0
    refine ⟨rfl, Turn.set w p 7 _ rfl, ?_⟩
    rw [HB.out]
    exact H.out.put 7 _
  · have hd : decide (0 < f) = false := by simpa using hf
    have HB : Hid (burnF f = f) := by show _ = _; unfold burnF; rw [if_neg hf]
    go_enter Tryz.func79, Tryz.ntmps79
    go_wp2
    go_end0
    refine ⟨rfl, Turn.refl _ _, ?_⟩
    rw [HB.out, set_same H7.out]
    exact H.out
end Go.Proofs.YtlbeemlnbpchgaaGreat
