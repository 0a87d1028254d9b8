/- Effects as function values: what each does to a tree in a world. Conditions: paths of at most 4000 bytes, data of at most a million. -/
import Derived.Test.YtlbeemlnbpchgaaGreatWR
import Derived.Test.YtlbeemlnbpchgaaGreatWH
namespace Go.Proofs.YtlbeemlnbpchgaaGreat
open Go.RowKit Go.Maps
/-- The types of what an effect captures. -/
abbrev Firm (t : TypeId) : Prop := t = 9 ∨ t = 2
/-- What of such types lay in w lies in W. -/
def Gx (w W : World) : Prop := w.heap.size ≤ W.heap.size ∧ ∀ (j : Nat) (cs : Array Value) (t : TypeId) (q : Nat × Nat), w.heap[j]? = some (Obj.cells cs t q) → Firm t → W.heap[j]? = some (Obj.cells cs t q)
theorem Gx.of_below {w W : World} (h : Below w.heap.size w W) : Gx w W :=
  ⟨h.size, fun j _ _ _ ho _ => (h.block j (Array.getElem?_eq_some_iff.1 ho).1).trans ho⟩
theorem Gx.refl (w : World) : Gx w w := Gx.of_below (Below.refl _ _)
theorem Gx.trans {a b c : World} (h : Gx a b) (k : Gx b c) : Gx a c := ⟨Nat.le_trans h.1 k.1, fun j cs t q ho hn => k.2 j cs t q (h.2 j cs t q ho hn) hn⟩
theorem Gx.then_below {a b c : World} (h : Gx a b) (k : Below b.heap.size b c) : Gx a c := h.trans (Gx.of_below k)
theorem Has.gx {w W : World} {g : Nat} {t : TypeId} {cs : Array Value} (h : Has w g t cs) (ht : Firm t) (hG : Gx w W) : Has W g t cs :=
  hG.2 g _ _ _ h ht
/-- Blocks that no effect captures. -/
def Loose (w : World) (g : Nat) : Prop := ∀ (cs : Array Value) (t : TypeId) (q : Nat × Nat), w.heap[g]? = some (Obj.cells cs t q) → ¬ Firm t
theorem Gx.of_turn {own : Nat → Prop} {w W : World} (h : Turn own w W) (hl : ∀ g, own g → Loose w g) : Gx w W :=
  ⟨h.size, fun j cs t q ho hn => (h.block j (Array.getElem?_eq_some_iff.1 ho).1 (fun e => hl j e cs t q ho hn)).trans ho⟩
theorem MapT.loose {w : World} {m : Nat} {L : Tr} (h : MapT w m L) : Loose w m := fun cs t q ho => by
  obtain ⟨es, ck, hh, _⟩ := h
  rw [hh] at ho; cases ho
theorem Has.loose {w : World} {g : Nat} {t : TypeId} {cs : Array Value} (h : Has w g t cs) (ht : ¬ Firm t) : Loose w g := fun cs2 t2 q ho => by
  unfold Has at h
  rw [h] at ho
  injection ho with ho
  injection ho with _ ho
  rw [← ho]; exact ht
theorem TreeS.gx {w W : World} {g o m : Nat} {cs : Array Value} {L : Tr} {u room : Nat} (h : TreeS w g o m 62 cs L u room) (hu : Turn (Two g m) w W) : Gx w W :=
  Gx.of_turn hu (fun k hk => by rcases hk with e | e <;> rw [e]; exact h.has.loose (by decide); exact h.mp.loose)
/-- A function value that does an effect to a tree of a disk, in every world that grows out of w. -/
def IsEff (w : World) (f : Value) (x : Eff) : Prop :=
  dataE x ≤ 1000000 ∧ ∃ k lb, f = .func (.func k) #[] lb ∧ (∀ (args : Array Value) (w : World), (callFunc k args).run Tryz.prog w = .ok (.enter k args) w) ∧
    ∀ (W : World) (g o m : Nat) (cs : Array Value) (L : Tr) (room most : Nat), Gx w W → TreeS W g o m 62 cs L (usedL L) room → WFT room L → room ≤ 1048576 → Gd W → most ≤ 9223372036854775807 →
      Calls Tryz.prog k (#[.pointer (some ⟨g, o, none⟩), .int .i64 (most : Int)] ++ lb) W fun e w' => SP W g o m 62 cs room (stepE room L (cutE x most)) e w'
theorem IsEff.gx {w w' : World} {f : Value} {x : Eff} (h : IsEff w f x) (hg : Gx w w') : IsEff w' f x := by
  obtain ⟨hd, k, lb, h1, h2, h3⟩ := h
  exact ⟨hd, k, lb, h1, h2, fun W g o m cs L room most hW => h3 W g o m cs L room most (hg.trans hW)⟩
theorem IsEff.one {w : World} {f : Value} {x : Eff} (h : IsEff w f x) : f.oneCell' = true := by
  obtain ⟨_, k, lb, rfl, _⟩ := h; rfl
theorem ba_take0 (s : By) (k : Nat) : (ba s).extract 0 k = ba (s.take k) := by
  apply ByteArray.ext; simp [ba]
set_option maxRecDepth 100000 in
set_option maxHeartbeats 2000000 in
theorem dcut_any (d : By) (most : Nat) (w : World) (hd : d.length ≤ 1000000) (hm : most ≤ 9223372036854775807) : Calls Tryz.prog 65 #[kS d, .int .i64 (most : Int)] w fun e w' => e = .returned (kS (d.take most)) ∧ w = w' := by
  have hz2 : (ba d).size ≤ 1000000 := by rw [ba_size]; exact hd
  have HT : Hid ((ba d).extract 0 (min ((ba d).size : Int) (most : Int)).toNat = ba (d.take most)) := by
    show _ = _
    rw [ba_take0, ba_size, show (min (d.length : Int) (most : Int)).toNat = min d.length most by omega]
    rcases Nat.le_total d.length most with h | h
    · rw [Nat.min_eq_left h, List.take_length, List.take_of_length_le h]
    · rw [Nat.min_eq_right h]
  go_enter Tryz.func65, Tryz.ntmps65
  go_wp2
  go_ret
  refine ⟨?_, rfl⟩
  show Ending.returned (.string ((ba d).extract 0 (min ((ba d).size : Int) (most : Int)).toNat)) = _
  rw [HT.out]
/-- The boxes that an effect captures: two texts. -/
structure BxA (b1 b2 : Nat) (p d : By) (W : World) : Prop where
  x1 : Has W b1 9 #[kS p]
  x2 : Has W b2 9 #[kS d]
theorem BxA.gx {b1 b2 : Nat} {p d : By} {w W : World} (h : BxA b1 b2 p d w) (hg : Gx w W) : BxA b1 b2 p d W := ⟨h.x1.gx (.inl rfl) hg, h.x2.gx (.inl rfl) hg⟩
theorem BxA.drew {b1 b2 : Nat} {p d : By} {w : World} (h : BxA b1 b2 p d w) : BxA b1 b2 p d w.drew := ⟨h.x1, h.x2⟩
/-- .. two texts and a time. -/
structure BxW (b1 b2 b3 : Nat) (p d : By) (tm : Int) (W : World) : Prop where
  x1 : Has W b1 9 #[kS p]
  x2 : Has W b2 9 #[kS d]
  x3 : Has W b3 2 #[.int .i64 tm]
theorem BxW.gx {b1 b2 b3 : Nat} {p d : By} {tm : Int} {w W : World} (h : BxW b1 b2 b3 p d tm w) (hg : Gx w W) : BxW b1 b2 b3 p d tm W := ⟨h.x1.gx (.inl rfl) hg, h.x2.gx (.inl rfl) hg, h.x3.gx (.inr rfl) hg⟩
theorem BxW.drew {b1 b2 b3 : Nat} {p d : By} {tm : Int} {w : World} (h : BxW b1 b2 b3 p d tm w) : BxW b1 b2 b3 p d tm w.drew := ⟨h.x1, h.x2, h.x3⟩
set_option maxRecDepth 100000 in
set_option maxHeartbeats 4000000 in
theorem writeC_any {W : World} {g o m : Nat} {cs : Array Value} {L : Tr} {room most : Nat} (h : TreeS W g o m 62 cs L (usedL L) room) (hW : WFT room L) (hr : room ≤ 1048576) (hG : Gd W) (hm : most ≤ 9223372036854775807)
    {b1 b2 b3 : Nat} {p d : By} {tm : Int} (hx : BxW b1 b2 b3 p d tm W) (hp : p.length ≤ 4000) (hd : d.length ≤ 1000000) :
    Calls Tryz.prog 63 #[.pointer (some ⟨g, o, none⟩), .int .i64 (most : Int), .pointer (some ⟨b1, 0, none⟩), .pointer (some ⟨b2, 0, none⟩), .pointer (some ⟨b3, 0, none⟩)] W fun e w' => SP W g o m 62 cs room (stepE room L (.write p (d.take most) tm)) e w' := by
  have S0 : Hid (BxW b1 b2 b3 p d tm W.drew) := hx.drew
  have TG := hid h.drew
  have CC := hid (dcut_any d most W.drew hd hm)
  have CW := hid (twrite_any h.drew hW hr (hG.below (Below.refl 1 W).drew (by omega)) p (d.take most) tm hp (by rw [List.length_take]; omega))
  obtain ⟨r, HR⟩ : ∃ r, Hid (stepE room L (.write p (d.take most) tm) = r) := ⟨_, rfl⟩
  rw [HR.out] at CW
  rw [HR.out]
  clear h hx hG hW
  go_enter Tryz.func63, Tryz.ntmps63
  go_wp2
  refine wp_region_noPanic ?_
  refine wp_region_held_drew (S := BxW b1 b2 b3 p d tm) (by kernel_rfl) (S0.out) (fun hS => ?_)
  refine wpAnyH_take (i := 0) (v := ?_) (by simp only [List.getElem?_toArray, List.getElem?_cons_zero]; rfl) (by kernel_rfl) (by kernel_rfl) (by kernel_rfl) (fun _ _ _ h => h) (Or.inl ⟨by rfl, ?_⟩) (by assumption) ?_
  rotate_left 1
  · intro w hSw
    go_simp
    with_reducible rfl
  simp only [Act.put, List.setIfInBounds_toArray, List.set_cons_zero, List.set_cons_succ]
  refine wpAnyH_take (i := 1) (v := ?_) (by simp only [List.getElem?_toArray, List.getElem?_cons_zero, List.getElem?_cons_succ]; rfl) (by kernel_rfl) (by kernel_rfl) (by kernel_rfl) (fun _ _ _ h => h) (Or.inl ⟨by rfl, ?_⟩) (by assumption) ?_
  rotate_left 1
  · intro w hSw
    have hc := hSw.x1.at_ 0
    go_simp
    with_reducible rfl
  simp only [Act.put, List.setIfInBounds_toArray, List.set_cons_zero, List.set_cons_succ]
  refine wpAnyH_take (i := 2) (v := ?_) (by simp only [List.getElem?_toArray, List.getElem?_cons_zero, List.getElem?_cons_succ]; rfl) (by kernel_rfl) (by kernel_rfl) (by kernel_rfl) (fun _ _ _ h => h) (Or.inl ⟨by rfl, ?_⟩) (by assumption) ?_
  rotate_left 1
  · intro w hSw
    have hc := hSw.x2.at_ 0
    go_simp
    with_reducible rfl
  simp only [Act.put, List.setIfInBounds_toArray, List.set_cons_zero, List.set_cons_succ]
  refine wpAnyH_take (i := 3) (v := ?_) (by simp only [List.getElem?_toArray, List.getElem?_cons_zero, List.getElem?_cons_succ]; rfl) (by kernel_rfl) (by kernel_rfl) (by kernel_rfl) (fun _ _ _ h => h) (Or.inl ⟨by rfl, ?_⟩) (by assumption) ?_
  rotate_left 1
  · intro w hSw
    go_simp
    with_reducible rfl
  simp only [Act.put, List.setIfInBounds_toArray, List.set_cons_zero, List.set_cons_succ]
  refine wpAnyH_take (i := 5) (v := ?_) (by simp only [List.getElem?_toArray, List.getElem?_cons_zero, List.getElem?_cons_succ]; rfl) (by kernel_rfl) (by kernel_rfl) (by kernel_rfl) (fun _ _ _ h => h) (Or.inl ⟨by rfl, ?_⟩) (by assumption) ?_
  rotate_left 1
  · intro w hSw
    have hc := hSw.x3.at_ 0
    go_simp
    with_reducible rfl
  simp only [Act.put, List.setIfInBounds_toArray, List.set_cons_zero, List.set_cons_succ]
  refine wpAnyH_ready (rs := [4]) (by kernel_rfl) (by simp) ?_
  refine AllReadyH.cons (by simp only [List.getElem?_toArray, List.getElem?_cons_zero, List.getElem?_cons_succ]; rfl) (fun K hK => ?_) AllReadyH.nil
  go_simp
  refine (CC.out).mono ?_
  rintro e1 w1 ⟨rfl, rfl⟩
  have hz1 := S0.out
  refine hK.out _ _ hz1 (fun hS => ?_)
  clear hK K hS
  refine wpAnyH_ready (rs := [6]) (by kernel_rfl) (by simp) ?_
  refine AllReadyH.cons (by simp only [List.getElem?_toArray, List.getElem?_cons_zero, List.getElem?_cons_succ]; rfl) (fun K hK => ?_) AllReadyH.nil
  go_simp
  refine (CW.out).mono ?_
  rintro e2 w2 ⟨rfl, hu2, ht2⟩
  have hz2 := S0.out.gx (TG.out.gx hu2)
  refine hK.out _ _ hz2 (fun hS => ?_)
  clear hK K hS
  refine wpAnyH_take (i := 7) (v := ?_) (by simp only [List.getElem?_toArray, List.getElem?_cons_zero, List.getElem?_cons_succ]; rfl) (by kernel_rfl) (by kernel_rfl) (by kernel_rfl) (fun _ _ _ h => h) (Or.inl ⟨by rfl, ?_⟩) (by assumption) ?_
  rotate_left 1
  · intro w hSw
    go_simp
    with_reducible rfl
  simp only [Act.put, List.setIfInBounds_toArray, List.set_cons_zero, List.set_cons_succ]
  refine wpAnyH_done (by kernel_rfl) ?_ _
  refine NoPanic.normal ?_
  go_wp2
  go_ret
  exact ⟨rfl, (Turn.refl _ W).drew.then hu2, ht2⟩
set_option maxRecDepth 100000 in
set_option maxHeartbeats 4000000 in
theorem appendC_any {W : World} {g o m : Nat} {cs : Array Value} {L : Tr} {room most : Nat} (h : TreeS W g o m 62 cs L (usedL L) room) (hW : WFT room L) (hr : room ≤ 1048576) (hG : Gd W) (hm : most ≤ 9223372036854775807)
    {b1 b2 : Nat} {p d : By} (hx : BxA b1 b2 p d W) (hp : p.length ≤ 4000) (hd : d.length ≤ 1000000) :
    Calls Tryz.prog 66 #[.pointer (some ⟨g, o, none⟩), .int .i64 (most : Int), .pointer (some ⟨b1, 0, none⟩), .pointer (some ⟨b2, 0, none⟩)] W fun e w' => SP W g o m 62 cs room (stepE room L (.append p (d.take most))) e w' := by
  have S0 : Hid (BxA b1 b2 p d W.drew) := hx.drew
  have TG := hid h.drew
  have CC := hid (dcut_any d most W.drew hd hm)
  have CW := hid (tappend_any h.drew hW hr (hG.below (Below.refl 1 W).drew (by omega)) p (d.take most) hp (by rw [List.length_take]; omega))
  obtain ⟨r, HR⟩ : ∃ r, Hid (stepE room L (.append p (d.take most)) = r) := ⟨_, rfl⟩
  rw [HR.out] at CW
  rw [HR.out]
  clear h hx hG hW
  go_enter Tryz.func66, Tryz.ntmps66
  go_wp2
  refine wp_region_noPanic ?_
  refine wp_region_held_drew (S := BxA b1 b2 p d) (by kernel_rfl) (S0.out) (fun hS => ?_)
  refine wpAnyH_take (i := 0) (v := ?_) (by simp only [List.getElem?_toArray, List.getElem?_cons_zero]; rfl) (by kernel_rfl) (by kernel_rfl) (by kernel_rfl) (fun _ _ _ h => h) (Or.inl ⟨by rfl, ?_⟩) (by assumption) ?_
  rotate_left 1
  · intro w hSw
    go_simp
    with_reducible rfl
  simp only [Act.put, List.setIfInBounds_toArray, List.set_cons_zero, List.set_cons_succ]
  refine wpAnyH_take (i := 1) (v := ?_) (by simp only [List.getElem?_toArray, List.getElem?_cons_zero, List.getElem?_cons_succ]; rfl) (by kernel_rfl) (by kernel_rfl) (by kernel_rfl) (fun _ _ _ h => h) (Or.inl ⟨by rfl, ?_⟩) (by assumption) ?_
  rotate_left 1
  · intro w hSw
    have hc := hSw.x1.at_ 0
    go_simp
    with_reducible rfl
  simp only [Act.put, List.setIfInBounds_toArray, List.set_cons_zero, List.set_cons_succ]
  refine wpAnyH_take (i := 2) (v := ?_) (by simp only [List.getElem?_toArray, List.getElem?_cons_zero, List.getElem?_cons_succ]; rfl) (by kernel_rfl) (by kernel_rfl) (by kernel_rfl) (fun _ _ _ h => h) (Or.inl ⟨by rfl, ?_⟩) (by assumption) ?_
  rotate_left 1
  · intro w hSw
    have hc := hSw.x2.at_ 0
    go_simp
    with_reducible rfl
  simp only [Act.put, List.setIfInBounds_toArray, List.set_cons_zero, List.set_cons_succ]
  refine wpAnyH_take (i := 3) (v := ?_) (by simp only [List.getElem?_toArray, List.getElem?_cons_zero, List.getElem?_cons_succ]; rfl) (by kernel_rfl) (by kernel_rfl) (by kernel_rfl) (fun _ _ _ h => h) (Or.inl ⟨by rfl, ?_⟩) (by assumption) ?_
  rotate_left 1
  · intro w hSw
    go_simp
    with_reducible rfl
  simp only [Act.put, List.setIfInBounds_toArray, List.set_cons_zero, List.set_cons_succ]
  refine wpAnyH_ready (rs := [4]) (by kernel_rfl) (by simp) ?_
  refine AllReadyH.cons (by simp only [List.getElem?_toArray, List.getElem?_cons_zero, List.getElem?_cons_succ]; rfl) (fun K hK => ?_) AllReadyH.nil
  go_simp
  refine (CC.out).mono ?_
  rintro e1 w1 ⟨rfl, rfl⟩
  have hz1 := S0.out
  refine hK.out _ _ hz1 (fun hS => ?_)
  clear hK K hS
  refine wpAnyH_ready (rs := [5]) (by kernel_rfl) (by simp) ?_
  refine AllReadyH.cons (by simp only [List.getElem?_toArray, List.getElem?_cons_zero, List.getElem?_cons_succ]; rfl) (fun K hK => ?_) AllReadyH.nil
  go_simp
  refine (CW.out).mono ?_
  rintro e2 w2 ⟨rfl, hu2, ht2⟩
  have hz2 := S0.out.gx (TG.out.gx hu2)
  refine hK.out _ _ hz2 (fun hS => ?_)
  clear hK K hS
  refine wpAnyH_take (i := 6) (v := ?_) (by simp only [List.getElem?_toArray, List.getElem?_cons_zero, List.getElem?_cons_succ]; rfl) (by kernel_rfl) (by kernel_rfl) (by kernel_rfl) (fun _ _ _ h => h) (Or.inl ⟨by rfl, ?_⟩) (by assumption) ?_
  rotate_left 1
  · intro w hSw
    go_simp
    with_reducible rfl
  simp only [Act.put, List.setIfInBounds_toArray, List.set_cons_zero, List.set_cons_succ]
  refine wpAnyH_done (by kernel_rfl) ?_ _
  refine NoPanic.normal ?_
  go_wp2
  go_ret
  exact ⟨rfl, (Turn.refl _ W).drew.then hu2, ht2⟩
set_option maxRecDepth 100000 in
set_option maxHeartbeats 4000000 in
theorem linkC_any {W : World} {g o m : Nat} {cs : Array Value} {L : Tr} {room most : Nat} (h : TreeS W g o m 62 cs L (usedL L) room) (hW : WFT room L) (hr : room ≤ 1048576) (hG : Gd W) (_hm : most ≤ 9223372036854775807)
    {b1 b2 b3 : Nat} {p d : By} {tm : Int} (hx : BxW b1 b2 b3 p d tm W) (hp : p.length ≤ 4000) (hd : d.length ≤ 1000000) :
    Calls Tryz.prog 86 #[.pointer (some ⟨g, o, none⟩), .int .i64 (most : Int), .pointer (some ⟨b1, 0, none⟩), .pointer (some ⟨b2, 0, none⟩), .pointer (some ⟨b3, 0, none⟩)] W fun e w' => SP W g o m 62 cs room (stepE room L (.link p d tm)) e w' := by
  have c1 := hx.x1.at_ 0
  have c2 := hx.x2.at_ 0
  have c3 := hx.x3.at_ 0
  have CW := hid (tlink_any h hW hr hG p d tm hp hd)
  obtain ⟨r, HR⟩ : ∃ r, Hid (stepE room L (.link p d tm) = r) := ⟨_, rfl⟩
  rw [HR.out] at CW
  rw [HR.out]
  clear h hx hG hW
  go_enter Tryz.func86, Tryz.ntmps86
  go_wp2_with (go_at_call 87; refine CW.out.mono ?_; rintro e2 w2 ⟨rfl, hu2, ht2⟩)
  go_ret
  exact ⟨rfl, hu2, ht2⟩
set_option maxRecDepth 100000 in
set_option maxHeartbeats 4000000 in
theorem renameC_any {W : World} {g o m : Nat} {cs : Array Value} {L : Tr} {room most : Nat} (h : TreeS W g o m 62 cs L (usedL L) room) (hW : WFT room L) (hr : room ≤ 1048576) (hG : Gd W) (_hm : most ≤ 9223372036854775807)
    {b1 b2 : Nat} {p d : By} (hx : BxA b1 b2 p d W) (hp : p.length ≤ 4000) (hd : d.length ≤ 4000) :
    Calls Tryz.prog 68 #[.pointer (some ⟨g, o, none⟩), .int .i64 (most : Int), .pointer (some ⟨b1, 0, none⟩), .pointer (some ⟨b2, 0, none⟩)] W fun e w' => SP W g o m 62 cs room (stepE room L (.rename p d)) e w' := by
  have c1 := hx.x1.at_ 0
  have c2 := hx.x2.at_ 0
  have CW := hid (trename_any h hW hr hG p d hp hd)
  obtain ⟨r, HR⟩ : ∃ r, Hid (stepE room L (.rename p d) = r) := ⟨_, rfl⟩
  rw [HR.out] at CW
  rw [HR.out]
  clear h hx hG hW
  go_enter Tryz.func68, Tryz.ntmps68
  go_wp2_with (go_at_call 69; refine CW.out.mono ?_; rintro e2 w2 ⟨rfl, hu2, ht2⟩)
  go_ret
  exact ⟨rfl, hu2, ht2⟩
set_option maxRecDepth 100000 in
set_option maxHeartbeats 4000000 in
theorem mkdirC_any {W : World} {g o m : Nat} {cs : Array Value} {L : Tr} {room most : Nat} (h : TreeS W g o m 62 cs L (usedL L) room) (hW : WFT room L) (hr : room ≤ 1048576) (hG : Gd W) (_hm : most ≤ 9223372036854775807)
    {b1 : Nat} {p : By} (hx : Has W b1 9 #[kS p]) (hp : p.length ≤ 4000) :
    Calls Tryz.prog 61 #[.pointer (some ⟨g, o, none⟩), .int .i64 (most : Int), .pointer (some ⟨b1, 0, none⟩)] W fun e w' => SP W g o m 62 cs room (stepE room L (.mkdir p)) e w' := by
  have c1 := hx.at_ 0
  have CW := hid (tmkdir_any h hW hr hG p hp)
  obtain ⟨r, HR⟩ : ∃ r, Hid (stepE room L (.mkdir p) = r) := ⟨_, rfl⟩
  rw [HR.out] at CW
  rw [HR.out]
  clear h hx hG hW
  go_enter Tryz.func61, Tryz.ntmps61
  go_wp2_with (go_at_call 62; refine CW.out.mono ?_; rintro e2 w2 ⟨rfl, hu2, ht2⟩)
  go_ret
  exact ⟨rfl, hu2, ht2⟩
set_option maxRecDepth 100000 in
set_option maxHeartbeats 4000000 in
theorem removeC_any {W : World} {g o m : Nat} {cs : Array Value} {L : Tr} {room most : Nat} (h : TreeS W g o m 62 cs L (usedL L) room) (hW : WFT room L) (hr : room ≤ 1048576) (hG : Gd W) (_hm : most ≤ 9223372036854775807)
    {b1 : Nat} {p : By} (hx : Has W b1 9 #[kS p]) (hp : p.length ≤ 4000) :
    Calls Tryz.prog 88 #[.pointer (some ⟨g, o, none⟩), .int .i64 (most : Int), .pointer (some ⟨b1, 0, none⟩)] W fun e w' => SP W g o m 62 cs room (stepE room L (.remove p)) e w' := by
  have c1 := hx.at_ 0
  have CW := hid (tremove_any h hW hr hG p hp)
  obtain ⟨r, HR⟩ : ∃ r, Hid (stepE room L (.remove p) = r) := ⟨_, rfl⟩
  rw [HR.out] at CW
  rw [HR.out]
  clear h hx hG hW
  go_enter Tryz.func88, Tryz.ntmps88
  go_wp2_with (go_at_call 89; refine CW.out.mono ?_; rintro e2 w2 ⟨rfl, hu2, ht2⟩)
  go_ret
  exact ⟨rfl, hu2, ht2⟩
theorem eff_write {w : World} {b1 b2 b3 : Nat} {p d : By} {tm : Int} (hx : BxW b1 b2 b3 p d tm w) (hp : p.length ≤ 4000) (hd : d.length ≤ 1000000) : IsEff w (.func (.func 63) #[] #[.pointer (some ⟨b1, 0, none⟩), .pointer (some ⟨b2, 0, none⟩), .pointer (some ⟨b3, 0, none⟩)]) (.write p d tm) :=
  ⟨hd, _, _, rfl, enters_of Tryz.func63 (by kernel_rfl) rfl, fun W g o m cs L room most hg h hW hr hG hm => writeC_any h hW hr hG hm (hx.gx hg) hp hd⟩
theorem eff_append {w : World} {b1 b2 : Nat} {p d : By} (hx : BxA b1 b2 p d w) (hp : p.length ≤ 4000) (hd : d.length ≤ 1000000) : IsEff w (.func (.func 66) #[] #[.pointer (some ⟨b1, 0, none⟩), .pointer (some ⟨b2, 0, none⟩)]) (.append p d) :=
  ⟨hd, _, _, rfl, enters_of Tryz.func66 (by kernel_rfl) rfl, fun W g o m cs L room most hg h hW hr hG hm => appendC_any h hW hr hG hm (hx.gx hg) hp hd⟩
theorem eff_link {w : World} {b1 b2 b3 : Nat} {p d : By} {tm : Int} (hx : BxW b1 b2 b3 p d tm w) (hp : p.length ≤ 4000) (hd : d.length ≤ 1000000) : IsEff w (.func (.func 86) #[] #[.pointer (some ⟨b1, 0, none⟩), .pointer (some ⟨b2, 0, none⟩), .pointer (some ⟨b3, 0, none⟩)]) (.link p d tm) :=
  ⟨Nat.zero_le _, _, _, rfl, enters_of Tryz.func86 (by kernel_rfl) rfl, fun W g o m cs L room most hg h hW hr hG hm => linkC_any h hW hr hG hm (hx.gx hg) hp hd⟩
theorem eff_rename {w : World} {b1 b2 : Nat} {p d : By} (hx : BxA b1 b2 p d w) (hp : p.length ≤ 4000) (hd : d.length ≤ 4000) : IsEff w (.func (.func 68) #[] #[.pointer (some ⟨b1, 0, none⟩), .pointer (some ⟨b2, 0, none⟩)]) (.rename p d) :=
  ⟨Nat.zero_le _, _, _, rfl, enters_of Tryz.func68 (by kernel_rfl) rfl, fun W g o m cs L room most hg h hW hr hG hm => renameC_any h hW hr hG hm (hx.gx hg) hp hd⟩
theorem eff_mkdir {w : World} {b1 : Nat} {p : By} (hx : Has w b1 9 #[kS p]) (hp : p.length ≤ 4000) : IsEff w (.func (.func 61) #[] #[.pointer (some ⟨b1, 0, none⟩)]) (.mkdir p) :=
  ⟨Nat.zero_le _, _, _, rfl, enters_of Tryz.func61 (by kernel_rfl) rfl, fun W g o m cs L room most hg h hW hr hG hm => mkdirC_any h hW hr hG hm (hx.gx (.inl rfl) hg) hp⟩
theorem eff_remove {w : World} {b1 : Nat} {p : By} (hx : Has w b1 9 #[kS p]) (hp : p.length ≤ 4000) : IsEff w (.func (.func 88) #[] #[.pointer (some ⟨b1, 0, none⟩)]) (.remove p) :=
  ⟨Nat.zero_le _, _, _, rfl, enters_of Tryz.func88 (by kernel_rfl) rfl, fun W g o m cs L room most hg h hW hr hG hm => removeC_any h hW hr hG hm (hx.gx (.inl rfl) hg) hp⟩
end Go.Proofs.YtlbeemlnbpchgaaGreat
