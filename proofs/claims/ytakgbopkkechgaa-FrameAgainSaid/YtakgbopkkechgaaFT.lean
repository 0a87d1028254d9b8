/- The law FrameAgain: what its call does. Conditions: a heap that has a block. -/
import Derived.Test.YtakgbopkkechgaaFS
import Derived.Deep.RegionHeld3
namespace Go.Proofs.Ytakgbopkkechgaa
open Go.RowKit
/-- The reader and the law's row in the course of the law: what is laid again, and what is held, is the text. -/
def Again (w w1 : World) (p : Nat) (o : Option Nat) (l bs h : List UInt8) (v : Value) : Prop := Ses w w1 p (false, h) o ∧ Own w w1 v bs p o ∧ bs ++ h = l
set_option maxRecDepth 100000 in
set_option maxHeartbeats 8000000 in
theorem again_law (s : ByteArray) (w : World) (hp : 0 < w.heap.size) : Calls Try.prog 7 #[.string s] w fun e w' => e = .returned (.bool true) ∧ Below w.heap.size w w' := by
  obtain ⟨t, ht, hc⟩ := cut_text s 5000
  have KC := conv_string t
  have HP := hid hp
  have HT : Hid (t.size ≤ 5000) := ht
  have CN := hid (ses_new (w0 := w) (Below.refl _ _) hp)
  have C1 : Hid (∀ W : World, Ses w W w.heap.size (false, []) none → Calls Try.prog 15 #[.pointer (some ⟨w.heap.size, 0, none⟩), .slice (some ⟨W.heap.size, 0, none⟩) t.size (grownCap W t.size 0 5)] (Lib.bytesWorld W 5 t) fun e w' => e = .returned (.int .i64 0) ∧ ∃ o', Ses w w' w.heap.size (false, tl t) o') := fun W hs => by
    have hl : ¬ 131072 < (tl t).length := by rw [tl_length]; omega
    refine (ses_push (hs.kept (conv_below t W)) (conv_bytes t W) (by rw [tl_length]; omega)).mono ?_
    rintro e w' ⟨rfl, o', h2, _⟩
    have e1 : pushE (false, []) (tl t) = 0 := by simp only [pushE, List.length_nil, Nat.zero_add, if_neg hl]; rfl
    have e2 : pushR (false, []) (tl t) = (false, tl t) := by simp only [pushR, List.length_nil, Nat.zero_add, if_neg hl]; rfl
    rw [e2] at h2
    exact ⟨by rw [e1], o', h2⟩
  clear hp ht
  rcases hc with ⟨rfl, hs⟩ | ⟨hs, e0⟩
  all_goals
    go_enter Try.func7, Try.ntmps7
    go_wp2_with (fail)
    refine CN.out.mono ?_
    rintro e1 w1 ⟨rfl, h1, _⟩
    have S1 := hid h1
    clear h1
    go_wp2_with (fail)
    refine (C1.out _ S1.out).mono ?_
    rintro e2 w2 ⟨rfl, o2, h2⟩
    have S2 := hid h2
    clear h2 S1
    go_wp2_with (fail)
    go_loopw [4, 5] (fun v i wr => ∃ (j : Nat) (o : Option Nat) (bs h : List UInt8), j ≤ 1100 ∧ i = .int .i64 (j : Int) ∧ Hid (Again w wr w.heap.size o (tl t) bs h v)) (fun _ i _ => 1100 - (intOf i).toNat)
    case atStart => exact ⟨0, o2, [], tl t, by omega, rfl, S2.out, Own.nil _ _ _ _, rfl⟩
    case round =>
      obtain ⟨j, o, bs, h, hj, rfl, HA⟩ := hrel
      have HB : Hid (w.heap.size ≤ wr.heap.size) := HA.out.1.below.size
      have HL : Hid (bs.length + h.length = t.size) := by show _ = _; have := congrArg List.length HA.out.2.2; rw [List.length_append, tl_length] at this; exact this
      obtain ⟨A, c, bb, hy⟩ := HA.out.2.1.bytes (Nat.lt_of_lt_of_le HP.out HB.out)
      obtain ⟨nb, hnb⟩ : ∃ nb, bs.length = nb := ⟨_, rfl⟩
      have ev := hy.form
      rw [hnb] at ev
      subst ev
      have HNB : Hid (bs.length = nb) := hnb
      clear hy hnb
      by_cases hlt : j < 1100
      · rcases hO : outL h with _ | _ | ⟨k, body, rest⟩
        · have CX := hid (ses_wait HA.out.1 hO)
          have HA2 := hid HA.out.2
          have gj : (j : Int) < 1100 := by omega
          clear hO HA hlt
          go_wp2_with (fail)
          refine CX.out.mono ?_
          rintro e3 W0 ⟨rfl, h3, hb3⟩
          have SX : Hid (∃ (R : RS) (o : Option Nat), R.2 = h ∧ Ses w W0 w.heap.size R o) := ⟨_, _, rfl, h3⟩
          have OX : Hid (Own w W0 (.slice A nb c) bs w.heap.size o) := HA2.out.1.chg (Chg.of_below hb3) (.inl rfl)
          have EX : Hid (bs ++ h = tl t) := HA2.out.2
          clear h3 hb3 HA2 CX
          obtain ⟨R0, o0, hR0, hS0⟩ := SX.out
          obtain ⟨A0, c0, b0, hy0⟩ := OX.out.bytes (Nat.lt_of_lt_of_le HP.out hS0.below.size)
          have ea : A0 = A ∧ c0 = c := by have := hy0.form; injection this with e1 _ e2; exact ⟨e1.symm, e2.symm⟩
          obtain ⟨rfl, rfl⟩ := ea
          have Y0 := hid hy0
          obtain ⟨sb, hsb⟩ : ∃ sb : ByteArray, ba bs = sb := ⟨_, rfl⟩
          have EB := hid hsb
          have esb : t.extract 0 nb = sb := by
            rw [ba_take, ← EX.out, ← hsb, ← HNB.out, List.take_left' rfl]
          have hnt : (nb : Int) ≤ (t.size : Int) := by have := HL.out; have := HNB.out; omega
          obtain ⟨nh, hnh⟩ : ∃ nh, h.length = nh := ⟨_, rfl⟩
          have wsum : IntKind.i64.wrap ((nb : Int) + (nh : Int)) = (t.size : Int) := by
            have h1 := HL.out; have h2 := HNB.out; have h3 := HT.out
            rw [show ((nb : Int) + (nh : Int)) = (t.size : Int) by omega]
            exact i64in _ (by omega) (by omega)
          have CH : Hid (∀ W, Below W0.heap.size W0 W → Calls Try.prog 19 #[.pointer (some ⟨w.heap.size, 0, none⟩)] W fun e w' => e = .returned (.int .i64 (nh : Int)) ∧ Below W0.heap.size W0 w') := fun W hb => by
            refine (ses_held (hS0.kept hb)).mono ?_
            rintro e w' ⟨rfl, _, hb'⟩
            exact ⟨by rw [hR0, hnh], hb.trans (hb'.mono hb.size)⟩
          have CWK : Hid (∀ W, Below W0.heap.size W0 W → Calls Try.prog 13 #[] W fun e w' => e = .returned (.bool true) ∧ Below W0.heap.size W0 w') := fun W hb => by
            refine (works_any W (Nat.lt_of_lt_of_le HP.out (Nat.le_trans hS0.below.size hb.size))).mono ?_
            rintro e w' ⟨rfl, hb'⟩
            exact ⟨rfl, hb.trans (hb'.mono hb.size)⟩
          have HBW := hid hS0.below
          have z0 : Below W0.heap.size W0 W0.drew := (Below.refl _ _).drew
          clear hS0 hR0 hy0 hsb hnh SX OX EX HL HNB
          go_wp2_with (fail)
          refine wp_region_noPanic ?_
          refine wp_region_held_drew (S := Below W0.heap.size W0) (by kernel_rfl) (z0) (fun hS => ?_)
          refine wpAnyH_take (i := 0) (v := ?_) (by simp only [List.getElem?_toArray, List.getElem?_cons_zero]; rfl) (by kernel_rfl) (by kernel_rfl) (by kernel_rfl) (fun _ _ _ h => h) (Or.inl ⟨by rfl, ?_⟩) (by assumption) ?_
          rotate_left 1
          · intro w hSw
            go_simp
            with_reducible rfl
          simp only [Act.put, List.setIfInBounds_toArray, List.set_cons_zero, List.set_cons_succ]
          refine wpAnyH_take (i := 1) (v := ?_) (by simp only [List.getElem?_toArray, List.getElem?_cons_zero, List.getElem?_cons_succ]; rfl) (by kernel_rfl) (by kernel_rfl) (by kernel_rfl) (fun _ _ _ h => h) (Or.inl ⟨by rfl, ?_⟩) (by assumption) ?_
          rotate_left 1
          · intro w hSw
            go_simp
            with_reducible rfl
          simp only [Act.put, List.setIfInBounds_toArray, List.set_cons_zero, List.set_cons_succ]
          refine wpAnyH_take (i := 2) (v := ?_) (by simp only [List.getElem?_toArray, List.getElem?_cons_zero, List.getElem?_cons_succ]; rfl) (by kernel_rfl) (by kernel_rfl) (by kernel_rfl) (fun _ _ _ h => h) (Or.inl ⟨by rfl, ?_⟩) (by assumption) ?_
          rotate_left 1
          · intro w hSw
            go_simp
            with_reducible rfl
          simp only [Act.put, List.setIfInBounds_toArray, List.set_cons_zero, List.set_cons_succ]
          refine wpAnyH_take (i := 5) (v := ?_) (by simp only [List.getElem?_toArray, List.getElem?_cons_zero, List.getElem?_cons_succ]; rfl) (by kernel_rfl) (by kernel_rfl) (by kernel_rfl) (fun _ _ _ h => h) (Or.inl ⟨by rfl, ?_⟩) (by assumption) ?_
          rotate_left 1
          · intro w hSw
            go_simp
            with_reducible rfl
          simp only [Act.put, List.setIfInBounds_toArray, List.set_cons_zero, List.set_cons_succ]
          refine wpAnyH_take (i := 6) (v := ?_) (by simp only [List.getElem?_toArray, List.getElem?_cons_zero, List.getElem?_cons_succ]; rfl) (by kernel_rfl) (by kernel_rfl) (by kernel_rfl) (fun _ _ _ h => h) (Or.inl ⟨by rfl, ?_⟩) (by assumption) ?_
          rotate_left 1
          · intro w hSw
            go_simp
            with_reducible rfl
          simp only [Act.put, List.setIfInBounds_toArray, List.set_cons_zero, List.set_cons_succ]
          refine wpAnyH_ready (rs := [3]) (by kernel_rfl) (by simp) ?_
          refine AllReadyH.cons (by simp only [List.getElem?_toArray, List.getElem?_cons_zero, List.getElem?_cons_succ]; rfl) (fun K hK => ?_) (AllReadyH.nil)
          go_simp
          refine (CH.out _ z0).mono ?_
          rintro e9 y9 ⟨rfl, hb9⟩
          have hz1 := hb9
          refine hK.out _ _ hz1 (fun hS => ?_)
          clear hK K hS
          refine wpAnyH_take (i := 4) (v := ?_) (by simp only [List.getElem?_toArray, List.getElem?_cons_zero, List.getElem?_cons_succ]; rfl) (by kernel_rfl) (by kernel_rfl) (by kernel_rfl) (fun _ _ _ h => h) (Or.inl ⟨by rfl, ?_⟩) (by assumption) ?_
          rotate_left 1
          · intro w hSw
            go_simp
            with_reducible rfl
          simp only [Act.put, List.setIfInBounds_toArray, List.set_cons_zero, List.set_cons_succ]
          refine wpAnyH_take (i := 7) (v := ?_) (by simp only [List.getElem?_toArray, List.getElem?_cons_zero, List.getElem?_cons_succ]; rfl) (by kernel_rfl) (by kernel_rfl) (by kernel_rfl) (fun _ _ _ h => h) (Or.inl ⟨by rfl, ?_⟩) (by assumption) ?_
          rotate_left 1
          · intro w hSw
            go_simp
            with_reducible rfl
          simp only [Act.put, List.setIfInBounds_toArray, List.set_cons_zero, List.set_cons_succ]
          refine wpAnyH_take (i := 8) (v := ?_) (by simp only [List.getElem?_toArray, List.getElem?_cons_zero, List.getElem?_cons_succ]; rfl) (by kernel_rfl) (by kernel_rfl) (by kernel_rfl) (fun _ _ _ h => h) (Or.inl ⟨by rfl, ?_⟩) (by assumption) ?_
          rotate_left 1
          · intro w hSw
            go_simp
            with_reducible rfl
          simp only [Act.put, List.setIfInBounds_toArray, List.set_cons_zero, List.set_cons_succ]
          refine wpAnyH_take (i := 9) (v := ?_) (by simp only [List.getElem?_toArray, List.getElem?_cons_zero, List.getElem?_cons_succ]; rfl) (by kernel_rfl) (by kernel_rfl) (by kernel_rfl) (fun _ _ _ h => h) (Or.inl ⟨by rfl, ?_⟩) (by assumption) ?_
          rotate_left 1
          · intro w hSw
            go_simp
            with_reducible rfl
          simp only [Act.put, List.setIfInBounds_toArray, List.set_cons_zero, List.set_cons_succ]
          refine wpAnyH_take (i := 10) (v := ?_) (by simp only [List.getElem?_toArray, List.getElem?_cons_zero, List.getElem?_cons_succ]; rfl) (by kernel_rfl) (by kernel_rfl) (by kernel_rfl) (fun _ _ _ h => h) (Or.inl ⟨by rfl, ?_⟩) (by assumption) ?_
          rotate_left 1
          · intro w hSw
            have q := conv_list (Y0.out.kept hSw (Nat.le_refl _)) EB.out
            go_simp
            with_reducible rfl
          simp only [Act.put, List.setIfInBounds_toArray, List.set_cons_zero, List.set_cons_succ]
          refine wpAnyH_take (i := 11) (v := ?_) (by simp only [List.getElem?_toArray, List.getElem?_cons_zero, List.getElem?_cons_succ]; rfl) (by kernel_rfl) (by kernel_rfl) (by kernel_rfl) (fun _ _ _ h => h) (Or.inl ⟨by rfl, ?_⟩) (by assumption) ?_
          rotate_left 1
          · intro w hSw
            go_simp
            with_reducible rfl
          simp only [Act.put, List.setIfInBounds_toArray, List.set_cons_zero, List.set_cons_succ]
          refine wpAnyH_take (i := 12) (v := ?_) (by simp only [List.getElem?_toArray, List.getElem?_cons_zero, List.getElem?_cons_succ]; rfl) (by kernel_rfl) (by kernel_rfl) (by kernel_rfl) (fun _ _ _ h => h) (Or.inl ⟨by rfl, ?_⟩) (by assumption) ?_
          rotate_left 1
          · intro w hSw
            go_simp
            with_reducible rfl
          simp only [Act.put, List.setIfInBounds_toArray, List.set_cons_zero, List.set_cons_succ]
          refine wpAnyH_take (i := 13) (v := ?_) (by simp only [List.getElem?_toArray, List.getElem?_cons_zero, List.getElem?_cons_succ]; rfl) (by kernel_rfl) (by kernel_rfl) (by kernel_rfl) (fun _ _ _ h => h) (Or.inl ⟨by rfl, ?_⟩) (by assumption) ?_
          rotate_left 1
          · intro w hSw
            go_simp
            with_reducible rfl
          simp only [Act.put, List.setIfInBounds_toArray, List.set_cons_zero, List.set_cons_succ]
          refine wpAnyH_take (i := 14) (v := ?_) (by simp only [List.getElem?_toArray, List.getElem?_cons_zero, List.getElem?_cons_succ]; rfl) (by kernel_rfl) (by kernel_rfl) (by kernel_rfl) (fun _ _ _ h => h) (Or.inl ⟨by rfl, ?_⟩) (by assumption) ?_
          rotate_left 1
          · intro w hSw
            go_simp
            with_reducible rfl
          simp only [Act.put, List.setIfInBounds_toArray, List.set_cons_zero, List.set_cons_succ]
          refine wpAnyH_take (i := 15) (v := ?_) (by simp only [List.getElem?_toArray, List.getElem?_cons_zero, List.getElem?_cons_succ]; rfl) (by kernel_rfl) (by kernel_rfl) (by kernel_rfl) (fun _ _ _ h => h) (Or.inl ⟨by rfl, ?_⟩) (by assumption) ?_
          rotate_left 1
          · intro w hSw
            go_simp
            with_reducible rfl
          simp only [Act.put, List.setIfInBounds_toArray, List.set_cons_zero, List.set_cons_succ]
          refine wpAnyH_take (i := 16) (v := ?_) (by simp only [List.getElem?_toArray, List.getElem?_cons_zero, List.getElem?_cons_succ]; rfl) (by kernel_rfl) (by kernel_rfl) (by kernel_rfl) (fun _ _ _ h => h) (Or.inl ⟨by rfl, ?_⟩) (by assumption) ?_
          rotate_left 1
          · intro w hSw
            go_simp
            with_reducible rfl
          simp only [Act.put, List.setIfInBounds_toArray, List.set_cons_zero, List.set_cons_succ]
          refine wpAnyH_take (i := 17) (v := ?_) (by simp only [List.getElem?_toArray, List.getElem?_cons_zero, List.getElem?_cons_succ]; rfl) (by kernel_rfl) (by kernel_rfl) (by kernel_rfl) (fun _ _ _ h => h) (Or.inl ⟨by rfl, ?_⟩) (by assumption) ?_
          rotate_left 1
          · intro w hSw
            go_simp
            with_reducible rfl
          simp only [Act.put, List.setIfInBounds_toArray, List.set_cons_zero, List.set_cons_succ]
          refine wpAnyH_ready (rs := [18]) (by kernel_rfl) (by simp) ?_
          refine AllReadyH.cons (by simp only [List.getElem?_toArray, List.getElem?_cons_zero, List.getElem?_cons_succ]; rfl) (fun K hK => ?_) (AllReadyH.nil)
          go_simp
          refine (CWK.out _ hb9).mono ?_
          rintro e8 y8 ⟨rfl, hb8⟩
          have hz2 := hb8
          refine hK.out _ _ hz2 (fun hS => ?_)
          clear hK K hS
          refine wpAnyH_take (i := 19) (v := ?_) (by simp only [List.getElem?_toArray, List.getElem?_cons_zero, List.getElem?_cons_succ]; rfl) (by kernel_rfl) (by kernel_rfl) (by kernel_rfl) (fun _ _ _ h => h) (Or.inl ⟨by rfl, ?_⟩) (by assumption) ?_
          rotate_left 1
          · intro w hSw
            go_simp
            with_reducible rfl
          simp only [Act.put, List.setIfInBounds_toArray, List.set_cons_zero, List.set_cons_succ]
          refine wpAnyH_take (i := 20) (v := ?_) (by simp only [List.getElem?_toArray, List.getElem?_cons_zero, List.getElem?_cons_succ]; rfl) (by kernel_rfl) (by kernel_rfl) (by kernel_rfl) (fun _ _ _ h => h) (Or.inl ⟨by rfl, ?_⟩) (by assumption) ?_
          rotate_left 1
          · intro w hSw
            go_simp
            with_reducible rfl
          simp only [Act.put, List.setIfInBounds_toArray, List.set_cons_zero, List.set_cons_succ]
          refine wpAnyH_done (by kernel_rfl) ?_ _
          refine NoPanic.normal ?_
          go_wp2
          go_ret
          exact ⟨rfl, HBW.out.trans (hb8.mono HBW.out.size)⟩
        · have CX := hid (ses_stop HA.out.1 (.inr hO))
          have HA2 := hid HA.out.2
          have gj : (j : Int) < 1100 := by omega
          clear hO HA hlt
          go_wp2_with (fail)
          refine CX.out.mono ?_
          rintro e3 W0 ⟨rfl, o3, h3, hn3, hc3⟩
          have SX : Hid (∃ (R : RS) (o : Option Nat), R.2 = h ∧ Ses w W0 w.heap.size R o) := ⟨_, _, rfl, h3⟩
          have OX : Hid (Own w W0 (.slice A nb c) bs w.heap.size o3) := HA2.out.1.chg hc3 hn3
          have EX : Hid (bs ++ h = tl t) := HA2.out.2
          clear h3 hn3 hc3 HA2 CX
          obtain ⟨R0, o0, hR0, hS0⟩ := SX.out
          obtain ⟨A0, c0, b0, hy0⟩ := OX.out.bytes (Nat.lt_of_lt_of_le HP.out hS0.below.size)
          have ea : A0 = A ∧ c0 = c := by have := hy0.form; injection this with e1 _ e2; exact ⟨e1.symm, e2.symm⟩
          obtain ⟨rfl, rfl⟩ := ea
          have Y0 := hid hy0
          obtain ⟨sb, hsb⟩ : ∃ sb : ByteArray, ba bs = sb := ⟨_, rfl⟩
          have EB := hid hsb
          have esb : t.extract 0 nb = sb := by
            rw [ba_take, ← EX.out, ← hsb, ← HNB.out, List.take_left' rfl]
          have hnt : (nb : Int) ≤ (t.size : Int) := by have := HL.out; have := HNB.out; omega
          obtain ⟨nh, hnh⟩ : ∃ nh, h.length = nh := ⟨_, rfl⟩
          have wsum : IntKind.i64.wrap ((nb : Int) + (nh : Int)) = (t.size : Int) := by
            have h1 := HL.out; have h2 := HNB.out; have h3 := HT.out
            rw [show ((nb : Int) + (nh : Int)) = (t.size : Int) by omega]
            exact i64in _ (by omega) (by omega)
          have CH : Hid (∀ W, Below W0.heap.size W0 W → Calls Try.prog 19 #[.pointer (some ⟨w.heap.size, 0, none⟩)] W fun e w' => e = .returned (.int .i64 (nh : Int)) ∧ Below W0.heap.size W0 w') := fun W hb => by
            refine (ses_held (hS0.kept hb)).mono ?_
            rintro e w' ⟨rfl, _, hb'⟩
            exact ⟨by rw [hR0, hnh], hb.trans (hb'.mono hb.size)⟩
          have CWK : Hid (∀ W, Below W0.heap.size W0 W → Calls Try.prog 13 #[] W fun e w' => e = .returned (.bool true) ∧ Below W0.heap.size W0 w') := fun W hb => by
            refine (works_any W (Nat.lt_of_lt_of_le HP.out (Nat.le_trans hS0.below.size hb.size))).mono ?_
            rintro e w' ⟨rfl, hb'⟩
            exact ⟨rfl, hb.trans (hb'.mono hb.size)⟩
          have HBW := hid hS0.below
          have z0 : Below W0.heap.size W0 W0.drew := (Below.refl _ _).drew
          clear hS0 hR0 hy0 hsb hnh SX OX EX HL HNB
          go_wp2_with (fail)
          refine wp_region_noPanic ?_
          refine wp_region_held_drew (S := Below W0.heap.size W0) (by kernel_rfl) (z0) (fun hS => ?_)
          refine wpAnyH_take (i := 0) (v := ?_) (by simp only [List.getElem?_toArray, List.getElem?_cons_zero]; rfl) (by kernel_rfl) (by kernel_rfl) (by kernel_rfl) (fun _ _ _ h => h) (Or.inl ⟨by rfl, ?_⟩) (by assumption) ?_
          rotate_left 1
          · intro w hSw
            go_simp
            with_reducible rfl
          simp only [Act.put, List.setIfInBounds_toArray, List.set_cons_zero, List.set_cons_succ]
          refine wpAnyH_take (i := 1) (v := ?_) (by simp only [List.getElem?_toArray, List.getElem?_cons_zero, List.getElem?_cons_succ]; rfl) (by kernel_rfl) (by kernel_rfl) (by kernel_rfl) (fun _ _ _ h => h) (Or.inl ⟨by rfl, ?_⟩) (by assumption) ?_
          rotate_left 1
          · intro w hSw
            go_simp
            with_reducible rfl
          simp only [Act.put, List.setIfInBounds_toArray, List.set_cons_zero, List.set_cons_succ]
          refine wpAnyH_take (i := 2) (v := ?_) (by simp only [List.getElem?_toArray, List.getElem?_cons_zero, List.getElem?_cons_succ]; rfl) (by kernel_rfl) (by kernel_rfl) (by kernel_rfl) (fun _ _ _ h => h) (Or.inl ⟨by rfl, ?_⟩) (by assumption) ?_
          rotate_left 1
          · intro w hSw
            go_simp
            with_reducible rfl
          simp only [Act.put, List.setIfInBounds_toArray, List.set_cons_zero, List.set_cons_succ]
          refine wpAnyH_take (i := 5) (v := ?_) (by simp only [List.getElem?_toArray, List.getElem?_cons_zero, List.getElem?_cons_succ]; rfl) (by kernel_rfl) (by kernel_rfl) (by kernel_rfl) (fun _ _ _ h => h) (Or.inl ⟨by rfl, ?_⟩) (by assumption) ?_
          rotate_left 1
          · intro w hSw
            go_simp
            with_reducible rfl
          simp only [Act.put, List.setIfInBounds_toArray, List.set_cons_zero, List.set_cons_succ]
          refine wpAnyH_take (i := 6) (v := ?_) (by simp only [List.getElem?_toArray, List.getElem?_cons_zero, List.getElem?_cons_succ]; rfl) (by kernel_rfl) (by kernel_rfl) (by kernel_rfl) (fun _ _ _ h => h) (Or.inl ⟨by rfl, ?_⟩) (by assumption) ?_
          rotate_left 1
          · intro w hSw
            go_simp
            with_reducible rfl
          simp only [Act.put, List.setIfInBounds_toArray, List.set_cons_zero, List.set_cons_succ]
          refine wpAnyH_ready (rs := [3]) (by kernel_rfl) (by simp) ?_
          refine AllReadyH.cons (by simp only [List.getElem?_toArray, List.getElem?_cons_zero, List.getElem?_cons_succ]; rfl) (fun K hK => ?_) (AllReadyH.nil)
          go_simp
          refine (CH.out _ z0).mono ?_
          rintro e9 y9 ⟨rfl, hb9⟩
          have hz1 := hb9
          refine hK.out _ _ hz1 (fun hS => ?_)
          clear hK K hS
          refine wpAnyH_take (i := 4) (v := ?_) (by simp only [List.getElem?_toArray, List.getElem?_cons_zero, List.getElem?_cons_succ]; rfl) (by kernel_rfl) (by kernel_rfl) (by kernel_rfl) (fun _ _ _ h => h) (Or.inl ⟨by rfl, ?_⟩) (by assumption) ?_
          rotate_left 1
          · intro w hSw
            go_simp
            with_reducible rfl
          simp only [Act.put, List.setIfInBounds_toArray, List.set_cons_zero, List.set_cons_succ]
          refine wpAnyH_take (i := 7) (v := ?_) (by simp only [List.getElem?_toArray, List.getElem?_cons_zero, List.getElem?_cons_succ]; rfl) (by kernel_rfl) (by kernel_rfl) (by kernel_rfl) (fun _ _ _ h => h) (Or.inl ⟨by rfl, ?_⟩) (by assumption) ?_
          rotate_left 1
          · intro w hSw
            go_simp
            with_reducible rfl
          simp only [Act.put, List.setIfInBounds_toArray, List.set_cons_zero, List.set_cons_succ]
          refine wpAnyH_take (i := 8) (v := ?_) (by simp only [List.getElem?_toArray, List.getElem?_cons_zero, List.getElem?_cons_succ]; rfl) (by kernel_rfl) (by kernel_rfl) (by kernel_rfl) (fun _ _ _ h => h) (Or.inl ⟨by rfl, ?_⟩) (by assumption) ?_
          rotate_left 1
          · intro w hSw
            go_simp
            with_reducible rfl
          simp only [Act.put, List.setIfInBounds_toArray, List.set_cons_zero, List.set_cons_succ]
          refine wpAnyH_take (i := 9) (v := ?_) (by simp only [List.getElem?_toArray, List.getElem?_cons_zero, List.getElem?_cons_succ]; rfl) (by kernel_rfl) (by kernel_rfl) (by kernel_rfl) (fun _ _ _ h => h) (Or.inl ⟨by rfl, ?_⟩) (by assumption) ?_
          rotate_left 1
          · intro w hSw
            go_simp
            with_reducible rfl
          simp only [Act.put, List.setIfInBounds_toArray, List.set_cons_zero, List.set_cons_succ]
          refine wpAnyH_take (i := 10) (v := ?_) (by simp only [List.getElem?_toArray, List.getElem?_cons_zero, List.getElem?_cons_succ]; rfl) (by kernel_rfl) (by kernel_rfl) (by kernel_rfl) (fun _ _ _ h => h) (Or.inl ⟨by rfl, ?_⟩) (by assumption) ?_
          rotate_left 1
          · intro w hSw
            have q := conv_list (Y0.out.kept hSw (Nat.le_refl _)) EB.out
            go_simp
            with_reducible rfl
          simp only [Act.put, List.setIfInBounds_toArray, List.set_cons_zero, List.set_cons_succ]
          refine wpAnyH_take (i := 11) (v := ?_) (by simp only [List.getElem?_toArray, List.getElem?_cons_zero, List.getElem?_cons_succ]; rfl) (by kernel_rfl) (by kernel_rfl) (by kernel_rfl) (fun _ _ _ h => h) (Or.inl ⟨by rfl, ?_⟩) (by assumption) ?_
          rotate_left 1
          · intro w hSw
            go_simp
            with_reducible rfl
          simp only [Act.put, List.setIfInBounds_toArray, List.set_cons_zero, List.set_cons_succ]
          refine wpAnyH_take (i := 12) (v := ?_) (by simp only [List.getElem?_toArray, List.getElem?_cons_zero, List.getElem?_cons_succ]; rfl) (by kernel_rfl) (by kernel_rfl) (by kernel_rfl) (fun _ _ _ h => h) (Or.inl ⟨by rfl, ?_⟩) (by assumption) ?_
          rotate_left 1
          · intro w hSw
            go_simp
            with_reducible rfl
          simp only [Act.put, List.setIfInBounds_toArray, List.set_cons_zero, List.set_cons_succ]
          refine wpAnyH_take (i := 13) (v := ?_) (by simp only [List.getElem?_toArray, List.getElem?_cons_zero, List.getElem?_cons_succ]; rfl) (by kernel_rfl) (by kernel_rfl) (by kernel_rfl) (fun _ _ _ h => h) (Or.inl ⟨by rfl, ?_⟩) (by assumption) ?_
          rotate_left 1
          · intro w hSw
            go_simp
            with_reducible rfl
          simp only [Act.put, List.setIfInBounds_toArray, List.set_cons_zero, List.set_cons_succ]
          refine wpAnyH_take (i := 14) (v := ?_) (by simp only [List.getElem?_toArray, List.getElem?_cons_zero, List.getElem?_cons_succ]; rfl) (by kernel_rfl) (by kernel_rfl) (by kernel_rfl) (fun _ _ _ h => h) (Or.inl ⟨by rfl, ?_⟩) (by assumption) ?_
          rotate_left 1
          · intro w hSw
            go_simp
            with_reducible rfl
          simp only [Act.put, List.setIfInBounds_toArray, List.set_cons_zero, List.set_cons_succ]
          refine wpAnyH_take (i := 15) (v := ?_) (by simp only [List.getElem?_toArray, List.getElem?_cons_zero, List.getElem?_cons_succ]; rfl) (by kernel_rfl) (by kernel_rfl) (by kernel_rfl) (fun _ _ _ h => h) (Or.inl ⟨by rfl, ?_⟩) (by assumption) ?_
          rotate_left 1
          · intro w hSw
            go_simp
            with_reducible rfl
          simp only [Act.put, List.setIfInBounds_toArray, List.set_cons_zero, List.set_cons_succ]
          refine wpAnyH_take (i := 16) (v := ?_) (by simp only [List.getElem?_toArray, List.getElem?_cons_zero, List.getElem?_cons_succ]; rfl) (by kernel_rfl) (by kernel_rfl) (by kernel_rfl) (fun _ _ _ h => h) (Or.inl ⟨by rfl, ?_⟩) (by assumption) ?_
          rotate_left 1
          · intro w hSw
            go_simp
            with_reducible rfl
          simp only [Act.put, List.setIfInBounds_toArray, List.set_cons_zero, List.set_cons_succ]
          refine wpAnyH_take (i := 17) (v := ?_) (by simp only [List.getElem?_toArray, List.getElem?_cons_zero, List.getElem?_cons_succ]; rfl) (by kernel_rfl) (by kernel_rfl) (by kernel_rfl) (fun _ _ _ h => h) (Or.inl ⟨by rfl, ?_⟩) (by assumption) ?_
          rotate_left 1
          · intro w hSw
            go_simp
            with_reducible rfl
          simp only [Act.put, List.setIfInBounds_toArray, List.set_cons_zero, List.set_cons_succ]
          refine wpAnyH_ready (rs := [18]) (by kernel_rfl) (by simp) ?_
          refine AllReadyH.cons (by simp only [List.getElem?_toArray, List.getElem?_cons_zero, List.getElem?_cons_succ]; rfl) (fun K hK => ?_) (AllReadyH.nil)
          go_simp
          refine (CWK.out _ hb9).mono ?_
          rintro e8 y8 ⟨rfl, hb8⟩
          have hz2 := hb8
          refine hK.out _ _ hz2 (fun hS => ?_)
          clear hK K hS
          refine wpAnyH_take (i := 19) (v := ?_) (by simp only [List.getElem?_toArray, List.getElem?_cons_zero, List.getElem?_cons_succ]; rfl) (by kernel_rfl) (by kernel_rfl) (by kernel_rfl) (fun _ _ _ h => h) (Or.inl ⟨by rfl, ?_⟩) (by assumption) ?_
          rotate_left 1
          · intro w hSw
            go_simp
            with_reducible rfl
          simp only [Act.put, List.setIfInBounds_toArray, List.set_cons_zero, List.set_cons_succ]
          refine wpAnyH_take (i := 20) (v := ?_) (by simp only [List.getElem?_toArray, List.getElem?_cons_zero, List.getElem?_cons_succ]; rfl) (by kernel_rfl) (by kernel_rfl) (by kernel_rfl) (fun _ _ _ h => h) (Or.inl ⟨by rfl, ?_⟩) (by assumption) ?_
          rotate_left 1
          · intro w hSw
            go_simp
            with_reducible rfl
          simp only [Act.put, List.setIfInBounds_toArray, List.set_cons_zero, List.set_cons_succ]
          refine wpAnyH_done (by kernel_rfl) ?_ _
          refine NoPanic.normal ?_
          go_wp2
          go_ret
          exact ⟨rfl, HBW.out.trans (hb8.mono HBW.out.size)⟩
        · obtain ⟨hfr, hok, hbl⟩ := out_back hO
          have CX := hid (ses_one HA.out.1 hO)
          have HA2 := hid HA.out.2
          have HF : Hid (h = frL k body ++ rest ∧ okKind k ∧ body.length ≤ 16384) := ⟨hfr, hok, hbl⟩
          clear hO HA hfr hok hbl
          go_wp2_with (fail)
          refine CX.out.mono ?_
          rintro e3 w3 ⟨v3, A3, c3, b3, rfl, hy3, hb3, h3, hg3⟩
          have ey := hy3.form
          obtain ⟨m3, hm3⟩ : ∃ m, body.length = m := ⟨_, rfl⟩
          rw [hm3] at ey
          subst ey
          have S3 := hid h3
          have O3 : Hid (Own w w3 (.slice A nb c) bs w.heap.size o) := HA2.out.1.chg (Chg.of_grw hg3) (.inl rfl)
          have CP : Hid (Calls Try.prog 11 #[.int .i64 (b8 k), .slice A3 m3 c3] w3 fun e w' => ∃ v', e = .returned (.tuple #[v', .int .i64 0]) ∧ Fresh w3.heap.size w' v' (frL k body) ∧ Below w3.heap.size w3 w') := by
            have := fput_any (b8 k) _ body _ _ _ _ w3 hy3
            rw [(put_back k body HF.out.2.1 HF.out.2.2).1, (put_back k body HF.out.2.1 HF.out.2.2).2] at this
            exact this
          have HP3 : Hid (0 < w3.heap.size) := Nat.lt_of_lt_of_le HP.out S3.out.below.size
          clear hy3 hb3 h3 hg3 hm3 CX
          go_wp2_with (fail)
          refine CP.out.mono ?_
          rintro e4 w4 ⟨v4, rfl, hf4, hb4⟩
          obtain ⟨A4, c4, b4, hy4, _, _⟩ := hf4.bytes (Nat.lt_of_lt_of_le HP3.out hb4.size)
          have ey4 := hy4.form
          obtain ⟨m4, hm4⟩ : ∃ m, (frL k body).length = m := ⟨_, rfl⟩
          rw [hm4] at ey4
          subst ey4
          have Y4 := hid hy4
          have S4 := hid (S3.out.kept hb4)
          have O4 : Hid (Own w w4 (.slice A nb c) bs w.heap.size o) := O3.out.chg (Chg.of_below hb4) (.inl rfl)
          have HN4 : Hid (bs.length + (frL k body).length ≤ 1000000) := by
            show _ ≤ _
            have h1 := HL.out
            have h2 := congrArg List.length HF.out.1
            rw [List.length_append] at h2
            have h3 := HT.out
            omega
          clear hf4 hb4 hy4 hm4 CP S3 O3
          have hj1 : (j : Int) + 1 = ((j + 1 : Nat) : Int) := by omega
          clear hj1
          go_wp2_with (at_builtin; refine wpList_append_run (by rfl) _ _ 22 22 (by rfl) ?_
                       obtain ⟨v5, w5, hr5, ho5, hg5⟩ := O4.out.append S4.out.below.size S4.out.rd.inside (fun k hk => S4.out.rd.row hk) Y4.out HN4.out
                       refine ⟨v5, w5, hr5, ?_⟩
                       have S5 := hid (S4.out.own O4.out hg5)
                       have O5 := hid ho5
                       clear hr5 ho5 hg5)
          go_roundw
          case rel => exact ⟨j + 1, o, bs ++ frL k body, rest, by omega, by go_num, S5.out, O5.out, by rw [List.append_assoc, ← HF.out.1]; exact HA2.out.2⟩
          case measure => simp [intOf]; omega
      · have SX : Hid (∃ (R : RS) (o : Option Nat), R.2 = h ∧ Ses w wr w.heap.size R o) := ⟨_, _, rfl, HA.out.1⟩
        have OX : Hid (Own w wr (.slice A nb c) bs w.heap.size o) := HA.out.2.1
        have EX : Hid (bs ++ h = tl t) := HA.out.2.2
        obtain ⟨W0, hW0⟩ : ∃ W0, W0 = wr := ⟨_, rfl⟩
        subst hW0
        have gj : ¬ (j : Int) < 1100 := by omega
        clear HA hlt hj
        obtain ⟨R0, o0, hR0, hS0⟩ := SX.out
        obtain ⟨A0, c0, b0, hy0⟩ := OX.out.bytes (Nat.lt_of_lt_of_le HP.out hS0.below.size)
        have ea : A0 = A ∧ c0 = c := by have := hy0.form; injection this with e1 _ e2; exact ⟨e1.symm, e2.symm⟩
        obtain ⟨rfl, rfl⟩ := ea
        have Y0 := hid hy0
        obtain ⟨sb, hsb⟩ : ∃ sb : ByteArray, ba bs = sb := ⟨_, rfl⟩
        have EB := hid hsb
        have esb : t.extract 0 nb = sb := by
          rw [ba_take, ← EX.out, ← hsb, ← HNB.out, List.take_left' rfl]
        have hnt : (nb : Int) ≤ (t.size : Int) := by have := HL.out; have := HNB.out; omega
        obtain ⟨nh, hnh⟩ : ∃ nh, h.length = nh := ⟨_, rfl⟩
        have wsum : IntKind.i64.wrap ((nb : Int) + (nh : Int)) = (t.size : Int) := by
          have h1 := HL.out; have h2 := HNB.out; have h3 := HT.out
          rw [show ((nb : Int) + (nh : Int)) = (t.size : Int) by omega]
          exact i64in _ (by omega) (by omega)
        have CH : Hid (∀ W, Below W0.heap.size W0 W → Calls Try.prog 19 #[.pointer (some ⟨w.heap.size, 0, none⟩)] W fun e w' => e = .returned (.int .i64 (nh : Int)) ∧ Below W0.heap.size W0 w') := fun W hb => by
          refine (ses_held (hS0.kept hb)).mono ?_
          rintro e w' ⟨rfl, _, hb'⟩
          exact ⟨by rw [hR0, hnh], hb.trans (hb'.mono hb.size)⟩
        have CWK : Hid (∀ W, Below W0.heap.size W0 W → Calls Try.prog 13 #[] W fun e w' => e = .returned (.bool true) ∧ Below W0.heap.size W0 w') := fun W hb => by
          refine (works_any W (Nat.lt_of_lt_of_le HP.out (Nat.le_trans hS0.below.size hb.size))).mono ?_
          rintro e w' ⟨rfl, hb'⟩
          exact ⟨rfl, hb.trans (hb'.mono hb.size)⟩
        have HBW := hid hS0.below
        have z0 : Below W0.heap.size W0 W0.drew := (Below.refl _ _).drew
        clear hS0 hR0 hy0 hsb hnh SX OX EX HL HNB
        go_wp2_with (fail)
        refine wp_region_noPanic ?_
        refine wp_region_held_drew (S := Below W0.heap.size W0) (by kernel_rfl) (z0) (fun hS => ?_)
        refine wpAnyH_take (i := 0) (v := ?_) (by simp only [List.getElem?_toArray, List.getElem?_cons_zero]; rfl) (by kernel_rfl) (by kernel_rfl) (by kernel_rfl) (fun _ _ _ h => h) (Or.inl ⟨by rfl, ?_⟩) (by assumption) ?_
        rotate_left 1
        · intro w hSw
          go_simp
          with_reducible rfl
        simp only [Act.put, List.setIfInBounds_toArray, List.set_cons_zero, List.set_cons_succ]
        refine wpAnyH_take (i := 1) (v := ?_) (by simp only [List.getElem?_toArray, List.getElem?_cons_zero, List.getElem?_cons_succ]; rfl) (by kernel_rfl) (by kernel_rfl) (by kernel_rfl) (fun _ _ _ h => h) (Or.inl ⟨by rfl, ?_⟩) (by assumption) ?_
        rotate_left 1
        · intro w hSw
          go_simp
          with_reducible rfl
        simp only [Act.put, List.setIfInBounds_toArray, List.set_cons_zero, List.set_cons_succ]
        refine wpAnyH_take (i := 2) (v := ?_) (by simp only [List.getElem?_toArray, List.getElem?_cons_zero, List.getElem?_cons_succ]; rfl) (by kernel_rfl) (by kernel_rfl) (by kernel_rfl) (fun _ _ _ h => h) (Or.inl ⟨by rfl, ?_⟩) (by assumption) ?_
        rotate_left 1
        · intro w hSw
          go_simp
          with_reducible rfl
        simp only [Act.put, List.setIfInBounds_toArray, List.set_cons_zero, List.set_cons_succ]
        refine wpAnyH_take (i := 5) (v := ?_) (by simp only [List.getElem?_toArray, List.getElem?_cons_zero, List.getElem?_cons_succ]; rfl) (by kernel_rfl) (by kernel_rfl) (by kernel_rfl) (fun _ _ _ h => h) (Or.inl ⟨by rfl, ?_⟩) (by assumption) ?_
        rotate_left 1
        · intro w hSw
          go_simp
          with_reducible rfl
        simp only [Act.put, List.setIfInBounds_toArray, List.set_cons_zero, List.set_cons_succ]
        refine wpAnyH_take (i := 6) (v := ?_) (by simp only [List.getElem?_toArray, List.getElem?_cons_zero, List.getElem?_cons_succ]; rfl) (by kernel_rfl) (by kernel_rfl) (by kernel_rfl) (fun _ _ _ h => h) (Or.inl ⟨by rfl, ?_⟩) (by assumption) ?_
        rotate_left 1
        · intro w hSw
          go_simp
          with_reducible rfl
        simp only [Act.put, List.setIfInBounds_toArray, List.set_cons_zero, List.set_cons_succ]
        refine wpAnyH_ready (rs := [3]) (by kernel_rfl) (by simp) ?_
        refine AllReadyH.cons (by simp only [List.getElem?_toArray, List.getElem?_cons_zero, List.getElem?_cons_succ]; rfl) (fun K hK => ?_) (AllReadyH.nil)
        go_simp
        refine (CH.out _ z0).mono ?_
        rintro e9 y9 ⟨rfl, hb9⟩
        have hz1 := hb9
        refine hK.out _ _ hz1 (fun hS => ?_)
        clear hK K hS
        refine wpAnyH_take (i := 4) (v := ?_) (by simp only [List.getElem?_toArray, List.getElem?_cons_zero, List.getElem?_cons_succ]; rfl) (by kernel_rfl) (by kernel_rfl) (by kernel_rfl) (fun _ _ _ h => h) (Or.inl ⟨by rfl, ?_⟩) (by assumption) ?_
        rotate_left 1
        · intro w hSw
          go_simp
          with_reducible rfl
        simp only [Act.put, List.setIfInBounds_toArray, List.set_cons_zero, List.set_cons_succ]
        refine wpAnyH_take (i := 7) (v := ?_) (by simp only [List.getElem?_toArray, List.getElem?_cons_zero, List.getElem?_cons_succ]; rfl) (by kernel_rfl) (by kernel_rfl) (by kernel_rfl) (fun _ _ _ h => h) (Or.inl ⟨by rfl, ?_⟩) (by assumption) ?_
        rotate_left 1
        · intro w hSw
          go_simp
          with_reducible rfl
        simp only [Act.put, List.setIfInBounds_toArray, List.set_cons_zero, List.set_cons_succ]
        refine wpAnyH_take (i := 8) (v := ?_) (by simp only [List.getElem?_toArray, List.getElem?_cons_zero, List.getElem?_cons_succ]; rfl) (by kernel_rfl) (by kernel_rfl) (by kernel_rfl) (fun _ _ _ h => h) (Or.inl ⟨by rfl, ?_⟩) (by assumption) ?_
        rotate_left 1
        · intro w hSw
          go_simp
          with_reducible rfl
        simp only [Act.put, List.setIfInBounds_toArray, List.set_cons_zero, List.set_cons_succ]
        refine wpAnyH_take (i := 9) (v := ?_) (by simp only [List.getElem?_toArray, List.getElem?_cons_zero, List.getElem?_cons_succ]; rfl) (by kernel_rfl) (by kernel_rfl) (by kernel_rfl) (fun _ _ _ h => h) (Or.inl ⟨by rfl, ?_⟩) (by assumption) ?_
        rotate_left 1
        · intro w hSw
          go_simp
          with_reducible rfl
        simp only [Act.put, List.setIfInBounds_toArray, List.set_cons_zero, List.set_cons_succ]
        refine wpAnyH_take (i := 10) (v := ?_) (by simp only [List.getElem?_toArray, List.getElem?_cons_zero, List.getElem?_cons_succ]; rfl) (by kernel_rfl) (by kernel_rfl) (by kernel_rfl) (fun _ _ _ h => h) (Or.inl ⟨by rfl, ?_⟩) (by assumption) ?_
        rotate_left 1
        · intro w hSw
          have q := conv_list (Y0.out.kept hSw (Nat.le_refl _)) EB.out
          go_simp
          with_reducible rfl
        simp only [Act.put, List.setIfInBounds_toArray, List.set_cons_zero, List.set_cons_succ]
        refine wpAnyH_take (i := 11) (v := ?_) (by simp only [List.getElem?_toArray, List.getElem?_cons_zero, List.getElem?_cons_succ]; rfl) (by kernel_rfl) (by kernel_rfl) (by kernel_rfl) (fun _ _ _ h => h) (Or.inl ⟨by rfl, ?_⟩) (by assumption) ?_
        rotate_left 1
        · intro w hSw
          go_simp
          with_reducible rfl
        simp only [Act.put, List.setIfInBounds_toArray, List.set_cons_zero, List.set_cons_succ]
        refine wpAnyH_take (i := 12) (v := ?_) (by simp only [List.getElem?_toArray, List.getElem?_cons_zero, List.getElem?_cons_succ]; rfl) (by kernel_rfl) (by kernel_rfl) (by kernel_rfl) (fun _ _ _ h => h) (Or.inl ⟨by rfl, ?_⟩) (by assumption) ?_
        rotate_left 1
        · intro w hSw
          go_simp
          with_reducible rfl
        simp only [Act.put, List.setIfInBounds_toArray, List.set_cons_zero, List.set_cons_succ]
        refine wpAnyH_take (i := 13) (v := ?_) (by simp only [List.getElem?_toArray, List.getElem?_cons_zero, List.getElem?_cons_succ]; rfl) (by kernel_rfl) (by kernel_rfl) (by kernel_rfl) (fun _ _ _ h => h) (Or.inl ⟨by rfl, ?_⟩) (by assumption) ?_
        rotate_left 1
        · intro w hSw
          go_simp
          with_reducible rfl
        simp only [Act.put, List.setIfInBounds_toArray, List.set_cons_zero, List.set_cons_succ]
        refine wpAnyH_take (i := 14) (v := ?_) (by simp only [List.getElem?_toArray, List.getElem?_cons_zero, List.getElem?_cons_succ]; rfl) (by kernel_rfl) (by kernel_rfl) (by kernel_rfl) (fun _ _ _ h => h) (Or.inl ⟨by rfl, ?_⟩) (by assumption) ?_
        rotate_left 1
        · intro w hSw
          go_simp
          with_reducible rfl
        simp only [Act.put, List.setIfInBounds_toArray, List.set_cons_zero, List.set_cons_succ]
        refine wpAnyH_take (i := 15) (v := ?_) (by simp only [List.getElem?_toArray, List.getElem?_cons_zero, List.getElem?_cons_succ]; rfl) (by kernel_rfl) (by kernel_rfl) (by kernel_rfl) (fun _ _ _ h => h) (Or.inl ⟨by rfl, ?_⟩) (by assumption) ?_
        rotate_left 1
        · intro w hSw
          go_simp
          with_reducible rfl
        simp only [Act.put, List.setIfInBounds_toArray, List.set_cons_zero, List.set_cons_succ]
        refine wpAnyH_take (i := 16) (v := ?_) (by simp only [List.getElem?_toArray, List.getElem?_cons_zero, List.getElem?_cons_succ]; rfl) (by kernel_rfl) (by kernel_rfl) (by kernel_rfl) (fun _ _ _ h => h) (Or.inl ⟨by rfl, ?_⟩) (by assumption) ?_
        rotate_left 1
        · intro w hSw
          go_simp
          with_reducible rfl
        simp only [Act.put, List.setIfInBounds_toArray, List.set_cons_zero, List.set_cons_succ]
        refine wpAnyH_take (i := 17) (v := ?_) (by simp only [List.getElem?_toArray, List.getElem?_cons_zero, List.getElem?_cons_succ]; rfl) (by kernel_rfl) (by kernel_rfl) (by kernel_rfl) (fun _ _ _ h => h) (Or.inl ⟨by rfl, ?_⟩) (by assumption) ?_
        rotate_left 1
        · intro w hSw
          go_simp
          with_reducible rfl
        simp only [Act.put, List.setIfInBounds_toArray, List.set_cons_zero, List.set_cons_succ]
        refine wpAnyH_ready (rs := [18]) (by kernel_rfl) (by simp) ?_
        refine AllReadyH.cons (by simp only [List.getElem?_toArray, List.getElem?_cons_zero, List.getElem?_cons_succ]; rfl) (fun K hK => ?_) (AllReadyH.nil)
        go_simp
        refine (CWK.out _ hb9).mono ?_
        rintro e8 y8 ⟨rfl, hb8⟩
        have hz2 := hb8
        refine hK.out _ _ hz2 (fun hS => ?_)
        clear hK K hS
        refine wpAnyH_take (i := 19) (v := ?_) (by simp only [List.getElem?_toArray, List.getElem?_cons_zero, List.getElem?_cons_succ]; rfl) (by kernel_rfl) (by kernel_rfl) (by kernel_rfl) (fun _ _ _ h => h) (Or.inl ⟨by rfl, ?_⟩) (by assumption) ?_
        rotate_left 1
        · intro w hSw
          go_simp
          with_reducible rfl
        simp only [Act.put, List.setIfInBounds_toArray, List.set_cons_zero, List.set_cons_succ]
        refine wpAnyH_take (i := 20) (v := ?_) (by simp only [List.getElem?_toArray, List.getElem?_cons_zero, List.getElem?_cons_succ]; rfl) (by kernel_rfl) (by kernel_rfl) (by kernel_rfl) (fun _ _ _ h => h) (Or.inl ⟨by rfl, ?_⟩) (by assumption) ?_
        rotate_left 1
        · intro w hSw
          go_simp
          with_reducible rfl
        simp only [Act.put, List.setIfInBounds_toArray, List.set_cons_zero, List.set_cons_succ]
        refine wpAnyH_done (by kernel_rfl) ?_ _
        refine NoPanic.normal ?_
        go_wp2
        go_ret
        exact ⟨rfl, HBW.out.trans (hb8.mono HBW.out.size)⟩
end Go.Proofs.Ytakgbopkkechgaa
