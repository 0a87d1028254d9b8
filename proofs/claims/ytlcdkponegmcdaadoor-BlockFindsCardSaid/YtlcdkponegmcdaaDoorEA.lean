/- The laws' finder of two files. Conditions: the listed table. -/
import Derived.Test.YtlcdkponegmcdaaDoorDZ
namespace Go.Proofs.YtlcdkponegmcdaaDoor
open Go.RowKit Go.Maps
abbrev x16 : By := [120, 120, 120, 120, 120, 120, 120, 120, 120, 120, 120, 120, 120, 120, 120, 120]
abbrev y16 : By := [121, 121, 121, 121, 121, 121, 121, 121, 121, 121, 121, 121, 121, 121, 121, 121]
noncomputable def F2 : By → Option By := putF (putF (fun _ => none) [98] x16) [97] (y16 ++ x16)
noncomputable def P2 : By → List Pl := addP (putF (fun _ => none) [98] x16) (addP (fun _ => none) (fun _ => []) [98] x16) [97] (y16 ++ x16)
theorem rep_two : Rep F2 P2 := rep_put (rep_put rep_none _ _) _ _
set_option maxRecDepth 1000000 in
theorem dg_xy : dg x16 ≠ dg y16 := by unfold dg; decide +kernel
theorem hashes_x : hashes x16 = [dg x16] := by rfl
theorem hashes_yx : hashes (y16 ++ x16) = [dg y16, dg x16] := by rfl
theorem head_of {F : By → Option By} {P : By → List Pl} (h : Rep F P) (d t : By) (i : Nat) (hm : (t, i) ∈ P d) (hl : ∀ n j, (n, j) ∈ P d → n = t ∨ cb t n < 0) : ∃ ps, P d = (t, i) :: ps := by
  have hs := h.srt d
  generalize P d = ps at hm hl hs
  cases ps with
  | nil => cases hm
  | cons p ps =>
    obtain ⟨h1, h2⟩ := List.pairwise_cons.1 hs
    rcases List.mem_cons.1 hm with e | e
    · exact ⟨ps, by rw [e]⟩
    · have h3 : cb p.1 t < 0 := h1 _ e
      rcases hl p.1 p.2 (by simp) with h4 | h4
      · rw [h4, cb_self] at h3; omega
      · have := cb_swap t p.1; omega
theorem F2_a : F2 [97] = some (y16 ++ x16) := by unfold F2 putF; simp
theorem F2_b : F2 [98] = some x16 := by unfold F2 putF; simp
theorem F2_other {n ys : By} (h : F2 n = some ys) : n = [97] ∨ n = [98] := by
  unfold F2 putF at h
  by_cases a : n = [97]
  · exact .inl a
  · by_cases b : n = [98]
    · exact .inr b
    · simp [a, b] at h
theorem P2_x : ∃ ps, P2 (dg x16) = ([97], 1) :: ps := by
  refine head_of rep_two _ _ _ ((rep_two.mem _ _ _).2 ⟨_, F2_a, ?_⟩) (fun n j hm => ?_)
  · rw [hashes_yx]
    refine ⟨by simp, rfl, fun j hj => ?_⟩
    obtain rfl : j = 0 := by omega
    exact fun e => dg_xy e.symm
  · obtain ⟨ys, h1, _⟩ := (rep_two.mem _ _ _).1 hm
    rcases F2_other h1 with e | e
    · exact .inl e
    · exact .inr (by rw [e]; decide)
theorem rep_x (w : World) : Calls Tryd.prog 32 #[.string ⟨#[120]⟩, .int .i64 16] w fun e w' => e = .returned (.string (ba x16)) ∧ Below w.heap.size w w' := Tryd.strings_Repeat_main ⟨#[120]⟩ 16 w (by omega) (by omega) (by decide) (by decide)
theorem rep_y (w : World) : Calls Tryd.prog 32 #[.string ⟨#[121]⟩, .int .i64 16] w fun e w' => e = .returned (.string (ba y16)) ∧ Below w.heap.size w w' := Tryd.strings_Repeat_main ⟨#[121]⟩ 16 w (by omega) (by omega) (by decide) (by decide)
/-- The finder of two files stands. -/
def Two (own : Nat → Prop) (w : World) (p : Nat) : Prop := Fin own w p F2 P2 2 160
set_option maxRecDepth 100000 in
set_option maxHeartbeats 8000000 in
theorem two_any (w : World) (hT : Sha.Tab w) : Calls Tryd.prog 31 #[] w fun e w' => ∃ own p, e = .returned (.pointer (some ⟨p, 0, none⟩)) ∧ Two own w' p ∧ (∀ g, own g → w.heap.size ≤ g) ∧ Below w.heap.size w w' := by
  have HT := hid hT
  have HPOS := hid hT.pos
  obtain ⟨X, HX⟩ : ∃ X, Hid (ba x16 = X) := ⟨_, rfl⟩
  obtain ⟨Y, HY⟩ : ∃ Y, Hid (ba y16 = Y) := ⟨_, rfl⟩
  have CX := hid rep_x
  have CY := hid rep_y
  rw [HX.out] at CX
  rw [HY.out] at CY
  have HTX : Hid (tl X = x16) := by show _ = _; rw [← HX.out]; rfl
  have HTZ : Hid (tl (Y ++ X) = y16 ++ x16) := by show _ = _; rw [← HX.out, ← HY.out]; rfl
  have KC1 := conv_string X
  have KC2 := conv_string (Y ++ X)
  have s1 : (X.size : Int) ≤ 16 := by rw [← HX.out]; decide
  have s2 : (Y.size : Int) ≤ 16 := by rw [← HY.out]; decide
  have s3 : X.size ≤ 16 := by omega
  have s4 : Y.size ≤ 16 := by omega
  clear hT
  go_enter Tryd.func31, Tryd.ntmps31
  go_wp2_with (first
    | (go_at_call 22; refine (new_any _).mono ?_; rintro e1 w1 ⟨own, p, rfl, hf1, ho1, hb1⟩
       have FI1 := hid hf1
       have OW1 := hid ho1
       have B1 := hid hb1
       clear hf1 ho1 hb1)
    | fail)
  refine (CX.out _).mono ?_
  rintro e2 w2 ⟨rfl, hb2⟩
  go_wp2_with (fail)
  refine (CY.out _).mono ?_
  rintro e3 w3 ⟨rfl, hb3⟩
  have F3 := hid ((FI1.out.on hb2 (Nat.le_refl _)).on hb3 (Nat.le_refl _))
  have B3 : Hid (Below w.heap.size w w3) := (B1.out.trans (hb2.mono B1.out.size)).trans (hb3.mono (Nat.le_trans B1.out.size hb2.size))
  clear hb2 hb3
  have hbx := conv_below X w3
  have T4 : Hid (Sha.Tab (Lib.bytesWorld w3 5 X)) := (HT.out.kept B3.out HPOS.out).kept hbx (Nat.lt_of_lt_of_le HPOS.out B3.out.size)
  have F4 := hid (F3.out.on hbx (Nat.le_refl _))
  have O0 : Hid (¬ own 0) := fun e => by have := OW1.out 0 e; have := HPOS.out; omega
  have CA1 := hid (add_any F4.out T4.out O0.out [98] (by decide) _ (tl X) _ _ _ _ (conv_bytes X w3) (fun e => by have := F3.out.low _ e; omega) (by rw [HTX.out]; decide) (by omega))
  have B4 : Hid (Below w.heap.size w (Lib.bytesWorld w3 5 X)) := B3.out.trans (hbx.mono B3.out.size)
  rw [HTX.out] at CA1
  clear hbx
  go_wp2_with (fail)
  refine CA1.out.mono ?_
  rintro e5 w5 ⟨rfl, hp5⟩
  obtain ⟨own5, hf5, ht5, hs5, hn5⟩ := hp5
  have FI5 := hid hf5
  have OW5 : Hid (∀ g, own5 g → w.heap.size ≤ g) := fun g hg => by rcases hn5 g hg with h | h; exact OW1.out g h; exact Nat.le_trans B4.out.size h
  have B5 : Hid (Below w.heap.size w w5) := B4.out.trans (ht5.below (B := w.heap.size) (fun g hg => Nat.le_trans (Nat.le_refl _) (OW1.out g hg)) B4.out.size)
  clear hf5 ht5 hs5 hn5
  go_wp2_with (fail)
  have hbz := conv_below (Y ++ X) w5
  have T6 : Hid (Sha.Tab (Lib.bytesWorld w5 5 (Y ++ X))) := (HT.out.kept B5.out HPOS.out).kept hbz (Nat.lt_of_lt_of_le HPOS.out B5.out.size)
  have O05 : Hid (¬ own5 0) := fun e => by have := OW5.out 0 e; have := HPOS.out; omega
  have CA2 := add_any (FI5.out.on hbz (Nat.le_refl _)) T6.out O05.out [97] (by decide) _ (tl (Y ++ X)) _ _ _ _ (conv_bytes (Y ++ X) w5) (fun e => by have := FI5.out.low _ e; omega) (by rw [HTZ.out]; decide) (by omega)
  rw [HTZ.out, ByteArray.size_append] at CA2
  have B6 : Hid (Below w.heap.size w (Lib.bytesWorld w5 5 (Y ++ X))) := B5.out.trans (hbz.mono B5.out.size)
  clear hbz
  refine CA2.mono ?_
  rintro e7 w7 ⟨rfl, hp7⟩
  obtain ⟨own7, hf7, ht7, hs7, hn7⟩ := hp7
  have OW7 : Hid (∀ g, own7 g → w.heap.size ≤ g) := fun g hg => by rcases hn7 g hg with h | h; exact OW5.out g h; exact Nat.le_trans B6.out.size h
  have B7 : Hid (Below w.heap.size w w7) := B6.out.trans (ht7.below (B := w.heap.size) (fun g hg => OW5.out g hg) B6.out.size)
  have HTWO : Hid (Two own7 w7 p) := hf7
  clear hf7 ht7 hs7 hn7 CA2
  go_wp2_with (fail)
  go_ret
  exact ⟨own7, p, rfl, HTWO.out, OW7.out, B7.out⟩
end Go.Proofs.YtlcdkponegmcdaaDoor
