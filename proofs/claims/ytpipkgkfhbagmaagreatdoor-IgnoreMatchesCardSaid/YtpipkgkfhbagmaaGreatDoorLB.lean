/- strings.Trim of blanks and tabs, strings.Cut at a byte 10, strings.Clone: what each call does. Conditions: at most 4000 bytes; for Cut a world in shape. -/
import Derived.Test.YtpipkgkfhbagmaaGreatDoorLA
import Derived.Test.YtpipkgkfhbagmaaGreatDoorPF
namespace Go.Proofs.YtpipkgkfhbagmaaGreatDoor.Glob
open Go.RowKit
def blkSet : Array Value := Lib.setCells [32, 9]
theorem blkSet_at (x : UInt8) : blkSet[x.toNat]? = some (.bool (blk x)) := by
  unfold blkSet
  rw [Lib.setCells_at]
  have : ([32, 9] : By).contains x = blk x := by simp only [blk, List.contains, List.elem]; cases x == 32 <;> cases x == 9 <;> rfl
  rw [this]
theorem blkSet_size : blkSet.size = 256 := Lib.setCells_size _
theorem blkSet_one : blkSet.all (·.oneCell') = true := Lib.setCells_one _
attribute [irreducible] blkSet
/-- Block g is the set of blanks. -/
def SetAt (w : World) (g : Nat) : Prop := ∀ x : UInt8, w.cell? ⟨g, x.toNat, none⟩ = some (.bool (blk x))
theorem SetAt.of {w : World} {g : Nat} (h : Has w g 95 blkSet) : SetAt w g := fun x => by rw [h.at_]; exact blkSet_at x
theorem setHas_any (g : Nat) (x : UInt8) (w : World) (h : SetAt w g) : Calls Tryz.prog 70 #[.pointer (some ⟨g, 0, none⟩), .int .u8 (b8 x)] w fun e w' => e = .returned (.bool (blk x)) ∧ w = w' :=
  (Tryz.asciiSet_contains g x (blk x) w (h x)).mono fun _ _ ⟨h1, h2⟩ => ⟨h1, h2.symm⟩
set_option maxRecDepth 100000 in
theorem trimL_any (s : By) (g : Nat) (w : World) (hs : s.length ≤ 100000) (hg : SetAt w g) :
    Calls Tryz.prog 54 #[.string (ba s), .pointer (some ⟨g, 0, none⟩)] w fun e w' => e = .returned (.string (ba (s.dropWhile blk))) ∧ w = w' := by
  have HG := hid hg
  clear hg
  go_enter Tryz.func54, Tryz.ntmps54
  go_wp2
  go_loopw [0] (fun s0 wr => ∃ t : By, s0 = .string (ba t) ∧ t.length ≤ 100000 ∧ Hid (s.dropWhile blk = t.dropWhile blk) ∧ w = wr)
    (fun s0 _ => match s0 with | .string x => x.size | _ => 0)
  case atStart => exact ⟨s, rfl, hs, rfl, rfl⟩
  case round =>
    obtain ⟨t, rfl, hl, HE, rfl⟩ := hrel
    have z := ba_size t
    cases t with
    | nil =>
      have g0 : ¬ ((0 : Int) < (([] : By).length : Int)) := by simp
      go_wp2
      go_ret
      exact ⟨by rw [HE.out]; rfl, rfl⟩
    | cons x u =>
      have g0 : (0 : Int) < ((x :: u).length : Int) := by simp only [List.length_cons]; omega
      have g1 : (1 : Int) ≤ ((x :: u).length : Int) := by simp only [List.length_cons]; omega
      have i0 : ∀ W, (Instr.index 9 (.string (ba (x :: u))) (.int .i64 0)).run Tryz.prog W = .ok (.int .u8 (b8 x)) W := idx0 (x :: u) (by simp)
      have zd : (ba (x :: u)).extract 1 (x :: u).length = ba u := ba_drop (x :: u) 1
      have HC := hid (setHas_any g x w HG.out)
      have HD : Hid ((x :: u).dropWhile blk = if blk x then u.dropWhile blk else x :: u) := by show _ = _; rw [List.dropWhile_cons]
      have HL : Hid (u.length ≤ 100000 ∧ u.length < (x :: u).length) := by simp only [List.length_cons] at hl ⊢; exact ⟨by omega, by omega⟩
      generalize blk x = b at HC HD
      generalize (x :: u).length = n at z g0 g1 zd HL
      generalize hX : ba (x :: u) = X at z i0 zd
      clear hl
      cases b with
      | false =>
        go_wp2_with (go_at_call 70; refine HC.out.mono ?_; rintro e1 w1 ⟨rfl, rfl⟩)
        go_ret
        refine ⟨?_, rfl⟩
        rw [HE.out, HD.out, if_neg (by decide), hX]; rfl
      | true =>
        go_wp2_with (go_at_call 70; refine HC.out.mono ?_; rintro e1 w1 ⟨rfl, rfl⟩)
        go_roundw
        case rel => exact ⟨u, rfl, HL.out.1, by show _ = _; rw [HE.out, HD.out]; rfl, trivial⟩
        case measure =>
          show (ba u).size < X.size
          rw [ba_size, z]; exact HL.out.2
theorem ba_mid (u : By) (x : UInt8) : (ba (u ++ [x])).extract 0 u.length = ba u := by rw [ba_take]; simp
theorem trimR_snoc (u : By) (x : UInt8) : trimR (u ++ [x]) = if blk x then trimR u else u ++ [x] := by
  unfold trimR
  rw [List.reverse_append, List.reverse_singleton, List.singleton_append, List.dropWhile_cons]
  split
  · rfl
  · simp
set_option maxRecDepth 100000 in
theorem trimR_any (s : By) (g : Nat) (w : World) (hs : s.length ≤ 100000) (hg : SetAt w g) :
    Calls Tryz.prog 55 #[.string (ba s), .pointer (some ⟨g, 0, none⟩)] w fun e w' => e = .returned (.string (ba (trimR s))) ∧ w = w' := by
  have HG := hid hg
  clear hg
  go_enter Tryz.func55, Tryz.ntmps55
  go_wp2
  go_loopw [0] (fun s0 wr => ∃ t : By, s0 = .string (ba t) ∧ t.length ≤ 100000 ∧ Hid (trimR s = trimR t) ∧ w = wr)
    (fun s0 _ => match s0 with | .string x => x.size | _ => 0)
  case atStart => exact ⟨s, rfl, hs, rfl, rfl⟩
  case round =>
    obtain ⟨t, rfl, hl, HE, rfl⟩ := hrel
    have z := ba_size t
    rcases List.eq_nil_or_concat t with rfl | ⟨u, x, rfl⟩
    · have g0 : ¬ ((0 : Int) < (([] : By).length : Int)) := by simp
      go_wp2
      go_ret
      exact ⟨by rw [HE.out]; rfl, rfl⟩
    · rw [List.concat_eq_append] at *
      have e0 : (u ++ [x]).length = u.length + 1 := by simp
      rw [e0] at z hl
      have i0 : ∀ W, (Instr.index 9 (.string (ba (u ++ [x]))) (.int .i64 (u.length : Int))).run Tryz.prog W = .ok (.int .u8 (b8 x)) W := fun W => by
        have := index_str (u ++ [x]) u.length (by simp) W
        rw [this]; simp [at8]
      have zd : (ba (u ++ [x])).extract 0 u.length = ba u := ba_mid u x
      have HC := hid (setHas_any g x w HG.out)
      have HD := hid (trimR_snoc u x)
      have zu := ba_size u
      generalize blk x = b at HC HD
      generalize hX : ba (u ++ [x]) = X at z i0 zd
      generalize hn : u.length = n at z hl zd zu i0
      have g0 : (0 : Int) < ((n + 1 : Nat) : Int) := by omega
      have g1 : ((n + 1 : Nat) : Int) - 1 = (n : Int) := by omega
      have HN := hid hl
      cases b with
      | false =>
        go_wp2_with (go_at_call 70; refine HC.out.mono ?_; rintro e1 w1 ⟨rfl, rfl⟩)
        go_ret
        refine ⟨?_, rfl⟩
        rw [HE.out, HD.out, if_neg (by decide), hX]; rfl
      | true =>
        go_wp2_with (go_at_call 70; refine HC.out.mono ?_; rintro e1 w1 ⟨rfl, rfl⟩)
        go_roundw
        case rel => exact ⟨u, rfl, by have := HN.out; omega, by show _ = _; rw [HE.out, HD.out]; rfl, trivial⟩
        case measure =>
          show (ba u).size < X.size
          rw [zu, z]; omega
theorem iSet : (Tryz.prog.info? 95).map (·.size) = some blkSet.size := by rw [blkSet_size]; kernel_rfl
theorem zeroSet : ∀ w, (zeroValue 95).run Tryz.prog w = .ok (.agg (Array.replicate 256 (.bool false))) w := fun w => by kernel_rfl
theorem mkSet_any (w : World) : Calls Tryz.prog 53 #[.string ⟨#[32, 9]⟩] w fun e w' => e = .returned (.tuple #[.agg blkSet, .bool true]) ∧ w' = w.alloc (.cells blkSet 95) := by
  have := Tryz.strings_makeASCIISet zeroSet ⟨#[32, 9]⟩ w (by decide) (fun j b h => by
    have h2 : ([32, 9] : By)[j]? = some b := h
    match j, h2 with
    | 0, h2 => simp at h2; subst h2; decide
    | 1, h2 => simp at h2; subst h2; decide
    | j + 2, h2 => simp at h2)
  unfold blkSet
  exact this
theorem zset_size : Tryz.zeroCells95.size = 256 := by kernel_rfl
set_option maxRecDepth 100000 in
theorem trim_any (s : By) (w : World) (hs : s.length ≤ 100000) :
    Calls Tryz.prog 31 #[.string (ba s), .string ⟨#[32, 9]⟩] w fun e w' => e = .returned (.string (ba (trimB s))) ∧ Below w.heap.size w w' := by
  have zs := toList_ba s
  by_cases h0 : s = []
  · subst h0
    go_enter Tryz.func31, Tryz.ntmps31
    go_wp2
    go_ret
    exact ⟨rfl, Below.refl _ _⟩
  · have hsne : ¬ ((ba s).toList = []) := by rw [zs]; exact h0
    have HSN := hid hsne
    clear hsne
    have HS := hid hs
    have HI := hid iSet
    have HZ := hid zset_size
    obtain ⟨W1, hW1⟩ : ∃ W1, w.alloc (.cells blkSet 95) = W1 := ⟨_, rfl⟩
    have B1 : Below w.heap.size w W1 := hW1 ▸ (Below.refl _ _).alloc (Nat.le_refl _) _
    have HM : Hid (Calls Tryz.prog 53 #[.string ⟨#[32, 9]⟩] w fun e w' => e = .returned (.tuple #[.agg blkSet, .bool true]) ∧ W1 = w') := (mkSet_any w).mono fun _ _ ⟨h1, h2⟩ => ⟨h1, by rw [h2, hW1]⟩
    have HB := hid B1
    clear hW1 B1 hs h0 zs
    generalize hT : blkSet = cs at HM HI
    go_enter Tryz.func31, Tryz.ntmps31
    go_wp2_with (first
      | (go_at_call 53; refine HM.out.mono ?_; rintro e1 w1 ⟨rfl, rfl⟩)
      | (refine wpList_store_row rfl 95 (.tmp 5) (.tmp 32) rfl W1.heap.size cs rfl rfl 95 Tryz.zeroCells95 (Has.fresh W1 95 Tryz.zeroCells95) HI.out (by rw [HZ.out, ← hT, blkSet_size]) (by rw [← hT]; exact blkSet_one) ?_
         generalize hG : World.setRow _ _ _ = W2
         have HA : Hid (SetAt W2 W1.heap.size ∧ Below w.heap.size w W2) := ⟨SetAt.of (by rw [← hG, hT]; exact (Has.fresh W1 95 Tryz.zeroCells95).row), by rw [← hG]; exact ((HB.out.alloc HB.out.size _).rowG HB.out.size _)⟩
         clear hG)
      | (go_at_call 55; refine (trimR_any s _ _ HS.out HA.out.1).mono ?_; rintro e2 w2 ⟨rfl, rfl⟩)
      | (go_at_call 54; refine (trimL_any (trimR s) _ _ (Nat.le_trans (trimR_len s) HS.out) HA.out.1).mono ?_; rintro e3 w3 ⟨rfl, rfl⟩))
    · exact absurd (List.isEmpty_iff.1 ‹(ba s).toList.isEmpty = true›) HSN.out
    · go_ret
      exact ⟨rfl, HA.out.2⟩
theorem nl_any (s p q : By) (m : Bool) (h : Hid (cutN s = (p, q, m))) (w : World) (hG : Gd w) (hs : s.length ≤ 100000) :
    Calls Tryz.prog 30 #[.string (ba s), .string ⟨#[10]⟩] w fun e w' => e = .returned (.tuple #[.string (ba p), .string (ba q), .bool m]) ∧ ∃ n, w' = w.drewN n := by
  refine (Tryz.strings_Cut_shaped (ba s) ⟨#[10]⟩ w hG.1 (by rw [ba_size]; omega)).mono fun e w' ⟨h1, h2⟩ => ⟨?_, h2⟩
  have e2 : Lib.cut (tl (ba s)) [10] = (p, q, m) := (cut_ten _).trans h.out
  rw [h1]
  show Ending.returned (.tuple #[.string (ba (Lib.cut (tl (ba s)) [10]).1), .string (ba (Lib.cut (tl (ba s)) [10]).2.1), .bool (Lib.cut (tl (ba s)) [10]).2.2]) = _
  rw [e2]
end Go.Proofs.YtpipkgkfhbagmaaGreatDoor.Glob
