/- Several texts in one. Conditions: those said at each. -/
import Derived.Test.YtahkcemdbfjilaaGreatDoorWb00
import Derived.Deep.DeepCutAuto
import Derived.Test.YtahkcemdbfjilaaGreatDoorWb26
set_option linter.unusedSimpArgs false
set_option linter.unusedVariables false
set_option maxRecDepth 100000
namespace Go.Proofs.YtahkcemdbfjilaaGreatDoor.Glob
open Go.RowKit
theorem startTryztrue (A : Pl) : (fun j => A j || j == 0) = startA true A := by
 funext j; unfold startA; rw [Bool.true_and, Bool.or_comm]
theorem startTryzfalse (A : Pl) : startA false A = A := by
 funext j; unfold startA; rfl
theorem range_any_succ (p : Nat → Bool) (k : Nat) : (List.range (k + 1)).any p = ((List.range k).any p || p k) := by
 rw [List.range_succ, List.any_append]; simp
theorem range_any_yes (p : Nat → Bool) (n k : Nat) (h : k < n) (hp : p k = true) : (List.range n).any p = true := List.any_eq_true.2 ⟨k, List.mem_range.2 h, hp⟩
def hitB (rooted : Bool) (hs : H) (path : By) (i : Nat) : Bool := atA rooted hs path i hs.length && endB path i
theorem mB_eq (rooted : Bool) (hs : H) (path : By) : mB rooted hs path = (decide (path.length ≤ 160) && (List.range (path.length + 1)).any (hitB rooted hs path)) := rfl
set_option maxHeartbeats 4000000 in
theorem match_long (g : Nat) (s : By) (p : Pt) (path : By) (w : World) (hp : PatIs w g s p) (hl : 160 < path.length) :
 Calls Tryz.prog 158 #[.pointer (some ⟨g, 0, none⟩), .string (ba path)] w fun e w' => e = .returned (.bool (mB p.rooted p.hs path)) ∧ Below w.heap.size w w' := by
 have HM : Hid (mB p.rooted p.hs path = false) := by show _ = _; rw [mB_eq, decide_eq_false (by omega)]; rfl
 have z := ba_size path
 have hi : (160 : Int) < (path.length : Int) := by omega
 have hm := made_yes hp
 clear hl hp
 go_enter Tryz.func158, Tryz.ntmps158
 go_wp2_with (go_at_call 192; refine hm.mono ?_; rintro e1 w1 ⟨rfl, rfl⟩)
 go_ret
 exact ⟨ret_bool HM.out.symm, Below.refl _ _⟩
set_option maxHeartbeats 8000000 in
theorem match_short (g : Nat) (s : By) (p : Pt) (path : By) (w : World) (hp : PatIs w g s p) (hl : path.length ≤ 160) :
 Calls Tryz.prog 158 #[.pointer (some ⟨g, 0, none⟩), .string (ba path)] w fun e w' => e = .returned (.bool (mB p.rooted p.hs path)) ∧ Below w.heap.size w w' := by
 have HM : Hid (mB p.rooted p.hs path = (List.range (path.length + 1)).any (hitB p.rooted p.hs path)) := by show _ = _; rw [mB_eq, decide_eq_true hl]; rfl
 have z := ba_size path
 have hi : ¬ ((160 : Int) < (path.length : Int)) := by omega
 have hm := made_yes hp
 obtain ⟨ge, cp, k3, hg, hge, hn, _⟩ := hp.els
 have k2 : w.cell? ⟨g, 2, none⟩ = some (.bool p.rooted) := by obtain ⟨A, c, n, _, _, _, h2, _⟩ := hp.cells; exact h2
 obtain ⟨W1, hW1⟩ : ∃ W1, w.alloc (.cells Tryz.zeroCells258 258) = W1 := ⟨_, rfl⟩
 have HZ : Hid (Has W1 w.heap.size 258 Tryz.zeroCells258) := hW1 ▸ Has.fresh _ _ _
 have B1 : Below w.heap.size w W1 := hW1 ▸ (Below.refl _ _).alloc (Nat.le_refl _) _
 obtain ⟨W2, hW2⟩ : ∃ W2, W1.setRow w.heap.size Tryz.zeroCells258 = W2 := ⟨_, rfl⟩
 have H2 : Hid (Has W2 w.heap.size 258 (plv (fun _ => false))) := hW2 ▸ zcells ▸ HZ.out.row
 have B2 : Hid (Below w.heap.size w W2) := hW2 ▸ B1.rowG (Nat.le_refl _) _
 have CS : Hid (∀ A W, Below w.heap.size w W → Calls Tryz.prog 193 #[.pointer (some ⟨g, 0, none⟩), .agg (plv A)] W fun e w' => e = .returned (.agg (plv (skipA p.hs A))) ∧ Below W.heap.size W w') := fun A W hW => skip_any g s p A W (hp.stays hW)
 have CP : Hid (∀ A c W, Below w.heap.size w W → Calls Tryz.prog 194 #[.pointer (some ⟨g, 0, none⟩), .agg (plv A), .int .u8 (b8 c)] W fun e w' => e = .returned (.agg (plv (stepA p.hs A c))) ∧ Below W.heap.size W w') := fun A c W hW => step_any g s p A c W (hp.stays hW)
 have HK2 := hid k2
 have HK3 := hid k3
 rw [HM.out]
 generalize p.hs = hs at *
 generalize p.rooted = rooted at *
 clear hp HM B1 k2 k3
 obtain ⟨ans, HANS⟩ : ∃ ans, Hid ((List.range (path.length + 1)).any (hitB rooted hs path) = ans) := ⟨_, rfl⟩
 rw [HANS.out]
 go_enter Tryz.func158, Tryz.ntmps158
 go_wp2_with (first
  | (go_at_call 192; refine hm.mono ?_; rintro e1 w1 ⟨rfl, rfl⟩)
  | (refine wpList_store_row rfl 258 (.tmp 5) (.tmp 16) rfl w.heap.size Tryz.zeroCells258 rfl rfl 258 Tryz.zeroCells258 HZ.out iZ.out rfl zOne.out ?_))
 go_loopw [6, 7, 20] (fun _ _ i wr => ∃ k : Nat, i = .int .i64 (k : Int) ∧ k ≤ path.length + 1 ∧ Hid (k ≤ path.length → Has wr w.heap.size 258 (plv (preA rooted hs path k))) ∧ Hid ((List.range k).any (hitB rooted hs path) = false) ∧ Hid (Below w.heap.size w wr))
  (fun _ _ i _ => path.length + 1 - (intOf i).toNat)
 case atStart => exact ⟨0, rfl, Nat.zero_le _, fun _ => H2.out, rfl, B2⟩
 case round =>
  obtain ⟨k, rfl, hk, J1, JN, JB⟩ := hrel
  by_cases hlt : k < path.length + 1
  · have k2 := (JB.out.cell (p := ⟨g, 2, none⟩) hg).trans HK2.out
    have X := hid (J1.out (by omega))
    clear J1
    have hkk : k ≤ path.length := by omega
    go_upto_region 7 with (fail)
    go_cut [20, 38] from 20 to 71 (fun c t w' => c = .int .i64 (k : Int) ∧ t = .bool (startB rooted path k) ∧ wr = w')
    case first => as_aux_lemma =>
     by_cases h0 : k = 0
     · have HT : Hid (startB rooted path k = true) := by show _ = _; unfold startB; rw [h0]; rfl
       have e0 : ((k : Int) == 0) = true := by simp [h0]
       clear h0
       go_wp2
       go_meet
       case rel => exact ⟨rfl, by rw [HT.out], rfl⟩
     · have e0 : ((k : Int) == 0) = false := by simp [h0]
       obtain ⟨j, hj⟩ : ∃ j, k - 1 = j := ⟨_, rfl⟩
       have ej : (k : Int) - 1 = (j : Int) := by omega
       have ij := index_str path j (by omega)
       have HT : Hid (startB rooted path k = ((at8 path j == 47) && !rooted)) := by
        show _ = _; unfold startB; rw [hj, show (k == 0) = false by simp [h0]]; rfl
       have q7 : (b8 (at8 path j) == 47) = (at8 path j == 47) := b8_eq _ 47
       generalize at8 path j = x at ij HT q7
       obtain ⟨bq, hbq⟩ : ∃ bq, (x == 47) = bq := ⟨_, rfl⟩
       rw [hbq] at q7 HT
       clear h0 hj hbq
       cases bq with
       | false =>
        go_wp2
        go_meet
        case rel => exact ⟨rfl, by rw [HT.out]; rfl, rfl⟩
       | true =>
        go_wp2
        go_meet
        case rel => exact ⟨rfl, by rw [HT.out]; rfl, rfl⟩
    case rest =>
     obtain ⟨rfl, rfl, rfl⟩ := hcut
     obtain ⟨b, hb⟩ : ∃ b, startB rooted path k = b := ⟨_, rfl⟩
     rw [hb]
     go_upto_if 38 with (fail)
     go_cut [20] from 20 to 71 (fun c w' => c = .int .i64 (k : Int) ∧ Hid (Has w' w.heap.size 258 (plv (startA b (preA rooted hs path k)))) ∧ Hid (Below w.heap.size w w'))
     case first => as_aux_lemma =>
      have qz : wr.cell? ⟨w.heap.size, 0, none⟩ = some (.bool (preA rooted hs path k 0)) := (X.out.at_ 0).trans (plv_get _ 0 (by omega))
      have fz := X.out.free 0
      clear hb
      cases b with
      | true =>
       go_wp2
       go_meet
       case rel =>
        refine ⟨rfl, ?_, JB.out.setCell (Nat.le_refl _) _⟩
        have := X.out.put 0 (.bool true)
        rw [plv_set, startTryztrue] at this
        exact this
      | false =>
       go_wp2
       go_meet
       case rel => exact ⟨rfl, by rw [startTryzfalse]; exact X, JB⟩
     case rest =>
      obtain ⟨rfl, X0, XB0⟩ := hcut
      obtain ⟨at_, HAT⟩ : ∃ at_, Hid (atA rooted hs path k = at_) := ⟨_, rfl⟩
      have HAT2 : Hid (skipA hs (startA b (preA rooted hs path k)) = at_) := by show _ = _; rw [← hb]; exact HAT.out
      have CK := hid (CS.out (startA b (preA rooted hs path k)) wc XB0.out)
      rw [HAT2.out] at CK
      generalize startA b (preA rooted hs path k) = sa at X0 CK
      obtain ⟨en, hen⟩ : ∃ en, (k == path.length) = en := ⟨_, rfl⟩
      have e7 : ((k : Int) == (path.length : Int)) = en := by rw [← hen, Bool.eq_iff_iff]; simp; omega
      have HEN := hid hen
      clear hb hen HAT2 X JB k2
      go_upto_region 11 with (first
       | (refine wpList_load_row rfl 258 _ rfl w.heap.size rfl 258 _ (0, 0) _ X0.out Tryz.underlying258 rfl (iPlaces _) ?_)
       | (go_at_call 193; refine CK.out.mono ?_; rintro e1 w1 ⟨rfl, hb1⟩
          have X1 := hid (X0.out.stays hb1)
          have XB1 := hid (XB0.out.thenG hb1)
          obtain ⟨Wz, hWz⟩ : ∃ Wz, w1.setRow w.heap.size (plv at_) = Wz := ⟨_, rfl⟩
          have X2 : Hid (Has Wz w.heap.size 258 (plv at_)) := hWz ▸ X1.out.row
          have XB : Hid (Below w.heap.size w Wz) := hWz ▸ XB1.out.rowG (Nat.le_refl _) _
          clear hb1)
       | (refine wpList_store_row rfl 258 (.tmp 5) (.tmp 42) rfl w.heap.size (plv at_) rfl rfl 258 _ X1.out (iPlaces _) (by rw [plv_size, plv_size]) (plv_one _) ?_))
      have qn : Wz.cell? ⟨w.heap.size, hs.length, none⟩ = some (.bool (at_ hs.length)) := (X2.out.at_ _).trans (plv_get _ _ (by omega))
      have k3z := (XB.out.cell (p := ⟨g, 3, none⟩) hg).trans HK3.out
      have HHIT : Hid (hitB rooted hs path k = (at_ hs.length && (en || (at8 path k == 47)))) := by show _ = _; unfold hitB endB; rw [HAT.out, HEN.out]
      go_cut [20, 62] from 20 to 71 (fun c t w' => c = .int .i64 (k : Int) ∧ t = .bool (hitB rooted hs path k) ∧ Wz = w')
      case first => as_aux_lemma =>
       generalize at_ hs.length = an at qn HHIT
       cases an with
       | false =>
        go_wp2
        go_meet
        case rel => exact ⟨rfl, by rw [HHIT.out]; rfl, rfl⟩
       | true =>
        cases en with
        | true =>
         go_wp2
         go_meet
         case rel => exact ⟨rfl, by rw [HHIT.out]; rfl, rfl⟩
        | false =>
         have ij := index_str path k (by have := HEN.out; simp at this; omega)
         have q7 : (b8 (at8 path k) == 47) = (at8 path k == 47) := b8_eq _ 47
         generalize at8 path k = x at *
         obtain ⟨bq, hbq⟩ : ∃ bq, (x == 47) = bq := ⟨_, rfl⟩
         rw [hbq] at q7 HHIT
         clear hbq
         go_wp2
         go_meet
         case rel => exact ⟨rfl, by rw [HHIT.out]; rfl, rfl⟩
      case rest =>
       obtain ⟨rfl, rfl, rfl⟩ := hcut
       have HIN : Hid (hitB rooted hs path k = true → ans = true) := fun h => by rw [← HANS.out]; exact range_any_yes _ _ k (by omega) h
       have HNN := hid (range_any_succ (hitB rooted hs path) k)
       obtain ⟨hit, hhit⟩ : ∃ hit, hitB rooted hs path k = hit := ⟨_, rfl⟩
       rw [hhit] at HIN HNN
       rw [hhit]
       clear qn k3z HHIT hhit
       cases hit with
       | true =>
        go_wp2
        go_ret
        exact ⟨ret_bool (HIN.out (by first | rfl | trivial)).symm, XB.out⟩
       | false =>
        have HNO : Hid ((List.range (k + 1)).any (hitB rooted hs path) = false) := by show _ = _; rw [HNN.out, JN.out]; rfl
        clear HIN HNN
        cases en with
        | true =>
         have HE1 : Hid (k = path.length) := by have := HEN.out; show _ = _; simpa using this
         go_wp2
         exact ⟨⟨k + 1, by go_num, by omega, fun h => by have := HE1.out; omega, HNO.out, XB.out⟩, by simp [intOf]; omega⟩
        | false =>
         have QI : Hid (∀ W, (Instr.index 9 (.string (ba path)) (.int .i64 (k : Int))).run Tryz.prog W = .ok (.int .u8 (b8 (at8 path k))) W) := index_str path k (by have := HEN.out; simp at this; omega)
         have CT : Hid (∀ W, Below w.heap.size w W → Calls Tryz.prog 194 #[.pointer (some ⟨g, 0, none⟩), .agg (plv at_), .int .u8 (b8 (at8 path k))] W fun e w' => e = .returned (.agg (plv (stepA hs at_ (at8 path k)))) ∧ Below W.heap.size W w') := fun W hW => CP.out at_ (at8 path k) W hW
         have HST : Hid (stepA hs at_ (at8 path k) = preA rooted hs path (k + 1)) := by show _ = _; rw [← HAT.out]; rfl
         generalize at8 path k = x at QI CT HST
         generalize stepA hs at_ x = st_ at CT HST
         go_wp2
         refine wp_region_noPanic ?_
         refine wp_region_held_drew (S := fun _ => True) (by kernel_rfl) (trivial) (fun hS => ?_)
         refine tkH 0 (v := ?_) (by simp only [lkA, lkB]; rfl) (by kernel_rfl) (fun _ _ _ h => h) (by rfl) (by assumption) ?_ ?_
         rotate_left 1
         · intro w hSw
           go_simp
           with_reducible rfl
         simp only [Act.put, siA, siB, siC]
         refine tkH 2 (v := ?_) (by simp only [lkA, lkB, lkC]; rfl) (by kernel_rfl) (fun _ _ _ h => h) (by rfl) (by assumption) ?_ ?_
         rotate_left 1
         · intro w hSw
           go_simp
           with_reducible rfl
         simp only [Act.put, siA, siB, siC]
         refine tkH 3 (v := ?_) (by simp only [lkA, lkB, lkC]; rfl) (by kernel_rfl) (fun _ _ _ h => h) (by rfl) (by assumption) ?_ ?_
         rotate_left 1
         · intro w hSw
           go_simp
           with_reducible rfl
         simp only [Act.put, siA, siB, siC]
         refine tkH 4 (v := ?_) (by simp only [lkA, lkB, lkC]; rfl) (by kernel_rfl) (fun _ _ _ h => h) (by rfl) (by assumption) ?_ ?_
         rotate_left 1
         · intro w hSw
           have qi := QI.out w
           go_simp
           with_reducible rfl
         simp only [Act.put, siA, siB, siC]
         refine wpAnyH_ready (rs := [1]) (by kernel_rfl) (by simp) ?_
         refine AllReadyH.cons (by simp only [lkA, lkB, lkC]; rfl) (fun K hK => ?_) AllReadyH.nil
         rw [if_pos (by rfl)]
         refine wp_load_row 258 (.tmp 5) rfl w.heap.size rfl 258 (plv at_) (0, 0) _ (X2.out.drawn 1) Tryz.underlying258 rfl (iPlaces _) ?_
         refine hK.out _ _ trivial (fun hS => ?_)
         clear hK K hS
         simp only [Act.put, siA, siB, siC]
         refine wpAnyH_ready (rs := [5]) (by kernel_rfl) (by simp) ?_
         refine AllReadyH.cons (by simp only [lkA, lkB, lkC]; rfl) (fun K hK => ?_) (AllReadyH.nil)
         go_simp
         refine (CT.out _ XB.out.drew).mono ?_
         rintro e9 y9 ⟨rfl, hb9⟩
         have Y1 := hid (Has.stays (w := Wz.drew) (X2.out.drawn 1) hb9)
         have YB : Hid (Below w.heap.size w y9) := XB.out.drew.thenG hb9
         have hz1 := trivial
         refine hK.out _ _ hz1 (fun hS => ?_)
         clear hK K hS
         refine wpAnyH_ready (rs := [6]) (by kernel_rfl) (by simp) ?_
         refine AllReadyH.cons (by simp only [lkA, lkB, lkC]; rfl) (fun K hK => ?_) AllReadyH.nil
         rw [if_pos (by rfl)]
         refine wp_store_row 258 (.tmp 5) (.tmp 70) rfl w.heap.size (plv st_) rfl rfl 258 _ Y1.out (iPlaces _) (by rw [plv_size, plv_size]) (plv_one _) ?_
         refine hK.out _ _ trivial (fun hS => ?_)
         clear hK K hS
         refine wpAnyH_done (by kernel_rfl) ?_ _
         refine NoPanic.normal ?_
         go_wp2
         exact ⟨⟨k + 1, by go_num, by omega, fun _ => HST.out ▸ Y1.out.row, HNO.out, YB.out.rowG (Nat.le_refl _) _⟩, by simp [intOf]; omega⟩
  · have HF : Hid (ans = false) := by have := JN.out; rw [show k = path.length + 1 by omega, HANS.out] at this; exact this
    have hk2 : ¬ ((k : Int) < (path.length : Int) + 1) := by omega
    clear J1 hlt
    go_wp2
    go_ret
    exact ⟨ret_bool HF.out.symm, JB.out⟩
end Go.Proofs.YtahkcemdbfjilaaGreatDoor.Glob
namespace Go.Proofs.YtahkcemdbfjilaaGreatDoor.Glob
open Go.RowKit
theorem match_any (g : Nat) (s : By) (p : Pt) (path : By) (w : World) (hp : PatIs w g s p) :
 Calls Tryz.prog 158 #[.pointer (some ⟨g, 0, none⟩), .string (ba path)] w fun e w' => e = .returned (.bool (mB p.rooted p.hs path)) ∧ Below w.heap.size w w' := by
 by_cases hl : 160 < path.length
 · exact match_long g s p path w hp hl
 · exact match_short g s p path w hp (by omega)
def perr (s : By) : Int := if 128 < s.length then 3 else match parseL s with | none => 4 | some _ => 0
theorem parse_cases {s : By} {e : Ending} {w : World} (h : ParseIs s e w) : ((∃ k : Int, k ≠ 0 ∧ perr s = k ∧ e = .returned (.tuple #[.pointer none, .int .i64 k])) ∨ ∃ p g, ¬ 128 < s.length ∧ parseL s = some p ∧ perr s = 0 ∧ e = .returned (.tuple #[.pointer (some ⟨g, 0, none⟩), .int .i64 0]) ∧ PatIs w g s p) := by
 unfold ParseIs at h
 unfold perr
 by_cases hl : 128 < s.length
 · rw [if_pos hl] at h ⊢
   exact .inl ⟨3, by decide, rfl, h⟩
 · rw [if_neg hl] at h ⊢
   cases hp : parseL s with
   | none => rw [hp] at h; exact .inl ⟨4, by decide, rfl, h⟩
   | some p =>
    rw [hp] at h
    obtain ⟨g, h1, h2⟩ := h
    exact .inr ⟨p, g, hl, rfl, rfl, h1, h2⟩
end Go.Proofs.YtahkcemdbfjilaaGreatDoor.Glob
namespace Go.Proofs.YtahkcemdbfjilaaGreatDoor.Glob
open Go.RowKit
abbrev Fl := List (By × By)
def blk (c : UInt8) : Bool := (c == 32) || (c == 9)
def trimR (s : By) : By := (s.reverse.dropWhile blk).reverse
def trimB (s : By) : By := (trimR s).dropWhile blk
def cutN : By → By × By × Bool
 | [] => ([], [], false)
 | c :: l => if c = 10 then ([], l, true) else (c :: (cutN l).1, (cutN l).2.1, (cutN l).2.2)
theorem cut_ten (l : By) : Lib.cut l [10] = cutN l := by
 induction l with
 | nil => rfl
 | cons c l ih =>
  have hge := Lib.index_ge l [10]
  unfold Lib.cut Lib.index cutN
  by_cases hc : c = 10
  · subst hc; rfl
  · have h1 : [10].isPrefixOf (c :: l) = false := by simp [List.isPrefixOf, Ne.symm hc]
    rw [if_neg (show ¬ [10].isPrefixOf (c :: l) = true by rw [h1]; decide), if_neg hc, ← ih]
    unfold Lib.cut
    by_cases hi : Lib.index l [10] = -1
    · rw [hi]; rfl
    · have h0 : (0 : Int) ≤ Lib.index l [10] := by omega
      have h2 : ¬ (Lib.index l [10] == -1) = true := by simpa using hi
      rw [if_neg h2, if_pos h0, if_pos (show (0 : Int) ≤ Lib.index l [10] + 1 by omega)]
      obtain ⟨n, hn⟩ := Int.eq_ofNat_of_zero_le h0
      rw [hn]
      have e : ((n : Int) + 1).toNat = n + 1 := by omega
      simp only [e, Int.toNat_natCast, List.take_succ_cons, List.length_singleton]
      rw [show n + 1 + 1 = (n + 1) + 1 from rfl, List.drop_succ_cons]
theorem cutYtahkcemdbfjilaaGreatDoorlen (l : By) : (cutN l).2.1.length ≤ l.length ∧ (cutN l).1.length ≤ l.length ∧ ((cutN l).2.2 = true → (cutN l).2.1.length < l.length) := by
 induction l with
 | nil => simp [cutN]
 | cons c l ih =>
  unfold cutN
  by_cases hc : c = 10
  · simp [hc]
  · rw [if_neg hc]; simp only [List.length_cons]; refine ⟨by omega, by omega, fun h => by have := ih.2.2 h; omega⟩
def rowsN : By → List By
 | [] => [[]]
 | c :: l => if c = 10 then [] :: rowsN l else match rowsN l with | p :: ps => (c :: p) :: ps | [] => [[c]]
theorem rowsYtahkcemdbfjilaaGreatDoorcut (l : By) : rowsN l = if (cutN l).2.2 then (cutN l).1 :: rowsN (cutN l).2.1 else [(cutN l).1] := by
 induction l with
 | nil => rfl
 | cons c l ih =>
  rw [rowsN, cutN]
  by_cases hc : c = 10
  · rw [if_pos hc, if_pos hc, if_pos rfl]
  · rw [if_neg hc, if_neg hc, ih]
    cases h : (cutN l).2.2
    · rfl
    · rfl
def idle (s : By) : Bool := decide (s = []) || pre [47, 47] s
def linesL (l : By) : List By := ((rowsN l).map trimB).filter fun s => !idle s
theorem linesL_cut (l : By) : linesL l = (if idle (trimB (cutN l).1) then [] else [trimB (cutN l).1]) ++ (if (cutN l).2.2 then linesL (cutN l).2.1 else []) := by
 unfold linesL
 rw [rowsYtahkcemdbfjilaaGreatDoorcut]
 cases (cutN l).2.2 <;> cases h : idle (trimB (cutN l).1) <;> simp [h]
theorem trimR_len (s : By) : (trimR s).length ≤ s.length := by
 unfold trimR; rw [List.length_reverse]; have := (List.dropWhile_suffix blk (l := s.reverse)).length_le; simpa using this
theorem trimB_len (s : By) : (trimB s).length ≤ s.length := by
 unfold trimB; exact Nat.le_trans (List.dropWhile_suffix blk).length_le (trimR_len s)
theorem rowsYtahkcemdbfjilaaGreatDoorlen (n : Nat) : ∀ l : By, l.length ≤ n → ∀ p ∈ rowsN l, p.length ≤ l.length := by
 induction n with
 | zero => intro l h p hp; obtain rfl := List.length_eq_zero_iff.1 (Nat.le_zero.1 h); simp [rowsN] at hp; simp [hp]
 | succ n ih =>
  intro l h p hp
  rw [rowsYtahkcemdbfjilaaGreatDoorcut] at hp
  have h1 := cutYtahkcemdbfjilaaGreatDoorlen l
  split at hp
  · rename_i hc
    rcases List.mem_cons.1 hp with rfl | hp
    · exact h1.2.1
    · exact Nat.le_trans (ih _ (by have := h1.2.2 hc; omega) p hp) h1.1
  · simp only [List.mem_singleton] at hp; subst hp; exact h1.2.1
theorem linesL_len {l s : By} (h : s ∈ linesL l) : s.length ≤ l.length := by
 unfold linesL at h
 obtain ⟨h1, _⟩ := List.mem_filter.1 h
 obtain ⟨p, hp, rfl⟩ := List.mem_map.1 h1
 exact Nat.le_trans (trimB_len p) (rowsYtahkcemdbfjilaaGreatDoorlen _ l (Nat.le_refl _) p hp)
def incM : By := [35, 105, 110, 99, 108, 117, 100, 101, 32]
def findF (fs : Fl) (name : By) : Option By := match fs.find? (fun f => f.1 == name) with | none => none | some f => some f.2
def stepL (rd : By → List By → Except Int (List By)) : List By → List By → Except Int (List By)
 | [], ps => .ok ps
 | s :: ls, ps =>
  if pre incM s then match rd (s.drop 9) ps with | .error e => .error e | .ok qs => stepL rd ls qs
  else if ps.length = 64 then .error 3 else if perr s ≠ 0 then .error (perr s) else stepL rd ls (ps ++ [s])
def readL (fs : Fl) : Nat → List By → By → List By → Except Int (List By)
 | 0, within, name, _ => match findF fs name with | none => .error 5 | some _ => if name ∈ within then .error 22 else .error 3
 | k + 1, within, name, ps => match findF fs name with | none => .error 5 | some t => if name ∈ within then .error 22 else stepL (readL fs k (within ++ [name])) (linesL t) ps
def flatS (rd : By → Option (List By)) : List By → Option (List By)
 | [] => some []
 | s :: ls =>
  if pre incM s then match rd (s.drop 9), flatS rd ls with | some a, some b => some (a ++ b) | _, _ => none
  else if perr s ≠ 0 then none else match flatS rd ls with | some b => some (s :: b) | none => none
def flat (fs : Fl) : Nat → By → Option (List By)
 | 0, _ => none
 | k + 1, name => match findF fs name with | none => none | some t => flatS (flat fs k) (linesL t)
theorem flatS_mono {rd rd' : By → Option (List By)} (h : ∀ y l, rd y = some l → rd' y = some l) : ∀ ls l, flatS rd ls = some l → flatS rd' ls = some l := by
 intro ls
 induction ls with
 | nil => intro l hl; exact hl
 | cons s ls ih =>
  intro l hl
  unfold flatS at hl ⊢
  split at hl
  · rename_i hp
    rw [if_pos hp]
    cases h1 : rd (s.drop 9) with
    | none => rw [h1] at hl; cases hl
    | some a =>
     cases h2 : flatS rd ls with
     | none => rw [h1, h2] at hl; cases hl
     | some b => rw [h1, h2] at hl; rw [h _ _ h1, ih _ h2]; exact hl
  · rename_i hp
    rw [if_neg hp]
    split at hl
    · cases hl
    · rename_i hq
      rw [if_neg hq]
      cases h2 : flatS rd ls with
      | none => rw [h2] at hl; cases hl
      | some b => rw [h2] at hl; rw [ih _ h2]; exact hl
theorem flat_mono1 (fs : Fl) (k : Nat) : ∀ name l, flat fs k name = some l → flat fs (k + 1) name = some l := by
 induction k with
 | zero => intro name l h; cases h
 | succ k ih =>
  intro name l h
  unfold flat at h ⊢
  cases hf : findF fs name with
  | none => rw [hf] at h; cases h
  | some t => rw [hf] at h; exact flatS_mono ih _ _ h
theorem flat_mono {fs : Fl} {k k' : Nat} (hk : k ≤ k') {name : By} {l : List By} (h : flat fs k name = some l) : flat fs k' name = some l := by
 induction hk with
 | refl => exact h
 | step _ ih => exact flat_mono1 _ _ _ _ ih
theorem flatS_inc {rd : By → Option (List By)} : ∀ {ls : List By} {l : List By}, flatS rd ls = some l → ∀ s ∈ ls, pre incM s = true → (rd (s.drop 9)).isSome
 | [], _, _, s, hs, _ => by cases hs
 | t :: ls, l, h, s, hs, hp => by
  unfold flatS at h
  split at h
  · cases h1 : rd (t.drop 9) with
    | none => rw [h1] at h; cases h
    | some a =>
     cases h2 : flatS rd ls with
     | none => rw [h1, h2] at h; cases h
     | some b =>
      rcases List.mem_cons.1 hs with rfl | hs
      · rw [h1]; rfl
      · exact flatS_inc h2 s hs hp
  · rename_i ht
    split at h
    · cases h
    · cases h2 : flatS rd ls with
      | none => rw [h2] at h; cases h
      | some b =>
       rcases List.mem_cons.1 hs with rfl | hs
       · exact absurd hp ht
       · exact flatS_inc h2 s hs hp
theorem stepL_flat {rd : By → List By → Except Int (List By)} {rf : By → Option (List By)} (h : ∀ y ps qs, rd y ps = .ok qs → ∃ l, rf y = some l ∧ qs = ps ++ l) :
 ∀ ls ps qs, stepL rd ls ps = .ok qs → ∃ l, flatS rf ls = some l ∧ qs = ps ++ l := by
 intro ls
 induction ls with
 | nil => intro ps qs hq; simp only [stepL, Except.ok.injEq] at hq; exact ⟨[], rfl, by simp [hq]⟩
 | cons s ls ih =>
  intro ps qs hq
  unfold stepL at hq
  unfold flatS
  split at hq
  · rename_i hp
    rw [if_pos hp]
    cases h1 : rd (s.drop 9) ps with
    | error e => rw [h1] at hq; cases hq
    | ok rs =>
     rw [h1] at hq
     obtain ⟨a, ha, rfl⟩ := h _ _ _ h1
     obtain ⟨b, hb, rfl⟩ := ih _ _ hq
     exact ⟨a ++ b, by rw [ha, hb], by simp⟩
  · rename_i hp
    rw [if_neg hp]
    split at hq
    · cases hq
    · split at hq
      · cases hq
      · rename_i he
        rw [if_neg he]
        obtain ⟨b, hb, rfl⟩ := ih _ _ hq
        exact ⟨s :: b, by rw [hb], by simp⟩
theorem readL_flat (fs : Fl) (k : Nat) : ∀ within name ps qs, readL fs k within name ps = .ok qs → ∃ l, flat fs k name = some l ∧ qs = ps ++ l := by
 induction k with
 | zero =>
  intro within name ps qs h
  unfold readL at h
  split at h
  · cases h
  · split at h <;> cases h
 | succ k ih =>
  intro within name ps qs h
  unfold readL at h
  unfold flat
  cases hf : findF fs name with
  | none => rw [hf] at h; cases h
  | some t =>
   rw [hf] at h
   simp only at h
   split at h
   · cases h
   · exact stepL_flat (fun y ps qs => ih _ y ps qs) _ _ _ h
def Chain (fs : Fl) (within : List By) (name : By) : Prop := ∀ x ∈ within, ∀ j, (flat fs (j + 1) x).isSome → (flat fs j name).isSome
theorem Chain.nil (fs : Fl) (name : By) : Chain fs [] name := fun x hx => by cases hx
theorem Chain.free {fs : Fl} {within : List By} {name : By} (h : Chain fs within name) {k : Nat} {l : List By} (hf : flat fs k name = some l) : name ∉ within := by
 intro hm
 have : ∀ j, (flat fs j name).isSome → False := by
  intro j
  induction j with
  | zero => intro h0; cases h0
  | succ j ih => intro h0; exact ih (h name hm j h0)
 exact this k (by rw [hf]; rfl)
theorem Chain.down {fs : Fl} {within : List By} {name t : By} (h : Chain fs within name) (hf : findF fs name = some t) {s : By} (hs : s ∈ linesL t) (hp : pre incM s = true) : Chain fs (within ++ [name]) (s.drop 9) := by
 have key : ∀ j, (flat fs (j + 1) name).isSome → (flat fs j (s.drop 9)).isSome := by
  intro j hj
  cases hv : flat fs (j + 1) name with
  | none => rw [hv] at hj; cases hj
  | some v => unfold flat at hv; rw [hf] at hv; exact flatS_inc hv s hs hp
 intro x hx j hj
 rcases List.mem_append.1 hx with hx | hx
 · have h1 := h x hx j hj
   cases j with
   | zero => cases h1
   | succ j =>
    have h2 := key j h1
    cases hv : flat fs j (s.drop 9) with
    | none => rw [hv] at h2; cases h2
    | some v => rw [flat_mono1 _ _ _ _ hv]; rfl
 · obtain rfl := List.mem_singleton.1 hx
   exact key j hj
def addL (ps l : List By) : Except Int (List By) := if ps.length + l.length ≤ 64 then .ok (ps ++ l) else .error 3
theorem stepL_add {rd : By → List By → Except Int (List By)} {rf : By → Option (List By)} : ∀ ls l ps, (∀ s ∈ ls, pre incM s = true → ∀ a qs, rf (s.drop 9) = some a → qs.length ≤ 64 → rd (s.drop 9) qs = addL qs a) → flatS rf ls = some l → ps.length ≤ 64 → stepL rd ls ps = addL ps l := by
 intro ls
 induction ls with
 | nil =>
  intro l ps _ hl hp
  simp only [flatS, Option.some.injEq] at hl
  subst hl
  unfold stepL addL
  rw [if_pos (by simpa using hp)]; simp
 | cons s ls ih =>
  intro l ps h hl hp
  unfold flatS at hl
  unfold stepL
  split at hl
  · rename_i hi
    rw [if_pos hi]
    cases h1 : rf (s.drop 9) with
    | none => rw [h1] at hl; cases hl
    | some a =>
     cases h2 : flatS rf ls with
     | none => rw [h1, h2] at hl; cases hl
     | some b =>
      rw [h1, h2] at hl
      simp only [Option.some.injEq] at hl
      subst hl
      rw [h s (by simp) hi a ps h1 hp]
      unfold addL
      by_cases hq : ps.length + a.length ≤ 64
      · rw [if_pos hq]
        simp only
        rw [ih b (ps ++ a) (fun t ht => h t (by simp [ht])) h2 (by simpa using hq)]
        unfold addL
        simp only [List.length_append, List.append_assoc, Nat.add_assoc]
      · rw [if_neg hq, if_neg (by simp only [List.length_append]; omega)]
  · rename_i hi
    rw [if_neg hi]
    split at hl
    · cases hl
    · rename_i he
      cases h2 : flatS rf ls with
      | none => rw [h2] at hl; cases hl
      | some b =>
       rw [h2] at hl
       simp only [Option.some.injEq] at hl
       subst hl
       by_cases h64 : ps.length = 64
       · rw [if_pos h64]; unfold addL; rw [if_neg (by simp only [List.length_cons]; omega)]
       · rw [if_neg h64, if_neg he, ih b (ps ++ [s]) (fun t ht => h t (by simp [ht])) h2 (by simp; omega)]
         unfold addL
         simp only [List.length_append, List.length_cons, List.length_nil, List.append_assoc, List.cons_append, List.nil_append, Nat.add_assoc, Nat.add_comm 1]
theorem readL_add (fs : Fl) (k : Nat) : ∀ within name ps l, flat fs k name = some l → Chain fs within name → ps.length ≤ 64 → readL fs k within name ps = addL ps l := by
 induction k with
 | zero => intro within name ps l h; cases h
 | succ k ih =>
  intro within name ps l h hc hp
  have hfree := hc.free h
  unfold readL
  unfold flat at h
  cases hf : findF fs name with
  | none => rw [hf] at h; cases h
  | some t =>
   rw [hf] at h
   simp only
   rw [if_neg hfree]
   exact stepL_add _ _ _ (fun s hs hi a qs ha hq => ih _ _ _ _ ha (hc.down hf hs hi) hq) h hp
theorem stepL_64 {rd : By → List By → Except Int (List By)} (h : ∀ y ps qs, rd y ps = .ok qs → ps.length ≤ 64 → qs.length ≤ 64) : ∀ ls ps qs, stepL rd ls ps = .ok qs → ps.length ≤ 64 → qs.length ≤ 64 := by
 intro ls
 induction ls with
 | nil => intro ps qs hq hp; simp only [stepL, Except.ok.injEq] at hq; rw [← hq]; exact hp
 | cons s ls ih =>
  intro ps qs hq hp
  unfold stepL at hq
  split at hq
  · cases h1 : rd (s.drop 9) ps with
    | error e => rw [h1] at hq; cases hq
    | ok rs => rw [h1] at hq; exact ih _ _ hq (h _ _ _ h1 hp)
  · split at hq
    · cases hq
    · split at hq
      · cases hq
      · exact ih _ _ hq (by simp; omega)
theorem readL_64 (fs : Fl) (k : Nat) : ∀ within name ps qs, readL fs k within name ps = .ok qs → ps.length ≤ 64 → qs.length ≤ 64 := by
 induction k with
 | zero =>
  intro within name ps qs h
  unfold readL at h
  split at h
  · cases h
  · split at h <;> cases h
 | succ k ih =>
  intro within name ps qs h hp
  unfold readL at h
  split at h
  · cases h
  · split at h
    · cases h
    · exact stepL_64 (fun y ps qs => ih _ y ps qs) _ _ _ h hp
end Go.Proofs.YtahkcemdbfjilaaGreatDoor.Glob
