/- The law ShaKnown: what its call does. Conditions: the listed table. -/
import Derived.Test.YtmdlahmcdgkhkaaDoorV
namespace Go.Proofs.YtmdlahmcdgkhkaaDoor
open Go.RowKit
theorem of_tail (x0 : List UInt8) (hx : Hid (x0 = List.replicate 32 0)) (w : World) : Calls Tryd.prog 11 #[.string (sAbc.extract 1 64)] w fun e w' => e = .returned (.tuple #[.agg (bvec x0), .bool false]) ∧ Below w.heap.size w w' :=
  of_no _ _ x0 rfl (by decide +kernel) hx.out w
theorem of_big (x0 : List UInt8) (hx : Hid (x0 = List.replicate 32 0)) (w : World) : Calls Tryd.prog 11 #[.string (⟨#[70]⟩ ++ sAbc.extract 1 64)] w fun e w' => e = .returned (.tuple #[.agg (bvec x0), .bool false]) ∧ Below w.heap.size w w' :=
  of_no _ _ x0 rfl (by decide +kernel) hx.out w
theorem of_none (x0 : List UInt8) (hx : Hid (x0 = List.replicate 32 0)) (w : World) : Calls Tryd.prog 11 #[.string ⟨#[]⟩] w fun e w' => e = .returned (.tuple #[.agg (bvec x0), .bool false]) ∧ Below w.heap.size w w' :=
  of_no _ _ x0 rfl (by decide +kernel) hx.out w
theorem ki_g {w0 w : World} {Z g : Nat} (h : Hid (KI w0 w Z)) (hg : w.heap.size ≤ g) : Hid (g ≠ Z ∧ w0.heap.size ≤ g) ∧ Hid (g ≠ 0) := by
  have h1 := h.out.inside
  have h2 := h.out.below.size
  have h3 := h.out.pos
  exact ⟨⟨by omega, by omega⟩, (by omega : g ≠ 0)⟩
theorem KI.alloc {w0 w : World} {Z : Nat} (h : Hid (KI w0 w Z)) (o : Obj) : Hid (KI w0 (w.alloc o) Z) := KI.step h ((Below.refl _ _).alloc (Nat.le_refl _) _)
theorem s2_eq : feed newS [97, 98] = s2 := rfl
theorem write_ab (g : Nat) (w : World) (fr : Nat × Nat) (hst : Hid (Sta w g newS)) (hg0 : Hid (g ≠ 0)) (hT : Tab w) :
    Calls Tryd.prog 17 #[.pointer (some ⟨g, 0, none⟩), .slice (some ⟨w.heap.size, 0, none⟩) 2 2] (w.alloc (.cells #[.int .u8 97, .int .u8 98] 5 fr)) fun e w' => e = .returned (.int .i64 0) ∧ Hid (Sta w' g s2) ∧ Grw g w w' :=
  write_lit g newS s2 [97, 98] 2 rfl s2_eq w fr newS_ok hst hg0.out hT (by show 0 + 2 ≤ 1000; omega)
theorem write_c (g : Nat) (w : World) (fr : Nat × Nat) (hst : Hid (Sta w g s2)) (hg0 : Hid (g ≠ 0)) (hT : Tab w) :
    Calls Tryd.prog 17 #[.pointer (some ⟨g, 0, none⟩), .slice (some ⟨w.heap.size, 0, none⟩) 1 1] (w.alloc (.cells #[.int .u8 99] 5 fr)) fun e w' => e = .returned (.int .i64 0) ∧ Hid (Sta w' g s3) ∧ Grw g w w' :=
  write_lit g s2 s3 [99] 1 rfl s3_of w fr s2_ok hst hg0.out hT (by rw [s2_n]; omega)
theorem s2_small : s2.n ≤ 1000 := by rw [s2_n]; omega
theorem s3_small : s3.n ≤ 1000 := by rw [s3_n]; omega
theorem sAbc_text : sAbc.data.toList = textL hAbc := by rw [hAbc_eq]; exact ofAbc_text.symm
theorem zero_eql (w : World) : (binOp .eql 25 (.agg zero32) (.agg zero32)).run Tryd.prog w = .ok (.bool true) w := by
  rw [zero32_b, run_hash_eql _ _ rfl rfl w, sameL_refl]
set_option maxRecDepth 100000 in
set_option maxHeartbeats 400000 in
theorem known_any (w : World) (hT : Tab w) : Calls Tryd.prog 5 #[] w fun e w' => e = .returned (.bool true) ∧ Below w.heap.size w w' := by
  have HT := hid hT
  have HP := hid hT.pos
  obtain ⟨x0, HX0⟩ : ∃ x0 : List UInt8, Hid (x0 = List.replicate 32 0) := ⟨_, rfl⟩
  have HX0L : Hid (x0.length = 32) := by show x0.length = 32; rw [HX0.out]; rfl
  have X1 := size_dig x0 HX0L.out
  have X2 := size_zero x0 HX0L.out
  have kc := fun (w : World) (C : Array Value) (n c : Nat) => Lib.run_convert_bytes_const (P := Tryd.prog) w 22 5 C n c Tryd.underlying22 Tryd.underlying5
  have BR := Below.refl w.heap.size w
  have hzq : ∀ w, (binOp .eql 25 (.agg zero32) (.agg #[.int .u8 0, .int .u8 0, .int .u8 0, .int .u8 0, .int .u8 0, .int .u8 0, .int .u8 0, .int .u8 0, .int .u8 0, .int .u8 0, .int .u8 0, .int .u8 0, .int .u8 0, .int .u8 0, .int .u8 0, .int .u8 0, .int .u8 0, .int .u8 0, .int .u8 0, .int .u8 0, .int .u8 0, .int .u8 0, .int .u8 0, .int .u8 0, .int .u8 0, .int .u8 0, .int .u8 0, .int .u8 0, .int .u8 0, .int .u8 0, .int .u8 0, .int .u8 0])).run Tryd.prog w = .ok (.bool true) w := zero_eql
  clear hT
  go_enter Tryd.func5, Tryd.ntmps5
  go_wp2_with (first
    | (go_at_call 11; ((with_reducible refine (of_tail x0 HX0 w).mono ?_); rintro e1 w1 ⟨rfl, hb1⟩))
    | (refine wpList_store_row rfl 25 (.tmp 1) (.tmp 13) rfl w1.heap.size (bvec x0) rfl rfl 25 zero32 (Has.fresh w1 25 zero32) X1.out X2.out (bvec_one _) ?_
       generalize hG : World.setRow _ _ _ = W1
       obtain ⟨V1, hG0, B1⟩ := lay_zero w w w1 BR hb1 (bvec x0)
       obtain rfl : V1 = W1 := hG0.symm.trans hG
       clear hG0 hG)
    | (go_at_call 11; ((with_reducible refine (of_big x0 HX0 V1).mono ?_); rintro e2 w2 ⟨rfl, hb2⟩))
    | (refine wpList_store_row rfl 25 (.tmp 3) (.tmp 19) rfl w2.heap.size (bvec x0) rfl rfl 25 zero32 (Has.fresh w2 25 zero32) X1.out X2.out (bvec_one _) ?_
       generalize hG : World.setRow _ _ _ = W2
       obtain ⟨V2, hG0, B2⟩ := lay_zero w V1 w2 B1.out hb2 (bvec x0)
       obtain rfl : V2 = W2 := hG0.symm.trans hG
       clear hG0 hG)
    | (go_at_call 11; ((with_reducible refine (of_none x0 HX0 V2).mono ?_); rintro e3 w3 ⟨rfl, hb3⟩))
    | (refine wpList_store_row rfl 25 (.tmp 5) (.tmp 23) rfl w3.heap.size (bvec x0) rfl rfl 25 zero32 (Has.fresh w3 25 zero32) X1.out X2.out (bvec_one _) ?_
       generalize hG : World.setRow _ _ _ = W3
       obtain ⟨V3, hG0, B3⟩ := lay_zero w V2 w3 B2.out hb3 (bvec x0)
       obtain rfl : V3 = W3 := hG0.symm.trans hG
       have K3 := ki_start w V3 HT.out B3
       clear hG0 hG)
    | (refine wpList_build rfl 37 _ rfl (by kernel_rfl) ?_)
    | (go_at_call 8; refine (awake_any _ K3.out.tab).mono ?_; rintro e4 w4 ⟨rfl, hb4⟩
       have K4 := KI.step K3 hb4)
    | (go_at_call 15; refine (text_long w4 K4.out.tab).mono ?_; rintro e5 w5 ⟨rfl, hb5⟩
       have K5 := KI.step K4 hb5)
    | (go_at_call 16; refine (new_any w5).mono ?_; rintro e6 w6 ⟨g, hg, rfl, hs6, hb6⟩
       have K6 := KI.step K5 hb6
       have S6 := hid hs6
       obtain ⟨GZ, G0⟩ := ki_g K5 hg
       clear hs6)
    | (go_at_call 17; ((with_reducible refine (write_ab g w6 _ S6 G0 K6.out.tab).mono ?_); rintro e7 w7 ⟨rfl, S7, hg7⟩)
       have K7 := KI.grw K6 hg7 GZ)
    | (go_at_call 18; ((with_reducible refine (len_lit g s2 2 s2_n s2_ok w7 S7).mono ?_); rintro e8 w8 ⟨rfl, rfl⟩))
    | (go_at_call 19; ((with_reducible refine (ssum_lit g s2 (fin s2) rfl w7 s2_ok S7 s2_small K7.out.tab).mono ?_); rintro e9 w9 ⟨rfl, hb9⟩)
       have K9 := KI.step K7 hb9
       have S9 := Sta.kept S7 hb9)
    | (go_at_call 17; ((with_reducible refine (write_c g w9 _ S9 G0 K9.out.tab).mono ?_); rintro e10 w10 ⟨rfl, S10, hg10⟩)
       have K10 := KI.grw K9 hg10 GZ)
    | (go_at_call 19; ((with_reducible refine (ssum_lit g s3 hAbc s3_fin w10 s3_ok S10 s3_small K10.out.tab).mono ?_); rintro e11 w11 ⟨rfl, hb11⟩)
       have K11 := KI.step K10 hb11
       have S11 := Sta.kept S10 hb11)
    | (go_at_call 13; ((with_reducible refine (text_s hAbc hAbc_len sAbc sAbc_text w11).mono ?_); rintro e12 w12 ⟨rfl, hb12⟩)
       have K12 := KI.step K11 hb12
       have S12 := Sta.kept S11 hb12)
    | (go_at_call 18; ((with_reducible refine (len_lit g s3 3 s3_n s3_ok w12 S12).mono ?_); rintro e13 w13 ⟨rfl, rfl⟩))
    | (go_at_call 17; ((with_reducible refine (write_nil _ w12).mono ?_); rintro e14 w14 ⟨rfl, rfl⟩))
    | (go_at_call 17; ((with_reducible refine (write_zero_lit V3.heap.size _ w12 _ K12.out.inside K12.out.zero).mono ?_); rintro e15 w15 ⟨rfl, rfl⟩)
       have K13 := fun o => KI.alloc K12 o)
    | (go_at_call 19; ((with_reducible refine (ssum_nil _).mono ?_); rintro e16 w16 ⟨rfl, hb16⟩)
       have K16 := KI.step (K13 _) hb16)
    | (go_at_call 19; ((with_reducible refine (ssum_zero V3.heap.size w16 K16.out.inside K16.out.zero).mono ?_); rintro e17 w17 ⟨rfl, hb17⟩)
       have K17 := KI.step K16 hb17)
    | (go_at_call 18; ((with_reducible refine (len_nil w17).mono ?_); rintro e18 w18 ⟨rfl, rfl⟩))
    | (go_at_call 18; ((with_reducible refine (len_zero V3.heap.size w17 K17.out.zero).mono ?_); rintro e19 w19 ⟨rfl, rfl⟩)))
  go_ret
  exact ⟨rfl, K17.out.below⟩
end Go.Proofs.YtmdlahmcdgkhkaaDoor
