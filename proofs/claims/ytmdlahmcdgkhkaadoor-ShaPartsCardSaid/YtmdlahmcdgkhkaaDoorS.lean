/- The law ShaBack, its third way, and all three. Conditions: the listed table. -/
import Derived.Test.YtmdlahmcdgkhkaaDoorR
namespace Go.Proofs.YtmdlahmcdgkhkaaDoor
open Go.RowKit
theorem of_no (s : ByteArray) (l x : List UInt8) (hs : s.data.toList = l) (ho : ofL l = none) (hx : x = List.replicate 32 0) (w : World) :
    Calls Tryd.prog 11 #[.string s] w fun e w' => e = .returned (.tuple #[.agg (bvec x), .bool false]) ∧ Below w.heap.size w w' :=
  (of_any s l hs w).mono fun _ _ ⟨h1, h2⟩ => ⟨by rw [h1, ho, hx]; rfl, h2⟩
set_option maxRecDepth 100000 in
set_option maxHeartbeats 400000 in
theorem back_none (h : List UInt8) (hl : h.length = 32) (s : ByteArray) (l x : List UInt8) (hs : s.data.toList = l) (hx : ofL l = none) (hx0 : x = List.replicate 32 0) (hn : s.size ≤ 20000) (w : World) (hT : Tab w) :
    Calls Tryd.prog 7 #[.agg (bvec h), .string s] w fun e w' => e = .returned (.bool true) ∧ Below w.heap.size w w' := by
  have hs1 : ¬ (20000 : Int) < (s.size : Int) := by omega
  have HT := hid hT
  have HP := hid hT.pos
  have HS := hid hs
  have HX := hid hx
  have HL := hid hl
  have HX0 := hid hx0
  have HXL : Hid (x.length = 32) := by show x.length = 32; rw [hx0]; rfl
  have heq0 : ∀ w, (binOp .eql 25 (.agg (bvec x)) (.agg zero32)).run Tryd.prog w = .ok (.bool true) w := fun w => by
    rw [zero32_b, run_hash_eql x _ HXL.out rfl w, hx0, sameL_refl]
  unfold zero32 at heq0
  have Y1 := size_dig h hl
  have Y2 := size_zero h hl
  have X1 := size_dig x HXL.out
  have X2 := size_zero x HXL.out
  have HTL : Hid ((textL h).length = 64) := textUp_len h 32
  have heq : ∀ w, (binOp .eql 25 (.agg (bvec h)) (.agg (bvec h))).run Tryd.prog w = .ok (.bool true) w := fun w => by
    rw [run_hash_eql h h hl hl w, sameL_refl]
  have HOT : Hid (ofL (textL h) = some h) := of_text h hl
  obtain ⟨th, HTH⟩ : ∃ th : ByteArray, Hid (th.data.toList = textL h) := ⟨⟨(textL h).toArray⟩, rfl⟩
  have h64 : (th.size : Int) = 64 := by rw [← size_list, HTH.out, HTL.out]; rfl
  clear hT hs hx hl hn hx0
  go_enter Tryd.func7, Tryd.ntmps7
  go_wp2_with (first
    | (refine wpList_load_row rfl 25 (.tmp 2) rfl w.heap.size rfl 25 (bvec h) (0, 0) _ (Has.fresh w 25 (bvec h)) Tryd.underlying25 rfl Y1.out ?_)
    | (go_at_call 13; ((with_reducible refine (text_s h HL.out th HTH.out (w.alloc (.cells (bvec h) 25))).mono ?_); rintro e1 w1 ⟨rfl, hb1⟩)
       obtain ⟨B1, H1⟩ := box_kept w w1 h hb1)
    | (go_at_call 11; ((with_reducible refine (of_of th (textL h) h HTH.out HOT.out w1).mono ?_); rintro e2 w2 ⟨rfl, hb2⟩)
       have B2 : Hid (Below w.heap.size w w2) := B1.out.trans (hb2.mono B1.out.size)
       have H2 : Hid (Has w2 w.heap.size 25 (bvec h)) := Has.kept H1.out hb2 (Has.inside H1.out))
    | (refine wpList_store_row rfl 25 (.tmp 5) (.tmp 17) rfl w2.heap.size (bvec h) rfl rfl 25 zero32 (Has.fresh w2 25 zero32) Y1.out Y2.out (bvec_one _) ?_
       generalize hG : World.setRow _ _ _ = W3
       obtain ⟨W0, hG0, B3, A3, K3⟩ := lay_hash w w2 h B2.out
       obtain rfl : W0 = W3 := hG0.symm.trans hG
       have H3 : Hid (Has W0 w.heap.size 25 (bvec h)) := Has.kept H2.out K3.out (Has.inside H2.out)
       clear hG0 hG)
    | (go_at_call 11; ((with_reducible refine (of_no s l x HS.out HX.out HX0.out W0).mono ?_); rintro e4 w4 ⟨rfl, hb4⟩)
       have B4 : Hid (Below w.heap.size w w4) := B3.out.trans (hb4.mono B3.out.size)
       have H4 : Hid (Has w4 w.heap.size 25 (bvec h)) := Has.kept H3.out hb4 (Has.inside H3.out)
       have A4 : Hid (Has w4 w2.heap.size 25 (bvec h)) := Has.kept A3.out hb4 (Has.inside A3.out))
    | (refine wpList_store_row rfl 25 (.tmp 7) (.tmp 22) rfl w4.heap.size (bvec x) rfl rfl 25 zero32 (Has.fresh w4 25 zero32) X1.out X2.out (bvec_one _) ?_
       generalize hG : World.setRow _ _ _ = W5
       obtain ⟨V0, hG0, B5, C5, K5⟩ := lay_hash w w4 x B4.out
       obtain rfl : V0 = W5 := hG0.symm.trans hG
       have H5 : Hid (Has V0 w.heap.size 25 (bvec h)) := Has.kept H4.out K5.out (Has.inside H4.out)
       have A5 : Hid (Has V0 w2.heap.size 25 (bvec h)) := Has.kept A4.out K5.out (Has.inside A4.out)
       have LH := load_box H5 HL.out
       have LA := load_box A5 HL.out
       clear hG0 hG)
    | (refine wpList_load_g (by rfl) 25 (.tmp 5) rfl w2.heap.size rfl 25 (bvec h) (0, 0) LA.out ?_)
    | (refine wpList_load_g (by rfl) 25 (.tmp 2) rfl w.heap.size rfl 25 (bvec h) (0, 0) LH.out ?_)
    | (go_at_call 13; ((with_reducible refine (text_s h HL.out th HTH.out V0).mono ?_); rintro e6 w6 ⟨rfl, hb6⟩)
       have B6 : Hid (Below w.heap.size w w6) := B5.out.trans (hb6.mono B5.out.size)
       have C6 : Hid (Has w6 w4.heap.size 25 (bvec x)) := Has.kept C5.out hb6 (Has.inside C5.out)
       have LC := load_box C6 HXL.out
       have T6 : Hid (Tab w6) := HT.out.kept B6.out HP.out)
    | (refine wpList_load_g (by rfl) 25 (.tmp 7) rfl w4.heap.size rfl 25 (bvec x) (0, 0) LC.out ?_)
    | (go_at_call 8; refine (awake_any _ T6.out).mono ?_; rintro e8 w8 ⟨rfl, hb8⟩))
  go_ret
  exact ⟨rfl, B6.out.trans (hb8.mono B6.out.size)⟩
theorem back_any (h : List UInt8) (hl : h.length = 32) (s : ByteArray) (w : World) (hT : Tab w) :
    Calls Tryd.prog 7 #[.agg (bvec h), .string s] w fun e w' => e = .returned (.bool true) ∧ Below w.heap.size w w' := by
  rcases Nat.lt_or_ge 20000 s.size with hn | hn
  · exact back_large h s hn w hT
  · rcases hx : ofL s.data.toList with _ | x
    · exact back_none h hl s _ _ rfl hx rfl hn w hT
    · exact back_some h hl s _ x rfl hx hn w hT
end Go.Proofs.YtmdlahmcdgkhkaaDoor
