/- (*Reader).Next: what a call does that gives a frame. Conditions: a reader. -/
import Derived.Test.YtakgbopkkechgaaFG
import Derived.Deep.RegionLaw
import Derived.StillTailTactics
namespace Go.Proofs.Ytakgbopkkechgaa
open Go.RowKit
set_option maxRecDepth 100000 in
/-- Bytes in the midst. -/
theorem Bytes.mid {w : World} {v : Value} {xs : List UInt8} {A : Option Addr} {cap bb off : Nat} (h : Bytes w v xs A cap bb off) (l m : Nat) (hlm : l ≤ m) (hm : m ≤ xs.length) :
    ∃ A2, (∀ w : World, (Instr.slice 22 v (some (.int .i64 (l : Int))) (some (.int .i64 (m : Int))) none).run Try.prog w = .ok (.slice A2 (m - l) (cap - l)) w) ∧ Bytes w (.slice A2 (m - l) (cap - l)) ((xs.take m).drop l) A2 (cap - l) bb (off + l) := by
  have he : Try.prog.elem 22 = 5 := by kernel_rfl
  have hs : ∀ w, (sizeOf (Try.prog.elem 22)).run Try.prog w = .ok 1 w := by intro w; rw [he]; kernel_rfl
  have hle := h.le
  have hp := h.pre m hm
  have hpl : (xs.take m).length = m := by rw [List.length_take]; omega
  obtain ⟨A2, hr, hb⟩ := hp.rest l (by omega)
  have hln : ((xs.take m).drop l).length = m - l := by rw [List.length_drop, hpl]
  rw [hln] at hr hb
  refine ⟨A2, fun w' => ?_, hb⟩
  rw [h.form, run_slice_lh (P := Try.prog) w' 22 A xs.length cap (by kernel_rfl) .i64 .i64 (l : Int) (m : Int) (by omega) (by omega) (by omega)]
  refine Eq.trans ?_ (hr w')
  rw [run_slice_l (P := Try.prog) w' 22 A m cap (by kernel_rfl) .i64 (l : Int) (by omega) (by omega)]
  rfl
/-- Bytes appended to what has no room, wherever that lies. -/
theorem append_none (w : World) (A0 : Option Addr) {src : Value} {ys : List UInt8} {A : Option Addr} {cap bb off : Nat} (hs : Bytes w src ys A cap bb off) (hn : ys.length ≤ 100000) :
    ∃ v' w' A' cap' bb', (Builtin.append_ #[22, 22] 22 #[.slice A0 0 0, src]).run Try.prog w = .ok v' w' ∧ Bytes w' v' ys A' cap' bb' 0 ∧ (bb' = 0 ∨ w.heap.size ≤ bb') ∧ Below w.heap.size w w' := by
  obtain ⟨i0, hi, hz0, hz1, hz2⟩ := info_parts info5
  have hpos : 0 < w.heap.size := Nat.lt_of_le_of_lt (Nat.zero_le _) hs.blk
  have hu := Try.underlying22
  rcases Nat.eq_zero_or_pos ys.length with h0 | h0
  · obtain rfl : ys = [] := List.eq_nil_of_length_eq_zero h0
    refine ⟨.slice A0 0 0, w, A0, 0, 0, ?_, ⟨rfl, Nat.le_refl _, fun _ => rfl, fun a _ j hj => absurd hj (by simp), hpos, fun h => absurd h (by simp)⟩, .inl rfl, Below.refl _ _⟩
    rw [hs.form]
    cases A0 <;> cases A <;> simp [Builtin.append_, run_underlying hu, sizeOf, typeInfo, hi, Builtin.lenOf, Builtin.firstCells, loadCells, loadCellsFrom, storeCells]
  · have hA := hs.src h0
    subst hA
    rw [hs.form]
    have fin : ∀ (c : Nat) (olds : List Value), olds = [] → ys.length ≤ c → Bytes (w.drew.alloc (.cells (olds.toArray ++ (ys.map V8).toArray ++ Builtin.zeroCells (Value.int IntKind.u8 0).cells (c - ys.length)) 5)) (.slice (some ⟨w.heap.size, 0, none⟩) ys.length c) ys (some ⟨w.heap.size, 0, none⟩) c w.heap.size 0 := by
      rintro c olds rfl hge
      refine ⟨rfl, hge, (fun h => by cases h), fun a ha j hj => ?_, by simp, fun _ => rfl⟩
      cases ha
      rw [add_at, Nat.zero_add]
      have := Has.at_ (Has.fresh w.drew 5 (([] : List Value).toArray ++ (ys.map V8).toArray ++ Builtin.zeroCells (Value.int IntKind.u8 0).cells (c - ys.length))) j
      refine this.trans ?_
      rw [Array.getElem?_append_left (by simp; exact hj), Array.getElem?_append_right (by simp)]
      simpa using get_map hj
    have hnew : ∀ j u, (ys.map V8)[j]? = some u → w.cell? ((⟨bb, off, none⟩ : Addr).add j) = some u := fun j u hj => by obtain ⟨h1, rfl⟩ := map_get hj; exact hs.at_ _ rfl j h1
    have hge := grownCap_ge w ys.length 0 5
    cases A0 with
    | none =>
      have hr := run_append_nil (P := Try.prog) w 22 22 5 i0 (.int .u8 0) hu hi hz0 ⟨bb, off, none⟩ ys.length cap (ys.map V8) (by rw [List.length_map, hz1, Nat.mul_one]) hnew h0 (by omega) (by rw [hz2]; omega)
      have hf := fin _ [] rfl hge
      rw [show (([] : List Value).toArray ++ (ys.map V8).toArray) = (ys.map V8).toArray by simp] at hf
      exact ⟨_, _, _, _, w.heap.size, hr, hf, .inr (Nat.le_refl _), (Below.refl _ _).drew.alloc (Nat.le_refl _) _⟩
    | some a0 =>
      have hr := run_append_grow (P := Try.prog) w 22 22 5 i0 (.int .u8 0) hu hi hz0 a0 0 0 [] (by simp) (fun j v hj => by simp at hj) ⟨bb, off, none⟩ ys.length cap (ys.map V8) (by rw [List.length_map, hz1, Nat.mul_one]) hnew (by omega) (by omega) (growslice_fits (by omega) (by rw [hz2]; omega))
      rw [Nat.zero_add] at hr
      exact ⟨_, _, _, _, w.heap.size, hr, fin _ [] rfl hge, .inr (Nat.le_refl _), (Below.refl _ _).drew.alloc (Nat.le_refl _) _⟩
theorem Box4.drawn {w : World} {S : Nat} {p body : Value} {ok : Bool} {e : Int} (h : Box4 w S p body ok e) (n : Nat) : Box4 (w.drewN n) S p body ok e := ⟨h.r, h.b, h.o, h.e⟩
set_option maxRecDepth 100000 in
set_option maxHeartbeats 2000000 in
/-- A frame comes out. -/
theorem next_one (p : Nat) (xs : List UInt8) (o : Option Nat) (k : UInt8) (body rest : List UInt8) (hout : outL xs = .one k body rest) (w : World) (h : Rd w p (false, xs) o) : Calls Try.prog 17 #[.pointer (some ⟨p, 0, none⟩)] w fun e w' =>
    ∃ v A cap bb, e = .returned (.tuple #[.int .i64 (b8 k), v, .bool true, .int .i64 0]) ∧ Bytes w' v body A cap bb 0 ∧ (bb = 0 ∨ w.heap.size ≤ bb) ∧ Rd w' p (false, rest) o ∧ Grw p w w' := by
  obtain ⟨W1, hW, HX, HB⟩ := box_new w (.pointer (some ⟨p, 0, none⟩))
  have HR := hid (h.kept HB.out (Nat.le_refl _))
  have C : Hid (Calls Try.prog 25 #[.pointer (some ⟨p, 0, none⟩)] W1 fun e w' => e = .returned (.int .i64 0) ∧ W1 = w') := ready_any p (false, xs) o W1 HR.out
  obtain ⟨hh, h5, hbody, hrest⟩ := head_one hout
  have HPS : Hid (p < w.heap.size) := h.inside
  have HRow : Hid (∀ k, o = some k → k < w.heap.size) := fun k hk => h.row hk
  have HBL : Hid (body.length ≤ 100000) := by show _ ≤ _; have := (out_back hout).2.2; omega
  obtain ⟨v, l, h1, h2, h3, ⟨hz1, hz2, hq, hz3⟩ | ⟨hb, _⟩⟩ := HR.out
  rotate_left 1
  · cases hb
  have HQ := hid hq
  obtain ⟨A, c, bb, off, hy, hob⟩ := hq.bytes (Nat.lt_of_le_of_lt (Nat.zero_le _) h1.inside)
  obtain rfl := hy.form
  have CH := hid (headOf_any _ xs A c bb off h2 W1 hy)
  rw [hh] at CH
  simp only at CH
  have H1 := hid h1
  have H2 : Hid (xs.length ≤ 131072 ∧ 0 < p ∧ o ≠ some p) := ⟨h2, h3, hz3⟩
  obtain ⟨A2, c2, hr2, hq2⟩ := hq.rest (5 + body.length) h5
  obtain ⟨A3, hr3, hy3⟩ := hy.mid 5 (5 + body.length) (by omega) h5
  have eb : (xs.take (5 + body.length)).drop 5 = body := by rw [List.drop_take, Nat.add_sub_cancel_left]; exact hbody.symm
  rw [eb] at hy3
  rw [← hrest] at hr2 hq2
  have HY3 := hid hy3
  have HQ2 := hid hq2
  have k0 := fun w' => Bytes.none_run (A := A) (n := xs.length) (cap := c) w'
  have c1 := HX.out.b.at_ 0
  have c2' := HX.out.o.at_ 0
  have c3 := HX.out.e.at_ 0
  have kr := HX.out.r.at_ 0
  simp at c1 c2' c3 kr
  have cp : W1.cell? ⟨p, 1, none⟩ = some (.slice A xs.length c) := h1.at_ 1
  have ln : 5 + body.length - 5 = body.length := by omega
  rw [ln] at hr3 HY3
  have hk5 : ((5 + body.length : Nat) : Int) = 5 + (body.length : Int) := by omega
  rw [hk5] at hr2 hr3
  have hr3' : ∀ w, (Instr.slice 22 (.slice A xs.length c) (some (.int .i64 5)) (some (.int .i64 (5 + (body.length : Int)))) none).run Try.prog w = .ok (.slice A3 body.length (c - 5)) w := hr3
  have hlt : ¬ (xs.length : Int) < 5 + (body.length : Int) := by omega
  have HRL : Hid (rest.length ≤ 131072) := by show _ ≤ _; rw [hrest, List.length_drop]; have := H2.out.1; omega
  have hyb : Hid (bb < w.heap.size) := by
    show _ < _
    rcases hob with e | ⟨_, e⟩
    · exact HRow.out bb e
    · have := HPS.out; omega
  subst hz2
  clear h hy hq h1 h2 h3 hz1 hz3 hout hh hq2 hy3 hr3 hbody hrest eb h5 ln hk5 hob
  have hf := hmf
  go_enter_defers Try.func17, Try.ntmps17
  go_wp2_with (first
    | (go_at_call 25; refine C.out.mono ?_; rintro e w' ⟨rfl, rfl⟩)
    | (go_at_call 27; refine CH.out.mono ?_; rintro e w2 ⟨rfl, hb2⟩
       have B2 := hid hb2
       have H2b := hid (H1.out.kept hb2 H1.out.inside)
       have Y2 := hid (HY3.out.kept hb2 (Nat.le_refl _))
       have Q2 := hid (HQ2.out.same (fun k hk => hb2.block k (HQ2.out.inside hk)))
       have X2 := hid (HX.out.kept hb2)
       have cp2 : w2.cell? ⟨p, 1, none⟩ = some (.slice A xs.length c) := H2b.out.at_ 1
       have j1 := X2.out.b.at_ 0
       have j2 := X2.out.o.at_ 0
       have j3 := X2.out.e.at_ 0
       have jr := X2.out.r.at_ 0
       have g1 := X2.out.b.free 0
       have g2 := X2.out.o.free 0
       have g3 := X2.out.e.free 0
       simp at j1 j2 j3 jr
       clear hb2))
  have X3 := hid (X2.out.setE 0)
  have B3 : Hid (Below w.heap.size w (w2.setCell ⟨w.heap.size + 1 + 1 + 1, 0, none⟩ (.int .i64 0))) := (HB.out.trans (B2.out.mono HB.out.size)).setCell (p := ⟨w.heap.size + 3, 0, none⟩) (by simp) _
  have G3 := Grw.of_set (w.heap.size + 3) 0 w2 (.int .i64 0)
  have H3b : Hid (Has (w2.setCell ⟨w.heap.size + 1 + 1 + 1, 0, none⟩ (.int .i64 0)) p 61 #[.bool true, .slice A xs.length c, .int .i64 0]) := H2b.out.other (by have := HPS.out; simp; omega) _
  have Y3 : Hid (Bytes (w2.setCell ⟨w.heap.size + 1 + 1 + 1, 0, none⟩ (.int .i64 0)) (.slice A3 body.length (c - 5)) body A3 (c - 5) bb (off + 5)) := Y2.out.grw G3 (by have := hyb.out; omega)
  have Q3 : Hid (Que (w2.setCell ⟨w.heap.size + 1 + 1 + 1, 0, none⟩ (.int .i64 0)) (.slice A2 rest.length c2) rest o) := Q2.out.same (fun k hk => G3.block k (Q2.out.inside hk) (fun e => by have := HRow.out k hk; have := Option.some.inj e; omega))
  change Hid (Box4 (w2.setCell ⟨w.heap.size + 1 + 1 + 1, 0, none⟩ (.int .i64 0)) _ _ _ _ _) at X3
  clear G3
  generalize w2.setCell ⟨w.heap.size + 1 + 1 + 1, 0, none⟩ (.int .i64 0) = w3 at *
  have cp3 : w3.cell? ⟨p, 1, none⟩ = some (.slice A xs.length c) := H3b.out.at_ 1
  have i1 := X3.out.b.at_ 0
  have i2 := X3.out.o.at_ 0
  have i3 := X3.out.e.at_ 0
  have ir := X3.out.r.at_ 0
  simp at i1 i2 i3 ir
  clear j1 j2 j3 jr g1 g2 g3 cp2 c1 c2' c3 kr cp C CH H1
  go_still_tail 11, (by kernel_rfl)
  change wpList _ _ _ _ _ w3.drew
  obtain ⟨wz, hz⟩ : ∃ wz, w3.drew = wz := ⟨_, rfl⟩
  have Bz : Hid (Below w.heap.size w wz) := by rw [← hz]; exact B3.out.drew
  have Xz : Hid (Box4 wz w.heap.size (.pointer (some ⟨p, 0, none⟩)) (.slice none 0 0) false 0) := by rw [← hz]; exact X3.out.drew
  have Yz : Hid (Bytes wz (.slice A3 body.length (c - 5)) body A3 (c - 5) bb (off + 5)) := by rw [← hz]; exact Y3.out.drawn 1
  have Hz : Hid (Has wz p 61 #[.bool true, .slice A xs.length c, .int .i64 0]) := by rw [← hz]; exact H3b.out
  have Qz : Hid (Que wz (.slice A2 rest.length c2) rest o) := by rw [← hz]; exact Q3.out.same (fun _ _ => rfl)
  rw [hz]
  clear hz i1 i2 i3 ir cp3 X3 B3 H3b Y3 Q3
  go_wp2_with (at_builtin; refine wpList_append_run (by rfl) _ _ 22 22 (by rfl) ?_
               obtain ⟨v', w5, A', cap', bb', hr, hy, hbb, hb⟩ := append_none _ A Yz.out HBL.out
               obtain rfl := hy.form
               refine ⟨_, w5, hr, ?_⟩
               have X5 := hid (Xz.out.kept hb)
               have B5 := hid (Bz.out.trans (hb.mono Bz.out.size))
               have Y5 := hid hy
               have N5 : Hid (bb' = 0 ∨ wz.heap.size ≤ bb') := hbb
               have H5 := hid (Hz.out.kept hb Hz.out.inside)
               have Q5 := hid (Qz.out.same (fun k hk => hb.block k (Qz.out.inside hk)))
               have m1 := X5.out.b.at_ 0
               have n1 := X5.out.b.free 0
               simp at m1
               clear hr hy hbb hb)
  have W6 : Hid (Bytes (w5.setCell ⟨w.heap.size + 1, 0, none⟩ (.slice A' body.length cap')) (.slice A' body.length cap') body A' cap' bb' 0) := by
    refine Y5.out.grw (Grw.of_set _ 0 w5 _) ?_
    have := Xz.out.e.inside
    rcases N5.out with e | e
    · have := HPS.out; omega
    · omega
  have X6 := hid (X5.out.setB (.slice A' body.length cap'))
  have B6 := hid (B5.out.setCell (p := ⟨w.heap.size + 1, 0, none⟩) (by simp) (.slice A' body.length cap'))
  have H6 : Hid (Has (w5.setCell ⟨w.heap.size + 1, 0, none⟩ (.slice A' body.length cap')) p 61 #[.bool true, .slice A xs.length c, .int .i64 0]) := H5.out.other (by have := HPS.out; simp; omega) _
  have Q6 : Hid (Que (w5.setCell ⟨w.heap.size + 1, 0, none⟩ (.slice A' body.length cap')) (.slice A2 rest.length c2) rest o) := Q5.out.same (fun k hk => (Grw.of_set (w.heap.size + 1) 0 w5 (.slice A' body.length cap')).block k (Q5.out.inside hk) (fun e => by have := HRow.out k hk; have := Option.some.inj e; omega))
  have N6 : Hid (bb' = 0 ∨ w.heap.size + 3 < bb') := by
    have := Xz.out.e.inside
    rcases N5.out with e | e
    · exact .inl e
    · exact .inr (by omega)
  generalize w5.setCell ⟨w.heap.size + 1, 0, none⟩ (.slice A' body.length cap') = w6 at *
  have i1 := X6.out.b.at_ 0
  have i2 := X6.out.o.at_ 0
  have i3 := X6.out.e.at_ 0
  have d1 := X6.out.b.free 0
  have d2 := X6.out.o.free 0
  have d3 := X6.out.e.free 0
  simp at i1 i2 i3
  clear m1 n1 X5 Y5 B5 H5 Q5 Xz Yz Bz Hz Qz N5
  obtain ⟨w7, h7, X7, B7, BW⟩ := box_last X6.out B6.out (.slice A' body.length cap') true 0
  have H7 := hid (H6.out.kept BW.out HPS.out)
  have Y7 : Hid (Bytes w7 (.slice A' body.length cap') body A' cap' bb' 0) := by
    rw [← h7]
    refine ((W6.out.grw (Grw.of_set (w.heap.size + 1) 0 w6 _) ?_).grw (Grw.of_set (w.heap.size + 1 + 1) 0 _ _) ?_).grw ((Grw.of_set (w.heap.size + 1 + 1 + 1) 0 _ _).drew') ?_
    all_goals
      have := N6.out
      omega
  have Q7 := hid (Q6.out.same (fun k hk => BW.out.block k (HRow.out k hk)))
  go_region
  all_goals
    go_wp2
    refine leaves_cons (f := 26) (args := #[.pointer (some ⟨w.heap.size + 1 + 1 + 1, 0, none⟩), .pointer (some ⟨w.heap.size, 0, none⟩), .pointer (some ⟨w.heap.size + 1 + 1, 0, none⟩), .pointer (some ⟨w.heap.size + 1, 0, none⟩)]) (by simp) (by simp [go_sem]) ?_
    refine (tail_one _ _ _ _ p A A' A2 xs.length c body.length cap' rest.length c2 w7 X7.out.e X7.out.o X7.out.r X7.out.b HBL.out H7.out hr2).mono ?_
    rintro e u' w'' ⟨rfl, rfl, hhas, hgrw⟩
    have ⟨r1, r2, r3⟩ := box_read (X7.out.grw hgrw HPS.out)
    simp only [Leaves, settle]
    refine ⟨.tuple #[.int .i64 (b8 k), .slice A' body.length cap', .bool true, .int .i64 0], by simp [results, Try.results17, go_sem, r1, r2, r3], ?_⟩
    refine ⟨_, _, _, _, rfl, Y7.out.grw hgrw ?_, ?_, ⟨_, 0, hhas, HRL.out, H2.out.2.1, .inl ⟨rfl, rfl, Q7.out.same (fun k hk => hgrw.block k (Q7.out.inside hk) (fun e => H2.out.2.2 (by rw [hk, Option.some.inj e]))), H2.out.2.2⟩⟩, (Grw.of_below B7.out).trans hgrw⟩
    · have := N6.out; have := HPS.out; have := H2.out.2.1; omega
    · have := N6.out; omega
end Go.Proofs.Ytakgbopkkechgaa
