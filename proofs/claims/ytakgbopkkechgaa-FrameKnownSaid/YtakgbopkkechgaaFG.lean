/- (*Reader).Next: what each call does. Conditions: a reader. -/
import Derived.Test.YtakgbopkkechgaaFF
namespace Go.Proofs.Ytakgbopkkechgaa
open Go.RowKit
theorem head_wait {l : List UInt8} (h : outL l = .wait) : ∃ (k s : Int), headL l = (k, s, 0) ∧ (l.length : Int) < s := by
  unfold outL at h
  unfold headL
  split at h
  · rename_i h1
    exact ⟨0, 5, by rw [if_pos h1], by omega⟩
  · rename_i h1
    rw [if_neg h1]
    split at h
    · cases h
    · rename_i h2
      rw [if_neg h2]
      split at h
      · rename_i h3
        exact ⟨0, 5, by rw [if_pos h3], by omega⟩
      · rename_i h3
        rw [if_neg h3]
        split at h
        · cases h
        · rename_i h4
          rw [if_neg h4]
          split at h
          · rename_i h5
            exact ⟨_, _, rfl, by omega⟩
          · cases h
theorem head_bad {l : List UInt8} (h : outL l = .bad) : headL l = (0, 0, 4) ∧ 0 < l.length := by
  unfold outL at h
  unfold headL
  split at h
  · cases h
  · rename_i h1
    rw [if_neg h1]
    split at h
    · rename_i h2
      exact ⟨by rw [if_pos h2], by omega⟩
    · rename_i h2
      rw [if_neg h2]
      split at h
      · cases h
      · rename_i h3
        rw [if_neg h3]
        split at h
        · rename_i h4
          exact ⟨by rw [if_pos h4], by omega⟩
        · split at h
          · cases h
          · cases h
theorem head_one {l : List UInt8} {k : UInt8} {body rest : List UInt8} (h : outL l = .one k body rest) :
    headL l = (b8 k, 5 + (body.length : Int), 0) ∧ 5 + body.length ≤ l.length ∧ body = (l.drop 5).take body.length ∧ rest = l.drop (5 + body.length) := by
  unfold outL at h
  unfold headL
  split at h
  · cases h
  · rename_i h1
    rw [if_neg h1]
    split at h
    · cases h
    · rename_i h2
      rw [if_neg h2]
      split at h
      · cases h
      · rename_i h3
        rw [if_neg h3]
        split at h
        · cases h
        · rename_i h4
          rw [if_neg h4]
          split at h
          · cases h
          · rename_i h5
            injection h with e1 e2 e3
            have hb : body.length = cnt l - 1 := by rw [← e2, List.length_take, List.length_drop]; omega
            refine ⟨?_, by omega, by rw [hb]; exact e2.symm, by rw [← e3]; congr 1; omega⟩
            rw [e1]
            congr 2
            omega
/-- The variables of a call of Next. -/
structure Box4 (w : World) (S : Nat) (p body : Value) (ok : Bool) (e : Int) : Prop where
  r : Has w S 33 #[p]
  b : Has w (S + 1) 22 #[body]
  o : Has w (S + 2) 4 #[.bool ok]
  e : Has w (S + 3) 23 #[.int .i64 e]
section
variable {w w' : World} {S : Nat} {p body : Value} {ok : Bool} {e : Int}
theorem box_new (w : World) (p : Value) : ∃ W1, (((w.alloc (.cells #[p] 33)).alloc (.cells #[.slice none 0 0] 22)).alloc (.cells #[.bool false] 4)).alloc (.cells #[.int .i64 0] 23) = W1 ∧
    Hid (Box4 W1 w.heap.size p (.slice none 0 0) false 0) ∧ Hid (Below w.heap.size w W1) := by
  refine ⟨_, rfl, ⟨?_, ?_, ?_, ?_⟩, ?_⟩
  · exact (((Has.fresh w 33 _).more _).more _).more _
  · exact ((Has.fresh' (w.alloc _) 22 _ (by simp)).more _).more _
  · exact (Has.fresh' ((w.alloc _).alloc _) 4 _ (by simp)).more _
  · exact Has.fresh' (((w.alloc _).alloc _).alloc _) 23 _ (by simp)
  · exact ((((Below.refl _ _).alloc (Nat.le_refl _) _).alloc (by simp) _).alloc (by simp; omega) _).alloc (by simp; omega) _
theorem Box4.kept (h : Box4 w S p body ok e) (hb : Below w.heap.size w w') : Box4 w' S p body ok e :=
  ⟨h.r.kept hb h.r.inside, h.b.kept hb h.b.inside, h.o.kept hb h.o.inside, h.e.kept hb h.e.inside⟩
theorem Box4.grw {g : Nat} (h : Box4 w S p body ok e) (hg : Grw g w w') (hS : g < S) : Box4 w' S p body ok e :=
  ⟨h.r.grw hg (by omega), h.b.grw hg (by omega), h.o.grw hg (by omega), h.e.grw hg (by omega)⟩
theorem Box4.setE (h : Box4 w S p body ok e) (x : Int) : Box4 (w.setCell ⟨S + 3, 0, none⟩ (.int .i64 x)) S p body ok x :=
  ⟨h.r.other (by simp) _, h.b.other (by simp) _, h.o.other (by simp) _, h.e.put 0 _⟩
theorem Box4.setB (h : Box4 w S p body ok e) (x : Value) : Box4 (w.setCell ⟨S + 1, 0, none⟩ x) S p x ok e :=
  ⟨h.r.other (by simp) _, h.b.put 0 _, h.o.other (by simp) _, h.e.other (by simp) _⟩
theorem Box4.setO (h : Box4 w S p body ok e) (x : Bool) : Box4 (w.setCell ⟨S + 2, 0, none⟩ (.bool x)) S p body x e :=
  ⟨h.r.other (by simp) _, h.b.other (by simp) _, h.o.put 0 _, h.e.other (by simp) _⟩
end
theorem Box4.drew {w : World} {S : Nat} {p body : Value} {ok : Bool} {e : Int} (h : Box4 w S p body ok e) : Box4 w.drew S p body ok e := ⟨h.r, h.b, h.o, h.e⟩
/-- What the last three stores leave. -/
theorem box_last {w0 w : World} {S : Nat} {p body : Value} {ok : Bool} {e : Int} (h : Box4 w S p body ok e) (hb : Below S w0 w) (v : Value) (b : Bool) (x : Int) :
    ∃ w4, (((w.setCell ⟨S + 1, 0, none⟩ v).setCell ⟨S + 1 + 1, 0, none⟩ (.bool b)).setCell ⟨S + 1 + 1 + 1, 0, none⟩ (.int .i64 x)).drew = w4 ∧ Hid (Box4 w4 S p v b x) ∧ Hid (Below S w0 w4) ∧ Hid (Below S w w4) := by
  refine ⟨_, rfl, (((h.setB v).setO b).setE x).drew, ?_, ?_⟩
  · exact (((hb.setCell (p := ⟨S + 1, 0, none⟩) (by simp) _).setCell (p := ⟨S + 2, 0, none⟩) (by simp) _).setCell (p := ⟨S + 3, 0, none⟩) (by simp) _).drew
  · exact ((((Below.refl _ _).setCell (p := ⟨S + 1, 0, none⟩) (by simp) _).setCell (p := ⟨S + 2, 0, none⟩) (by simp) _).setCell (p := ⟨S + 3, 0, none⟩) (by simp) _).drew
theorem box_read {w : World} {S : Nat} {p body : Value} {ok : Bool} {e : Int} (h : Box4 w S p body ok e) : w.cell? ⟨S + 1, 0, none⟩ = some body ∧ w.cell? ⟨S + 1 + 1, 0, none⟩ = some (.bool ok) ∧ w.cell? ⟨S + 1 + 1 + 1, 0, none⟩ = some (.int .i64 e) :=
  ⟨h.b.at_ 0, h.o.at_ 0, h.e.at_ 0⟩
theorem hmf : ∀ (fn : Fn) (first cap : Array Value) (w : World), (Instr.makeFunc fn first cap).run Try.prog w = .ok (.func fn first cap) w := fun _ _ _ _ => rfl
set_option maxRecDepth 100000 in
set_option maxHeartbeats 1000000 in
/-- Of a reader that is none. -/
theorem next_nord (a : Option Addr) (w : World) (h : NoRd w (.pointer a)) : Calls Try.prog 17 #[.pointer a] w fun e w' => e = .returned (.tuple #[.int .i64 0, .slice none 0 0, .bool false, .int .i64 1]) ∧ Below w.heap.size w w' := by
  have C : Hid (∀ W, Below w.heap.size w W → Calls Try.prog 25 #[.pointer a] W fun e w' => e = .returned (.int .i64 1) ∧ W = w') := fun W hb => ready_none (.pointer a) W (by
    rcases h with h | ⟨p, h, l, e, h1⟩
    · exact .inl h
    · exact .inr ⟨p, h, l, e, h1.kept hb h1.inside⟩)
  obtain ⟨W1, hW, HX, HB⟩ := box_new w (.pointer a)
  have k1 := HX.out.b.at_ 0
  have k2 := HX.out.o.at_ 0
  have k3 := HX.out.e.at_ 0
  have f1 := HX.out.b.free 0
  have f2 := HX.out.o.free 0
  have f3 := HX.out.e.free 0
  have kr := HX.out.r.at_ 0
  simp at k1 k2 k3 kr
  clear h
  go_enter_defers Try.func17, Try.ntmps17
  go_wp2_with (go_at_call 25; refine (C.out _ HB.out).mono ?_; rintro e w' ⟨rfl, rfl⟩)
  have ⟨r1, r2, r3⟩ := box_read (((HX.out.setB (.slice none 0 0)).setO false).setE 1)
  simp [bodyPostD, Leaves, results, Try.results17, go_sem, r1, r2, r3]
  exact ((HB.out.setCell (p := ⟨w.heap.size + 1, 0, none⟩) (by simp) _).setCell (p := ⟨w.heap.size + 2, 0, none⟩) (by simp) _).setCell (p := ⟨w.heap.size + 3, 0, none⟩) (by simp) _
set_option maxRecDepth 100000 in
set_option maxHeartbeats 1000000 in
/-- Of a reader that is broken. -/
theorem next_broken (p : Nat) (xs : List UInt8) (o : Option Nat) (w : World) (h : Rd w p (true, xs) o) : Calls Try.prog 17 #[.pointer (some ⟨p, 0, none⟩)] w fun e w' => e = .returned (.tuple #[.int .i64 0, .slice none 0 0, .bool false, .int .i64 4]) ∧ Below w.heap.size w w' := by
  obtain ⟨W1, hW, HX, HB⟩ := box_new w (.pointer (some ⟨p, 0, none⟩))
  have C : Hid (Calls Try.prog 25 #[.pointer (some ⟨p, 0, none⟩)] W1 fun e w' => e = .returned (.int .i64 4) ∧ W1 = w') := ready_any p (true, xs) o W1 (h.kept HB.out (Nat.le_refl _))
  have k1 := HX.out.b.at_ 0
  have k2 := HX.out.o.at_ 0
  have k3 := HX.out.e.at_ 0
  have f1 := HX.out.b.free 0
  have f2 := HX.out.o.free 0
  have f3 := HX.out.e.free 0
  have kr := HX.out.r.at_ 0
  simp at k1 k2 k3 kr
  clear h
  go_enter_defers Try.func17, Try.ntmps17
  go_wp2_with (go_at_call 25; refine C.out.mono ?_; rintro e w' ⟨rfl, rfl⟩)
  have ⟨r1, r2, r3⟩ := box_read (((HX.out.setB (.slice none 0 0)).setO false).setE 4)
  simp [bodyPostD, Leaves, results, Try.results17, go_sem, r1, r2, r3]
  exact ((HB.out.setCell (p := ⟨w.heap.size + 1, 0, none⟩) (by simp) _).setCell (p := ⟨w.heap.size + 2, 0, none⟩) (by simp) _).setCell (p := ⟨w.heap.size + 3, 0, none⟩) (by simp) _
set_option maxRecDepth 100000 in
set_option maxHeartbeats 2000000 in
/-- The frame is not whole. -/
theorem next_wait (p : Nat) (xs : List UInt8) (o : Option Nat) (hout : outL xs = .wait) (w : World) (h : Rd w p (false, xs) o) : Calls Try.prog 17 #[.pointer (some ⟨p, 0, none⟩)] w fun e w' => e = .returned (.tuple #[.int .i64 0, .slice none 0 0, .bool false, .int .i64 0]) ∧ Below w.heap.size w w' := by
  obtain ⟨W1, hW, HX, HB⟩ := box_new w (.pointer (some ⟨p, 0, none⟩))
  have HR := hid (h.kept HB.out (Nat.le_refl _))
  have C : Hid (Calls Try.prog 25 #[.pointer (some ⟨p, 0, none⟩)] W1 fun e w' => e = .returned (.int .i64 0) ∧ W1 = w') := ready_any p (false, xs) o W1 HR.out
  obtain ⟨kk, sz, hh, hlt⟩ := head_wait hout
  have HPS : Hid (p < w.heap.size) := h.inside
  obtain ⟨v, l, h1, h2, h3, ⟨hz1, hz2, hq, hz3⟩ | ⟨hb, _⟩⟩ := HR.out
  rotate_left 1
  · cases hb
  obtain ⟨A, c, bb, off, hy, _⟩ := hq.bytes (Nat.lt_of_le_of_lt (Nat.zero_le _) h1.inside)
  obtain rfl := hy.form
  have CH := hid (headOf_any _ xs A c bb off h2 W1 hy)
  rw [hh] at CH
  simp only at CH
  have H1 := hid h1
  have cp : W1.cell? ⟨p, 1, none⟩ = some (.slice A xs.length c) := h1.at_ 1
  have k1 := HX.out.b.at_ 0
  have k2 := HX.out.o.at_ 0
  have k3 := HX.out.e.at_ 0
  have kr := HX.out.r.at_ 0
  simp at k1 k2 k3 kr
  clear h hy hq h1 h2 h3 hz1 hz3 hout hh
  generalize xs.length = L at *
  have hf := hmf
  go_enter_defers Try.func17, Try.ntmps17
  go_wp2_with (first
    | (go_at_call 25; refine C.out.mono ?_; rintro e w' ⟨rfl, rfl⟩)
    | (go_at_call 27; refine CH.out.mono ?_; rintro e w2 ⟨rfl, hb2⟩
       have B2 := hid hb2
       have X2 := hid (HX.out.kept hb2)
       have cp2 : w2.cell? ⟨p, 1, none⟩ = some (.slice A L c) := (H1.out.kept hb2 H1.out.inside).at_ 1
       have j1 := X2.out.b.at_ 0
       have j2 := X2.out.o.at_ 0
       have j3 := X2.out.e.at_ 0
       have jr := X2.out.r.at_ 0
       have g1 := X2.out.b.free 0
       have g2 := X2.out.o.free 0
       have g3 := X2.out.e.free 0
       simp at j1 j2 j3 jr
       clear hb2))
  have X3 := hid (X2.out.setE 0)
  have B3 : Hid (Below w.heap.size w (w2.setCell ⟨w.heap.size + 1 + 1 + 1, 0, none⟩ (.int .i64 0))) := (HB.out.trans (B2.out.mono HB.out.size)).setCell (p := ⟨w.heap.size + 3, 0, none⟩) (by simp) _
  change Hid (Box4 (w2.setCell ⟨w.heap.size + 1 + 1 + 1, 0, none⟩ (.int .i64 0)) _ _ _ _ _) at X3
  generalize w2.setCell ⟨w.heap.size + 1 + 1 + 1, 0, none⟩ (.int .i64 0) = w3 at *
  have i1 := X3.out.b.at_ 0
  have i2 := X3.out.o.at_ 0
  have i3 := X3.out.e.at_ 0
  have d1 := X3.out.b.free 0
  have d2 := X3.out.o.free 0
  have d3 := X3.out.e.free 0
  simp at i1 i2 i3
  clear j1 j2 j3 jr g1 g2 g3 cp2 k1 k2 k3 kr cp C CH H1
  obtain ⟨w4, h4, X4, B4, _⟩ := box_last X3.out B3.out (.slice none 0 0) false 0
  go_region
  all_goals
    go_wp2
    refine leaves_cons (f := 26) (args := #[.pointer (some ⟨w.heap.size + 1 + 1 + 1, 0, none⟩), .pointer (some ⟨w.heap.size, 0, none⟩), .pointer (some ⟨w.heap.size + 1 + 1, 0, none⟩), .pointer (some ⟨w.heap.size + 1, 0, none⟩)]) (by simp) (by simp [go_sem]) ?_
    refine (tail_idle _ _ _ _ p (.bool true) w4 X4.out.e X4.out.o).mono ?_
    rintro e u' w'' ⟨rfl, rfl, rfl⟩
    have ⟨r1, r2, r3⟩ := box_read X4.out
    simp [Leaves, settle, results, Try.results17, go_sem, r1, r2, r3]
    exact B4.out
set_option maxRecDepth 100000 in
set_option maxHeartbeats 2000000 in
/-- The reader breaks now. -/
theorem next_bad (p : Nat) (xs : List UInt8) (o : Option Nat) (hout : outL xs = .bad) (w : World) (h : Rd w p (false, xs) o) : Calls Try.prog 17 #[.pointer (some ⟨p, 0, none⟩)] w fun e w' => e = .returned (.tuple #[.int .i64 0, .slice none 0 0, .bool false, .int .i64 4]) ∧ Rd w' p (true, xs) none ∧ Grw p w w' := by
  obtain ⟨W1, hW, HX, HB⟩ := box_new w (.pointer (some ⟨p, 0, none⟩))
  have HR := hid (h.kept HB.out (Nat.le_refl _))
  have C : Hid (Calls Try.prog 25 #[.pointer (some ⟨p, 0, none⟩)] W1 fun e w' => e = .returned (.int .i64 0) ∧ W1 = w') := ready_any p (false, xs) o W1 HR.out
  obtain ⟨hh, h0⟩ := head_bad hout
  have HPS : Hid (p < w.heap.size) := h.inside
  obtain ⟨v, l, h1, h2, h3, ⟨hz1, hz2, hq, hz3⟩ | ⟨hb, _⟩⟩ := HR.out
  rotate_left 1
  · cases hb
  obtain ⟨A, c, bb, off, hy, _⟩ := hq.bytes (Nat.lt_of_le_of_lt (Nat.zero_le _) h1.inside)
  obtain rfl := hy.form
  have CH := hid (headOf_any _ xs A c bb off h2 W1 hy)
  rw [hh] at CH
  simp only at CH
  have H1 := hid h1
  have H2 : Hid (xs.length ≤ 131072 ∧ 0 < p ∧ 0 < xs.length) := ⟨h2, h3, h0⟩
  have cp : W1.cell? ⟨p, 1, none⟩ = some (.slice A xs.length c) := h1.at_ 1
  have k1 := HX.out.b.at_ 0
  have k2 := HX.out.o.at_ 0
  have k3 := HX.out.e.at_ 0
  have kr := HX.out.r.at_ 0
  simp at k1 k2 k3 kr
  clear h hy hq h1 h2 h3 hz1 hz3 hout hh h0
  obtain ⟨L, HL⟩ : ∃ L, Hid (xs.length = L) := ⟨_, rfl⟩
  rw [HL.out] at cp H1 CH
  subst hz2
  have hf := hmf
  go_enter_defers Try.func17, Try.ntmps17
  go_wp2_with (first
    | (go_at_call 25; refine C.out.mono ?_; rintro e w' ⟨rfl, rfl⟩)
    | (go_at_call 27; refine CH.out.mono ?_; rintro e w2 ⟨rfl, hb2⟩
       have B2 := hid hb2
       have H2b := hid (H1.out.kept hb2 H1.out.inside)
       have X2 := hid (HX.out.kept hb2)
       have cp2 : w2.cell? ⟨p, 1, none⟩ = some (.slice A L c) := (H1.out.kept hb2 H1.out.inside).at_ 1
       have j1 := X2.out.b.at_ 0
       have j2 := X2.out.o.at_ 0
       have j3 := X2.out.e.at_ 0
       have jr := X2.out.r.at_ 0
       have g1 := X2.out.b.free 0
       have g2 := X2.out.o.free 0
       have g3 := X2.out.e.free 0
       simp at j1 j2 j3 jr
       clear hb2))
  have X3 := hid (X2.out.setE 4)
  have B3 : Hid (Below w.heap.size w (w2.setCell ⟨w.heap.size + 1 + 1 + 1, 0, none⟩ (.int .i64 4))) := (HB.out.trans (B2.out.mono HB.out.size)).setCell (p := ⟨w.heap.size + 3, 0, none⟩) (by simp) _
  change Hid (Box4 (w2.setCell ⟨w.heap.size + 1 + 1 + 1, 0, none⟩ (.int .i64 4)) _ _ _ _ _) at X3
  have H3b : Hid (Has (w2.setCell ⟨w.heap.size + 1 + 1 + 1, 0, none⟩ (.int .i64 4)) p 61 #[.bool true, .slice A L c, .int .i64 0]) := H2b.out.other (by have := HPS.out; simp; omega) _
  generalize w2.setCell ⟨w.heap.size + 1 + 1 + 1, 0, none⟩ (.int .i64 4) = w3 at *
  have i1 := X3.out.b.at_ 0
  have i2 := X3.out.o.at_ 0
  have i3 := X3.out.e.at_ 0
  have d1 := X3.out.b.free 0
  have d2 := X3.out.o.free 0
  have d3 := X3.out.e.free 0
  simp at i1 i2 i3
  clear j1 j2 j3 jr g1 g2 g3 cp2 k1 k2 k3 kr cp C CH H1
  obtain ⟨w4, h4, X4, B4, BW⟩ := box_last X3.out B3.out (.slice none 0 0) false 4
  have H4 := hid (H3b.out.kept BW.out HPS.out)
  go_region
  all_goals
    go_wp2
    refine leaves_cons (f := 26) (args := #[.pointer (some ⟨w.heap.size + 1 + 1 + 1, 0, none⟩), .pointer (some ⟨w.heap.size, 0, none⟩), .pointer (some ⟨w.heap.size + 1 + 1, 0, none⟩), .pointer (some ⟨w.heap.size + 1, 0, none⟩)]) (by simp) (by simp [go_sem]) ?_
    refine (tail_bad _ _ _ _ p A L c w4 X4.out.e X4.out.r H4.out).mono ?_
    rintro e u' w'' ⟨rfl, rfl, hhas, hgrw⟩
    have ⟨r1, r2, r3⟩ := box_read (X4.out.grw hgrw HPS.out)
    simp [Leaves, settle, results, Try.results17, go_sem, r1, r2, r3]
    exact ⟨⟨.slice none 0 0, (L : Nat), hhas, H2.out.1, H2.out.2.1, .inr ⟨rfl, rfl, by rw [← HL.out], H2.out.2.2, rfl⟩⟩, (Grw.of_below B4.out).trans hgrw⟩
end Go.Proofs.Ytakgbopkkechgaa
