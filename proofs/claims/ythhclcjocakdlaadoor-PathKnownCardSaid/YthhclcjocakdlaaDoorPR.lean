/- path.Parts, path.Join: what they answer. Conditions: a world in which the listed variables lie; at most 4000 bytes; at most nine texts of at most 400 bytes. -/
import Derived.Test.YthhclcjocakdlaaDoorPN
import Derived.Test.YthhclcjocakdlaaDoorPI
import Derived.RangeFuncBox
namespace Go.Proofs.YthhclcjocakdlaaDoor
open Go.RowKit
theorem own_put {w : World} {B b : Nat} {v u : Value} {n : Nat} {xs : List Value} (h : w.ownsRow B 9 1 v n xs) (hb : b < B) : (w.setCell ⟨b, 0, none⟩ u).ownsRow B 9 1 v n xs := by
  refine h.kept (grownBy_setCell' w b u) ?_
  cases hv : v.ownBlock with
  | none => exact .inl rfl
  | some g => exact .inr (fun e => by obtain rfl := Option.some.inj e; have := (h.lt g hv).1; omega)
theorem own_below {w w' : World} {B C : Nat} {v : Value} {n : Nat} {xs : List Value} (h : w.ownsRow B 9 1 v n xs) (hb : Below C w w') (hC : w.heap.size ≤ C) : w'.ownsRow B 9 1 v n xs := by
  refine ⟨h.1, ?_⟩
  rcases h.2 with hn | ⟨g, cap, cur, rfl, h1, hgg, rest⟩
  · exact .inl hn
  · exact .inr ⟨g, cap, cur, rfl, h1, (hb.block g (Nat.lt_of_lt_of_le (Array.getElem?_eq_some_iff.1 hgg).1 hC)).trans hgg, rest⟩
theorem own_drew {w : World} {B : Nat} {v : Value} {n : Nat} {xs : List Value} (h : w.ownsRow B 9 1 v n xs) (k : Nat) : (w.drewN k).ownsRow B 9 1 v n xs := h
/-- What Parts's variable holds. -/
def PV (w0 w : World) (b : Nat) (D : List (List UInt8)) : Prop := ∃ v, Has w b 28 #[v] ∧ w.ownsRow (b + 1) 9 1 v D.length (D.map S9) ∧ Below w0.heap.size w0 w
set_option maxRecDepth 100000 in
set_option maxHeartbeats 400000 in
theorem partsC_any (s : ByteArray) (b : Nat) (D : List (List UInt8)) (w0 w : World) (hD : D.length ≤ 5000) (hb : w0.heap.size ≤ b) (hP : PV w0 w b D) :
    Calls Tryd.prog 62 #[.string s, .pointer (some ⟨b, 0, none⟩)] w fun e w' => e = .returned (.bool true) ∧ PV w0 w' b (D ++ [tl s]) := by
  obtain ⟨i0, hi, hz0, hz1, hz2⟩ := info_parts infoStr
  obtain ⟨v, hv, ho, hB⟩ := hP
  have c1 : w.cell? ⟨b, 0, none⟩ = some v := hv.at_ 0
  have HV := hid hv; have HO := hid ho; have HB := hid hB; have Hb := hid hb
  have N2 : Hid (D.length + 1 ≤ maxLen) := by show _ ≤ _; unfold maxLen; omega
  have N3 : Hid ((D.length + 1) * 16 ≤ 140737488355328) := by show _ ≤ _; omega
  have N4 : Hid (∀ o, b + 1 ≤ (w.alloc o).heap.size) := by intro o; have := HV.out.inside; simp; omega
  clear hv ho hB hb
  go_enter Tryd.func62, Tryd.ntmps62
  go_wp2_with (
    at_builtin
    refine wpList_append_own _ rfl _ _ 28 rfl (b + 1) 9 i0 (.string ⟨#[]⟩) 1 16 Tryd.underlying28 hi hz0 hz1 hz2 rfl (by omega) _ _ _ rfl (HO.out.alloc _) ⟨w.heap.size, 0, none⟩ 1 1 [Value.string s] rfl rfl (cell_one_new _ _ _) (S9_one _) N2.out N3.out (N4.out _) ?_
    intro v' w1 hown' hgrow _
    have hne : ∀ k, v.ownBlock = some k → b + 1 ≤ k := fun k hk => (HO.out.lt k hk).1
    have HV1 : Hid (Has w1 b 28 #[v]) := (hgrow.block b (by have := HV.out.inside; simp; omega) (fun e => by have := hne b e.symm; omega)).trans (HV.out.more _)
    have HB1 : Hid (Below w0.heap.size w0 w1) := (HB.out.alloc HB.out.size _).grown hgrow (by have := HB.out.size; simp; omega) (fun k hk => by have := hne k hk; have := Hb.out; omega)
    obtain ⟨g, cap, rfl⟩ := ownsRow_succ hown'
    have c2 : w1.cell? ⟨b, 0, none⟩ = some v := HV1.out.at_ 0
    have f2 : w1.frozen? ⟨b, 0, none⟩ = false := HV1.out.free 0
    have HO1 := hid hown'
    clear hown' hgrow hne)
  go_ret
  refine ⟨rfl, _, HV1.out.put 0 _, ?_, HB1.out.setCell Hb.out _⟩
  have h2 := HO1.out
  rw [← ba_tl s] at h2
  have h3 : w1.ownsRow (b + 1) 9 1 (.slice (some ⟨g, 0, none⟩) (D.length + 1) cap) (D ++ [tl s]).length ((D ++ [tl s]).map S9) := by
    rw [List.length_append, List.map_append]; exact h2
  exact own_put h3 (by omega)
set_option maxRecDepth 100000 in
set_option maxHeartbeats 400000 in
theorem eachP_any (s : ByteArray) (b : Nat) (w0 w : World) (hG : Gd w0) (hs : s.size ≤ 4000) (hb : w0.heap.size ≤ b) (hP : PV w0 w b []) :
    Calls Tryd.prog 61 #[.string s, .func (.func 62) #[] #[.pointer (some ⟨b, 0, none⟩)]] w fun e w' => e = .returned (.bool true) ∧ PV w0 w' b (pieces (tl s)) := by
  have HG := hid hG; have HP := hid hP; have Hb := hid hb
  have HL : Hid ((pieces (tl s)).length ≤ 4001) := by show _ ≤ _; have := pieces_count _ (tl s) (Nat.le_refl _); rw [tl_length] at this; omega
  clear hG hP hb
  go_enter Tryd.func61, Tryd.ntmps61
  go_wp2
  go_loopw [0, 5] (fun t m wr => ∃ (r : ByteArray) (g : Bool) (D : List (List UInt8)), t = .string r ∧ m = .bool g ∧ r.size ≤ 4000 ∧ Hid (pieces (tl s) = D ++ (if g then pieces (tl r) else [])) ∧ Hid (PV w0 wr b D))
    (fun t m _ => match t, m with | .string r, .bool true => r.size + 1 | _, _ => 0)
  case atStart => exact ⟨s, true, [], rfl, rfl, hs, rfl, HP⟩
  case round =>
    obtain ⟨r, g, D, rfl, rfl, hr, HE, J1⟩ := hrel
    cases g with
    | false =>
      go_wp2
      go_ret
      refine ⟨rfl, ?_⟩
      have := HE.out
      simp at this
      rw [this]; exact J1.out
    | true =>
      have hD : D.length ≤ 5000 := by
        have h1 := congrArg List.length HE.out
        rw [List.length_append] at h1; have := HL.out; omega
      obtain ⟨p, q, m, HC⟩ : ∃ p q m, Hid (cutS (tl r) = (p, q, m)) := ⟨_, _, _, rfl⟩
      have hq : q.length ≤ 4000 := by have := (cutS_len (tl r)).1; rw [HC.out, tl_length] at this; simp only at this; omega
      have HQ : Hid (m = true → q.length < r.size) := by intro hm; have := (cutS_len (tl r)).2.2; rw [HC.out, tl_length] at this; exact this hm
      have HE2 : Hid (pieces (tl s) = (D ++ [p]) ++ (if m then pieces (tl (ba q)) else [])) := by
        show _ = _
        rw [HE.out, if_pos rfl, pieces_cut, HC.out, tl_ba]
        cases m <;> simp
      have JD : Hid (∀ n, PV w0 (wr.drewN n) b D) := fun n => by
        obtain ⟨v, h1, h2, h3⟩ := J1.out
        exact ⟨v, h1.drawn n, own_drew h2 n, h3.drewN' n⟩
      have JG : Hid (Gd wr) := by obtain ⟨v, h1, h2, h3⟩ := J1.out; exact HG.out.kept h3
      go_wp2_with (first
        | (go_at_call 92; refine (cut_any r p q m HC wr JG.out (by omega)).mono ?_; rintro e1 w1 ⟨rfl, nd, rfl⟩)
        | (go_at_call 62; refine (partsC_any (ba p) b D w0 _ hD Hb.out (JD.out nd)).mono ?_; rintro e2 w2 ⟨rfl, hfc⟩; have FC1 := hid hfc; clear hfc))
      go_roundw
      case rel => exact ⟨ba q, m, D ++ [p], rfl, rfl, by rw [ba_size]; exact hq, HE2, FC1.out⟩
      case measure =>
        cases m with
        | false => simp
        | true => simp [ba_size]; exact HQ.out rfl
/-- A path's parts. -/
def partsL (l : List UInt8) : List (List UInt8) := if mayB l then pieces l else []
set_option maxRecDepth 100000 in
set_option maxHeartbeats 400000 in
theorem parts_any (s : ByteArray) (w : World) (hG : Gd w) (hs : s.size ≤ 4000) :
    Calls Tryd.prog 25 #[.string s] w fun e w' => ∃ v, e = .returned v ∧ w'.ownsRow w.heap.size 9 1 v (partsL (tl s)).length ((partsL (tl s)).map S9) ∧ Below w.heap.size w w' := by
  have hmf : ∀ (fn : Fn) (first cap : Array Value) (w : World), (Instr.makeFunc fn first cap).run Tryd.prog w = .ok (.func fn first cap) w := fun _ _ _ _ => rfl
  have HG := hid hG
  obtain ⟨m, hm⟩ : ∃ m, mayB (tl s) = m := ⟨_, rfl⟩
  have M : Hid (∀ W, Gd W → Calls Tryd.prog 22 #[.string s] W fun e w' => e = .returned (.bool m) ∧ Below W.heap.size W w') := by intro W h; rw [← hm]; exact may_any s W h hs
  cases m with
  | false =>
    have HV : Hid (partsL (tl s) = []) := by show _ = _; rw [partsL, hm]; rfl
    clear hG hm
    go_enter Tryd.func25, Tryd.ntmps25
    go_wp2_with (go_at_call 22; refine (M.out _ HG.out).mono ?_; rintro e1 w1 ⟨rfl, hb1⟩; have B1 := hid hb1; clear hb1)
    go_ret
    refine ⟨_, rfl, ?_, B1.out⟩
    rw [HV.out]; exact World.ownsRow_nil _ _ _ _
  | true =>
    have HV : Hid (partsL (tl s) = pieces (tl s)) := by show _ = _; rw [partsL, hm]; rfl
    clear hG hm
    go_enter Tryd.func25, Tryd.ntmps25
    go_wp2_with fail
    refine (M.out _ HG.out).mono ?_; rintro e1 w1 ⟨rfl, hb1⟩; have B1 := hid hb1; clear hb1
    have HG1 : Hid (Gd w1) := HG.out.kept B1.out
    go_wp2_with fail
    refine (eachP_any s w1.heap.size w1 _ HG1.out hs (Nat.le_refl _) ⟨_, Has.fresh _ _ _, World.ownsRow_nil _ _ _ _, (Below.refl _ _).alloc (Nat.le_refl _) _⟩).mono ?_
    rintro e2 w2 ⟨rfl, v, h1, h2, h3⟩
    have c1 : w2.cell? ⟨w1.heap.size, 0, none⟩ = some v := h1.at_ 0
    have HO := hid h2
    have HB : Hid (Below w.heap.size w w2) := B1.out.trans (h3.mono B1.out.size)
    clear h1 h2 h3
    go_wp2
    go_ret
    refine ⟨_, rfl, ?_, HB.out⟩
    rw [HV.out]
    have h := HO.out
    refine ⟨h.1, ?_⟩
    rcases h.2 with hn | ⟨g, cap, cur, rfl, hle, rest⟩
    · exact .inl hn
    · exact .inr ⟨g, cap, cur, rfl, by have := B1.out.size; omega, rest⟩
end Go.Proofs.YthhclcjocakdlaaDoor
