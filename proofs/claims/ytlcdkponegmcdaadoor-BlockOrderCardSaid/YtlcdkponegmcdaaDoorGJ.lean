/- What the calls on two finders do, side by side. Conditions: the listed table. -/
import Derived.Test.YtlcdkponegmcdaaDoorGI
namespace Go.Proofs.YtlcdkponegmcdaaDoor
open Go.RowKit
theorem partI_le (xs : By) (i : Int) : (partI xs i).length ≤ 128 := by
  unfold partI
  split
  · simp
  · exact partL_le _ _
theorem less_cb : ∀ (a b : By), cb a b < 0 → Op.bytesLess a b = true
  | [], [], h => by rw [cb_self] at h; omega
  | [], y :: b, _ => rfl
  | x :: a, [], h => by
    have : cb (x :: a) [] = 1 := rfl
    omega
  | x :: a, y :: b, h => by
    have e : cb (x :: a) (y :: b) = if x < y then -1 else if y < x then 1 else cb a b := rfl
    rw [e] at h
    show (decide (x < y) || (x == y && Op.bytesLess a b)) = true
    by_cases h1 : x < y
    · simp [h1]
    · rw [if_neg h1] at h
      by_cases h2 : y < x
      · rw [if_pos h2] at h; omega
      · rw [if_neg h2] at h
        have : x = y := by
          have h3 : ¬ x.toNat < y.toNat := h1
          have h4 : ¬ y.toNat < x.toNat := h2
          exact UInt8.toNat_inj.1 (by omega)
        subst this
        rw [less_cb a b h]; simp
theorem not_gtr (a : By) (s : ByteArray) (h : a = tl s ∨ cb a (tl s) < 0) : (Op.bytesLess (ba a).toList s.toList || (ba a).toList == s.toList) = true := by
  rw [ByteArray.toList_eq, ByteArray.toList_eq]
  rcases h with h | h
  · have : (ba a).data.toList = s.data.toList := h
    rw [this]; simp
  · have := less_cb a (tl s) h
    have e : (ba a).data.toList = a := rfl
    rw [e, this]; rfl
section
variable {w w0 wr : World} {pf pg : Nat} {Ff Fg : By → Option By} {bf bg : Nat} {v : Value} {ls : List ActT}
theorem fresh_out {B : Nat} {w : World} {v : Value} {xs : By} (h : Fresh B w v xs) (hw : 0 < w.heap.size) {own : Nat → Prop} (hl : ∀ g, own g → g < B) (h0 : ¬ own 0) : ∃ A cap bb, Bytes w v xs A cap bb 0 ∧ ¬ own bb := by
  obtain ⟨A, cap, bb, hy, _, hb⟩ := h.bytes hw
  refine ⟨A, cap, bb, hy, fun ho => ?_⟩
  rcases hb with e | ⟨_, e⟩
  · have := (World.ownsRow.lt h bb e).1
    have := hl bb ho
    omega
  · rw [e] at ho; exact h0 ho
theorem OSt.add_f (h : OSt w.heap.size w w0 pf pg Ff Fg bf bg v ls) (hT : Sha.Tab w) (hb : Below w0.heap.size w0 wr) (x : ActT) (hx : ActOk x) (vd : Value) (hd : Fresh w0.heap.size wr vd (dataL x)) (hbf : bf ≤ 700000) :
    Calls Tryd.prog 26 #[.pointer (some ⟨pf, 0, none⟩), .string x.name, vd] wr fun e w' => (∃ z, e = .returned (.int .i64 z)) ∧ OSt w.heap.size w w' pf pg (stepF Ff x) Fg (bf + 80) bg v ls := by
  obtain ⟨ownf, owng, h⟩ := h
  have h2 := h.on hb
  have hp := hT.pos
  have h0 : ¬ ownf 0 := fun e => by have := h.lf 0 e; omega
  obtain ⟨A, cap, bb, hy, hbb⟩ := fresh_out hd (Nat.lt_of_lt_of_le hp h2.le) h.f.low h0
  refine (addk_any h2.f (hT.kept h2.b hp) h0 x hx vd A cap bb 0 hy hbb hbf).mono ?_
  rintro e w' ⟨hz, hp'⟩
  exact ⟨hz, h2.addf hp'⟩
theorem OSt.add_g (h : OSt w.heap.size w w0 pf pg Ff Fg bf bg v ls) (hT : Sha.Tab w) (hb : Below w0.heap.size w0 wr) (x : ActT) (hx : ActOk x) (vd : Value) (hd : Fresh w0.heap.size wr vd (dataL x)) (hbg : bg ≤ 700000) :
    Calls Tryd.prog 26 #[.pointer (some ⟨pg, 0, none⟩), .string x.name, vd] wr fun e w' => (∃ z, e = .returned (.int .i64 z)) ∧ OSt w.heap.size w w' pf pg Ff (stepF Fg x) bf (bg + 80) v ls := by
  obtain ⟨ownf, owng, h⟩ := h
  have h2 := h.on hb
  have hp := hT.pos
  have h0 : ¬ owng 0 := fun e => by have := h.lg 0 e; omega
  obtain ⟨A, cap, bb, hy, hbb⟩ := fresh_out hd (Nat.lt_of_lt_of_le hp h2.le) h.g.low h0
  refine (addk_any h2.g (hT.kept h2.b hp) h0 x hx vd A cap bb 0 hy hbb hbg).mono ?_
  rintro e w' ⟨hz, hp'⟩
  exact ⟨hz, h2.addg hp'⟩
/-- What both finders answer of a block of a file that both have. -/
theorem OSt.find (h : OSt w.heap.size w wr pf pg Ff Ff bf bg v ls) (n xs : By) (hF : Ff n = some xs) (k : Nat) (hk : k < cntL xs.length) :
    ∃ (q : Pl) (ys : By), dg ys = dg (partL xs k) ∧ (q.1 = n ∨ cb q.1 n < 0) ∧ ys.length ≤ 128 ∧ ∀ W, Below wr.heap.size wr W →
      Calls Tryd.prog 29 #[.pointer (some ⟨pf, 0, none⟩), .agg (hvec (dg (partL xs k)))] W (fun e w' => FindPost W ys q true e w') ∧ Calls Tryd.prog 29 #[.pointer (some ⟨pg, 0, none⟩), .agg (hvec (dg (partL xs k)))] W (fun e w' => FindPost W ys q true e w') := by
  obtain ⟨ownf, owng, h⟩ := h
  obtain ⟨P, cf, N, keys, a1, a2, a3, a4, a5, a6, a7⟩ := h.f
  obtain ⟨P', cf', N', keys', b1, b2, b3, b4, b5, b6, b7⟩ := h.g
  obtain rfl := rep_uniq a2 b2
  obtain ⟨q, ps, xs', h1, h2, h3, h4, h5⟩ := find_file a2 a7 n xs hF k hk
  exact ⟨q, partI xs' (q.2 : Int), h3, h4, partI_le _ _, fun W hW => ⟨find_some (a1.on hW (Nat.le_refl _)) _ (dg_len _) q ps xs' h1 h2 h5, find_some (b1.on hW (Nat.le_refl _)) _ (dg_len _) q ps xs' h1 h2 h5⟩⟩
theorem OSt.len_f {zs : List ActT} (h : OSt w.heap.size w wr pf pg (FA zs) Fg bf bg v ls) : Calls Tryd.prog 28 #[.pointer (some ⟨pf, 0, none⟩)] wr fun e w' => e = .returned (.int .i64 ((lastR zs).length : Int)) ∧ wr = w' := by
  obtain ⟨ownf, owng, h⟩ := h
  obtain ⟨P, cf, N, keys, a1, a2, a3, a4, a5, a6, a7⟩ := h.f
  have e := keys_len zs keys a4 a6
  rw [← e, a5]
  exact len_any a1
theorem OSt.len_g {zs : List ActT} (h : OSt w.heap.size w wr pf pg Ff (FA zs) bf bg v ls) : Calls Tryd.prog 28 #[.pointer (some ⟨pg, 0, none⟩)] wr fun e w' => e = .returned (.int .i64 ((lastR zs).length : Int)) ∧ wr = w' := by
  obtain ⟨ownf, owng, h⟩ := h
  obtain ⟨P, cf, N, keys, a1, a2, a3, a4, a5, a6, a7⟩ := h.g
  have e := keys_len zs keys a4 a6
  rw [← e, a5]
  exact len_any a1
theorem OSt.act (h : OSt w.heap.size w wr pf pg Ff Fg bf bg v ls) (k : Nat) (hk : k < ls.length) : ∃ g c, v = .slice (some ⟨g, 0, none⟩) ls.length c ∧ ActAt wr g (k * 4) (ls.getD k act0) := by
  obtain ⟨ownf, owng, h⟩ := h
  exact h.row.at_ k hk
theorem OSt.form (h : OSt w.heap.size w wr pf pg Ff Fg bf bg v ls) : ∃ A c, v = .slice A ls.length c := by
  obtain ⟨ownf, owng, h⟩ := h
  exact h.row.form
end
section
variable {ops : Array Oper} {S : World → Prop} {o : Oper} {a : Act}
theorem yields_load_act (hw : Region.wanted o (yielded ops a.tmps) = true) (x : Operand) (ho : o.op = .load 47 x) (g off : Nat) (hx : a.eval x = .pointer (some ⟨g, off, none⟩)) (d : ActT)
    (hS : ∀ w, S w → ActAt w g off d) : YieldsIf Tryd.prog ops S o (.agg (actCells d)) a :=
  .inl ⟨hw, fun w hw' => by
    unfold execOp
    simp only [ho, hx, Instr.loadAt, Instr.sureAddr, Sem.run_bind, Sem.run_pure, Result.andThen_ok, (hS w hw').load]⟩
theorem pl_neq_same (q : Pl) (w : World) : (binOp .neq 54 (.agg (pcell q).toArray) (.agg (pcell q).toArray)).run Tryd.prog w = .ok (.bool false) w := by
  rw [run_neq_struct, run_equalIn_struct (P := Tryd.prog) w 9999 54 _ _ (by kernel_rfl) (by kernel_rfl)]
  have hf : (Tryd.prog.fieldsOf 54).toList.map (fun f => (f.type, f.offset, f.name == "_")) = [(9, 0, false), (3, 1, false)] := by kernel_rfl
  have hs9 : ∀ w, (isAgg 9).run Tryd.prog w = .ok false w := fun w => by kernel_rfl
  have hs3 : ∀ w, (isAgg 3).run Tryd.prog w = .ok false w := fun w => by kernel_rfl
  have he9 := fun (w : World) => run_equalIn_string (P := Tryd.prog) w 9998 9 (ba q.1) (ba q.1) Tryd.underlying9
  have he3 := fun (w : World) => run_equalIn_int (P := Tryd.prog) w 9998 3 .i64 .i64 (q.2 : Int) (q.2 : Int) Tryd.underlying3
  generalize (Tryd.prog.fieldsOf 54).toList = fs at hf ⊢
  rcases fs with _ | ⟨f1, _ | ⟨f2, _ | ⟨f3, fs⟩⟩⟩ <;> simp at hf
  obtain ⟨⟨h1, h2, h3⟩, h4, h5, h6⟩ := hf
  simp [Op.eqFields, h1, h2, h3, h4, h5, h6, part, hs9, hs3, he9, he3, pcell, Result.andThen]
theorem yields_neq_pl (hw : Region.wanted o (yielded ops a.tmps) = true) (x y : Operand) (ho : o.op = .binOp .neq 54 x y 54) (q : Pl) (hx : a.eval x = .agg (pcell q).toArray) (hy : a.eval y = .agg (pcell q).toArray) : YieldsIf Tryd.prog ops S o (.bool false) a :=
  .inl ⟨hw, fun w _ => by
    unfold execOp
    simp only [ho, hx, hy, Sem.run_bind, run_eqGuard_agg w .neq 54 x y _ _ eqGP, pl_neq_same q w, Result.andThen_ok, Sem.run_pure]⟩
theorem yields_gtr (hw : Region.wanted o (yielded ops a.tmps) = true) (x y : Operand) (ty : TypeId) (ho : o.op = .binOp .gtr 9 x y ty) (s t : ByteArray) (hx : a.eval x = .string s) (hy : a.eval y = .string t) (h : (Op.bytesLess s.toList t.toList || s.toList == t.toList) = true) : YieldsIf Tryd.prog ops S o (.bool false) a :=
  .inl ⟨hw, fun w _ => by
    unfold execOp
    simp only [ho, hx, hy, binOp_string_gtr, h, Bool.not_true, Sem.run_bind, Sem.run_pure]
    try rfl⟩
/-- What the last great region reads. -/
structure S31 (b1 b2 : Nat) (q : Pl) (v1 v2 : Value) (ys : By) (A1 A2 : Option Addr) (c1 c2 k1 k2 : Nat) (vl : Value) (hs : List By) (gl o : Nat) (x : ActT) (W : World) : Prop where
  box1 : Has W b1 54 (pcell q).toArray
  box2 : Has W b2 54 (pcell q).toArray
  y1 : Bytes W v1 ys A1 c1 k1 0
  y2 : Bytes W v2 ys A2 c2 k2 0
  l : Dgs 0 W vl hs
  act : ActAt W gl o x
theorem S31.on {b1 b2 : Nat} {q : Pl} {v1 v2 : Value} {ys : By} {A1 A2 : Option Addr} {c1 c2 k1 k2 : Nat} {vl : Value} {hs : List By} {gl o : Nat} {x : ActT} {W W' : World} (h : S31 b1 b2 q v1 v2 ys A1 A2 c1 c2 k1 k2 vl hs gl o x W) (hb : Below W.heap.size W W') : S31 b1 b2 q v1 v2 ys A1 A2 c1 c2 k1 k2 vl hs gl o x W' :=
  ⟨h.box1.on hb, h.box2.on hb, h.y1.kept hb (Nat.le_refl _), h.y2.kept hb (Nat.le_refl _), h.l.kept hb (Nat.le_refl _), h.act.kept hb (Nat.le_refl _)⟩
end
end Go.Proofs.YtlcdkponegmcdaaDoor
