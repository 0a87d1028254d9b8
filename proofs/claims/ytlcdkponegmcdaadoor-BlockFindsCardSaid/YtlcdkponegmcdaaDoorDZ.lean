/- Places compared; finds and two of the laws: what each call does. Conditions: the listed table. -/
import Derived.Test.YtlcdkponegmcdaaDoorDX
import Derived.Test.YtlcdkponegmcdaaDoorDY
namespace Go.Proofs.YtlcdkponegmcdaaDoor
open Go.RowKit Go.Maps
theorem pl_eql_same (q : Pl) (w : World) : (binOp .eql 54 (.agg (pcell q).toArray) (.agg (pcell q).toArray)).run Tryd.prog w = .ok (.bool true) w := by
  rw [run_eql_struct, run_equalIn_struct (P := Tryd.prog) w 9999 54 _ _ (by kernel_rfl) (by kernel_rfl)]
  have hf : (Tryd.prog.fieldsOf 54).toList.map (fun f => (f.type, f.offset, f.name == "_")) = [(9, 0, false), (3, 1, false)] := by kernel_rfl
  have hs9 : ∀ w, (isAgg 9).run Tryd.prog w = .ok false w := fun w => by kernel_rfl
  have hs3 : ∀ w, (isAgg 3).run Tryd.prog w = .ok false w := fun w => by kernel_rfl
  have he9 := fun (w : World) => run_equalIn_string (P := Tryd.prog) w 9998 9 (ba q.1) (ba q.1) Tryd.underlying9
  have he3 := fun (w : World) => run_equalIn_int (P := Tryd.prog) w 9998 3 .i64 .i64 (q.2 : Int) (q.2 : Int) Tryd.underlying3
  generalize (Tryd.prog.fieldsOf 54).toList = fs at hf ⊢
  rcases fs with _ | ⟨f1, _ | ⟨f2, _ | ⟨f3, fs⟩⟩⟩ <;> simp at hf
  obtain ⟨⟨h1, h2, h3⟩, h4, h5, h6⟩ := hf
  simp [Op.eqFields, h1, h2, h3, h4, h5, h6, part, hs9, hs3, he9, he3, pcell, Result.andThen]
theorem eqGP : Tryd.prog.eqGuardType Tryd.prog.depth 54 = false := by kernel_rfl
theorem wpList_eql_pl {ops : Array Oper} {o : Oper} {a : Act} {Q : Exit → Act → World → Prop} {w : World} {rest : List Oper} (hw : Region.wanted o (yielded ops a.tmps) = true)
    (x y : Operand) (ho : o.op = .binOp .eql 54 x y 54) (q : Pl) (hx : a.eval x = .agg (pcell q).toArray) (hy : a.eval y = .agg (pcell q).toArray)
    (h : wpList Tryd.prog ops Q rest (a.put o.dst (.bool true)) w) : wpList Tryd.prog ops Q (o :: rest) a w :=
  wpList_wanted hw fun _ hK => by
    unfold Oper.wp execOp
    simp only [ho, hx, hy, Sem.run_bind, run_eqGuard_agg w .eql 54 x y _ _ eqGP, pl_eql_same q w, Result.andThen_ok]
    exact hK _ _ h
theorem box_p (wr : World) (q : Pl) : ∃ W1, (wr.alloc (.cells #[.string ⟨#[]⟩, .int .i64 0] 54)).setRow wr.heap.size (pcell q).toArray = W1 ∧ Hid (Has W1 wr.heap.size 54 (pcell q).toArray) ∧ Hid (Below wr.heap.size wr W1) := by
  refine ⟨_, rfl, ?_, ?_⟩
  · exact setRow_heap _ _ _ _ 54 (0, 0) (Has.fresh wr 54 _)
  · exact ((Below.refl _ _).alloc (Nat.le_refl _) _).rowK (Nat.le_refl _) _
theorem pcell_size (q : Pl) : (Tryd.prog.info? 54).map (·.size) = some (pcell q).toArray.size := by show _ = some 2; kernel_rfl
theorem pcell_all (q : Pl) : (pcell q).toArray.all (·.oneCell') = true := by simp [pcell, Value.oneCell']
set_option maxRecDepth 100000 in
set_option maxHeartbeats 8000000 in
theorem finds_true {own : Nat → Prop} {w : World} {p : Nat} {F : By → Option By} {P : By → List Pl} {cf N : Nat} (h : Fin own w p F P cf N) (hT : Sha.Tab w) (S : ByteArray) (hS : S.size ≤ 100000) (q : Pl) (ps : List Pl) (xs : By) (hP : P (dg (tl S)) = q :: ps) (hF : F q.1 = some xs)
    (hq : q.1.length ≤ maxLen) (hv : partI xs (q.2 : Int) = tl S) :
    Calls Tryd.prog 33 #[.pointer (some ⟨p, 0, none⟩), .string S, .string (ba q.1), .int .i64 (q.2 : Int)] w fun e w' => e = .returned (.bool true) ∧ Below w.heap.size w w' := by
  have KC := conv_string S
  obtain ⟨d, HD⟩ : ∃ d, Hid (dg (tl S) = d) := ⟨_, rfl⟩
  have hbc := conv_below S w
  have CS := hid (sum_any _ (tl S) _ _ _ _ (Lib.bytesWorld w 5 S) (hT.kept hbc hT.pos) (conv_bytes S w) (by rw [tl_length]; omega))
  rw [HD.out] at CS hP
  have HF := hid (fun w1 (hb : Below w.heap.size w w1) => find_some (h.on hb (Nat.le_refl _)) d (by rw [← HD.out]; exact dg_len _) q ps xs hP hF hq)
  rw [hv] at HF
  have HBC := hid hbc
  have HPOS := hid hT.pos
  have HBT : Hid (ba (tl S) = S) := ba_tl S
  have HZ1 := hid (pcell_size q)
  clear h hT hS hP hF hq hv hbc
  go_enter Tryd.func33, Tryd.ntmps33
  go_wp2_with (first
    | (go_at_call 34; refine CS.out.mono ?_; rintro e1 w1 ⟨rfl, hb1⟩
       have B1 : Hid (Below w.heap.size w w1) := HBC.out.trans (hb1.mono HBC.out.size)
       clear hb1)
    | (go_at_call 29; refine (HF.out w1 B1.out).mono ?_; rintro e2 w2 ⟨v2, rfl, hf2, hb2⟩
       have B2 : Hid (Below w.heap.size w w2) := B1.out.trans (hb2.mono B1.out.size)
       have F2 := hid (Fresh.mono (xs := tl S) hf2 (Nat.zero_le _))
       clear hf2 hb2)
    | (refine wpList_store_row rfl 54 (.tmp 10) (.tmp 19) rfl w2.heap.size (pcell q).toArray rfl rfl 54 _ (Has.fresh w2 54 _) HZ1.out rfl (pcell_all q) ?_
       generalize hG : World.setRow _ _ _ = W1
       obtain ⟨W0, hG0, X1, X2⟩ := box_p w2 q
       obtain rfl : W0 = W1 := hG0.symm.trans hG
       have hcv : (convert 25 9 v2).run Tryd.prog W0 = .ok (.string S) W0 := by
         obtain ⟨Af, cpf, bf, hyf, _, _⟩ := Fresh.bytes (row_of F2.out (fun g hg => X2.out.block g (World.ownsRow.lt F2.out g hg).2) : Fresh 0 W0 v2 (tl S)) (Nat.lt_of_lt_of_le HPOS.out (Nat.le_trans B2.out.size X2.out.size))
         rw [conv_back hyf, HBT.out]
       clear hG hG0)
    | (refine wpList_load_row rfl 54 (.tmp 10) rfl w2.heap.size rfl 54 (pcell q).toArray (0, 0) _ X1.out Tryd.underlying54 rfl HZ1.out ?_)
    | (refine wpList_load_g (by rfl) 54 (.tmp 10) rfl w2.heap.size 0 rfl (pcell q).toArray (load_pl X1.out) ?_)
    | (refine wpList_eql_pl (by rfl) (.tmp 29) (.tmp 32) rfl q rfl rfl ?_))
  go_ret
  exact ⟨rfl, B2.out.trans (X2.out.mono B2.out.size)⟩
end Go.Proofs.YtlcdkponegmcdaaDoor
