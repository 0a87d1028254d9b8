/- Several texts in one. Conditions: those said at each. -/
import Derived.Test.YtahkcemdbfjilaaGreatDoorWb45
import Derived.Deep.MidRow
import Derived.Great.BuildSlice
import Derived.ChangeKeysEq
import Derived.Deep.RegionHeld3
set_option linter.unusedSimpArgs false
set_option linter.unusedVariables false
set_option maxRecDepth 100000
namespace Go.Proofs.YtahkcemdbfjilaaGreatDoor
open Go.RowKit Go.Maps
set_option maxHeartbeats 2000000 in
theorem dmade_nil (w : World) : Calls Tryz.prog 59 #[.pointer none] w fun e w' => e = .returned (.bool false) ∧ w = w' := by
 go_enter Tryz.func59, Tryz.ntmps59
 go_wp2
 go_ret
 exact ⟨rfl, rfl⟩
end Go.Proofs.YtahkcemdbfjilaaGreatDoor
namespace Go.Proofs.YtahkcemdbfjilaaGreatDoor
open Go.RowKit Go.Maps
section
variable {ops : Array Oper} {o : Oper} {a : Act}
theorem step_store_row {w : World} {K : Act → World → Prop} {Q : Exit → Act → World → Prop} {E : Prop} (hw : Region.wanted o (yielded ops a.tmps) = true) (T : TypeId) (x y : Operand) (ho : o.op = .store T x y) (g : Nat) (cs old : Array Value)
 (hx : a.eval x = .pointer (some ⟨g, 0, none⟩)) (hy : a.eval y = .agg cs) (hg : Has w g T old) (hi : (Tryz.prog.info? T).map (·.size) = some cs.size) (hold : old.size = cs.size) (h1 : cs.all (·.oneCell') = true) (hK : K (a.put o.dst undef) (w.setRow g cs)) :
 if Region.wanted o (yielded ops a.tmps) = true then Oper.wp Tryz.prog o a w K Q else E := by
 rw [if_pos hw]
 exact wp_store_row (P := Tryz.prog) T x y ho g cs hx hy T old hg hi hold h1 hK
end
end Go.Proofs.YtahkcemdbfjilaaGreatDoor
namespace Go.Proofs.YtahkcemdbfjilaaGreatDoor
open Go.RowKit
theorem flat_at (hs : List (List UInt8)) (hl : ∀ h ∈ hs, h.length = 32) (k : Nat) (hk : k < hs.length) (j : Nat) (hj : j < 32) : (hcells hs)[k * 32 + j]? = ((hs[k]).map V8)[j]? := by
 induction hs generalizing k with
 | nil => simp at hk
 | cons a t ih =>
  have ha := hl a (by simp)
  have e : hcells (a :: t) = a.map V8 ++ hcells t := by simp [hcells]
  rw [e]
  cases k with
  | zero => rw [List.getElem?_append_left (by simp [ha]; omega)]; simp
  | succ k =>
   rw [List.getElem?_append_right (by simp [ha]; omega)]
   rw [show (k + 1) * 32 + j - (a.map V8).length = k * 32 + j by simp [ha]; omega]
   exact ih (fun h hh => hl h (by simp [hh])) k (by simpa using hk)
theorem Dgs.at_ {B : Nat} {w : World} {v : Value} {hs : List (List UInt8)} (h : Dgs B w v hs) (k : Nat) (hk : k < hs.length) :
 ∃ g c, v = .slice (some ⟨g, 0, none⟩) hs.length c ∧ B ≤ g ∧ g < w.heap.size ∧ (loadVar 81 ⟨g, k * 32, none⟩).run Tryz.prog w = .ok (.agg (hvec hs[k])) w := by
 rcases h.own.2 with ⟨_, h2⟩ | ⟨g, c, cur, h1, hB, h3, h4, h5, h6, h7⟩
 · omega
 · have hlen : (hs[k]).length = 32 := h.len _ (List.getElem_mem hk)
   refine ⟨g, c, h1, hB, (Array.getElem?_eq_some_iff.1 h3).1, ?_⟩
   refine run_loadVar_mid (P := Tryz.prog) w g (k * 32) 81 ((hs[k]).map V8) _ (fun j u hj => ?_) Tryz.underlying81 rfl (by rw [List.length_map, hlen]; kernel_rfl)
   have hj2 : j < 32 := by
    have := (List.getElem?_eq_some_iff.1 hj).1
    simpa [hlen] using this
   rw [cell_of_row w g _ cur 81 (0, 0) h3]
   rw [← flat_at hs h.len k hk j hj2, ← h7, List.getElem?_take_of_lt (by omega), Array.getElem?_toList] at hj
   exact hj
end Go.Proofs.YtahkcemdbfjilaaGreatDoor
namespace Go.Proofs.YtahkcemdbfjilaaGreatDoor
open Go.RowKit
@[irreducible] def same8 (xs ys : List UInt8) : Bool := decide (xs = ys)
theorem same8_iff (xs ys : List UInt8) : same8 xs ys = true ↔ xs = ys := by unfold same8; simp
theorem same8_refl (xs : List UInt8) : same8 xs xs = true := (same8_iff _ _).2 rfl
end Go.Proofs.YtahkcemdbfjilaaGreatDoor
namespace Go.Proofs.YtahkcemdbfjilaaGreatDoor
open Go.RowKit Go.Maps
theorem nowhere_nil (s : By) (w : World) : Calls Tryz.prog 60 #[.pointer none, kS s] w fun e w' => e = .returned (.int .i64 1) ∧ w = w' := by
 go_enter Tryz.func60, Tryz.ntmps60
 go_wp2
 go_ret
 exact ⟨rfl, rfl⟩
end Go.Proofs.YtahkcemdbfjilaaGreatDoor
namespace Go.Proofs.YtahkcemdbfjilaaGreatDoor
open Go.RowKit Go.Maps
attribute [local go_sem] Oper.semAt_some
theorem paths_nil (w : World) : Calls Tryz.prog 114 #[.pointer none] w fun e w' => e = .returned (.slice none 0 0) ∧ w = w' := by
 have C1 := hid (dmade_nil w)
 go_enter Tryz.func114, Tryz.ntmps114
 go_wp2_with fail
 refine C1.out.mono ?_; rintro e1 w1 ⟨rfl, rfl⟩
 go_wp2
 go_ret
 exact ⟨rfl, rfl⟩
theorem noRoot_nil (s : By) (w : World) : Calls Tryz.prog 50 #[.pointer none, kS s] w fun e w' => e = .returned (.int .i64 1) ∧ w = w' := by
 have C1 := hid (nowhere_nil s w)
 go_enter Tryz.func50, Tryz.ntmps50
 go_wp2_with fail
 refine C1.out.mono ?_; rintro e1 w1 ⟨rfl, rfl⟩
 go_wp2
 go_ret
 exact ⟨rfl, rfl⟩
theorem look_nil (root : By) (hr : root.length ≤ 4000) (w : World) : Calls Tryz.prog 67 #[.pointer none, kS root] w fun e w' => e = .returned (.slice none 0 0) ∧ w = w' := by
 have C1 := hid (paths_nil w)
 have z1 : (ba root).size ≤ 4000 := by rw [ba_size]; exact hr
 go_enter Tryz.func67, Tryz.ntmps67
 go_wp2_with fail
 refine C1.out.mono ?_; rintro e1 w1 ⟨rfl, rfl⟩
 go_wp2
 go_loopw [6, 18] (fun v6 v18 wr => v6 = .slice none 0 0 ∧ v18 = .int .i64 0 ∧ w = wr) (fun _ _ _ => 0)
 case atStart => exact ⟨rfl, rfl, rfl⟩
 case round =>
  obtain ⟨rfl, rfl, rfl⟩ := hrel
  go_wp2
  go_ret
  exact ⟨rfl, rfl⟩
theorem weach_none (root : By) (w : World) : Calls Tryz.prog 25 #[.pointer none, kS root] w fun e w' =>
 e = .returned (.func (.func 66) #[] #[.pointer (some ⟨w.heap.size, 0, none⟩), .pointer (some ⟨w.heap.size + 1, 0, none⟩)]) ∧ w' = (w.alloc (.cells #[.pointer none] 26)).alloc (.cells #[kS root] 9) := by
 go_enter Tryz.func25, Tryz.ntmps25
 go_wp2
 go_ret
 exact ⟨rfl, rfl⟩
set_option maxHeartbeats 4000000 in
theorem each_none (n : Nat) (hn : 1 ≤ n) {w : World} (root : By) (hr : root.length ≤ 4000) (b1 b2 : Nat) (h1 : Has w b1 26 #[.pointer none]) (h2 : Has w b2 9 #[kS root]) :
 SeqStopsK Fence.wide n Tryz.prog 66 #[.pointer (some ⟨b1, 0, none⟩), .pointer (some ⟨b2, 0, none⟩)] (fun x : InX [] => encX x) KpE (fun ys => plainX ys = []) (fun pre => plainX pre <+: []) 0 w := fun il J Jx W hW hJ hJx hY h0 => by
 have CL := hid (look_nil root hr W)
 have k1 : W.cell? ⟨b1, 0, none⟩ = some (.pointer none) := (h1.kept hW h1.inside).at_ 0
 have k2 : W.cell? ⟨b2, 0, none⟩ = some (kS root) := (h2.kept hW h2.inside).at_ 0
 have H0 := hid h0
 clear hW hJ hJx hY h0 h1 h2
 refine callsIn_of_wp Tryz.func66 rfl trivial ?_ rfl
 simp only [Tryz.ntmps66, List.size_toArray, List.length_cons, List.length_nil, Nat.reduceAdd, Nat.reduceSub, Array.replicate_succ, Array.replicate_zero, List.push_toArray, List.append_toArray, List.nil_append, List.cons_append]
 gi_wp2_with (refine ⟨trivial, ?_⟩; gi_at_call 67; refine (callsIn_wide.2 CL.out).mono ?_; rintro e1 W1 ⟨rfl, rfl⟩)
 gi_loopw [10] (fun i wr => i = .int .i64 0 ∧ W = wr) (fun _ _ => 0)
 case atStart => exact ⟨rfl, rfl⟩
 case round =>
  obtain ⟨rfl, rfl⟩ := hrel
  gi_wp2
  go_end0
  exact ⟨⟨_, rfl⟩, .inl ⟨[], rfl, H0.out⟩⟩
theorem walk_none (root : By) (w : World) : Calls Tryz.prog 13 #[.pointer none, kS root, .pointer none] w fun e w' => e = .returned (.tuple #[.agg #[.slice none 0 0, .slice none 0 0, .slice none 0 0, .slice none 0 0], .int .i64 1]) ∧ Below w.heap.size w w' := by
 obtain ⟨w1, hw1⟩ : ∃ w1, (w.alloc (.cells #[.pointer none] 30)).alloc (.cells #[.slice none 0 0, .slice none 0 0, .slice none 0 0, .slice none 0 0] 39) = w1 := ⟨_, rfl⟩
 have b1 : Below w.heap.size w w1 := hw1 ▸ ((Below.refl _ _).alloc (Nat.le_refl _) _).alloc (by simp) _
 have F1 : Hid (Has w1 (w.heap.size + 1) 39 #[.slice none 0 0, .slice none 0 0, .slice none 0 0, .slice none 0 0]) := by rw [← hw1]; exact Has.fresh' _ _ _ (by simp)
 have B1 := hid b1
 have CN := hid (noRoot_nil root w1)
 clear b1
 refine (callsIn_wide (n := 9)).1 ?_
 refine callsIn_of_wp_marks Tryz.func13 rfl trivial ?_ rfl
 simp only [Tryz.ntmps13, List.size_toArray, List.length_cons, List.length_nil, Nat.reduceAdd, Nat.reduceSub, Array.replicate_succ, Array.replicate_zero, List.push_toArray, List.append_toArray, List.nil_append, List.cons_append]
 refine wpIn_wide.2 ?_
 go_wp2_with fail
 try rw [hw1]
 refine CN.out.mono ?_; rintro e2 w2 ⟨rfl, rfl⟩
 go_wp2_with (refine wpList_store_row rfl 39 (.tmp 6) (.tmp 18) rfl (w.heap.size + 1) #[.slice none 0 0, .slice none 0 0, .slice none 0 0, .slice none 0 0] rfl rfl 39 _ F1.out (by kernel_rfl) rfl (by simp [Value.oneCell']) ?_)
 refine ⟨_, results_found rfl _ _ (w.heap.size + 1) _ rfl F1.out.row rfl, ?_⟩
 exact ⟨rfl, B1.out.rowK (by omega) _⟩
theorem item_none (root q : By) (hr : root.length ≤ 4000) (hq : q.length ≤ 4000) (w : World) : Calls Tryz.prog 20 #[.pointer none, kS root, kS q] w fun e w' => e = .returned (.tuple #[.agg recZ, .int .i64 1]) ∧ Below w.heap.size w w' := by
 obtain ⟨at_, HAT⟩ : ∃ at_, Hid (root ++ 47 :: q = at_) := ⟨_, rfl⟩
 have zr := ba_size root
 have zq := ba_size q
 have a1 : ba root ++ (⟨#[47]⟩ : ByteArray) = ba (root ++ [47]) := Glob.ba_app root [47]
 have a2 : ba (root ++ [47]) ++ ba q = ba at_ := by
  have e := Glob.ba_app (root ++ [47]) q
  rw [List.append_assoc] at e
  have e2 : root ++ ([47] ++ q) = at_ := HAT.out
  rw [e2] at e; exact e
 have z2 : (ba (root ++ [47])).size = root.length + 1 := by rw [ba_size, List.length_append]; rfl
 have b1 : Below w.heap.size w (w.alloc (.cells recZ 58)) := (Below.refl _ _).alloc (Nat.le_refl _) _
 have F1 : Hid (Has (w.alloc (.cells recZ 58)) w.heap.size 58 recZ) := Has.fresh _ _ _
 have CN := hid (nowhere_nil at_ (w.alloc (.cells recZ 58)))
 have B1 := hid b1
 clear b1
 go_enter Tryz.func20, Tryz.ntmps20
 go_wp2_with fail
 refine CN.out.mono ?_; rintro e1 w1 ⟨rfl, rfl⟩
 go_wp2_with (refine wpList_store_row rfl 58 (.tmp 6) (.tmp 21) rfl w.heap.size recZ rfl rfl 58 _ F1.out (by kernel_rfl) rfl recZ_all ?_)
 refine bodyPost_ret (results_rec rfl _ _ w.heap.size recZ rfl F1.out.row rfl) rfl ?_
 exact ⟨rfl, B1.out.rowK (Nat.le_refl _) _⟩
end Go.Proofs.YtahkcemdbfjilaaGreatDoor
namespace Go.Proofs.YtahkcemdbfjilaaGreatDoor
open Go.RowKit Go.Maps
structure GMore (M : Mo) : Prop where
 r2 : rootE M.now [102, 50] = 5
 ra : rootE M.now [102, 49, 47, 97] = 12
 re : rootE M.now [] = 10
 iy : itemM M.now gRoot [100, 47, 101, 47, 121] = (3, n0)
 ib : itemM M.now gRoot [98] = (5, n0)
 is : itemM M.now gRoot [47] = (10, n0)
theorem g_more : GMore (madeM gXs) := by
 have h := g4 _ rfl gD_len
 have hl := gD_len
 generalize pdL ⟨1, gY, [121], 5000, 0⟩ = D at h hl
 have e := h.now
 refine ⟨by rw [e]; rfl, by rw [e]; rfl, by rw [e]; rfl, ?_, by rw [e]; rfl, by rw [e]; rfl⟩
 rw [e]
 have hm : mayB (gRoot ++ 47 :: [100, 47, 101, 47, 121]) = true := by decide +kernel
 have hk : look (gT D) (gRoot ++ 47 :: [100, 47, 101, 47, 121]) = some ⟨1, D, [], 0⟩ := by rfl
 have hb : badN ⟨1, D, [], 0⟩ = true := by unfold badN; dsimp only; rw [hl]; rfl
 unfold itemM
 rw [if_pos hm, hk]
 simp only [hb, if_true]
end Go.Proofs.YtahkcemdbfjilaaGreatDoor
namespace Go.Proofs.YtahkcemdbfjilaaGreatDoor.Hq
open Go.RowKit
theorem b8_inj {x y : UInt8} (h : b8 x = b8 y) : x = y := by unfold b8 at h; exact UInt8.toNat_inj.1 (by omega)
theorem hvec_get (l : List UInt8) (i : Nat) (h : i < l.length) : (hvec l)[i]? = some (Value.int .u8 (b8 (at8 l i))) := by
 rw [hvec, List.getElem?_toArray]; exact get_map h
theorem part_byte (xs : List UInt8) (i : Nat) (hi : i < xs.length) (w : World) : (part 5 (hvec xs) (i * 1)).run Tryz.prog w = .ok (.int .u8 (b8 (at8 xs i))) w := by
 have ha : (isAgg 5).run Tryz.prog w = .ok false w := by kernel_rfl
 simp only [part, Sem.run_bind, ha, Result.andThen_ok, Nat.mul_one, Bool.false_eq_true, if_false, hvec_get xs i hi, Sem.run_pure]
theorem eqItems_bytes (d : Nat) (xs ys : List UInt8) (w : World) (is : List Nat) : (∀ i ∈ is, i < xs.length ∧ i < ys.length) →
 (Op.eqItems (d + 1) 5 1 (hvec xs) (hvec ys) is).run Tryz.prog w = .ok (is.all fun i => decide (at8 xs i = at8 ys i)) w := by
 induction is with
 | nil => intro _; simp [Op.eqItems]
 | cons j is ih =>
  intro h
  have hj := h j (by simp)
  have he : (Op.equalIn (d + 1) 5 (.int .u8 (b8 (at8 xs j))) (.int .u8 (b8 (at8 ys j)))).run Tryz.prog w = .ok (b8 (at8 xs j) == b8 (at8 ys j)) w :=
   run_equalIn_int (P := Tryz.prog) w d 5 .u8 .u8 _ _ Tryz.underlying5
  simp only [Op.eqItems, Sem.run_bind, part_byte xs j hj.1 w, part_byte ys j hj.2 w, Result.andThen_ok, he]
  by_cases hq : at8 xs j = at8 ys j
  · rw [hq]; simp [ih (fun i hi => h i (by simp [hi]))]; simp [hq]
  · have : b8 (at8 xs j) ≠ b8 (at8 ys j) := fun e => hq (b8_inj e)
    simp [this, hq]
theorem run_hash_equal (xs ys : List UInt8) (hx : xs.length = 32) (hy : ys.length = 32) (w : World) :
 (Op.equalIn 10000 81 (.agg (hvec xs)) (.agg (hvec ys))).run Tryz.prog w = .ok (same8 xs ys) w := by
 obtain ⟨i5, hi5⟩ : ∃ i, Tryz.prog.info? 5 = some i := by obtain ⟨i0, hi, _⟩ := info_parts info5; exact ⟨i0, hi⟩
 rw [run_equalIn_array (P := Tryz.prog) (w := w) 9999 (hvec xs) (hvec ys) Tryz.underlying81 hi5]
 have hc : Tryz.prog.cellsOf 5 = 1 := by kernel_rfl
 rw [hc, eqItems_bytes 9998 xs ys w _ (fun i hi => by simp at hi; omega)]
 congr 1
 rw [Bool.eq_iff_iff, same8_iff]
 simp only [List.all_eq_true, List.mem_range, decide_eq_true_eq]
 constructor
 · intro h
   apply List.ext_getElem (by omega)
   intro i h1 h2
   have := h i (by omega)
   simpa [at8, List.getD, List.getElem?_eq_getElem h1, List.getElem?_eq_getElem h2] using this
 · intro h i _; rw [h]
theorem eqGH : Tryz.prog.eqGuardType Tryz.prog.depth 81 = false := by kernel_rfl
section
variable {ops : Array Oper} {S : World → Prop} {o : Oper} {a : Act}
theorem yields_load_h (hw : Region.wanted o (yielded ops a.tmps) = true) (x : Operand) (ho : o.op = .load 81 x) (g off : Nat) (hx : a.eval x = .pointer (some ⟨g, off, none⟩)) (d : List UInt8)
 (hS : ∀ w, S w → (loadVar 81 ⟨g, off, none⟩).run Tryz.prog w = .ok (.agg (hvec d)) w) : YieldsIf Tryz.prog ops S o (.agg (hvec d)) a :=
 .inl ⟨hw, fun w hw' => by
  unfold execOp
  simp only [ho, hx, Instr.loadAt, Instr.sureAddr, Sem.run_bind, Sem.run_pure, Result.andThen_ok, hS w hw']⟩
end
theorem run_hash_neq (xs ys : List UInt8) (hx : xs.length = 32) (hy : ys.length = 32) (w : World) :
 (binOp .neq 81 (.agg (hvec xs)) (.agg (hvec ys))).run Tryz.prog w = .ok (.bool (!same8 xs ys)) w := by
 rw [run_neq_struct, run_hash_equal xs ys hx hy]
 rfl
theorem yields_neq_h {ops : Array Oper} {S : World → Prop} {o : Oper} {a : Act} (hw : Region.wanted o (yielded ops a.tmps) = true) (x y : Operand) (ho : o.op = .binOp .neq 81 x y 81) (l m : List UInt8) (hx : a.eval x = .agg (hvec l)) (hy : a.eval y = .agg (hvec m)) (hl : l.length = 32) (hm : m.length = 32)
 (b : Bool) (hb : (!same8 l m) = b) : YieldsIf Tryz.prog ops S o (.bool b) a :=
 .inl ⟨hw, fun w _ => by
  unfold execOp
  simp only [ho, hx, hy, Sem.run_bind, run_eqGuard_agg w .neq 81 x y _ _ eqGH, run_hash_neq l m hl hm w, Result.andThen_ok, hb, Sem.run_pure]⟩
end Go.Proofs.YtahkcemdbfjilaaGreatDoor.Hq
