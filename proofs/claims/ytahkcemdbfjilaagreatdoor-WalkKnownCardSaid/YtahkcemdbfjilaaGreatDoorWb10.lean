/- Several texts in one. Conditions: those said at each. -/
import Derived.Lib.OwnBridge
import Derived.Test.YtahkcemdbfjilaaGreatDoorWb09
import Derived.ChangeKeysEq
import Derived.Lib.AppendZeros
import Derived.Lib.ConvBytes
import Derived.Laws.IdiomStrings
import Derived.LoopN
set_option linter.unusedSimpArgs false
set_option linter.unusedVariables false
set_option maxRecDepth 100000
namespace Go.Proofs.YtahkcemdbfjilaaGreatDoor
open Go.RowKit Go.Maps Go.Lib Go.Sort
abbrev Sh := {x : By // x.length ≤ 4000}
instance : Inhabited Sh := ⟨⟨[], by simp⟩⟩
def encSh (x : Sh) : Value := kS x.1
def cfSh (x y : Sh) : Int := cmpL x.1 y.1
theorem lt_sh (x y : Sh) : ltOf cfSh x y = true ↔ cmpL x.1 y.1 = -1 := by
 unfold ltOf cfSh
 have := cmpL_vals x.1 y.1
 simp only [decide_eq_true_eq]; omega
theorem lt_sh_no (x y : Sh) : ltOf cfSh x y = false ↔ cmpL x.1 y.1 ≠ -1 := by
 rw [← Bool.not_eq_true, lt_sh]
theorem cmpL_le {a b : By} (h : cmpL b a ≠ -1) : cmpL a b = -1 ∨ a = b := by
 rcases cmpL_vals a b with k | k | k
 · exact .inl k
 · exact .inr ((cmpL_zero a b).1 k)
 · exact absurd (by rw [cmpL_neg a b, k]) h
theorem swo_sh : SWO (ltOf cfSh) where
 irrefl x := by rw [lt_sh_no, cmpL_self]; omega
 trans x y z h1 h2 := by rw [lt_sh] at *; exact cmpL_trans _ _ _ h1 h2
 ntrans x y z h1 h2 := by
  rw [lt_sh_no] at *
  intro h3
  rcases cmpL_le h1 with k | k
  · exact h2 (cmpL_trans _ _ _ k h3)
  · rw [← k] at h3; exact h2 h3
theorem one_sh : OneCell encSh := fun _ => rfl
theorem shift_sh {xs : List By} (h : ∀ x ∈ xs, x.length ≤ 4000) : ∃ zs : List Sh, zs.map (·.1) = xs := by
 induction xs with
 | nil => exact ⟨[], rfl⟩
 | cons x xs ih =>
  obtain ⟨zs, hz⟩ := ih fun y hy => h y (List.mem_cons_of_mem _ hy)
  exact ⟨⟨x, h x List.mem_cons_self⟩ :: zs, by rw [List.map_cons, hz]⟩
def keyT (xs : List By) : Tr := xs.map fun x => (x, n0)
theorem look_key (xs : List By) (p : By) : look (keyT xs) p = if p ∈ xs then some n0 else none := by
 induction xs with
 | nil => rfl
 | cons x xs ih =>
  show (if x = p then some n0 else look (keyT xs) p) = _
  rw [ih]
  by_cases h : x = p
  · simp [h]
  · have h' : ¬ p = x := fun e => h e.symm
    simp [h, h']
theorem keys_same {xs ys : List By} (hx : xs.Pairwise fun a b => cmpL a b = -1) (hy : ys.Pairwise fun a b => cmpL a b = -1) (h : ∀ p, p ∈ xs ↔ p ∈ ys) : xs = ys := by
 have s1 : Srt (keyT xs) := by unfold Srt keyT; rw [List.pairwise_map]; exact hx
 have s2 : Srt (keyT ys) := by unfold Srt keyT; rw [List.pairwise_map]; exact hy
 have := tree_ext s1 s2 fun p => by rw [look_key, look_key]; simp only [h p]
 have e := congrArg (List.map (·.1)) this
 simpa [keyT, List.map_map, Function.comp_def] using e
def pathsL (L : Tr) : List By := L.map (·.1)
theorem paths_srt {L : Tr} (h : Srt L) : (pathsL L).Pairwise fun a b => cmpL a b = -1 := by unfold pathsL; rw [List.pairwise_map]; exact h
theorem sorted_paths {L : Tr} (h : Srt L) (zs : List Sh) (hp : (zs.map (·.1)).Perm (pathsL L)) : (zs.mergeSort fun x y => !(ltOf cfSh) y x).map (·.1) = pathsL L := by
 have hperm := List.mergeSort_perm zs fun x y => !(ltOf cfSh) y x
 have hpw : (zs.mergeSort fun x y => !(ltOf cfSh) y x).Pairwise fun x y => (!(ltOf cfSh) y x) = true := by
  apply List.pairwise_mergeSort
  · intro a b c h1 h2
    simp only [Bool.not_eq_true'] at *
    exact swo_sh.ntrans _ _ _ h2 h1
  · intro a b
    simp only [Bool.or_eq_true, Bool.not_eq_true']
    rcases cmpL_vals b.1 a.1 with k | k | k
    · exact .inr ((lt_sh_no _ _).2 (by rw [cmpL_neg, k]; omega))
    · exact .inl ((lt_sh_no _ _).2 (by rw [k]; omega))
    · exact .inl ((lt_sh_no _ _).2 (by rw [k]; omega))
 have hnd : ((zs.mergeSort fun x y => !(ltOf cfSh) y x).map (·.1)).Nodup := by
  refine ((hperm.map _).trans hp).nodup_iff.2 ?_
  exact (paths_srt h).imp fun k => cmpL_ne k
 refine keys_same ?_ (paths_srt h) fun p => ((hperm.map _).trans hp).mem_iff
 have h2 : ((zs.mergeSort fun x y => !(ltOf cfSh) y x).map (·.1)).Pairwise fun a b => cmpL b a ≠ -1 := by
  rw [List.pairwise_map]
  exact hpw.imp fun {a b} k => (lt_sh_no b a).1 (by simpa using k)
 exact (h2.and hnd).imp fun {a b} k => (cmpL_le k.1).resolve_right k.2
structure Names (w : World) (A : Option Addr) (g : Nat) (xs : List By) : Prop where
 ad : 0 < xs.length → A = some ⟨g, 0, none⟩
 cell : ∀ i (h : i < xs.length), w.cell? ⟨g, i, none⟩ = some (kS xs[i])
 low : 0 < xs.length → g < w.heap.size
def NamesP (w : World) (xs : List By) (e : Ending) (w' : World) : Prop := ∃ A c g, e = .returned (.slice A (xs.length : Nat) c) ∧ Names w' A g xs ∧ Below w.heap.size w w'
theorem names_of_row {w w0 : World} {e : TypeId} {v : Value} {xs : List By} (h : w.ownsRow w0.heap.size e 1 v xs.length (xs.map kS)) : ∃ A c g, v = .slice A (xs.length : Nat) c ∧ Names w A g xs := by
 rcases h.2 with ⟨k1, k2⟩ | ⟨g, c, cur, k1, k2, k3, k4, k5, k6, k7⟩
 · have : xs = [] := by simpa using k2
   subst this
   exact ⟨none, 0, 0, k1, fun k => absurd k (by simp), fun i hi => absurd hi (by simp), fun k => absurd k (by simp)⟩
 · refine ⟨_, c, g, k1, fun _ => rfl, fun i hi => ?_, fun _ => Has.inside k3⟩
   have e1 := congrArg (fun l => l[i]?) k7
   simp only [List.getElem?_take, Nat.mul_one, if_pos hi, Array.getElem?_toList, List.getElem?_map, List.getElem?_eq_getElem hi, Option.map_some] at e1
   exact (Has.at_ k3 i).trans e1
theorem below_sorted {α : Type} [Inhabited α] {enc : α → Value} {B : Nat} {w0 w : World} {g q : Nat} {d : Array α} {os : Array Obj} (h : Below B w0 w) (hg : B ≤ g) (hB : B ≤ w.heap.size) : Below B w0 (sortWorld enc w g 0 q d os) := by
 have := below_putRow (enc := enc) (q := q) (d := d) h hg
 refine this.trans ⟨rfl, rfl, rfl, ?_, fun k hk => ?_⟩
 · show _ ≤ ((putRow enc (Sort.ahead w q) g 0 d).heap ++ os).size
   simp
 · show ((putRow enc (Sort.ahead w q) g 0 d).heap ++ os)[k]? = _
   have := this.size
   rw [Array.getElem?_append_left]
   have e : (putRow enc (Sort.ahead w q) g 0 d).heap.size = w.heap.size := by simp [putRow, mapBlock, Sort.ahead]
   omega
theorem sortPaths_any {L : Tr} (hs : Srt L) {w0 w : World} {v : Value} {xs : List By} (hb : Below w0.heap.size w0 w) (h : w.ownsRow w0.heap.size 9 1 v xs.length (xs.map kS)) (hp : xs.Perm (pathsL L)) (hl : ∀ x ∈ xs, x.length ≤ 4000) (hn : xs.length ≤ 100000) :
 Calls Tryz.prog 167 #[v, .func (.func 168) #[] #[]] w fun e w' => e = .returned (.tuple #[]) ∧ w'.ownsRow w0.heap.size 9 1 v (pathsL L).length ((pathsL L).map kS) ∧ Below w0.heap.size w0 w' := by
 obtain ⟨zs, hz⟩ := shift_sh hl
 have hlen : xs.length = (pathsL L).length := hp.length_eq
 have hzx : xs.map kS = zs.map encSh := by rw [← hz, List.map_map]; rfl
 by_cases hv : v = .slice none 0 0
 · subst hv
   have h0 : xs.length = 0 := by
    rcases h.2 with ⟨_, k2⟩ | ⟨g, c, cur, k1, _⟩
    · have : xs = [] := by simpa using k2
      rw [this]; rfl
    · cases k1
   have e0 : xs = [] := List.length_eq_zero_iff.1 h0
   have e1 : pathsL L = [] := List.length_eq_zero_iff.1 (by omega)
   refine (Tryz.slices_SortFunc_none (α := Sh) none 0 _ w).mono ?_
   rintro e w' ⟨rfl, rfl⟩
   rw [e1]; rw [e0] at h
   exact ⟨rfl, h, hb⟩
 · rw [hzx] at h
   obtain ⟨g, cap, rfl, g1, g2, g3, g4, g5, hH⟩ := holds_of_ownsRow h hv
   have hlz : zs.toArray.size = xs.length := by simp [g5]
   have := Tryz.slices_SortFunc_total encSh one_sh cfSh swo_sh 168 #[] g 0 cap zs.toArray w (enters_of Tryz.func168 (by kernel_rfl) rfl) (fun m os dk hdk x y => by
    have hx := x.2; have hy := y.2
    refine (cmp_any (ba x.1) (ba y.1) _ (by rw [ba_size]; omega) (by rw [ba_size]; omega)).mono ?_
    rintro e w' ⟨rfl, n, rfl⟩
    exact ⟨rfl, n, #[], (grow_empty _).symm⟩) hH g2 (by rw [hlz]; omega) (fun x y h1 h2 => by
     rw [lt_sh_no] at h1 h2
     rcases cmpL_le h2 with k | k
     · exact absurd k h1
     · exact Subtype.ext k)
   rw [hlz] at this
   refine this.mono ?_
   rintro e w' ⟨rfl, n, os, rfl⟩
   refine ⟨rfl, ?_, below_sorted hb g1 hb.size⟩
   have hsp := sorted_paths hs zs (by rw [hz]; exact hp)
   have hml : (zs.mergeSort fun x y => !(ltOf cfSh) y x).length = xs.length := by rw [List.length_mergeSort, g5]
   have hrow := ownsRow_putRow (enc := encSh) (q := n) (k := xs.length) (ys := zs.mergeSort fun x y => !(ltOf cfSh) y x) h hml (Nat.le_refl _)
   rw [List.take_of_length_le (Nat.le_of_eq hml), show List.map encSh (zs.mergeSort fun x y => !(ltOf cfSh) y x) = (pathsL L).map kS by rw [← hsp, List.map_map]; rfl, hlen] at hrow
   rw [hlen]
   refine row_of hrow fun g' hg' => ?_
   have eg : g = g' := by injection hg'
   subst eg
   show ((putRow encSh (Sort.ahead w n) g 0 _).heap ++ os)[g]? = _
   rw [Array.getElem?_append_left]
   have e : ∀ d : Array Sh, (putRow encSh (Sort.ahead w n) g 0 d).heap.size = w.heap.size := fun d => by simp [putRow, mapBlock, Sort.ahead]
   rw [e]; exact g2
theorem inner_nil (L : Tr) : innerL L [] = pathsL L := by
 have : kindP L [] = 2 := rfl
 rw [innerL, if_pos this, show beginL [] = [] from rfl]
 unfold restsL pathsL
 induction L with
 | nil => rfl
 | cons x L ih => simp
section
variable {own : Nat → Prop} {w : World} {p : Nat} {M : Mo}
set_option maxHeartbeats 4000000 in
theorem dPaths_any (h : Dsk own w p M) : Calls Tryz.prog 114 #[.pointer (some ⟨p, 0, none⟩)] w fun e w' => NamesP w (pathsL M.now) e w' := by
 obtain ⟨m1, m2, sv, vs, h⟩ := h
 have C1 := hid (dmade_any (m1 := m1) (h.has.at_ 0))
 have hW := h.good.w1
 have hmay : ∀ q, (look M.now q).isSome → q.length ≤ 4000 := fun q hq => by have := (may_parts (hW.may q hq)).1; omega
 have C2 : Hid (Calls Tryz.prog 154 #[.pointer (some ⟨p, 0, none⟩), kS []] w fun e w' => InPost w (pathsL M.now) e w') := by
  have := twithin_any h.tr1 hmay [] (by simp)
  rw [inner_nil] at this; exact this
 have HS := hid hW.srt
 have HN : Hid ((pathsL M.now).length ≤ 100000) := by
  show _ ≤ _
  unfold pathsL; rw [List.length_map]; exact h.tr1.len
 have HL : Hid (∀ x ∈ pathsL M.now, x.length ≤ 4000) := fun x hx => by
  unfold pathsL at hx
  obtain ⟨y, hy, rfl⟩ := List.mem_map.1 hx
  obtain ⟨q, n⟩ := y
  exact hmay q (by rw [mem_look hW.srt hy]; rfl)
 clear h hW hmay
 go_enter Tryz.func114, Tryz.ntmps114
 go_wp2_with fail
 refine C1.out.mono ?_; rintro e1 w1 ⟨rfl, rfl⟩
 go_wp2_with fail
 refine C2.out.mono ?_; rintro e2 w2 ⟨v, xs, rfl, hp, hrow, hb⟩
 have HP := hid hp; have HR := hid hrow; have HB := hid hb
 clear hp hrow hb
 go_wp2_with fail
 refine (sortPaths_any HS.out HB.out HR.out HP.out (fun x hx => HL.out x (HP.out.mem_iff.1 hx)) (by rw [HP.out.length_eq]; exact HN.out)).mono ?_; rintro e3 w3 ⟨rfl, hrow3, hb3⟩
 have HR3 := hid hrow3; have HB3 := hid hb3
 clear hrow3 hb3
 go_wp2
 go_ret
 obtain ⟨A, c, g, rfl, hn⟩ := names_of_row HR3.out
 exact ⟨A, c, g, rfl, hn, HB3.out⟩
end
end Go.Proofs.YtahkcemdbfjilaaGreatDoor
namespace Go.Proofs.YtahkcemdbfjilaaGreatDoor
open Go.RowKit Go.Maps
instance : DecidableEq Nd := fun a b =>
 if h : a.kind = b.kind ∧ a.data = b.data ∧ a.target = b.target ∧ a.time = b.time then .isTrue (by cases a; cases b; simp only at h; obtain ⟨h1, h2, h3, h4⟩ := h; subst h1 h2 h3 h4; rfl) else .isFalse (fun e => h (by subst e; exact ⟨rfl, rfl, rfl, rfl⟩))
theorem wpList_wanted {P : Program} {ops : Array Oper} {Q : Exit → Act → World → Prop} {a : Act} {w : World} {rest : List Oper} {o : Oper} (hw : Region.wanted o (yielded ops a.tmps) = true)
 (h : ∀ K : Act → World → Prop, (∀ a w, wpList P ops Q rest a w → K a w) → o.wp P a w K Q) : wpList P ops Q (o :: rest) a w :=
 wpList_step fun K hK => by rw [if_pos hw]; exact h K hK
theorem wpList_load_g {P : Program} {ops : Array Oper} {rest : List Oper} {o : Oper} {a : Act} {w : World} {Q : Exit → Act → World → Prop} (hw : Region.wanted o (yielded ops a.tmps) = true) (ty : TypeId) (x : Operand) (ho : o.op = .load ty x)
 (g off : Nat) (hx : a.eval x = .pointer (some ⟨g, off, none⟩)) (cs : Array Value) (hl : (loadVar ty ⟨g, off, none⟩).run P w = .ok (.agg cs) w)
 (h : wpList P ops Q rest (a.put o.dst (.agg cs)) w) : wpList P ops Q (o :: rest) a w :=
 wpList_wanted hw fun _ hK => by
  unfold Oper.wp execOp
  simp only [ho, hx, Instr.loadAt, Instr.sureAddr, Sem.run_bind, Sem.run_pure, Result.andThen_ok, hl]
  exact hK _ _ h
abbrev ndA (k : Int) (d x : By) (t : Int) : Array Value := #[.int .i64 k, kS d, kS x, .int .i64 t]
section
variable {ops : Array Oper} {Q : Exit → Act → World → Prop} {a : Act} {w : World} {rest : List Oper} {o : Oper}
theorem load_nodeC {w : World} {g : Nat} {k : Int} {d x : By} {t : Int} (hg : Has w g 71 (ndA k d x t)) : (loadVar 71 ⟨g, 0, none⟩).run Tryz.prog w = .ok (.agg (ndA k d x t)) w :=
 run_loadVar_row (P := Tryz.prog) w g 71 71 _ (0, 0) _ hg Tryz.underlying71 rfl iNode
theorem wpList_load_nodeC (hw : Region.wanted o (yielded ops a.tmps) = true) (x : Operand) (ho : o.op = .load 71 x) (g : Nat) (hx : a.eval x = .pointer (some ⟨g, 0, none⟩)) (k : Int) (d y : By) (t : Int) (hg : Has w g 71 (ndA k d y t))
 (h : wpList Tryz.prog ops Q rest (a.put o.dst (.agg (ndA k d y t))) w) : wpList Tryz.prog ops Q (o :: rest) a w :=
 wpList_wanted hw fun _ hK => by
  unfold Oper.wp execOp
  simp only [ho, hx, Instr.loadAt, Instr.sureAddr, Sem.run_bind, Sem.run_pure, Result.andThen_ok, load_nodeC hg]
  exact hK _ _ h
end
end Go.Proofs.YtahkcemdbfjilaaGreatDoor
namespace Go.Proofs.YtahkcemdbfjilaaGreatDoor
open Go.RowKit Go.Maps
def V8 (x : UInt8) : Value := .int .u8 (b8 x)
structure Bytes (w : World) (v : Value) (xs : List UInt8) (A : Option Addr) (cap bb off : Nat) : Prop where
 form : v = .slice A xs.length cap
 le : xs.length ≤ cap
 zero : A = none → cap = 0
 at_ : ∀ a, A = some a → ∀ j, j < xs.length → w.cell? (a.add j) = some (V8 (at8 xs j))
 blk : bb < w.heap.size
 src : 0 < xs.length → A = some ⟨bb, off, none⟩
section
variable {w w' : World} {v : Value} {xs : List UInt8} {A : Option Addr} {cap bb off : Nat}
theorem add_at (bb off j : Nat) : (⟨bb, off, none⟩ : Addr).add j = ⟨bb, off + j, none⟩ := by unfold Addr.add; split <;> simp_all
theorem Bytes.nil (w : World) (h : 0 < w.heap.size) : Bytes w (.slice none 0 0) [] none 0 0 0 := ⟨rfl, Nat.le_refl _, fun _ => rfl, (fun _ e => by cases e), h, (fun e => by simp at e)⟩
theorem Bytes.kept {B : Nat} (h : Bytes w v xs A cap bb off) (hb : Below B w w') (hB : w.heap.size ≤ B) : Bytes w' v xs A cap bb off :=
 ⟨h.form, h.le, h.zero, fun a ha j hj => by
  have e := h.at_ a ha j hj
  exact (hb.cell (Nat.lt_of_lt_of_le (block_lt_of_cell e) hB)).trans e, Nat.lt_of_lt_of_le h.blk hb.size, h.src⟩
end
theorem V8_one (xs : List UInt8) : ∀ u ∈ xs.map V8, u.oneCell' = true := by
 intro u hu
 obtain ⟨x, _, rfl⟩ := List.mem_map.1 hu
 rfl
theorem map_get {xs : List UInt8} {j : Nat} {u : Value} (h : (xs.map V8)[j]? = some u) : j < xs.length ∧ u = V8 (at8 xs j) := by
 have hj : j < xs.length := by
  have := (List.getElem?_eq_some_iff.1 h).1
  simpa using this
 refine ⟨hj, ?_⟩
 rw [List.getElem?_map, List.getElem?_eq_getElem hj] at h
 simp at h
 rw [← h, at8, List.getD, List.getElem?_eq_getElem hj]; rfl
theorem get_map {xs : List UInt8} {j : Nat} (h : j < xs.length) : (xs.map V8)[j]? = some (V8 (at8 xs j)) := by
 rw [List.getElem?_map, List.getElem?_eq_getElem h]
 simp [at8, List.getD, List.getElem?_eq_getElem h]
theorem info5 : (Tryz.prog.info? 5).map (fun i => (i.zero, i.size, i.bytes)) = some (some (.int .u8 0), 1, 1) := by kernel_rfl
theorem own_bytes {w : World} {B : Nat} {v : Value} {ys : List UInt8} {n : Nat} (hn : ys.length = n) (hw : 0 < w.heap.size) (h : w.ownsRow B 5 1 v n (ys.map V8)) : ∃ A cap bb, Bytes w v ys A cap bb 0 ∧ (0 < ys.length → B ≤ bb) ∧ (v.ownBlock = some bb ∨ v.ownBlock = none ∧ bb = 0) := by
 subst hn
 rcases h.2 with ⟨rfl, h2⟩ | ⟨g, c, cur, rfl, hbg, hgg, h4, _⟩
 · obtain rfl : ys = [] := List.eq_nil_of_length_eq_zero (by omega)
   exact ⟨none, 0, 0, Bytes.nil w hw, fun h => by simp at h, .inr ⟨rfl, rfl⟩⟩
 · have hc := h.cells (g := g) rfl
   have hl := (h.lt g rfl).2
   refine ⟨some ⟨g, 0, none⟩, c, g, ⟨rfl, h4, (fun h => by cases h), fun a ha j hj => ?_, hl, fun _ => rfl⟩, fun _ => hbg, .inl rfl⟩
   cases ha
   exact hc j _ (get_map hj)
theorem append_bytes (w : World) (B : Nat) (v : Value) (n : Nat) (xs : List Value) (hown : w.ownsRow B 5 1 v n xs) {src : Value} {ys : List UInt8} {A : Option Addr} {cap bb off : Nat} (hs : Bytes w src ys A cap bb off)
 (hn : n + ys.length ≤ 1000000) (hB : B ≤ w.heap.size) :
 ∃ v' w', (Builtin.append_ #[79, 79] 79 #[v, src]).run Tryz.prog w = .ok v' w' ∧ w'.ownsRow B 5 1 v' (n + ys.length) (xs ++ ys.map V8) ∧ w.grownBy w' v.ownBlock ∧
  (v' = .slice none 0 0 ↔ v = .slice none 0 0 ∧ ys.length = 0) ∧ (v'.ownBlock = v.ownBlock ∨ v'.ownBlock = some w.heap.size) := by
 obtain ⟨i0, hi, hz0, hz1, hz2⟩ := info_parts info5
 cases A with
 | none =>
  have hc := hs.zero rfl
  have hl := hs.le
  have h0 : ys.length = 0 := by omega
  have hy : ys = [] := List.eq_nil_of_length_eq_zero h0
  have e := hs.form
  rw [hc, h0] at e
  rw [e]
  refine ⟨v, w, run_append_owned_none (P := Tryz.prog) w B 79 79 5 i0 1 Tryz.underlying79 hi v n xs hown, ?_, ⟨rfl, rfl, rfl, Nat.le_refl _, fun _ _ _ => rfl⟩, by simp [h0], .inl rfl⟩
  rw [h0, hy]; simpa using hown
 | some a =>
  rw [hs.form]
  exact run_append_own_at (P := Tryz.prog) w B 79 79 5 i0 (.int .u8 0) 1 1 Tryz.underlying79 hi hz0 hz1 hz2 rfl (by omega) v n xs hown a ys.length cap (ys.map V8) (by simp)
   (fun j u hj => by obtain ⟨h1, rfl⟩ := map_get hj; exact hs.at_ a rfl j h1) (V8_one ys) (by unfold maxLen; omega) (by omega) hB
theorem wpList_append_run {P : Program} {ops : Array Oper} {rest : List Oper} {o : Oper} {a : Act} {w : World} {Q : Exit → Act → World → Prop} (hgd : o.guard = none) (s x : Operand) (t tn : TypeId)
 (ho : o.op = .call { callee := .builtin .append, args := #[s, x], argTypes := #[t, tn] })
 (h : ∃ v' w', (Builtin.append_ #[t, tn] o.type #[a.eval s, a.eval x]).run P w = .ok v' w' ∧ wpList P ops Q rest (a.put o.dst v') w') : wpList P ops Q (o :: rest) a w :=
 wpList_plain hgd fun _ hK => by
  obtain ⟨v', w', hr, h⟩ := h
  unfold Oper.wp execOp
  simp only [ho, resolve, invoke, builtin, Sem.run_bind, Sem.run_pure, Result.andThen_ok, List.map_toArray, List.map_cons, List.map_nil, hr]
  exact hK _ _ h
theorem conv_nil (w : World) : (convert 79 9 (.slice none 0 0)).run Tryz.prog w = .ok (.string ⟨#[]⟩) w := by kernel_rfl
theorem conv_back {w : World} {v : Value} {ys : List UInt8} {A : Option Addr} {cap bb off : Nat} (h : Bytes w v ys A cap bb off) : (convert 79 9 v).run Tryz.prog w = .ok (.string (ba ys)) w := by
 have e := h.form
 cases A with
 | none =>
  have hc := h.zero rfl
  have hl := h.le
  have h0 : ys = [] := List.eq_nil_of_length_eq_zero (by omega)
  subst h0
  rw [e, hc]
  exact conv_nil w
 | some a =>
  rw [e]
  have := run_convert_bytes_back (P := Tryz.prog) w 79 9 5 a cap ys Tryz.underlying79 Tryz.underlying5 Tryz.underlying9 (fun j hj => by
   rw [h.at_ a rfl j hj, V8, b8, at8, List.getD, List.getElem?_eq_getElem hj]; rfl)
  exact this
def Fresh (B : Nat) (w' : World) (v : Value) (xs : List UInt8) : Prop := w'.ownsRow B 5 1 v xs.length (xs.map V8)
theorem Fresh.bytes {B : Nat} {w : World} {v : Value} {xs : List UInt8} (h : Fresh B w v xs) (hw : 0 < w.heap.size) : ∃ A cap bb, Bytes w v xs A cap bb 0 ∧ (0 < xs.length → B ≤ bb) ∧ (v.ownBlock = some bb ∨ v.ownBlock = none ∧ bb = 0) := own_bytes rfl hw h
theorem fresh_nil (B : Nat) (w : World) : Fresh B w (.slice none 0 0) [] := World.ownsRow_nil _ _ _ _
theorem fresh_app {B : Nat} {w : World} {v : Value} {xs : List UInt8} (h : Fresh B w v xs) {src : Value} {ys : List UInt8} {A : Option Addr} {cap bb off : Nat} (hs : Bytes w src ys A cap bb off) (hn : xs.length + ys.length ≤ 1000000) (hB : B ≤ w.heap.size) :
 ∃ v' w', (Builtin.append_ #[79, 79] 79 #[v, src]).run Tryz.prog w = .ok v' w' ∧ Fresh B w' v' (xs ++ ys) ∧ w.grownBy w' v.ownBlock := by
 obtain ⟨v', w', hr, ho, hg, _, _⟩ := append_bytes w B v xs.length (xs.map V8) h hs hn hB
 refine ⟨v', w', hr, ?_, hg⟩
 unfold Fresh
 rw [List.length_append, List.map_append]
 exact ho
theorem fresh_kept {B : Nat} {w w' : World} {v : Value} {xs : List UInt8} (h : Fresh B w v xs) (hb : Below w.heap.size w w') : Fresh B w' v xs := row_of h (fun g hg => hb.block g (World.ownsRow.lt h g hg).2)
theorem index_at (s : ByteArray) (i : Nat) (h : i < s.size) (w : World) : (Instr.index 9 (.string s) (.int .i64 (i : Int))).run Tryz.prog w = .ok (.int .u8 (b8 (at8 (tl s) i))) w := by
 have hi : i < s.data.toList.length := by simpa using h
 rw [run_index_string (P := Tryz.prog) w 9 s .i64 (i : Int) Tryz.underlying9, dif_pos ⟨by omega, by omega⟩]
 have e : s[(i : Int).toNat]'(by simpa using h) = at8 (tl s) i := by
  rw [at8, List.getD, List.getElem?_eq_getElem hi]
  rfl
 rw [e]; rfl
theorem bytes_one (w : World) (z : UInt8) (fr : Nat × Nat) : Bytes (w.alloc (.cells #[.int .u8 (b8 z)] 5 fr)) (.slice (some ⟨w.heap.size, 0, none⟩) 1 1) [z] (some ⟨w.heap.size, 0, none⟩) 1 w.heap.size 0 := by
 refine ⟨rfl, Nat.le_refl _, (fun h => by cases h), fun a ha j hj => ?_, by simp, fun _ => rfl⟩
 cases ha
 rw [add_at, Nat.zero_add, cell_of_row _ w.heap.size j _ 5 fr (heap_alloc_new w _)]
 have hj : j < 1 := hj
 rcases j with _ | j
 · rfl
 · omega
theorem append_byte (wr : World) (B : Nat) (v : Value) (xs : By) (h : Fresh B wr v xs) (hl : xs.length ≤ 100000) (hB : B ≤ wr.heap.size) (z : UInt8) :
 ∃ v' w', (Builtin.append_ #[79, 79] 79 #[v, .slice (some ⟨wr.heap.size, 0, none⟩) 1 1]).run Tryz.prog (wr.alloc (.cells #[.int .u8 (b8 z)] 5)) = .ok v' w' ∧ Fresh B w' v' (xs ++ [z]) ∧ Below B wr w' := by
 have hb : Below wr.heap.size wr (wr.alloc (.cells #[.int .u8 (b8 z)] 5)) := (Below.refl _ _).alloc (Nat.le_refl _) _
 obtain ⟨v', w', hr, hf, hg⟩ := fresh_app (fresh_kept h hb) (bytes_one wr z (0, 0)) (by simp; omega) (by simp; omega)
 refine ⟨v', w', hr, hf, ?_⟩
 have h2 : Below B wr (wr.alloc (.cells #[.int .u8 (b8 z)] 5)) := (Below.refl _ _).alloc hB _
 exact h2.grown hg (by simp; omega) (fun g hg => (World.ownsRow.lt h g hg).1)
end Go.Proofs.YtahkcemdbfjilaaGreatDoor
namespace Go.Proofs.YtahkcemdbfjilaaGreatDoor
open Go.RowKit
section
variable {w w' : World} {v : Value} {xs : List UInt8} {A : Option Addr} {cap bb off : Nat}
theorem Bytes.cells (h : Bytes w v xs A cap bb off) (j : Nat) (hj : j < xs.length) : w.cell? ⟨bb, off + j, none⟩ = some (V8 (at8 xs j)) := by
 have e := h.at_ _ (h.src (by omega)) j hj
 rwa [add_at] at e
end
end Go.Proofs.YtahkcemdbfjilaaGreatDoor
namespace Go.Proofs.YtahkcemdbfjilaaGreatDoor
open Go.RowKit
def szL (n : Nat) : Nat := if n ≤ 512 then 16 else if n ≤ 1024 then 32 else if n ≤ 2048 then 64 else 128
def sizeI (n : Int) : Nat := if n < 0 ∨ 4096 < n then 0 else szL n.toNat
def cntL (n : Nat) : Nat := (n + szL n - 1) / szL n
def cntI (n : Int) : Nat := if n < 0 ∨ 4096 < n then 0 else cntL n.toNat
theorem szL_cases (n : Nat) : szL n = 16 ∨ szL n = 32 ∨ szL n = 64 ∨ szL n = 128 := by
 unfold szL; split <;> (try split) <;> (try split) <;> simp
theorem szL_pos (n : Nat) : 0 < szL n := by have := szL_cases n; omega
theorem sizeI_nat (n : Nat) (h : n ≤ 4096) : sizeI (n : Int) = szL n := by unfold sizeI; rw [if_neg (by omega)]; rfl
theorem sizeI_no (n : Int) (h : n < 0 ∨ 4096 < n) : sizeI n = 0 := by unfold sizeI; rw [if_pos h]
theorem cntI_nat (n : Nat) (h : n ≤ 4096) : cntI (n : Int) = cntL n := by unfold cntI; rw [if_neg (by omega)]; rfl
theorem cntI_no (n : Int) (h : n < 0 ∨ 4096 < n) : cntI n = 0 := by unfold cntI; rw [if_pos h]
theorem szL_dbl {s m : Nat} (h : s * 32 < m) (hm : m ≤ 4096) (hc : s = 16 ∨ s = 32 ∨ s = 64 ∨ s = 128) : s * 2 ≤ szL m := by
 have h1 : szL m = if m ≤ 512 then 16 else if m ≤ 1024 then 32 else if m ≤ 2048 then 64 else 128 := rfl
 by_cases a : m ≤ 512
 · omega
 · by_cases b : m ≤ 1024
   · rw [if_neg a, if_pos b] at h1; omega
   · by_cases c : m ≤ 2048
     · rw [if_neg a, if_neg b, if_pos c] at h1; omega
     · rw [if_neg a, if_neg b, if_neg c] at h1; omega
theorem szL_end {s m : Nat} (h : ¬ s * 32 < m) (h2 : s ≤ szL m) (hc : s = 16 ∨ s = 32 ∨ s = 64 ∨ s = 128) : s = szL m := by
 have h1 : szL m = if m ≤ 512 then 16 else if m ≤ 1024 then 32 else if m ≤ 2048 then 64 else 128 := rfl
 by_cases a : m ≤ 512
 · rw [if_pos a] at h1; omega
 · by_cases b : m ≤ 1024
   · rw [if_neg a, if_pos b] at h1; omega
   · by_cases c : m ≤ 2048
     · rw [if_neg a, if_neg b, if_pos c] at h1; omega
     · rw [if_neg a, if_neg b, if_neg c] at h1; omega
theorem ret_i {a b : Int} (h : a = b) : Ending.returned (.int .i64 a) = .returned (.int .i64 b) := by rw [h]
set_option maxHeartbeats 400000 in
theorem size_any (n : Int) (w : World) : Calls Tryz.prog 101 #[.int .i64 n] w fun e w' => e = .returned (.int .i64 (sizeI n : Int)) ∧ w = w' := by
 by_cases h1 : n < 0
 · have HV : Hid ((sizeI n : Int) = 0) := by show _ = _; rw [sizeI_no n (.inl h1)]; rfl
   go_enter Tryz.func101, Tryz.ntmps101
   go_wp2
   go_ret
   exact ⟨ret_i HV.out.symm, rfl⟩
 · by_cases h2 : 4096 < n
   · have HV : Hid ((sizeI n : Int) = 0) := by show _ = _; rw [sizeI_no n (.inr h2)]; rfl
     go_enter Tryz.func101, Tryz.ntmps101
     go_wp2
     go_ret
     exact ⟨ret_i HV.out.symm, rfl⟩
   · obtain ⟨m, rfl⟩ := Int.eq_ofNat_of_zero_le (a := n) (by omega)
     have h3 : ¬ 4096 < m := by omega
     have HV : Hid ((sizeI (m : Int) : Int) = (szL m : Int)) := by show _ = _; rw [sizeI_nat m (by omega)]
     go_enter Tryz.func101, Tryz.ntmps101
     go_wp2
     go_loopw [3] (fun v wr => ∃ s : Nat, v = .int .i64 (s : Int) ∧ s ≤ 128 ∧ Hid (s ≤ szL m ∧ (s = 16 ∨ s = 32 ∨ s = 64 ∨ s = 128)) ∧ w = wr) (fun v _ => 200 - (intOf v).toNat)
     case atStart => exact ⟨16, rfl, by omega, (⟨by have := szL_cases m; omega, .inl rfl⟩ : 16 ≤ szL m ∧ (16 = 16 ∨ 16 = 32 ∨ 16 = 64 ∨ 16 = 128)), rfl⟩
     case round =>
      obtain ⟨s, rfl, hs, H, rfl⟩ := hrel
      have w1 : IntKind.i64.wrap ((s : Int) * 32) = (s : Int) * 32 := i64in _ (by omega) (by omega)
      have w2 : IntKind.i64.wrap ((s : Int) * 2) = (s : Int) * 2 := i64in _ (by omega) (by omega)
      by_cases hlt : (s : Int) * 32 < (m : Int)
      · go_wp2
        go_roundw
        case rel =>
         have := H.out
         have h5 : s * 2 ≤ szL m := szL_dbl (by omega) (by omega) this.2
         have h6 := szL_cases m
         exact ⟨s * 2, by rw [Int.natCast_mul]; rfl, by omega, (⟨h5, by omega⟩ : s * 2 ≤ szL m ∧ _), trivial⟩
        case measure => have := H.out; simp [intOf]; omega
      · have HE : Hid (s = szL m) := szL_end (by omega) H.out.1 H.out.2
        go_wp2
        go_ret
        exact ⟨ret_i (by rw [HV.out, HE.out]), rfl⟩
set_option maxHeartbeats 400000 in
theorem count_any (n : Int) (w : World) : Calls Tryz.prog 68 #[.int .i64 n] w fun e w' => e = .returned (.int .i64 (cntI n : Int)) ∧ w = w' := by
 by_cases h : n < 0 ∨ 4096 < n
 · have HV : Hid ((cntI n : Int) = 0) := by show _ = _; rw [cntI_no n h]; rfl
   have C := hid (size_any n)
   rw [sizeI_no n h] at C
   clear h
   go_enter Tryz.func68, Tryz.ntmps68
   go_wp2_with (go_at_call 101; refine (C.out _).mono ?_; rintro e1 w1 ⟨rfl, rfl⟩)
   go_ret
   exact ⟨ret_i HV.out.symm, rfl⟩
 · obtain ⟨m, rfl⟩ := Int.eq_ofNat_of_zero_le (a := n) (by omega)
   have C := hid (size_any (m : Int))
   rw [sizeI_nat m (by omega)] at C
   have hb := szL_cases m
   obtain ⟨s, HS⟩ : ∃ s, Hid (szL m = s) := ⟨_, rfl⟩
   rw [HS.out] at C hb
   have HV : Hid ((cntI (m : Int) : Int) = (((m + s - 1) / s : Nat) : Int)) := by show _ = _; rw [cntI_nat m (by omega), cntL, HS.out]
   have hs0 : ((s : Int) == 0) = false := by simp; omega
   have hs1 : ¬ (s : Int) = 0 := by omega
   have w1 : IntKind.i64.wrap ((m : Int) + (s : Int)) = (m : Int) + s := i64in _ (by omega) (by omega)
   have w2 : IntKind.i64.wrap ((m : Int) + (s : Int) - 1) = ((m + s - 1 : Nat) : Int) := by rw [i64in _ (by omega) (by omega)]; omega
   have w3 : wrap64 (((m + s - 1 : Nat) : Int) / (s : Int)) = (((m + s - 1) / s : Nat) : Int) := by
    rw [← Int.natCast_ediv]
    have := Nat.div_le_self (m + s - 1) s
    generalize (m + s - 1) / s = q at this ⊢
    simp only [wrap64]; omega
   clear hb h
   go_enter Tryz.func68, Tryz.ntmps68
   go_wp2_with (go_at_call 101; refine (C.out _).mono ?_; rintro e1 w1 ⟨rfl, rfl⟩)
   go_ret
   refine ⟨ret_i ?_, rfl⟩
   rw [HV.out]
   exact w3
end Go.Proofs.YtahkcemdbfjilaaGreatDoor
namespace Go.Proofs.YtahkcemdbfjilaaGreatDoor
open Go.RowKit
set_option maxHeartbeats 400000 in
theorem clone_any (v : Value) (xs : List UInt8) (A : Option Addr) (cap bb off : Nat) (hn : xs.length ≤ 100000) (w : World) (h : Bytes w v xs A cap bb off) :
 Calls Tryz.prog 118 #[v] w fun e w' => ∃ v', e = .returned v' ∧ Fresh w.heap.size w' v' xs ∧ Below w.heap.size w w' := by
 have e0 := h.form
 have q22 : ∀ (w : World) (a : Option Addr) (n c n' c' : Nat), (binOp .eql 79 (.slice a n c) (.slice none n' c')).run Tryz.prog w = .ok (.bool a.isNone) w := fun w a n c n' c' => Lib.run_eql_slice_nil w _ _ a n c n' c' Tryz.underlying79
 cases A with
 | none =>
  have hc := h.zero rfl
  have hl := h.le
  obtain rfl : xs = [] := List.eq_nil_of_length_eq_zero (by omega)
  rw [e0, hc]
  clear e0 h hn
  go_enter Tryz.func118, Tryz.ntmps118
  go_wp2
  go_ret
  exact ⟨_, rfl, World.ownsRow_nil _ _ _ _, Below.refl _ _⟩
 | some a =>
  rw [e0]
  have hb0 : Below w.heap.size w (w.alloc (.cells #[] 5)) := (Below.refl _ _).alloc (Nat.le_refl _) _
  have h0 : (w.alloc (.cells #[] 5)).ownsRow w.heap.size 5 1 (.slice (some ⟨w.heap.size, 0, none⟩) 0 0) 0 [] := World.ownsRow_made w #[] 0 (Nat.le_refl _) (by unfold maxLen; omega) rfl
  have h1 := h.kept hb0 (Nat.le_refl _)
  rw [e0] at h1
  obtain ⟨v', w', hr, ho, hg, _, _⟩ := append_bytes _ _ _ _ _ h0 h1 (by omega) (by simp)
  have HRR := hid hr
  have HO : Hid (Fresh w.heap.size w' v' xs) := by
   rw [Nat.zero_add, List.nil_append] at ho; exact ho
  have HB : Hid (Below w.heap.size w w') := hb0.grown hg (by simp) (fun k hk => by simp [Value.ownBlock] at hk; omega)
  clear hr ho hg hb0 h0 h1 h hn e0
  go_enter Tryz.func118, Tryz.ntmps118
  go_wp2_with (refine wpList_append_run rfl (.tmp 5) (.tmp 6) 79 79 rfl ⟨v', w', HRR.out, ?_⟩)
  go_ret
  exact ⟨_, rfl, HO.out, HB.out⟩
theorem conv_string (s : ByteArray) (w : World) : (convert 9 79 (.string s)).run Tryz.prog w = .ok (.slice (some ⟨w.heap.size, 0, none⟩) s.size (grownCap w s.size 0 5)) (Lib.bytesWorld w 5 s) :=
 Lib.run_convert_string_bytes w 9 79 5 s Tryz.underlying9 Tryz.underlying79 Tryz.underlying5
theorem conv_below (s : ByteArray) (w : World) : Below w.heap.size w (Lib.bytesWorld w 5 s) :=
 ⟨rfl, rfl, rfl, by rw [Lib.bytesWorld_size]; omega, fun j hj => Lib.bytesWorld_at_old w 5 s j hj⟩
theorem conv_bytes (s : ByteArray) (w : World) : Bytes (Lib.bytesWorld w 5 s) (.slice (some ⟨w.heap.size, 0, none⟩) s.size (grownCap w s.size 0 5)) (tl s) (some ⟨w.heap.size, 0, none⟩) (grownCap w s.size 0 5) w.heap.size 0 := by
 refine ⟨by rw [tl_length], by rw [tl_length]; exact grownCap_ge _ _ _ _, (fun h => by cases h), fun a ha j hj => ?_, by rw [Lib.bytesWorld_size]; omega, fun _ => rfl⟩
 cases ha
 rw [tl_length] at hj
 rw [add_at, Nat.zero_add, Lib.bytesWorld_cell w 5 s j hj]; rfl
theorem Bytes.mid {w : World} {v : Value} {xs : List UInt8} {A : Option Addr} {cap bb off : Nat} (h : Bytes w v xs A cap bb off) (m k : Nat) (hm : m + k ≤ xs.length) (h0 : 0 < k) :
 (∀ w : World, (Instr.slice 79 v (some (.int .i64 (m : Int))) (some (.int .i64 ((m + k : Nat) : Int))) none).run Tryz.prog w = .ok (.slice (some ⟨bb, off + m, none⟩) k (cap - m)) w) ∧
   Bytes w (.slice (some ⟨bb, off + m, none⟩) k (cap - m)) ((xs.drop m).take k) (some ⟨bb, off + m, none⟩) (cap - m) bb (off + m) := by
 have he : Tryz.prog.elem 79 = 5 := by kernel_rfl
 have hs : ∀ w, (sizeOf (Tryz.prog.elem 79)).run Tryz.prog w = .ok 1 w := by intro w; rw [he]; kernel_rfl
 have hle := h.le
 have hsrc := h.src (by omega)
 have hl : ((xs.drop m).take k).length = k := by rw [List.length_take, List.length_drop]; omega
 refine ⟨?_, ?_⟩
 · intro w
   rw [h.form, hsrc, run_slice_lh (P := Tryz.prog) w 79 (some ⟨bb, off, none⟩) xs.length cap (by kernel_rfl) .i64 .i64 (m : Int) ((m + k : Nat) : Int) (by omega) (by omega) (by omega), hs]
   simp only [Result.andThen, sliced, Int.toNat_natCast, Nat.mul_one]
   rw [if_neg (by omega), show m + k - m = k by omega]
   simp only [Option.map_some, add_at]
 · refine ⟨by rw [hl], by rw [hl]; omega, (fun e => by cases e), fun a ha j hj => ?_, h.blk, fun _ => rfl⟩
   cases ha
   rw [hl] at hj
   rw [add_at, Nat.add_assoc, h.cells (m + j) (by omega)]
   congr 2
   simp [at8, List.getD, List.getElem?_drop, hj]
def partL (xs : List UInt8) (k : Nat) : List UInt8 := (xs.drop (k * szL xs.length)).take (szL xs.length)
def partI (xs : List UInt8) (i : Int) : List UInt8 := if i < 0 ∨ (cntI xs.length : Int) ≤ i then [] else partL xs i.toNat
theorem cnt_lt {n k : Nat} (h : k < cntL n) : k * szL n < n := by
 unfold cntL at h
 have hp := szL_pos n
 have h1 : (k + 1) * szL n ≤ n + szL n - 1 := (Nat.le_div_iff_mul_le hp).1 h
 rw [Nat.add_mul] at h1
 omega
theorem cntL_le (n : Nat) (h : n ≤ 4096) : cntL n ≤ 32 := by
 unfold cntL
 have h1 : szL n = if n ≤ 512 then 16 else if n ≤ 1024 then 32 else if n ≤ 2048 then 64 else 128 := rfl
 by_cases a : n ≤ 512
 · rw [if_pos a] at h1; rw [h1]; omega
 · by_cases b : n ≤ 1024
   · rw [if_neg a, if_pos b] at h1; rw [h1]; omega
   · by_cases c : n ≤ 2048
     · rw [if_neg a, if_neg b, if_pos c] at h1; rw [h1]; omega
     · rw [if_neg a, if_neg b, if_neg c] at h1; rw [h1]; omega
set_option maxHeartbeats 4000000 in
theorem part_any (v : Value) (xs : List UInt8) (A : Option Addr) (cap bb off : Nat) (i : Int) (w : World) (h : Bytes w v xs A cap bb off) :
 Calls Tryz.prog 70 #[v, .int .i64 i] w fun e w' => ∃ v', e = .returned v' ∧ Fresh w.heap.size w' v' (partI xs i) ∧ Below w.heap.size w w' := by
 obtain ⟨n, HN⟩ : ∃ n, Hid (xs.length = n) := ⟨_, rfl⟩
 by_cases h1 : i < 0
 · have HV : Hid (partI xs i = []) := by show _ = _; rw [partI, if_pos (.inl h1)]
   have e0 := h.form
   rw [HN.out] at e0
   rw [e0]
   clear h e0
   go_enter Tryz.func70, Tryz.ntmps70
   go_wp2
   go_ret
   exact ⟨_, rfl, by rw [HV.out]; exact fresh_nil _ _, Below.refl _ _⟩
 · obtain ⟨k, rfl⟩ := Int.eq_ofNat_of_zero_le (a := i) (by omega)
   have C1 := hid (count_any (n : Int))
   obtain ⟨c, HC⟩ : ∃ c, Hid (cntI (n : Int) = c) := ⟨_, rfl⟩
   rw [HC.out] at C1
   by_cases h2 : (c : Int) ≤ (k : Int)
   · have HV : Hid (partI xs (k : Int) = []) := by show _ = _; rw [partI, if_pos (.inr (by rw [HN.out, HC.out]; exact h2))]
     have e0 := h.form
     rw [HN.out] at e0
     rw [e0]
     clear h e0
     go_enter Tryz.func70, Tryz.ntmps70
     go_wp2_with (go_at_call 68; refine (C1.out _).mono ?_; rintro e1 w1 ⟨rfl, rfl⟩)
     go_ret
     exact ⟨_, rfl, by rw [HV.out]; exact fresh_nil _ _, Below.refl _ _⟩
   · have hn : n ≤ 4096 := by
      rcases Nat.lt_or_ge 4096 n with hx | hx
      · have := HC.out; rw [cntI_no _ (.inr (by omega))] at this; omega
      · exact hx
     have hc : cntL n = c := by rw [← HC.out, cntI_nat n hn]
     have hk := cnt_lt (n := n) (k := k) (by omega)
     have hc32 := cntL_le n hn
     have hs := szL_cases n
     have C2 := hid (size_any (n : Int))
     rw [sizeI_nat n hn] at C2
     obtain ⟨s, HS⟩ : ∃ s, Hid (szL n = s) := ⟨_, rfl⟩
     rw [HS.out] at C2 hk hs
     obtain ⟨m, HM⟩ : ∃ m, Hid (k * s = m) := ⟨_, rfl⟩
     obtain ⟨q, HQ⟩ : ∃ q, Hid ((k + 1) * s = q) := ⟨_, rfl⟩
     have hq : q = m + s := by rw [← HQ.out, ← HM.out, Nat.add_mul]; omega
     rw [HM.out] at hk
     obtain ⟨p, HP⟩ : ∃ p, Hid (min s (n - m) = p) := ⟨_, rfl⟩
     have hp := HP.out
     have hw1 : IntKind.i64.wrap ((k : Int) * (s : Int)) = (m : Int) := by rw [← HM.out, Int.natCast_mul]; refine i64in _ ?_ ?_ <;> rw [← Int.natCast_mul, HM.out] <;> omega
     have hw2 : IntKind.i64.wrap ((k : Int) + 1) = (k : Int) + 1 := i64in _ (by omega) (by omega)
     have hw3 : IntKind.i64.wrap (((k : Int) + 1) * (s : Int)) = (q : Int) := by
      have e : ((k : Int) + 1) * (s : Int) = (q : Int) := by rw [← HQ.out, Int.natCast_mul]; rfl
      rw [e]; exact i64in _ (by omega) (by omega)
     have hsrc := h.src (by rw [HN.out]; omega)
     subst hsrc
     have hcm : ¬ cap = m := by have := h.le; rw [HN.out] at this; omega
     have hmn : (m : Int) ≤ (n : Int) := by omega
     have hncap : (n : Int) ≤ (cap : Int) := by have := h.le; rw [HN.out] at this; omega
     have hmp : m + p = min q n := by omega
     have HMID := (h.mid m p (by rw [HN.out]; omega) (by omega)).2
     have HVS : Hid ((xs.drop m).take p = partI xs (k : Int)) := by
      show _ = _
      rw [partI, if_neg (by rw [HN.out, HC.out]; omega), partL, HN.out, HS.out, Int.toNat_natCast, HM.out, ← HP.out]
      have hl : (xs.drop m).length = n - m := by rw [List.length_drop, HN.out]
      rw [Nat.min_comm, ← hl, ← List.take_take]
      exact List.take_of_length_le (by rw [List.length_take]; omega)
     have HL : (partI xs (k : Int)).length ≤ 100000 := by rw [← HVS.out, List.length_take]; omega
     rw [HVS.out] at HMID
     have e0 := h.form
     rw [HN.out] at e0
     rw [e0]
     have HCL := hid (clone_any _ _ _ _ _ _ HL _ HMID)
     have h3 : ¬ (k : Int) < 0 := h1
     have h4 : ¬ (c : Int) ≤ (k : Int) := h2
     rcases Nat.lt_or_ge n q with hqn | hqn
     · have hp2 : p = n - m := by omega
       have h5 : (n : Int) < (q : Int) := by omega
       have h6 : ¬ (q : Int) ≤ (n : Int) := by omega
       have h8 : min (q : Int) (n : Int) = (n : Int) := by omega
       rw [hp2] at HCL
       clear HVS HL h e0 HMID hk hc hc32 hs hq hp hn hmp hp2 HP
       go_enter Tryz.func70, Tryz.ntmps70
       go_wp2_with (first
        | (go_at_call 68; refine (C1.out _).mono ?_; rintro e1 w1 ⟨rfl, rfl⟩)
        | (go_at_call 101; refine (C2.out _).mono ?_; rintro e2 w2 ⟨rfl, rfl⟩)
        | (go_at_call 118; refine HCL.out.mono ?_; rintro e3 w3 ⟨v3, rfl, hf3, hb3⟩))
       go_ret
       exact ⟨_, rfl, hf3, hb3⟩
     · have hp2 : p = q - m := by omega
       have h5 : (q : Int) ≤ (n : Int) := by omega
       have h6 : (m : Int) ≤ (q : Int) := by omega
       have h7 : (q : Int) ≤ (cap : Int) := by omega
       have h8 : min (q : Int) (n : Int) = (q : Int) := by omega
       rw [hp2] at HCL
       clear HVS HL h e0 HMID hk hc hc32 hs hq hp hn hmp hp2 HP
       go_enter Tryz.func70, Tryz.ntmps70
       go_wp2_with (first
        | (go_at_call 68; refine (C1.out _).mono ?_; rintro e1 w1 ⟨rfl, rfl⟩)
        | (go_at_call 101; refine (C2.out _).mono ?_; rintro e2 w2 ⟨rfl, rfl⟩)
        | (go_at_call 118; refine HCL.out.mono ?_; rintro e3 w3 ⟨v3, rfl, hf3, hb3⟩))
       go_ret
       exact ⟨_, rfl, hf3, hb3⟩
end Go.Proofs.YtahkcemdbfjilaaGreatDoor
