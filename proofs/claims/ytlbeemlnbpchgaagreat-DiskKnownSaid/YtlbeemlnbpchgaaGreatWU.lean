/- Disk.Paths: the paths in their order. Conditions: as at the disk. -/
import Derived.Test.YtlbeemlnbpchgaaGreatWT
import Derived.Test.YtlbeemlnbpchgaaGreatShelf2
import Derived.Lib.OwnBridge
namespace Go.Proofs.YtlbeemlnbpchgaaGreat
open Go.RowKit Go.Maps Go.Lib Go.Sort
abbrev Sh := {x : By // x.length ≤ 4000}
instance : Inhabited Sh := ⟨⟨[], by simp⟩⟩
def encSh (x : Sh) : Value := kS x.1
def cfSh (x y : Sh) : Int := cmpL x.1 y.1
theorem lt_sh (x y : Sh) : ltOf cfSh x y = true ↔ cmpL x.1 y.1 = -1 := by
  unfold ltOf cfSh
  have := cmpL_vals x.1 y.1
  simp only [decide_eq_true_eq]; omega
theorem lt_sh_no (x y : Sh) : ltOf cfSh x y = false ↔ cmpL x.1 y.1 ≠ -1 := by
  rw [← Bool.not_eq_true, lt_sh]
theorem cmpL_le {a b : By} (h : cmpL b a ≠ -1) : cmpL a b = -1 ∨ a = b := by
  rcases cmpL_vals a b with k | k | k
  · exact .inl k
  · exact .inr ((cmpL_zero a b).1 k)
  · exact absurd (by rw [cmpL_neg a b, k]) h
theorem swo_sh : SWO (ltOf cfSh) where
  irrefl x := by rw [lt_sh_no, cmpL_self]; omega
  trans x y z h1 h2 := by rw [lt_sh] at *; exact cmpL_trans _ _ _ h1 h2
  ntrans x y z h1 h2 := by
    rw [lt_sh_no] at *
    intro h3
    rcases cmpL_le h1 with k | k
    · exact h2 (cmpL_trans _ _ _ k h3)
    · rw [← k] at h3; exact h2 h3
theorem one_sh : OneCell encSh := fun _ => rfl
theorem shift_sh {xs : List By} (h : ∀ x ∈ xs, x.length ≤ 4000) : ∃ zs : List Sh, zs.map (·.1) = xs := by
  induction xs with
  | nil => exact ⟨[], rfl⟩
  | cons x xs ih =>
    obtain ⟨zs, hz⟩ := ih fun y hy => h y (List.mem_cons_of_mem _ hy)
    exact ⟨⟨x, h x List.mem_cons_self⟩ :: zs, by rw [List.map_cons, hz]⟩
def keyT (xs : List By) : Tr := xs.map fun x => (x, n0)
theorem look_key (xs : List By) (p : By) : look (keyT xs) p = if p ∈ xs then some n0 else none := by
  induction xs with
  | nil => rfl
  | cons x xs ih =>
    show (if x = p then some n0 else look (keyT xs) p) = _
    rw [ih]
    by_cases h : x = p
    · simp [h]
    · have h' : ¬ p = x := fun e => h e.symm
      simp [h, h']
theorem keys_same {xs ys : List By} (hx : xs.Pairwise fun a b => cmpL a b = -1) (hy : ys.Pairwise fun a b => cmpL a b = -1) (h : ∀ p, p ∈ xs ↔ p ∈ ys) : xs = ys := by
  have s1 : Srt (keyT xs) := by unfold Srt keyT; rw [List.pairwise_map]; exact hx
  have s2 : Srt (keyT ys) := by unfold Srt keyT; rw [List.pairwise_map]; exact hy
  have := tree_ext s1 s2 fun p => by rw [look_key, look_key]; simp only [h p]
  have e := congrArg (List.map (·.1)) this
  simpa [keyT, List.map_map, Function.comp_def] using e
def pathsL (L : Tr) : List By := L.map (·.1)
theorem paths_srt {L : Tr} (h : Srt L) : (pathsL L).Pairwise fun a b => cmpL a b = -1 := by unfold pathsL; rw [List.pairwise_map]; exact h
theorem sorted_paths {L : Tr} (h : Srt L) (zs : List Sh) (hp : (zs.map (·.1)).Perm (pathsL L)) : (zs.mergeSort fun x y => !(ltOf cfSh) y x).map (·.1) = pathsL L := by
  have hperm := List.mergeSort_perm zs fun x y => !(ltOf cfSh) y x
  have hpw : (zs.mergeSort fun x y => !(ltOf cfSh) y x).Pairwise fun x y => (!(ltOf cfSh) y x) = true := by
    apply List.pairwise_mergeSort
    · intro a b c h1 h2
      simp only [Bool.not_eq_true'] at *
      exact swo_sh.ntrans _ _ _ h2 h1
    · intro a b
      simp only [Bool.or_eq_true, Bool.not_eq_true']
      rcases cmpL_vals b.1 a.1 with k | k | k
      · exact .inr ((lt_sh_no _ _).2 (by rw [cmpL_neg, k]; omega))
      · exact .inl ((lt_sh_no _ _).2 (by rw [k]; omega))
      · exact .inl ((lt_sh_no _ _).2 (by rw [k]; omega))
  have hnd : ((zs.mergeSort fun x y => !(ltOf cfSh) y x).map (·.1)).Nodup := by
    refine ((hperm.map _).trans hp).nodup_iff.2 ?_
    exact (paths_srt h).imp fun k => cmpL_ne k
  refine keys_same ?_ (paths_srt h) fun p => ((hperm.map _).trans hp).mem_iff
  have h2 : ((zs.mergeSort fun x y => !(ltOf cfSh) y x).map (·.1)).Pairwise fun a b => cmpL b a ≠ -1 := by
    rw [List.pairwise_map]
    exact hpw.imp fun {a b} k => (lt_sh_no b a).1 (by simpa using k)
  exact (h2.and hnd).imp fun {a b} k => (cmpL_le k.1).resolve_right k.2
/-- A slice of names: its cells. -/
structure Names (w : World) (A : Option Addr) (g : Nat) (xs : List By) : Prop where
  ad : 0 < xs.length → A = some ⟨g, 0, none⟩
  cell : ∀ i (h : i < xs.length), w.cell? ⟨g, i, none⟩ = some (kS xs[i])
  low : 0 < xs.length → g < w.heap.size
theorem Names.on {w w' : World} {A : Option Addr} {g : Nat} {xs : List By} (h : Names w A g xs) (hb : Below w.heap.size w w') : Names w' A g xs :=
  ⟨h.ad, fun i hi => (hb.cell (h.low (by omega))).trans (h.cell i hi), fun k => Nat.lt_of_lt_of_le (h.low k) hb.size⟩
def NamesP (w : World) (xs : List By) (e : Ending) (w' : World) : Prop := ∃ A c g, e = .returned (.slice A (xs.length : Nat) c) ∧ Names w' A g xs ∧ Below w.heap.size w w'
theorem names_of_row {w w0 : World} {e : TypeId} {v : Value} {xs : List By} (h : w.ownsRow w0.heap.size e 1 v xs.length (xs.map kS)) : ∃ A c g, v = .slice A (xs.length : Nat) c ∧ Names w A g xs := by
  rcases h.2 with ⟨k1, k2⟩ | ⟨g, c, cur, k1, k2, k3, k4, k5, k6, k7⟩
  · have : xs = [] := by simpa using k2
    subst this
    exact ⟨none, 0, 0, k1, fun k => absurd k (by simp), fun i hi => absurd hi (by simp), fun k => absurd k (by simp)⟩
  · refine ⟨_, c, g, k1, fun _ => rfl, fun i hi => ?_, fun _ => Has.inside k3⟩
    have e1 := congrArg (fun l => l[i]?) k7
    simp only [List.getElem?_take, Nat.mul_one, if_pos hi, Array.getElem?_toList, List.getElem?_map, List.getElem?_eq_getElem hi, Option.map_some] at e1
    exact (Has.at_ k3 i).trans e1
theorem below_sorted {α : Type} [Inhabited α] {enc : α → Value} {B : Nat} {w0 w : World} {g q : Nat} {d : Array α} {os : Array Obj} (h : Below B w0 w) (hg : B ≤ g) (hB : B ≤ w.heap.size) : Below B w0 (sortWorld enc w g 0 q d os) := by
  have := below_putRow (enc := enc) (q := q) (d := d) h hg
  refine this.trans ⟨rfl, rfl, rfl, ?_, fun k hk => ?_⟩
  · show _ ≤ ((putRow enc (Sort.ahead w q) g 0 d).heap ++ os).size
    simp
  · show ((putRow enc (Sort.ahead w q) g 0 d).heap ++ os)[k]? = _
    have := this.size
    rw [Array.getElem?_append_left]
    have e : (putRow enc (Sort.ahead w q) g 0 d).heap.size = w.heap.size := by simp [putRow, mapBlock, Sort.ahead]
    omega
/-- slices.SortFunc at a row of paths that the call made. -/
theorem sortPaths_any {L : Tr} (hs : Srt L) {w0 w : World} {v : Value} {xs : List By} (hb : Below w0.heap.size w0 w) (h : w.ownsRow w0.heap.size 9 1 v xs.length (xs.map kS)) (hp : xs.Perm (pathsL L)) (hl : ∀ x ∈ xs, x.length ≤ 4000) (hn : xs.length ≤ 100000) :
    Calls Tryz.prog 77 #[v, .func (.func 42) #[] #[]] w fun e w' => e = .returned (.tuple #[]) ∧ w'.ownsRow w0.heap.size 9 1 v (pathsL L).length ((pathsL L).map kS) ∧ Below w0.heap.size w0 w' := by
  obtain ⟨zs, hz⟩ := shift_sh hl
  have hlen : xs.length = (pathsL L).length := hp.length_eq
  have hzx : xs.map kS = zs.map encSh := by rw [← hz, List.map_map]; rfl
  by_cases hv : v = .slice none 0 0
  · subst hv
    have h0 : xs.length = 0 := by
      rcases h.2 with ⟨_, k2⟩ | ⟨g, c, cur, k1, _⟩
      · have : xs = [] := by simpa using k2
        rw [this]; rfl
      · cases k1
    have e0 : xs = [] := List.length_eq_zero_iff.1 h0
    have e1 : pathsL L = [] := List.length_eq_zero_iff.1 (by omega)
    refine (Tryz.slices_SortFunc_none (α := Sh) none 0 _ w).mono ?_
    rintro e w' ⟨rfl, rfl⟩
    rw [e1]; rw [e0] at h
    exact ⟨rfl, h, hb⟩
  · rw [hzx] at h
    obtain ⟨g, cap, rfl, g1, g2, g3, g4, g5, hH⟩ := holds_of_ownsRow h hv
    have hlz : zs.toArray.size = xs.length := by simp [g5]
    have := Tryz.slices_SortFunc_total encSh one_sh cfSh swo_sh 42 #[] g 0 cap zs.toArray w (enters_of Tryz.func42 (by kernel_rfl) rfl) (fun m os dk hdk x y => by
      have hx := x.2; have hy := y.2
      refine (cmp_any (ba x.1) (ba y.1) _ (by rw [ba_size]; omega) (by rw [ba_size]; omega)).mono ?_
      rintro e w' ⟨rfl, n, rfl⟩
      exact ⟨rfl, n, #[], (grow_empty _).symm⟩) hH g2 (by rw [hlz]; omega) (fun x y h1 h2 => by
        rw [lt_sh_no] at h1 h2
        rcases cmpL_le h2 with k | k
        · exact absurd k h1
        · exact Subtype.ext k)
    rw [hlz] at this
    refine this.mono ?_
    rintro e w' ⟨rfl, n, os, rfl⟩
    refine ⟨rfl, ?_, below_sorted hb g1 hb.size⟩
    have hsp := sorted_paths hs zs (by rw [hz]; exact hp)
    have hml : (zs.mergeSort fun x y => !(ltOf cfSh) y x).length = xs.length := by rw [List.length_mergeSort, g5]
    have hrow := ownsRow_putRow (enc := encSh) (q := n) (k := xs.length) (ys := zs.mergeSort fun x y => !(ltOf cfSh) y x) h hml (Nat.le_refl _)
    rw [List.take_of_length_le (Nat.le_of_eq hml), show List.map encSh (zs.mergeSort fun x y => !(ltOf cfSh) y x) = (pathsL L).map kS by rw [← hsp, List.map_map]; rfl, hlen] at hrow
    rw [hlen]
    refine row_of hrow fun g' hg' => ?_
    have eg : g = g' := by injection hg'
    subst eg
    show ((putRow encSh (Sort.ahead w n) g 0 _).heap ++ os)[g]? = _
    rw [Array.getElem?_append_left]
    have e : ∀ d : Array Sh, (putRow encSh (Sort.ahead w n) g 0 d).heap.size = w.heap.size := fun d => by simp [putRow, mapBlock, Sort.ahead]
    rw [e]; exact g2
theorem inner_nil (L : Tr) : innerL L [] = pathsL L := by
  have : kindP L [] = 2 := rfl
  rw [innerL, if_pos this, show beginL [] = [] from rfl]
  unfold restsL pathsL
  induction L with
  | nil => rfl
  | cons x L ih => simp
section
variable {own : Nat → Prop} {w : World} {p : Nat} {M : Mo}
set_option maxRecDepth 100000 in
set_option maxHeartbeats 4000000 in
theorem dPaths_any (h : Dsk own w p M) : Calls Tryz.prog 26 #[.pointer (some ⟨p, 0, none⟩)] w fun e w' => NamesP w (pathsL M.now) e w' := by
  obtain ⟨m1, m2, sv, vs, h⟩ := h
  have C1 := hid (dmade_any (m1 := m1) (h.has.at_ 0))
  have hW := h.good.w1
  have hmay : ∀ q, (look M.now q).isSome → q.length ≤ 4000 := fun q hq => by have := (may_parts (hW.may q hq)).1; omega
  have C2 : Hid (Calls Tryz.prog 75 #[.pointer (some ⟨p, 0, none⟩), kS []] w fun e w' => InPost w (pathsL M.now) e w') := by
    have := twithin_any h.tr1 hmay [] (by simp)
    rw [inner_nil] at this; exact this
  have HS := hid hW.srt
  have HN : Hid ((pathsL M.now).length ≤ 100000) := by
    show _ ≤ _
    unfold pathsL; rw [List.length_map]; exact h.tr1.len
  have HL : Hid (∀ x ∈ pathsL M.now, x.length ≤ 4000) := fun x hx => by
    unfold pathsL at hx
    obtain ⟨y, hy, rfl⟩ := List.mem_map.1 hx
    obtain ⟨q, n⟩ := y
    exact hmay q (by rw [mem_look hW.srt hy]; rfl)
  clear h hW hmay
  go_enter Tryz.func26, Tryz.ntmps26
  go_wp2_with fail
  refine C1.out.mono ?_; rintro e1 w1 ⟨rfl, rfl⟩
  go_wp2_with fail
  refine C2.out.mono ?_; rintro e2 w2 ⟨v, xs, rfl, hp, hrow, hb⟩
  have HP := hid hp; have HR := hid hrow; have HB := hid hb
  clear hp hrow hb
  go_wp2_with fail
  refine (sortPaths_any HS.out HB.out HR.out HP.out (fun x hx => HL.out x (HP.out.mem_iff.1 hx)) (by rw [HP.out.length_eq]; exact HN.out)).mono ?_; rintro e3 w3 ⟨rfl, hrow3, hb3⟩
  have HR3 := hid hrow3; have HB3 := hid hb3
  clear hrow3 hb3
  go_wp2
  go_ret
  obtain ⟨A, c, g, rfl, hn⟩ := names_of_row HR3.out
  exact ⟨A, c, g, rfl, hn, HB3.out⟩
end
end Go.Proofs.YtlbeemlnbpchgaaGreat
