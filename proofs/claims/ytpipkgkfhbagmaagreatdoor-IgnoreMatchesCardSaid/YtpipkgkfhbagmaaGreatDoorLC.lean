/- ignore.placesOf: what the call does. Conditions: at most 1000 files, of names of at most 4000 bytes. -/
import Derived.Test.YtpipkgkfhbagmaaGreatDoorLB
namespace Go.Proofs.YtpipkgkfhbagmaaGreatDoor.Glob
open Go.RowKit Go.Maps
def fcells (fs : Fl) : List Value := fs.flatMap fun f => [.string (ba f.1), .string (ba f.2)]
theorem fcells_cons (f : By × By) (fs : Fl) : fcells (f :: fs) = [.string (ba f.1), .string (ba f.2)] ++ fcells fs := by simp [fcells]
theorem fcells_len (fs : Fl) : (fcells fs).length = fs.length * 2 := by
  induction fs with
  | nil => rfl
  | cons r rs ih => rw [fcells_cons, List.length_append, ih, List.length_cons]; simp; omega
theorem fcells_at (fs : Fl) (k : Nat) (h : k < fs.length) : (fcells fs)[k * 2]? = some (.string (ba fs[k].1)) ∧ (fcells fs)[k * 2 + 1]? = some (.string (ba fs[k].2)) := by
  induction fs generalizing k with
  | nil => simp at h
  | cons r rs ih =>
    rw [fcells_cons]
    cases k with
    | zero => simp
    | succ k =>
      simp only [List.length_cons] at h
      have := ih k (by omega)
      rw [show (k + 1) * 2 = k * 2 + 2 by omega, show k * 2 + 2 + 1 = (k * 2 + 1) + 2 by omega]
      simpa using this
/-- A value that is the files fs. -/
def FilesIs (w : World) (v : Value) (fs : Fl) : Prop := w.ownsRow 0 51 2 v fs.length (fcells fs)
theorem FilesIs.stays {w w' : World} {v : Value} {fs : Fl} (h : FilesIs w v fs) (hb : Below w.heap.size w w') : FilesIs w' v fs := own_below h hb
theorem FilesIs.form {w : World} {v : Value} {fs : Fl} (h : FilesIs w v fs) : ∃ A c, v = .slice A fs.length c := own_form h
theorem FilesIs.row {w : World} {v : Value} {fs : Fl} (h : FilesIs w v fs) (h0 : 0 < fs.length) : ∃ g c, v = .slice (some ⟨g, 0, none⟩) fs.length c ∧ g < w.heap.size ∧ ∀ k (hk : k < fs.length), w.cell? ⟨g, k * 2, none⟩ = some (.string (ba fs[k].1)) ∧ w.cell? ⟨g, k * 2 + 1, none⟩ = some (.string (ba fs[k].2)) := by
  obtain ⟨g, c, h1, _, h3, _, h5⟩ := own_cells h h0
  exact ⟨g, c, h1, h3, fun k hk => ⟨h5 _ _ (fcells_at fs k hk).1, h5 _ _ (fcells_at fs k hk).2⟩⟩
open Classical in
/-- Where the first file of each name stands. -/
noncomputable def plF : Fl → Nat → Value → Option Value
  | [], _, _ => none
  | f :: fs, i, y => if y = .string (ba f.1) then some (.int .i64 (i : Int)) else plF fs (i + 1) y
open Classical in
theorem plF_snoc (fs : Fl) (f : By × By) : ∀ i y, plF (fs ++ [f]) i y = match plF fs i y with | some v => some v | none => if y = .string (ba f.1) then some (.int .i64 ((i + fs.length : Nat) : Int)) else none := by
  induction fs with
  | nil => intro i y; simp [plF]
  | cons r rs ih =>
    intro i y
    rw [List.cons_append, plF, plF]
    by_cases h : y = .string (ba r.1)
    · rw [if_pos h, if_pos h]
    · rw [if_neg h, if_neg h, ih, List.length_cons, show i + 1 + rs.length = i + (rs.length + 1) by omega]
theorem ba_str {a b : By} : Value.string (ba a) = .string (ba b) ↔ a = b := ⟨fun h => ba_inj (by simpa using h), fun h => by rw [h]⟩
theorem plF_none {fs : Fl} {name : By} (h : findF fs name = none) : ∀ i, plF fs i (.string (ba name)) = none := by
  induction fs with
  | nil => intro i; rfl
  | cons r rs ih =>
    intro i
    unfold findF at h
    rw [List.find?_cons] at h
    cases hr : r.1 == name with
    | true => rw [hr] at h; cases h
    | false =>
      rw [hr] at h
      unfold plF
      rw [if_neg (fun e => by rw [ba_str] at e; simp [e] at hr)]
      exact ih h (i + 1)
theorem plF_some {fs : Fl} {name t : By} (h : findF fs name = some t) : ∀ i, ∃ k, ∃ hk : k < fs.length, plF fs i (.string (ba name)) = some (.int .i64 ((i + k : Nat) : Int)) ∧ fs[k].2 = t := by
  induction fs with
  | nil => intro i; cases h
  | cons r rs ih =>
    intro i
    unfold findF at h
    rw [List.find?_cons] at h
    cases hr : r.1 == name with
    | true =>
      rw [hr] at h
      simp only [Option.some.injEq] at h
      refine ⟨0, by simp, ?_, h⟩
      unfold plF
      rw [if_pos (by rw [ba_str]; exact (beq_iff_eq.1 hr).symm)]
      simp
    | false =>
      rw [hr] at h
      obtain ⟨k, hk, h1, h2⟩ := ih h (i + 1)
      refine ⟨k + 1, by simp; omega, ?_, by simpa using h2⟩
      unfold plF
      rw [if_neg (fun e => by rw [ba_str] at e; simp [e] at hr), h1, show i + 1 + k = i + (k + 1) by omega]
theorem zero_int (w : World) : (zeroValue 3).run Tryz.prog w = .ok (.int .i64 0) w := by kernel_rfl
open Classical in
theorem plF_skip {fs : Fl} {k : Nat} (hk : k < fs.length) {v : Value} (h : plF (fs.take k) 0 (.string (ba fs[k].1)) = some v) : plF (fs.take (k + 1)) 0 = plF (fs.take k) 0 := by
  funext y
  rw [List.take_succ_eq_append_getElem hk, plF_snoc]
  cases hy : plF (fs.take k) 0 y with
  | some u => rfl
  | none =>
    simp only
    rw [if_neg]
    intro e
    rw [e, h] at hy
    cases hy
open Classical in
theorem plF_put {fs : Fl} {k : Nat} (hk : k < fs.length) (h : plF (fs.take k) 0 (.string (ba fs[k].1)) = none) : (fun y => if y = Value.string (ba fs[k].1) then some (Value.int .i64 (k : Int)) else plF (fs.take k) 0 y) = plF (fs.take (k + 1)) 0 := by
  funext y
  rw [List.take_succ_eq_append_getElem hk, plF_snoc]
  by_cases e : y = .string (ba fs[k].1)
  · rw [if_pos e, e, h]
    simp only [if_true]
    rw [List.length_take, Nat.min_eq_left (by omega), Nat.zero_add]
  · rw [if_neg e]
    cases plF (fs.take k) 0 y with
    | some u => rfl
    | none => simp only; rw [if_neg e]
set_option maxRecDepth 100000 in
set_option maxHeartbeats 1000000 in
theorem places_any (v : Value) (fs : Fl) (w : World) (hf : FilesIs w v fs) (hn : fs.length ≤ 1000) (hl : ∀ k (hk : k < fs.length), fs[k].1.length ≤ 100000) :
    Calls Tryz.prog 10 #[v] w fun e w' => (∃ b c, e = .returned (.map (some b)) ∧ w.heap.size ≤ b ∧ MapZ w' (.int .i64 0) b c (plF fs 0)) ∧ Below w.heap.size w w' := by
  have hmm := @run_makeMap Tryz.prog
  have HF := hid hf
  have HL := hid hl
  have HN := hid hn
  obtain ⟨n, HNL⟩ : ∃ n, Hid (fs.length = n) := ⟨_, rfl⟩
  obtain ⟨A, cp, hv⟩ := hf.form
  rw [HNL.out] at hv hn
  subst hv
  obtain ⟨W1, hW1⟩ : ∃ W1, w.alloc (.map #[] 0) = W1 := ⟨_, rfl⟩
  have HM1 : Hid (MapZ W1 (.int .i64 0) w.heap.size 0 (plF (fs.take 0) 0)) := hW1 ▸ MapZ.made w _
  have HB1 : Hid (Below w.heap.size w W1) := hW1 ▸ (Below.refl _ _).alloc (Nat.le_refl _) _
  have HW : Hid (w.heap.size < W1.heap.size) := by show _ < _; rw [← hW1]; simp
  clear hf hl
  go_enter Tryz.func10, Tryz.ntmps10
  go_wp2
  go_loopw [11] (fun i wr => ∃ (k c : Nat), i = .int .i64 (k : Int) ∧ k ≤ n ∧ c ≤ k ∧ Hid (MapZ wr (.int .i64 0) w.heap.size c (plF (fs.take k) 0)) ∧ Hid (Below w.heap.size w wr))
    (fun i _ => n - (intOf i).toNat)
  case atStart => exact ⟨0, 0, rfl, by omega, Nat.le_refl _, HM1, HB1⟩
  case round =>
    obtain ⟨k, c, rfl, hk, hc, HM, HB⟩ := hrel
    by_cases hlt : k < n
    · have hlt2 : k < fs.length := by rw [HNL.out]; exact hlt
      obtain ⟨g, cp2, hve, hg, hcell⟩ := HF.out.row (by omega)
      rw [HNL.out] at hve
      simp only [Value.slice.injEq, true_and] at hve
      obtain ⟨rfl, rfl⟩ := hve
      have c0 := (HB.out.cell (p := ⟨g, k * 2, none⟩) hg).trans (hcell k hlt2).1
      have c1 := (HB.out.cell (p := ⟨g, k * 2 + 1, none⟩) hg).trans (hcell k hlt2).2
      have HK := hid (str_key fs[k].1 (by have := HL.out k hlt2; unfold maxLen; omega))
      obtain ⟨Wa, hWa⟩ : ∃ Wa, wr.alloc (.cells #[.string (ba fs[k].1), .string (ba fs[k].2)] 51) = Wa := ⟨_, rfl⟩
      have HBa : Hid (Below w.heap.size w Wa) := hWa ▸ HB.out.alloc HB.out.size _
      have HMa : Hid (MapZ Wa (.int .i64 0) w.heap.size c (plF (fs.take k) 0)) := hWa ▸ HM.out.kept ((Below.refl wr.heap.size wr).alloc (Nat.le_refl _) _ |>.block _ HM.out.inside)
      have hlook := HMa.out.lookOk Tryz.underlying36 (zero_int _) HK.out
      have a0 : Wa.cell? ⟨wr.heap.size, 0, none⟩ = some (.string (ba fs[k].1)) := hWa ▸ (Has.fresh wr 51 _).at_ 0
      cases hp : plF (fs.take k) 0 (.string (ba fs[k].1)) with
      | some u =>
        rw [hp] at hlook
        simp only [Option.getD_some, Option.isSome_some] at hlook
        have HS := hid (plF_skip hlt2 hp)
        generalize fs[k].1 = nm at c0 hlook a0 hWa
        generalize fs[k].2 = tx at c1 hWa
        clear hp hcell
        go_wp2
        exact ⟨⟨k + 1, c, by go_num, by omega, by omega, by rw [HS.out]; exact HMa, HBa⟩, by simp [intOf]; omega⟩
      | none =>
        obtain ⟨Wb, hst, hmb, hgb⟩ := HMa.out.store Tryz.underlying36 (by omega) (v := .int .i64 (k : Int)) HK.out
        rw [hp] at hlook
        simp only [Option.getD_none, Option.isSome_none] at hlook
        rw [plF_put hlt2 hp, hp] at hmb
        have HMb := hid hmb
        have HBb : Hid (Below w.heap.size w Wb) := grown_below hgb HBa.out (fun j hj => by simp at hj; omega) HBa.out.size
        generalize fs[k].1 = nm at c0 hlook a0 hWa hst
        generalize fs[k].2 = tx at c1 hWa
        clear hp hcell hmb hgb
        go_wp2
        exact ⟨⟨k + 1, c + 1, by go_num, by omega, by omega, HMb, HBb⟩, by simp [intOf]; omega⟩
    · have HK : Hid (k = fs.length) := by show _ = _; rw [HNL.out]; omega
      have HM2 : Hid (MapZ wr (.int .i64 0) w.heap.size c (plF fs 0)) := by have := HM.out; rw [HK.out, List.take_length] at this; exact this
      go_wp2
      go_ret
      exact ⟨⟨_, c, rfl, Nat.le_refl _, HM2.out⟩, HB.out⟩
end Go.Proofs.YtpipkgkfhbagmaaGreatDoor.Glob
