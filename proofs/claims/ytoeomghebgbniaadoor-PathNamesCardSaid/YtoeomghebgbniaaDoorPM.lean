/- The document's parts of a text (caravanref02.Pieces, last, ahead, Name, May). Conditions: at most 4000 bytes. -/
import Derived.Test.YtoeomghebgbniaaDoorPF
import Derived.Maps.AppendAt
import Derived.Laws.AppendOwn
namespace Go.Proofs.YtoeomghebgbniaaDoor
open Go.RowKit
theorem pieces_no (l : List UInt8) (h : ∀ c ∈ l, c ≠ 47) : pieces l = [l] := by
  induction l with
  | nil => rfl
  | cons c l ih => rw [pieces, if_neg (h c List.mem_cons_self), ih (fun d hd => h d (List.mem_cons_of_mem _ hd))]
theorem pieces_at (m : Nat) : ∀ l : List UInt8, m < l.length → (∀ c ∈ l.take m, c ≠ 47) → at8 l m = 47 → pieces l = l.take m :: pieces (l.drop (m + 1)) := by
  induction m with
  | zero =>
    intro l hm _ h47
    cases l with
    | nil => simp at hm
    | cons c l => simp [at8] at h47; rw [pieces, if_pos h47]; rfl
  | succ m ih =>
    intro l hm h h47
    cases l with
    | nil => simp at hm
    | cons c l =>
      have hc : c ≠ 47 := h c (by simp)
      rw [pieces, if_neg hc, ih l (by simpa using hm) (fun d hd => h d (by simp [hd])) (by simpa [at8] using h47)]
      rfl
def S9 (x : List UInt8) : Value := .string (ba x)
theorem infoStr : (Tryd.prog.info? 9).map (fun i => (i.zero, i.size, i.bytes)) = some (some (.string ⟨#[]⟩), 1, 16) := by kernel_rfl
theorem ba_mid (s : ByteArray) (f k : Nat) : s.extract f k = ba (((tl s).drop f).take (k - f)) := by
  apply ByteArray.ext; apply Array.ext'; simp [ba, tl]
theorem at8_drop (l : List UInt8) (f m : Nat) : at8 (l.drop f) m = at8 l (f + m) := by simp [at8, List.getD, List.getElem?_drop]
theorem take_more (l : List UInt8) (m : Nat) (hm : m < l.length) (h : ∀ c ∈ l.take m, c ≠ 47) (hx : at8 l m ≠ 47) : ∀ c ∈ l.take (m + 1), c ≠ 47 := by
  intro c hc
  rw [List.take_succ_eq_append_getElem hm] at hc
  rcases List.mem_append.1 hc with hc | hc
  · exact h c hc
  · have e : at8 l m = l[m] := by simp [at8, List.getD, List.getElem?_eq_getElem hm]
    simp only [List.mem_singleton] at hc
    rw [hc, ← e]; exact hx
/-- What stands when k bytes have been looked at, the last part having begun at f. -/
def PI (l : List UInt8) (D : List (List UInt8)) (f k : Nat) : Prop := f ≤ k ∧ D.length ≤ k ∧ pieces l = D ++ pieces (l.drop f) ∧ ∀ c ∈ (l.drop f).take (k - f), c ≠ 47
theorem PI.slash {l : List UInt8} {D : List (List UInt8)} {f k : Nat} (h : PI l D f k) (hk : k < l.length) (hx : at8 l k = 47) : PI l (D ++ [(l.drop f).take (k - f)]) (k + 1) (k + 1) := by
  obtain ⟨h1, h2, h3, h4⟩ := h
  refine ⟨Nat.le_refl _, by simp; omega, ?_, by simp⟩
  rw [h3, pieces_at (k - f) (l.drop f) (by rw [List.length_drop]; omega) h4 (by rw [at8_drop, ← hx]; congr 1; omega), List.drop_drop, List.append_assoc]
  rw [show f + (k - f + 1) = k + 1 by omega]; rfl
theorem PI.on {l : List UInt8} {D : List (List UInt8)} {f k : Nat} (h : PI l D f k) (hk : k < l.length) (hx : at8 l k ≠ 47) : PI l D f (k + 1) := by
  obtain ⟨h1, h2, h3, h4⟩ := h
  refine ⟨by omega, by omega, h3, ?_⟩
  rw [show k + 1 - f = (k - f) + 1 by omega]
  exact take_more _ _ (by rw [List.length_drop]; omega) h4 (by rw [at8_drop, show f + (k - f) = k by omega]; exact hx)
theorem PI.stop {l : List UInt8} {D : List (List UInt8)} {f k : Nat} (h : PI l D f k) (hk : k = l.length) : pieces l = D ++ [l.drop f] := by
  obtain ⟨h1, h2, h3, h4⟩ := h
  rw [h3, pieces_no]
  rw [List.take_of_length_le (by rw [List.length_drop]; omega)] at h4
  exact h4
theorem S9_one (b : ByteArray) : ∀ u ∈ [Value.string b], u.oneCell' = true := by
  intro u hu
  rw [List.mem_singleton] at hu
  subst hu; rfl
set_option maxRecDepth 100000 in
set_option maxHeartbeats 1000000 in
theorem rpieces_any (s : ByteArray) (w : World) (hs : s.size ≤ 4000) :
    Calls Tryd.prog 41 #[.string s] w fun e w' => ∃ v, e = .returned v ∧ w'.ownsRow w.heap.size 9 1 v (pieces (tl s)).length ((pieces (tl s)).map S9) ∧ Below w.heap.size w w' := by
  obtain ⟨i0, hi, hz0, hz1, hz2⟩ := info_parts infoStr
  have L1 : Hid ((tl s).length = s.size) := tl_length s
  go_enter Tryd.func41, Tryd.ntmps41
  go_wp2
  go_loopw [3, 4, 5] (fun v fv iv wr => ∃ (D : List (List UInt8)) (f k : Nat), fv = .int .i64 (f : Int) ∧ iv = .int .i64 (k : Int) ∧ f ≤ k ∧ k ≤ s.size ∧ D.length ≤ k ∧ Hid (PI (tl s) D f k) ∧ Hid (wr.ownsRow w.heap.size 9 1 v D.length (D.map S9)) ∧ Hid (Below w.heap.size w wr))
    (fun _ _ i _ => s.size - (intOf i).toNat)
  case atStart => exact ⟨[], 0, 0, rfl, rfl, by omega, by omega, by simp, ⟨by omega, by simp, rfl, by simp⟩, World.ownsRow_nil _ _ _ _, Below.refl _ _⟩
  case round =>
    obtain ⟨D, f, k, rfl, rfl, hf, hk, hD, HP, HO, HB⟩ := hrel
    have N2 : Hid (D.length + 1 ≤ maxLen) := by show _ ≤ _; unfold maxLen; omega
    have N3 : Hid ((D.length + 1) * 16 ≤ 140737488355328) := by show _ ≤ _; omega
    have N4 : Hid (∀ o, w.heap.size ≤ (wr.alloc o).heap.size) := by intro o; have := HB.out.size; simp; omega
    have hfk : (f : Int) ≤ (k : Int) := by omega
    by_cases hlt : k < s.size
    · have i1 := index_str s k hlt
      have HS := hid (fun hx : at8 (tl s) k = 47 => HP.out.slash (by rw [L1.out]; exact hlt) hx)
      have HN := hid (fun hx : at8 (tl s) k ≠ 47 => HP.out.on (by rw [L1.out]; exact hlt) hx)
      generalize at8 (tl s) k = x at i1 HS HN
      have b1 := b8_nonneg x
      have b2 := b8_lt x
      have hks : (k : Int) ≤ (s.size : Int) := by omega
      by_cases c : b8 x = 47
      · have t1 : (b8 x == 47) = true := by simp [c]
        have HS2 := hid (HS.out (b8_inj c))
        clear c HS HN
        go_wp2_with (at_builtin; refine wpList_append_own _ rfl _ _ 49 rfl w.heap.size 9 i0 (.string ⟨#[]⟩) 1 16 Tryd.underlying49 hi hz0 hz1 hz2 rfl (by omega) _ _ _ rfl (HO.out.alloc _) ⟨wr.heap.size, 0, none⟩ 1 1 [Value.string (s.extract f k)] rfl rfl (cell_one_new _ _ _) (S9_one _) N2.out N3.out (N4.out _) ?_; intro v' w1 hown' hgrow _)
        have HO2 : Hid (w1.ownsRow w.heap.size 9 1 v' (D ++ [((tl s).drop f).take (k - f)]).length ((D ++ [((tl s).drop f).take (k - f)]).map S9)) := by
          rw [List.map_append, List.length_append]
          rw [ba_mid] at hown'
          exact hown'
        have HB2 : Hid (Below w.heap.size w w1) :=
          ((HB.out.alloc HB.out.size _).grown hgrow (N4.out _) (fun g hg => by
            rcases HO.out.2 with ⟨rfl, _⟩ | ⟨g', _, _, rfl, hle, _⟩
            · cases hg
            · obtain rfl := Option.some.inj hg; exact hle))
        clear hown' hgrow
        go_wp2
        go_roundw
        case rel => exact ⟨_, k + 1, k + 1, by go_num, by go_num, by omega, by omega, by rw [List.length_append, List.length_singleton]; omega, HS2, HO2, HB2⟩
        case measure => simp [intOf]; omega
      · have t1 : (b8 x == 47) = false := by simp [c]
        have HN2 := hid (HN.out (fun e => c (by rw [e]; rfl)))
        clear c HS HN
        go_wp2
        go_roundw
        case rel => exact ⟨D, f, k + 1, by go_num, by go_num, by omega, by omega, by omega, HN2, HO, HB⟩
        case measure => simp [intOf]; omega
    · have hlt' : ¬ (k : Int) < (s.size : Int) := by omega
      have HV := hid (HP.out.stop (by rw [L1.out]; omega))
      have hfs : (f : Int) ≤ (s.size : Int) := by omega
      go_wp2_with (at_builtin; refine wpList_append_own _ rfl _ _ 49 rfl w.heap.size 9 i0 (.string ⟨#[]⟩) 1 16 Tryd.underlying49 hi hz0 hz1 hz2 rfl (by omega) _ _ _ rfl (HO.out.alloc _) ⟨wr.heap.size, 0, none⟩ 1 1 [Value.string (s.extract f s.size)] rfl rfl (cell_one_new _ _ _) (S9_one _) N2.out N3.out (N4.out _) ?_; intro v' w1 hown' hgrow _)
      have HO2 : Hid (w1.ownsRow w.heap.size 9 1 v' (pieces (tl s)).length ((pieces (tl s)).map S9)) := by
        rw [HV.out, List.map_append, List.length_append]
        rw [ba_drop] at hown'
        exact hown'
      have HB2 : Hid (Below w.heap.size w w1) :=
        ((HB.out.alloc HB.out.size _).grown hgrow (N4.out _) (fun g hg => by
          rcases HO.out.2 with ⟨rfl, _⟩ | ⟨g', _, _, rfl, hle, _⟩
          · cases hg
          · obtain rfl := Option.some.inj hg; exact hle))
      clear hown' hgrow
      go_wp2
      go_ret
      exact ⟨_, rfl, HO2.out, HB2.out⟩
end Go.Proofs.YtoeomghebgbniaaDoor
