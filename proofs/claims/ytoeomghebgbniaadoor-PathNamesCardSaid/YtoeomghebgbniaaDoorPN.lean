/- The document's last part, what stands ahead, names and paths (caravanref02). Conditions: at most 4000 bytes. -/
import Derived.Test.YtoeomghebgbniaaDoorPM
import Derived.Test.YtoeomghebgbniaaDoorPG
namespace Go.Proofs.YtoeomghebgbniaaDoor
open Go.RowKit
/-- The value is a slice over just these texts, its cells in one block. -/
structure Strs (w : World) (v : Value) (xs : List (List UInt8)) (g c : Nat) : Prop where
  form : v = .slice (some ⟨g, 0, none⟩) xs.length c
  at_ : ∀ i, i < xs.length → w.cell? ⟨g, i, none⟩ = some (S9 (xs.getD i []))
  blk : g < w.heap.size
theorem strs_of_own {w : World} {B : Nat} {v : Value} {xs : List (List UInt8)} (h : w.ownsRow B 9 1 v xs.length (xs.map S9)) (hne : xs ≠ []) : ∃ g c, Strs w v xs g c ∧ B ≤ g := by
  have hc := fun g hg => h.cells (g := g) hg
  have hlt := h.lt
  rcases h.2 with ⟨_, h2⟩ | ⟨g, c, cs, rfl, hle, _⟩
  · exact absurd (List.length_eq_zero_iff.1 h2) hne
  · refine ⟨g, c, ⟨rfl, fun i hi => ?_, (hlt g rfl).2⟩, hle⟩
    have := hc g rfl i (S9 (xs.getD i [])) (by rw [List.getElem?_map, List.getElem?_eq_getElem hi]; simp [List.getD, List.getElem?_eq_getElem hi])
    have e : (⟨g, 0, none⟩ : Addr).add i = ⟨g, i, none⟩ := by unfold Addr.add; split <;> simp_all
    rwa [e] at this
theorem Strs.kept {w w' : World} {B : Nat} {v : Value} {xs : List (List UInt8)} {g c : Nat} (h : Strs w v xs g c) (hb : Below B w w') (hB : w.heap.size ≤ B) : Strs w' v xs g c :=
  ⟨h.form, fun i hi => (hb.cell (p := ⟨g, i, none⟩) (Nat.lt_of_lt_of_le h.blk hB)).trans (h.at_ i hi), Nat.lt_of_lt_of_le h.blk hb.size⟩
theorem pieces_count (n : Nat) : ∀ l : List UInt8, l.length ≤ n → (pieces l).length ≤ l.length + 1 := by
  induction n with
  | zero => intro l h; obtain rfl := List.length_eq_zero_iff.1 (Nat.le_zero.1 h); simp [pieces]
  | succ n ih =>
    intro l h
    rw [pieces_cut]
    have h1 := cutS_len l
    split
    · rename_i hc
      have := h1.2.2 hc
      have := ih (cutS l).2.1 (by omega)
      simp only [List.length_cons]; omega
    · simp
theorem lastP_getD (l : List UInt8) : (pieces l).getD ((pieces l).length - 1) [] = lastP l := by
  have h := pieces_ne l
  have hl : 0 < (pieces l).length := List.length_pos_iff.2 h
  rw [lastP, List.getLast_eq_getElem, List.getD, List.getElem?_eq_getElem (by omega)]; rfl
set_option maxRecDepth 100000 in
set_option maxHeartbeats 400000 in
theorem rlast_any (s : ByteArray) (w : World) (hs : s.size ≤ 4000) :
    Calls Tryd.prog 20 #[.string s] w fun e w' => e = .returned (.string (ba (lastP (tl s)))) ∧ Below w.heap.size w w' := by
  have H := hid (rpieces_any s w hs)
  obtain ⟨n, HN⟩ : ∃ n, Hid ((pieces (tl s)).length = n + 1) := ⟨(pieces (tl s)).length - 1, by
    show _ = _; have := List.length_pos_iff.2 (pieces_ne (tl s)); omega⟩
  have hn : n ≤ 4000 := by have := pieces_count _ (tl s) (Nat.le_refl _); rw [HN.out, tl_length] at this; omega
  obtain ⟨r, HR⟩ : ∃ r, Hid (ba (lastP (tl s)) = r) := ⟨_, rfl⟩
  go_enter Tryd.func20, Tryd.ntmps20
  go_wp2_with fail
  refine H.out.mono ?_
  rintro e1 w1 ⟨v, rfl, ho, hb⟩
  obtain ⟨g, c, hs1, hg⟩ := strs_of_own ho (pieces_ne (tl s))
  have B1 := hid hb
  have hv := hs1.form
  have hc : w1.cell? ⟨g, n, none⟩ = some (.string r) := by
    have := hs1.at_ n (by rw [HN.out]; omega)
    rw [this, S9, ← HR.out, ← lastP_getD, HN.out]; rfl
  rw [HN.out] at hv
  have hcast : ((n + 1 : Nat) : Int) - 1 = (n : Int) := by omega
  clear ho hb hs1 hg
  subst hv
  go_wp2
  go_ret
  exact ⟨ret_str HR.out.symm, B1.out⟩
set_option maxRecDepth 100000 in
set_option maxHeartbeats 400000 in
theorem rahead_any (s : ByteArray) (w : World) (hs : s.size ≤ 4000) :
    Calls Tryd.prog 24 #[.string s] w fun e w' => e = .returned (.string (ba (aheadL (tl s)))) ∧ Below w.heap.size w w' := by
  obtain ⟨r, HR⟩ : ∃ r, Hid (ba (lastP (tl s)) = r) := ⟨_, rfl⟩
  have H : Hid (Calls Tryd.prog 20 #[.string s] w fun e w' => e = .returned (.string r) ∧ Below w.heap.size w w') := by rw [← HR.out]; exact rlast_any s w hs
  have hr : r.size ≤ s.size := by rw [← HR.out, ba_size]; have := pieces_len _ (tl s) (Nat.le_refl _) _ (lastP_mem (tl s)); rw [tl_length] at this; exact this
  have HA : Hid (aheadL (tl s) = (tl s).take (s.size - r.size - 1)) := by show _ = _; rw [aheadL, tl_length, ← HR.out, ba_size]
  by_cases h : (s.size : Int) - (r.size : Int) - 1 < 0
  · have HV : Hid (aheadL (tl s) = []) := by
      show _ = _; rw [HA.out, show s.size - r.size - 1 = 0 by omega]; rfl
    go_enter Tryd.func24, Tryd.ntmps24
    go_wp2_with (go_at_call 20; refine H.out.mono ?_; rintro e1 w1 ⟨rfl, hb⟩; have B1 := hid hb; clear hb)
    go_ret
    exact ⟨ret_str (by rw [HV.out]; rfl), B1.out⟩
  · obtain ⟨k, hk⟩ : ∃ k : Nat, (s.size : Int) - (r.size : Int) - 1 = (k : Int) := ⟨s.size - r.size - 1, by omega⟩
    have HV : Hid (aheadL (tl s) = (tl s).take k) := by
      show _ = _; rw [HA.out]; congr 1; omega
    have hks : (k : Int) ≤ (s.size : Int) := by omega
    clear h
    go_enter Tryd.func24, Tryd.ntmps24
    go_wp2_with (go_at_call 20; refine H.out.mono ?_; rintro e1 w1 ⟨rfl, hb⟩; have B1 := hid hb; clear hb)
    go_ret
    exact ⟨ret_str (by rw [HV.out, ba_take]), B1.out⟩
end Go.Proofs.YtoeomghebgbniaaDoor
