/- Several texts in one: PG, PM, PN, PO. Conditions: those said at each. -/
import Derived.Test.YtpipkgkfhbagmaaGreatDoorPF
import Derived.Maps.AppendAt
import Derived.Laws.AppendOwn
/- A stand-in: the document's names and paths need no more here. No conditions. -/
namespace Go.Proofs.YtpipkgkfhbagmaaGreatDoor
open Go.RowKit
theorem ret_str {a b : ByteArray} (h : a = b) : Ending.returned (.string a) = .returned (.string b) := by rw [h]
end Go.Proofs.YtpipkgkfhbagmaaGreatDoor
/- The document's parts of a text (caravanref02.Pieces, last, ahead, Name, May). Conditions: at most 4000 bytes. -/
namespace Go.Proofs.YtpipkgkfhbagmaaGreatDoor
open Go.RowKit
theorem pieces_no (l : List UInt8) (h : ∀ c ∈ l, c ≠ 47) : pieces l = [l] := by
  induction l with
  | nil => rfl
  | cons c l ih => rw [pieces, if_neg (h c List.mem_cons_self), ih (fun d hd => h d (List.mem_cons_of_mem _ hd))]
theorem pieces_at (m : Nat) : ∀ l : List UInt8, m < l.length → (∀ c ∈ l.take m, c ≠ 47) → at8 l m = 47 → pieces l = l.take m :: pieces (l.drop (m + 1)) := by
  induction m with
  | zero =>
    intro l hm _ h47
    cases l with
    | nil => simp at hm
    | cons c l => simp [at8] at h47; rw [pieces, if_pos h47]; rfl
  | succ m ih =>
    intro l hm h h47
    cases l with
    | nil => simp at hm
    | cons c l =>
      have hc : c ≠ 47 := h c (by simp)
      rw [pieces, if_neg hc, ih l (by simpa using hm) (fun d hd => h d (by simp [hd])) (by simpa [at8] using h47)]
      rfl
def S9 (x : List UInt8) : Value := .string (ba x)
theorem infoStr : (Tryz.prog.info? 9).map (fun i => (i.zero, i.size, i.bytes)) = some (some (.string ⟨#[]⟩), 1, 16) := by kernel_rfl
theorem ba_mid (s : ByteArray) (f k : Nat) : s.extract f k = ba (((tl s).drop f).take (k - f)) := by
  apply ByteArray.ext; apply Array.ext'; simp [ba, tl]
theorem at8_drop (l : List UInt8) (f m : Nat) : at8 (l.drop f) m = at8 l (f + m) := by simp [at8, List.getD, List.getElem?_drop]
theorem take_more (l : List UInt8) (m : Nat) (hm : m < l.length) (h : ∀ c ∈ l.take m, c ≠ 47) (hx : at8 l m ≠ 47) : ∀ c ∈ l.take (m + 1), c ≠ 47 := by
  intro c hc
  rw [List.take_succ_eq_append_getElem hm] at hc
  rcases List.mem_append.1 hc with hc | hc
  · exact h c hc
  · have e : at8 l m = l[m] := by simp [at8, List.getD, List.getElem?_eq_getElem hm]
    simp only [List.mem_singleton] at hc
    rw [hc, ← e]; exact hx
/-- What stands when k bytes have been looked at, the last part having begun at f. -/
def PI (l : List UInt8) (D : List (List UInt8)) (f k : Nat) : Prop := f ≤ k ∧ D.length ≤ k ∧ pieces l = D ++ pieces (l.drop f) ∧ ∀ c ∈ (l.drop f).take (k - f), c ≠ 47
theorem PI.slash {l : List UInt8} {D : List (List UInt8)} {f k : Nat} (h : PI l D f k) (hk : k < l.length) (hx : at8 l k = 47) : PI l (D ++ [(l.drop f).take (k - f)]) (k + 1) (k + 1) := by
  obtain ⟨h1, h2, h3, h4⟩ := h
  refine ⟨Nat.le_refl _, by simp; omega, ?_, by simp⟩
  rw [h3, pieces_at (k - f) (l.drop f) (by rw [List.length_drop]; omega) h4 (by rw [at8_drop, ← hx]; congr 1; omega), List.drop_drop, List.append_assoc]
  rw [show f + (k - f + 1) = k + 1 by omega]; rfl
theorem PI.on {l : List UInt8} {D : List (List UInt8)} {f k : Nat} (h : PI l D f k) (hk : k < l.length) (hx : at8 l k ≠ 47) : PI l D f (k + 1) := by
  obtain ⟨h1, h2, h3, h4⟩ := h
  refine ⟨by omega, by omega, h3, ?_⟩
  rw [show k + 1 - f = (k - f) + 1 by omega]
  exact take_more _ _ (by rw [List.length_drop]; omega) h4 (by rw [at8_drop, show f + (k - f) = k by omega]; exact hx)
theorem PI.stop {l : List UInt8} {D : List (List UInt8)} {f k : Nat} (h : PI l D f k) (hk : k = l.length) : pieces l = D ++ [l.drop f] := by
  obtain ⟨h1, h2, h3, h4⟩ := h
  rw [h3, pieces_no]
  rw [List.take_of_length_le (by rw [List.length_drop]; omega)] at h4
  exact h4
theorem S9_one (b : ByteArray) : ∀ u ∈ [Value.string b], u.oneCell' = true := by
  intro u hu
  rw [List.mem_singleton] at hu
  subst hu; rfl
set_option maxRecDepth 100000 in
set_option maxHeartbeats 1000000 in
theorem rpieces_any (s : ByteArray) (w : World) (hs : s.size ≤ 4000) :
    Calls Tryz.prog 44 #[.string s] w fun e w' => ∃ v, e = .returned v ∧ w'.ownsRow w.heap.size 9 1 v (pieces (tl s)).length ((pieces (tl s)).map S9) ∧ Below w.heap.size w w' := by
  obtain ⟨i0, hi, hz0, hz1, hz2⟩ := info_parts infoStr
  have L1 : Hid ((tl s).length = s.size) := tl_length s
  go_enter Tryz.func44, Tryz.ntmps44
  go_wp2
  go_loopw [3, 4, 5] (fun v fv iv wr => ∃ (D : List (List UInt8)) (f k : Nat), fv = .int .i64 (f : Int) ∧ iv = .int .i64 (k : Int) ∧ f ≤ k ∧ k ≤ s.size ∧ D.length ≤ k ∧ Hid (PI (tl s) D f k) ∧ Hid (wr.ownsRow w.heap.size 9 1 v D.length (D.map S9)) ∧ Hid (Below w.heap.size w wr))
    (fun _ _ i _ => s.size - (intOf i).toNat)
  case atStart => exact ⟨[], 0, 0, rfl, rfl, by omega, by omega, by simp, ⟨by omega, by simp, rfl, by simp⟩, World.ownsRow_nil _ _ _ _, Below.refl _ _⟩
  case round =>
    obtain ⟨D, f, k, rfl, rfl, hf, hk, hD, HP, HO, HB⟩ := hrel
    have N2 : Hid (D.length + 1 ≤ maxLen) := by show _ ≤ _; unfold maxLen; omega
    have N3 : Hid ((D.length + 1) * 16 ≤ 140737488355328) := by show _ ≤ _; omega
    have N4 : Hid (∀ o, w.heap.size ≤ (wr.alloc o).heap.size) := by intro o; have := HB.out.size; simp; omega
    have hfk : (f : Int) ≤ (k : Int) := by omega
    by_cases hlt : k < s.size
    · have i1 := index_str s k hlt
      have HS := hid (fun hx : at8 (tl s) k = 47 => HP.out.slash (by rw [L1.out]; exact hlt) hx)
      have HN := hid (fun hx : at8 (tl s) k ≠ 47 => HP.out.on (by rw [L1.out]; exact hlt) hx)
      generalize at8 (tl s) k = x at i1 HS HN
      have b1 := b8_nonneg x
      have b2 := b8_lt x
      have hks : (k : Int) ≤ (s.size : Int) := by omega
      by_cases c : b8 x = 47
      · have t1 : (b8 x == 47) = true := by simp [c]
        have HS2 := hid (HS.out (b8_inj c))
        clear c HS HN
        go_wp2_with (at_builtin; refine wpList_append_own _ rfl _ _ 23 rfl w.heap.size 9 i0 (.string ⟨#[]⟩) 1 16 Tryz.underlying23 hi hz0 hz1 hz2 rfl (by omega) _ _ _ rfl (HO.out.alloc _) ⟨wr.heap.size, 0, none⟩ 1 1 [Value.string (s.extract f k)] rfl rfl (cell_one_new _ _ _) (S9_one _) N2.out N3.out (N4.out _) ?_; intro v' w1 hown' hgrow _)
        have HO2 : Hid (w1.ownsRow w.heap.size 9 1 v' (D ++ [((tl s).drop f).take (k - f)]).length ((D ++ [((tl s).drop f).take (k - f)]).map S9)) := by
          rw [List.map_append, List.length_append]
          rw [ba_mid] at hown'
          exact hown'
        have HB2 : Hid (Below w.heap.size w w1) :=
          ((HB.out.alloc HB.out.size _).grown hgrow (N4.out _) (fun g hg => by
            rcases HO.out.2 with ⟨rfl, _⟩ | ⟨g', _, _, rfl, hle, _⟩
            · cases hg
            · obtain rfl := Option.some.inj hg; exact hle))
        clear hown' hgrow
        go_wp2
        go_roundw
        case rel => exact ⟨_, k + 1, k + 1, by go_num, by go_num, by omega, by omega, by rw [List.length_append, List.length_singleton]; omega, HS2, HO2, HB2⟩
        case measure => simp [intOf]; omega
      · have t1 : (b8 x == 47) = false := by simp [c]
        have HN2 := hid (HN.out (fun e => c (by rw [e]; rfl)))
        clear c HS HN
        go_wp2
        go_roundw
        case rel => exact ⟨D, f, k + 1, by go_num, by go_num, by omega, by omega, by omega, HN2, HO, HB⟩
        case measure => simp [intOf]; omega
    · have hlt' : ¬ (k : Int) < (s.size : Int) := by omega
      have HV := hid (HP.out.stop (by rw [L1.out]; omega))
      have hfs : (f : Int) ≤ (s.size : Int) := by omega
      go_wp2_with (at_builtin; refine wpList_append_own _ rfl _ _ 23 rfl w.heap.size 9 i0 (.string ⟨#[]⟩) 1 16 Tryz.underlying23 hi hz0 hz1 hz2 rfl (by omega) _ _ _ rfl (HO.out.alloc _) ⟨wr.heap.size, 0, none⟩ 1 1 [Value.string (s.extract f s.size)] rfl rfl (cell_one_new _ _ _) (S9_one _) N2.out N3.out (N4.out _) ?_; intro v' w1 hown' hgrow _)
      have HO2 : Hid (w1.ownsRow w.heap.size 9 1 v' (pieces (tl s)).length ((pieces (tl s)).map S9)) := by
        rw [HV.out, List.map_append, List.length_append]
        rw [ba_drop] at hown'
        exact hown'
      have HB2 : Hid (Below w.heap.size w w1) :=
        ((HB.out.alloc HB.out.size _).grown hgrow (N4.out _) (fun g hg => by
          rcases HO.out.2 with ⟨rfl, _⟩ | ⟨g', _, _, rfl, hle, _⟩
          · cases hg
          · obtain rfl := Option.some.inj hg; exact hle))
      clear hown' hgrow
      go_wp2
      go_ret
      exact ⟨_, rfl, HO2.out, HB2.out⟩
end Go.Proofs.YtpipkgkfhbagmaaGreatDoor
/- The document's last part, what stands ahead, names and paths (caravanref02). Conditions: at most 4000 bytes. -/
namespace Go.Proofs.YtpipkgkfhbagmaaGreatDoor
open Go.RowKit
/-- The value is a slice over just these texts, its cells in one block. -/
structure Strs (w : World) (v : Value) (xs : List (List UInt8)) (g c : Nat) : Prop where
  form : v = .slice (some ⟨g, 0, none⟩) xs.length c
  at_ : ∀ i, i < xs.length → w.cell? ⟨g, i, none⟩ = some (S9 (xs.getD i []))
  blk : g < w.heap.size
theorem strs_of_own {w : World} {B : Nat} {v : Value} {xs : List (List UInt8)} (h : w.ownsRow B 9 1 v xs.length (xs.map S9)) (hne : xs ≠ []) : ∃ g c, Strs w v xs g c ∧ B ≤ g := by
  have hc := fun g hg => h.cells (g := g) hg
  have hlt := h.lt
  rcases h.2 with ⟨_, h2⟩ | ⟨g, c, cs, rfl, hle, _⟩
  · exact absurd (List.length_eq_zero_iff.1 h2) hne
  · refine ⟨g, c, ⟨rfl, fun i hi => ?_, (hlt g rfl).2⟩, hle⟩
    have := hc g rfl i (S9 (xs.getD i [])) (by rw [List.getElem?_map, List.getElem?_eq_getElem hi]; simp [List.getD, List.getElem?_eq_getElem hi])
    have e : (⟨g, 0, none⟩ : Addr).add i = ⟨g, i, none⟩ := by unfold Addr.add; split <;> simp_all
    rwa [e] at this
theorem Strs.kept {w w' : World} {B : Nat} {v : Value} {xs : List (List UInt8)} {g c : Nat} (h : Strs w v xs g c) (hb : Below B w w') (hB : w.heap.size ≤ B) : Strs w' v xs g c :=
  ⟨h.form, fun i hi => (hb.cell (p := ⟨g, i, none⟩) (Nat.lt_of_lt_of_le h.blk hB)).trans (h.at_ i hi), Nat.lt_of_lt_of_le h.blk hb.size⟩
theorem pieces_count (n : Nat) : ∀ l : List UInt8, l.length ≤ n → (pieces l).length ≤ l.length + 1 := by
  induction n with
  | zero => intro l h; obtain rfl := List.length_eq_zero_iff.1 (Nat.le_zero.1 h); simp [pieces]
  | succ n ih =>
    intro l h
    rw [pieces_cut]
    have h1 := cutS_len l
    split
    · rename_i hc
      have := h1.2.2 hc
      have := ih (cutS l).2.1 (by omega)
      simp only [List.length_cons]; omega
    · simp
theorem lastP_getD (l : List UInt8) : (pieces l).getD ((pieces l).length - 1) [] = lastP l := by
  have h := pieces_ne l
  have hl : 0 < (pieces l).length := List.length_pos_iff.2 h
  rw [lastP, List.getLast_eq_getElem, List.getD, List.getElem?_eq_getElem (by omega)]; rfl
set_option maxRecDepth 100000 in
set_option maxHeartbeats 400000 in
theorem rlast_any (s : ByteArray) (w : World) (hs : s.size ≤ 4000) :
    Calls Tryz.prog 65 #[.string s] w fun e w' => e = .returned (.string (ba (lastP (tl s)))) ∧ Below w.heap.size w w' := by
  have H := hid (rpieces_any s w hs)
  obtain ⟨n, HN⟩ : ∃ n, Hid ((pieces (tl s)).length = n + 1) := ⟨(pieces (tl s)).length - 1, by
    show _ = _; have := List.length_pos_iff.2 (pieces_ne (tl s)); omega⟩
  have hn : n ≤ 4000 := by have := pieces_count _ (tl s) (Nat.le_refl _); rw [HN.out, tl_length] at this; omega
  obtain ⟨r, HR⟩ : ∃ r, Hid (ba (lastP (tl s)) = r) := ⟨_, rfl⟩
  go_enter Tryz.func65, Tryz.ntmps65
  go_wp2_with fail
  refine H.out.mono ?_
  rintro e1 w1 ⟨v, rfl, ho, hb⟩
  obtain ⟨g, c, hs1, hg⟩ := strs_of_own ho (pieces_ne (tl s))
  have B1 := hid hb
  have hv := hs1.form
  have hc : w1.cell? ⟨g, n, none⟩ = some (.string r) := by
    have := hs1.at_ n (by rw [HN.out]; omega)
    rw [this, S9, ← HR.out, ← lastP_getD, HN.out]; rfl
  rw [HN.out] at hv
  have hcast : ((n + 1 : Nat) : Int) - 1 = (n : Int) := by omega
  clear ho hb hs1 hg
  subst hv
  go_wp2
  go_ret
  exact ⟨ret_str HR.out.symm, B1.out⟩
set_option maxRecDepth 100000 in
set_option maxHeartbeats 400000 in
theorem rahead_any (s : ByteArray) (w : World) (hs : s.size ≤ 4000) :
    Calls Tryz.prog 45 #[.string s] w fun e w' => e = .returned (.string (ba (aheadL (tl s)))) ∧ Below w.heap.size w w' := by
  obtain ⟨r, HR⟩ : ∃ r, Hid (ba (lastP (tl s)) = r) := ⟨_, rfl⟩
  have H : Hid (Calls Tryz.prog 65 #[.string s] w fun e w' => e = .returned (.string r) ∧ Below w.heap.size w w') := by rw [← HR.out]; exact rlast_any s w hs
  have hr : r.size ≤ s.size := by rw [← HR.out, ba_size]; have := pieces_len _ (tl s) (Nat.le_refl _) _ (lastP_mem (tl s)); rw [tl_length] at this; exact this
  have HA : Hid (aheadL (tl s) = (tl s).take (s.size - r.size - 1)) := by show _ = _; rw [aheadL, tl_length, ← HR.out, ba_size]
  by_cases h : (s.size : Int) - (r.size : Int) - 1 < 0
  · have HV : Hid (aheadL (tl s) = []) := by
      show _ = _; rw [HA.out, show s.size - r.size - 1 = 0 by omega]; rfl
    go_enter Tryz.func45, Tryz.ntmps45
    go_wp2_with (go_at_call 65; refine H.out.mono ?_; rintro e1 w1 ⟨rfl, hb⟩; have B1 := hid hb; clear hb)
    go_ret
    exact ⟨ret_str (by rw [HV.out]; rfl), B1.out⟩
  · obtain ⟨k, hk⟩ : ∃ k : Nat, (s.size : Int) - (r.size : Int) - 1 = (k : Int) := ⟨s.size - r.size - 1, by omega⟩
    have HV : Hid (aheadL (tl s) = (tl s).take k) := by
      show _ = _; rw [HA.out]; congr 1; omega
    have hks : (k : Int) ≤ (s.size : Int) := by omega
    clear h
    go_enter Tryz.func45, Tryz.ntmps45
    go_wp2_with (go_at_call 65; refine H.out.mono ?_; rintro e1 w1 ⟨rfl, hb⟩; have B1 := hid hb; clear hb)
    go_ret
    exact ⟨ret_str (by rw [HV.out, ba_take]), B1.out⟩
end Go.Proofs.YtpipkgkfhbagmaaGreatDoor
/- The document's names and paths (caravanref02.Name, May, Parent, Base, Within). Conditions: at most 4000 bytes. -/
namespace Go.Proofs.YtpipkgkfhbagmaaGreatDoor
open Go.RowKit
set_option maxRecDepth 100000 in
set_option maxHeartbeats 1000000 in
theorem rname_any (s : ByteArray) (w : World) (hs : s.size ≤ 140737488355328) :
    Calls Tryz.prog 46 #[.string s] w fun e w' => e = .returned (.bool (nameB (tl s))) ∧ w = w' := by
  have hc : Hid (s.toList = tl s) := toList_tl s
  have hz : Hid (s.size = (tl s).length) := (tl_length s).symm
  have hcase : (s.size = 0) ∨ (s.size ≠ 0 ∧ 48 < s.size) ∨ (s.size ≠ 0 ∧ s.size ≤ 48 ∧ s.toList = [46]) ∨ (s.size ≠ 0 ∧ s.size ≤ 48 ∧ s.toList ≠ [46] ∧ s.toList = [46, 46]) ∨ (s.size ≠ 0 ∧ s.size ≤ 48 ∧ s.toList ≠ [46] ∧ s.toList ≠ [46, 46]) := by
    by_cases h1 : s.size = 0
    · exact .inl h1
    · by_cases h2 : s.size ≤ 48
      · by_cases h3 : s.toList = [46]
        · exact .inr (.inr (.inl ⟨h1, h2, h3⟩))
        · by_cases h4 : s.toList = [46, 46]
          · exact .inr (.inr (.inr (.inl ⟨h1, h2, h3, h4⟩)))
          · exact .inr (.inr (.inr (.inr ⟨h1, h2, h3, h4⟩)))
      · exact .inr (.inl ⟨h1, by omega⟩)
  rcases hcase with h1 | ⟨h1, h2⟩ | ⟨h1, h2, h3⟩ | ⟨h1, h2, h3, h4⟩ | ⟨h1, h2, h3, h4⟩
  · have hn : Hid (nameB (tl s) = false) := by
      show _ = _
      have : tl s = [] := List.length_eq_zero_iff.1 (hz.out.symm.trans h1)
      rw [this]; rfl
    have g1 : ((s.size : Int) < 1) := by omega
    clear h1
    go_enter Tryz.func46, Tryz.ntmps46
    go_wp2
    go_ret
    exact ⟨ret_bool hn.out.symm, rfl⟩
  · have hn : Hid (nameB (tl s) = false) := by show _ = _; simp [nameB, headB, ← hz.out]; omega
    have g1 : ¬ ((s.size : Int) < 1) := by omega
    have g2 : (48 : Int) < (s.size : Int) := by omega
    clear h1 h2
    go_enter Tryz.func46, Tryz.ntmps46
    go_wp2
    go_ret
    exact ⟨ret_bool hn.out.symm, rfl⟩
  · have hn : Hid (nameB (tl s) = false) := by show _ = _; simp [nameB, headB, ← hc.out, h3]
    have g1 : ¬ ((s.size : Int) < 1) := by omega
    have g2 : ¬ (48 : Int) < (s.size : Int) := by omega
    have g3 : (s.toList == [46]) = true := by simp [h3]
    clear h1 h2 h3
    go_enter Tryz.func46, Tryz.ntmps46
    go_wp2
    go_ret
    exact ⟨ret_bool hn.out.symm, rfl⟩
  · have hn : Hid (nameB (tl s) = false) := by show _ = _; simp [nameB, headB, ← hc.out, h4]
    have g1 : ¬ ((s.size : Int) < 1) := by omega
    have g2 : ¬ (48 : Int) < (s.size : Int) := by omega
    have g3 : (s.toList == [46]) = false := by simp [h3]
    have g4 : (s.toList == [46, 46]) = true := by simp [h4]
    clear h1 h2 h3 h4
    go_enter Tryz.func46, Tryz.ntmps46
    go_wp2
    go_ret
    exact ⟨ret_bool hn.out.symm, rfl⟩
  · have hn : Hid (headB (tl s) = true) := by
      show _ = _
      have h0 : tl s ≠ [] := fun e => h1 (by rw [hz.out, e]; rfl)
      simp [headB, ← hc.out, h3, h4]; rw [hc.out, ← hz.out]; exact ⟨h0, h2⟩
    have g1 : ¬ ((s.size : Int) < 1) := by omega
    have g2 : ¬ (48 : Int) < (s.size : Int) := by omega
    have g3 : (s.toList == [46]) = false := by simp [h3]
    have g4 : (s.toList == [46, 46]) = false := by simp [h4]
    clear h1 h2 h3 h4
    go_enter Tryz.func46, Tryz.ntmps46
    go_wp2
    go_loopw [3] (fun i wr => ∃ k : Nat, k ≤ s.size ∧ i = .int .i64 (k : Int) ∧ Hid (((tl s).take k).all okB = true) ∧ w = wr)
      (fun i _ => s.size - (intOf i).toNat)
    case atStart => exact ⟨0, by omega, rfl, rfl, rfl⟩
    case round =>
      obtain ⟨k, hk, rfl, HA, rfl⟩ := hrel
      by_cases hlt : k < s.size
      · have i1 := index_str s k hlt
        have HY := hid (okB_at (tl s) k (by rw [tl_length]; exact hlt) HA.out)
        have HN := hid (okB_no (tl s) k (by rw [tl_length]; exact hlt))
        generalize at8 (tl s) k = x at i1 HY HN
        have b1 := b8_nonneg x
        have b2 := b8_lt x
        by_cases c1 : b8 x < 32
        · have HO : Hid (okB x = false) := by show _ = _; simp [okB, c1]
          have t1 : decide (b8 x < 32) = true := by simp [c1]
          clear c1
          go_wp2
          go_ret
          exact ⟨ret_bool (HN.out HO.out).symm, rfl⟩
        · have t1 : decide (b8 x < 32) = false := by simp [c1]
          by_cases c2 : b8 x = 127
          · have HO : Hid (okB x = false) := by show _ = _; simp [okB, c2]
            have t2 : (b8 x == 127) = true := by simp [c2]
            clear c1 c2
            go_wp2
            go_ret
            exact ⟨ret_bool (HN.out HO.out).symm, rfl⟩
          · have t2 : (b8 x == 127) = false := by simp [c2]
            by_cases c3 : b8 x = 47
            · have HO : Hid (okB x = false) := by show _ = _; simp [okB, c3]
              have t3 : (b8 x == 47) = true := by simp [c3]
              clear c1 c2 c3
              go_wp2
              go_ret
              exact ⟨ret_bool (HN.out HO.out).symm, rfl⟩
            · have t3 : (b8 x == 47) = false := by simp [c3]
              have HO : Hid (okB x = true) := by show _ = _; simp [okB, c1, c2, c3]
              clear c1 c2 c3
              go_wp2
              go_roundw
              case rel => exact ⟨k + 1, by omega, by go_num, HY.out HO.out, trivial⟩
              case measure => simp [intOf]; omega
      · have HK : Hid (k = s.size) := by show _ = _; omega
        go_wp2
        go_ret
        refine ⟨ret_bool ?_, rfl⟩
        have ha := HA.out
        rw [List.take_of_length_le (by rw [tl_length, HK.out]; exact Nat.le_refl _)] at ha
        simp [nameB, hn.out, ha]
theorem all_at {xs : List (List UInt8)} {k : Nat} (h : k < xs.length) (ha : (xs.take k).all nameB = true) (hk : nameB (xs.getD k []) = true) : (xs.take (k + 1)).all nameB = true := by
  rw [List.take_succ_eq_append_getElem h, List.all_append, ha]
  simp only [List.getD, List.getElem?_eq_getElem h, Option.getD_some] at hk
  simp [hk]
theorem all_no {xs : List (List UInt8)} {k : Nat} (h : k < xs.length) (hk : nameB (xs.getD k []) = false) : xs.all nameB = false := by
  simp only [List.getD, List.getElem?_eq_getElem h, Option.getD_some] at hk
  rw [List.all_eq_false]; exact ⟨_, List.getElem_mem h, by simp [hk]⟩
set_option maxRecDepth 100000 in
set_option maxHeartbeats 1000000 in
theorem rmay_any (s : ByteArray) (w : World) (hs : s.size ≤ 4000) :
    Calls Tryz.prog 25 #[.string s] w fun e w' => e = .returned (.bool (mayB (tl s))) ∧ Below w.heap.size w w' := by
  have H := hid (rpieces_any s w hs)
  obtain ⟨n, HN⟩ : ∃ n, Hid ((pieces (tl s)).length = n) := ⟨_, rfl⟩
  have hn : n ≤ 4001 := by have := pieces_count _ (tl s) (Nat.le_refl _); rw [HN.out, tl_length] at this; omega
  obtain ⟨a, HA⟩ : ∃ a, Hid (ba (aheadL (tl s)) = a) := ⟨_, rfl⟩
  have HC : Hid (∀ W, Calls Tryz.prog 45 #[.string s] W fun e w' => e = .returned (.string a) ∧ Below W.heap.size W w') := by intro W; rw [← HA.out]; exact rahead_any s W hs
  have HS : Hid ((aheadL (tl s)).length = a.size) := by show _ = _; rw [← HA.out, ba_size]
  have HL : Hid ((tl s).length = s.size) := tl_length s
  have HT : Hid (∀ i, i < n → ((pieces (tl s)).getD i []).length ≤ 4000) := by
    intro i hi
    have hm : (pieces (tl s)).getD i [] ∈ pieces (tl s) := by
      rw [← HN.out] at hi
      simp [List.getD, List.getElem?_eq_getElem hi]
    have := pieces_len _ (tl s) (Nat.le_refl _) _ hm
    rw [HL.out] at this; omega
  by_cases h1 : s.size ≤ 160
  · have g1 : ¬ (160 : Int) < (s.size : Int) := by omega
    by_cases h2 : a.size ≤ 111
    · have g2 : ¬ (111 : Int) < (a.size : Int) := by omega
      by_cases h3 : n ≤ 6
      · have g3 : ¬ (6 : Int) < (n : Int) := by omega
        have HV : Hid (mayB (tl s) = (pieces (tl s)).all nameB) := by
          show _ = _
          rw [mayB, goodB, HL.out, HS.out, HN.out, decide_eq_true h1, decide_eq_true h2, decide_eq_true h3]; simp
        clear h1 h2 h3
        go_enter Tryz.func25, Tryz.ntmps25
        go_wp2_with fail
        refine H.out.mono ?_
        rintro e1 w1 ⟨v, rfl, ho, hb⟩
        obtain ⟨g, c, hs1, hg⟩ := strs_of_own ho (pieces_ne (tl s))
        have B1 := hid hb
        have hv := hs1.form
        rw [HN.out] at hv
        have S1 := hid hs1
        clear ho hb hs1 hg
        subst hv
        go_wp2_with fail
        refine (HC.out _).mono ?_; rintro e2 w2 ⟨rfl, hb2⟩
        have S2 := hid (S1.out.kept hb2 (Nat.le_refl _))
        have B2 : Hid (Below w.heap.size w w2) := B1.out.trans (hb2.mono B1.out.size)
        clear hb2
        go_wp2
        go_loopw [4] (fun i wr => ∃ k : Nat, k ≤ n ∧ i = .int .i64 (k : Int) ∧ Hid (((pieces (tl s)).take k).all nameB = true) ∧ w2 = wr)
          (fun i _ => n - (intOf i).toNat)
        case atStart => exact ⟨0, by omega, rfl, rfl, rfl⟩
        case round =>
          obtain ⟨k, hk, rfl, HA2, rfl⟩ := hrel
          by_cases hlt : k < n
          · have hc : w2.cell? ⟨g, k, none⟩ = some (.string (ba ((pieces (tl s)).getD k []))) := S2.out.at_ k (by rw [HN.out]; exact hlt)
            have hx := HT.out k hlt
            have HY := hid (all_at (xs := pieces (tl s)) (k := k) (by rw [HN.out]; exact hlt) HA2.out)
            have HNo := hid (all_no (xs := pieces (tl s)) (k := k) (by rw [HN.out]; exact hlt))
            generalize (pieces (tl s)).getD k [] = x at hc hx HY HNo
            cases hb : nameB x with
            | true =>
              have HM : Hid (∀ W, Calls Tryz.prog 46 #[.string (ba x)] W fun e w' => e = .returned (.bool true) ∧ W = w') := by
                intro W; have := rname_any (ba x) W (by rw [ba_size]; omega); rw [tl_ba, hb] at this; exact this
              have HY2 := hid (HY.out hb)
              clear HY HNo hb hx
              go_wp2_with fail
              refine (HM.out _).mono ?_; rintro e3 w3 ⟨rfl, rfl⟩
              go_wp2
              go_roundw
              case rel => exact ⟨k + 1, by omega, by go_num, HY2.out, trivial⟩
              case measure => simp [intOf]; omega
            | false =>
              have HM : Hid (∀ W, Calls Tryz.prog 46 #[.string (ba x)] W fun e w' => e = .returned (.bool false) ∧ W = w') := by
                intro W; have := rname_any (ba x) W (by rw [ba_size]; omega); rw [tl_ba, hb] at this; exact this
              have HY2 := hid (HNo.out hb)
              clear HY HNo hb hx
              go_wp2_with fail
              refine (HM.out _).mono ?_; rintro e3 w3 ⟨rfl, rfl⟩
              go_wp2
              go_ret
              exact ⟨ret_bool (by rw [HV.out, HY2.out]), B2.out⟩
          · have HK : Hid (k = n) := by show _ = _; omega
            go_wp2
            go_ret
            refine ⟨ret_bool ?_, B2.out⟩
            have ha := HA2.out
            rw [List.take_of_length_le (by rw [HN.out, HK.out]; exact Nat.le_refl _)] at ha
            rw [HV.out, ha]
      · have g3 : (6 : Int) < (n : Int) := by omega
        have HV : Hid (mayB (tl s) = false) := by
          show _ = _
          rw [mayB, goodB, HN.out, decide_eq_false h3]; simp
        clear h1 h2 h3
        go_enter Tryz.func25, Tryz.ntmps25
        go_wp2_with fail
        refine H.out.mono ?_
        rintro e1 w1 ⟨v, rfl, ho, hb⟩
        obtain ⟨g, c, hs1, hg⟩ := strs_of_own ho (pieces_ne (tl s))
        have B1 := hid hb
        have hv := hs1.form
        rw [HN.out] at hv
        clear ho hb hs1 hg
        subst hv
        go_wp2_with fail
        refine (HC.out _).mono ?_; rintro e2 w2 ⟨rfl, hb2⟩
        have B2 : Hid (Below w.heap.size w w2) := B1.out.trans (hb2.mono B1.out.size)
        clear hb2
        go_wp2
        go_ret
        exact ⟨ret_bool HV.out.symm, B2.out⟩
    · have g2 : (111 : Int) < (a.size : Int) := by omega
      have HV : Hid (mayB (tl s) = false) := by
        show _ = _
        rw [mayB, HS.out, decide_eq_false h2]; simp
      clear h1 h2
      go_enter Tryz.func25, Tryz.ntmps25
      go_wp2_with fail
      refine H.out.mono ?_
      rintro e1 w1 ⟨v, rfl, ho, hb⟩
      obtain ⟨g, c, hs1, hg⟩ := strs_of_own ho (pieces_ne (tl s))
      have B1 := hid hb
      have hv := hs1.form
      rw [HN.out] at hv
      clear ho hb hs1 hg
      subst hv
      go_wp2_with fail
      refine (HC.out _).mono ?_; rintro e2 w2 ⟨rfl, hb2⟩
      have B2 : Hid (Below w.heap.size w w2) := B1.out.trans (hb2.mono B1.out.size)
      clear hb2
      go_wp2
      go_ret
      exact ⟨ret_bool HV.out.symm, B2.out⟩
  · have g1 : (160 : Int) < (s.size : Int) := by omega
    have HV : Hid (mayB (tl s) = false) := by
      show _ = _
      rw [mayB, HL.out, decide_eq_false h1]; simp
    clear h1
    go_enter Tryz.func25, Tryz.ntmps25
    go_wp2_with fail
    refine H.out.mono ?_
    rintro e1 w1 ⟨v, rfl, ho, hb⟩
    obtain ⟨g, c, hs1, hg⟩ := strs_of_own ho (pieces_ne (tl s))
    have B1 := hid hb
    have hv := hs1.form
    rw [HN.out] at hv
    clear ho hb hs1 hg
    subst hv
    go_wp2
    go_ret
    exact ⟨ret_bool HV.out.symm, B1.out⟩
end Go.Proofs.YtpipkgkfhbagmaaGreatDoor
