/- Files of patterns, plain: a file of the patterns' lines says the same. The law IgnoreAgain: its walk. Conditions: a world in shape. -/
import Derived.Test.YtpipkgkfhbagmaaDoorLO
import Derived.Test.YtpipkgkfhbagmaaDoorLS
namespace Go.Proofs.YtpipkgkfhbagmaaDoor.Glob
open Go.RowKit Go.Maps
theorem dropW_head {p : UInt8 → Bool} : ∀ {l r : By} {x : UInt8}, l.dropWhile p = x :: r → p x = false
  | [], r, x, h => by simp at h
  | c :: l, r, x, h => by
    rw [List.dropWhile_cons] at h
    split at h
    · exact dropW_head h
    · rename_i hc
      simp only [List.cons.injEq] at h
      rw [← h.1]; simpa using hc
theorem dropW_idem (p : UInt8 → Bool) (l : By) : (l.dropWhile p).dropWhile p = l.dropWhile p := by
  cases h : l.dropWhile p with
  | nil => rfl
  | cons x r => rw [List.dropWhile_cons_of_neg (by rw [dropW_head h]; decide)]
theorem dropW_snoc {p : UInt8 → Bool} {x : UInt8} (hx : p x = false) : ∀ u : By, ∃ v, (u ++ [x]).dropWhile p = v ++ [x]
  | [] => ⟨[], by simp [hx]⟩
  | c :: u => by
    rw [List.cons_append, List.dropWhile_cons]
    split
    · exact dropW_snoc hx u
    · exact ⟨c :: u, rfl⟩
theorem trimR_form (l : By) : trimR l = [] ∨ ∃ u x, trimR l = u ++ [x] ∧ blk x = false := by
  unfold trimR
  cases h : l.reverse.dropWhile blk with
  | nil => exact .inl rfl
  | cons x r => exact .inr ⟨r.reverse, x, by simp, dropW_head h⟩
theorem trimB_idem (s : By) : trimB (trimB s) = trimB s := by
  rcases trimR_form s with h | ⟨u, x, h, hx⟩
  · have : trimB s = [] := by unfold trimB; rw [h]; rfl
    rw [this]; rfl
  · obtain ⟨v, hv⟩ := dropW_snoc hx u
    have e : trimB s = v ++ [x] := by unfold trimB; rw [h, hv]
    have e2 : trimR (v ++ [x]) = v ++ [x] := by rw [trimR_snoc, if_neg (by rw [hx]; decide)]
    have e3 : (v ++ [x]).dropWhile blk = v ++ [x] := by rw [← hv, dropW_idem]
    rw [e]
    unfold trimB
    rw [e2, e3]
theorem trimB_mem {s : By} {x : UInt8} (h : x ∈ trimB s) : x ∈ s := by
  unfold trimB at h
  have h1 := (List.dropWhile_suffix blk).subset h
  unfold trimR at h1
  have h2 := (List.dropWhile_suffix blk).subset (List.mem_reverse.1 h1)
  exact List.mem_reverse.1 h2
theorem cutYtpipkgkfhbagmaaDoorno : ∀ l : By, (10 : UInt8) ∉ (cutN l).1
  | [] => by simp [cutN]
  | c :: l => by
    unfold cutN
    split
    · simp
    · rename_i hc
      simp only [List.mem_cons, not_or]
      exact ⟨fun e => hc e.symm, cutYtpipkgkfhbagmaaDoorno l⟩
theorem rowsYtpipkgkfhbagmaaDoorno (n : Nat) : ∀ l : By, l.length ≤ n → ∀ p ∈ rowsN l, (10 : UInt8) ∉ p := by
  induction n with
  | zero => intro l h p hp; obtain rfl := List.length_eq_zero_iff.1 (Nat.le_zero.1 h); simp [rowsN] at hp; simp [hp]
  | succ n ih =>
    intro l h p hp
    rw [rowsYtpipkgkfhbagmaaDoorcut] at hp
    have h1 := cutYtpipkgkfhbagmaaDoorlen l
    split at hp
    · rename_i hc
      rcases List.mem_cons.1 hp with rfl | hp
      · exact cutYtpipkgkfhbagmaaDoorno l
      · exact ih _ (by have := h1.2.2 hc; omega) p hp
    · simp only [List.mem_singleton] at hp; subst hp; exact cutYtpipkgkfhbagmaaDoorno l
/-- A line that is a pattern, as it stands. -/
def LineOk (s : By) : Prop := (10 : UInt8) ∉ s ∧ trimB s = s ∧ idle s = false ∧ pre incM s = false ∧ perr s = 0
theorem linesL_ok {t s : By} (h : s ∈ linesL t) : (10 : UInt8) ∉ s ∧ trimB s = s ∧ idle s = false := by
  unfold linesL at h
  obtain ⟨h1, h2⟩ := List.mem_filter.1 h
  obtain ⟨p, hp, rfl⟩ := List.mem_map.1 h1
  exact ⟨fun hm => rowsYtpipkgkfhbagmaaDoorno _ t (Nat.le_refl _) p hp (trimB_mem hm), trimB_idem p, by simpa using h2⟩
theorem stepL_ok {rd : By → List By → Except Int (List By)} (hr : ∀ y ps qs, rd y ps = .ok qs → (∀ s ∈ ps, LineOk s) → ∀ s ∈ qs, LineOk s) : ∀ (ls ps qs : List By), (∀ s ∈ ls, (10 : UInt8) ∉ s ∧ trimB s = s ∧ idle s = false) → stepL rd ls ps = .ok qs → (∀ s ∈ ps, LineOk s) → ∀ s ∈ qs, LineOk s
  | [], ps, qs, _, h, hp => by simp only [stepL, Except.ok.injEq] at h; rw [← h]; exact hp
  | s :: ls, ps, qs, hl, h, hp => by
    unfold stepL at h
    split at h
    · cases h1 : rd (s.drop 9) ps with
      | error e => rw [h1] at h; cases h
      | ok rs => rw [h1] at h; exact stepL_ok hr ls rs qs (fun t ht => hl t (by simp [ht])) h (hr _ _ _ h1 hp)
    · rename_i hi
      split at h
      · cases h
      · split at h
        · cases h
        · rename_i he
          refine stepL_ok hr ls (ps ++ [s]) qs (fun t ht => hl t (by simp [ht])) h (fun t ht => ?_)
          rcases List.mem_append.1 ht with ht | ht
          · exact hp t ht
          · obtain rfl := List.mem_singleton.1 ht
            obtain ⟨a, b, c⟩ := hl t (by simp)
            exact ⟨a, b, c, by simpa using hi, by simpa using he⟩
theorem readL_ok (fs : Fl) (k : Nat) : ∀ within name ps qs, readL fs k within name ps = .ok qs → (∀ s ∈ ps, LineOk s) → ∀ s ∈ qs, LineOk s := by
  induction k with
  | zero =>
    intro within name ps qs h
    unfold readL at h
    split at h
    · cases h
    · split at h <;> cases h
  | succ k ih =>
    intro within name ps qs h hp
    unfold readL at h
    split at h
    · cases h
    · split at h
      · cases h
      · exact stepL_ok (fun y ps qs => ih _ y ps qs) _ _ _ (fun s hs => linesL_ok hs) h hp
theorem rowsYtpipkgkfhbagmaaDoorapp : ∀ (s r : By), (10 : UInt8) ∉ s → rowsN (s ++ 10 :: r) = s :: rowsN r
  | [], r, _ => by simp [rowsN]
  | c :: s, r, h => by
    simp only [List.mem_cons, not_or] at h
    rw [List.cons_append, rowsN, if_neg (fun e => h.1 e.symm), rowsYtpipkgkfhbagmaaDoorapp s r h.2]
theorem rowsYtpipkgkfhbagmaaDoorjoin : ∀ qs : List By, (∀ s ∈ qs, (10 : UInt8) ∉ s) → rowsN (joinL qs) = qs ++ [[]]
  | [], _ => rfl
  | s :: qs, h => by
    have e : joinL (s :: qs) = s ++ 10 :: joinL qs := by simp [joinL]
    rw [e, rowsYtpipkgkfhbagmaaDoorapp _ _ (h s (by simp)), rowsYtpipkgkfhbagmaaDoorjoin qs (fun t ht => h t (by simp [ht]))]; rfl
theorem linesL_join {qs : List By} (h : ∀ s ∈ qs, LineOk s) : linesL (joinL qs) = qs := by
  unfold linesL
  rw [rowsYtpipkgkfhbagmaaDoorjoin qs (fun s hs => (h s hs).1), List.map_append, List.filter_append]
  have e1 : qs.map trimB = qs := by
    conv => rhs; rw [← List.map_id qs]
    exact List.map_congr_left (fun s hs => (h s hs).2.1)
  have e2 : qs.filter (fun s => !idle s) = qs := List.filter_eq_self.2 (fun s hs => by rw [(h s hs).2.2.1]; rfl)
  rw [e1, e2]
  have e3 : List.filter (fun s => !idle s) (List.map trimB [[]]) = [] := by decide
  rw [e3, List.append_nil]
theorem readL_join {qs : List By} (h : ∀ s ∈ qs, LineOk s) (hn : qs.length ≤ 64) (n : By) : readL [(n, joinL qs)] 4 [] n [] = .ok qs := by
  unfold readL
  rw [show findF [(n, joinL qs)] n = some (joinL qs) by simp [findF]]
  simp only
  rw [if_neg (by simp), linesL_join h, stepL_lone (fun s hs => ⟨(h s hs).2.2.2.1, (h s hs).2.2.2.2⟩) [] (by simp)]
  unfold addL
  rw [if_pos (by simpa using hn)]; simp
theorem perr_len {s : By} (h : perr s = 0) : s.length ≤ 128 := by
  unfold perr at h
  by_cases hl : 128 < s.length
  · rw [if_pos hl] at h; cases h
  · omega
theorem mat_may {qs : List By} {p : By} (h : (matL qs p).1 = true) : mayB p = true := by
  unfold matL at h
  split at h
  · assumption
  · cases h
theorem mat_del {qs : List By} {p : By} (h : (matL qs p).1 = false) : (matL qs p).2 = false := by
  unfold matL at h ⊢
  split
  · rename_i hm
    rw [if_pos hm] at h
    cases hh : hitL p qs with
    | none => rfl
    | some s =>
      rw [hh] at h
      simp only at h ⊢
      split
      · rfl
      · rename_i hn; rw [if_neg hn] at h; cases h
  · rfl
set_option maxRecDepth 100000 in
set_option maxHeartbeats 8000000 in
theorem iagain_any (v0 : Value) (fs : Fl) (name : By) (v2 : Value) (xs : List By) (w : World) (hG : Gd w) (hf : FilesIn w v0 fs) (hn : name.length ≤ 1000000000000000) (hx : NamesIn w v2 xs) :
    Calls Tryd.prog 4 #[v0, .string (ba name), v2] w fun e w' => e = .returned (.bool true) ∧ Below w.heap.size w w' := by
  have HG := hid hG
  obtain ⟨A0, n0, cp0, bb0, off0, rfl, hfa, hn0⟩ := hf
  obtain ⟨A2, n2, cp2, bb2, off2, rfl, hxa, hn2⟩ := hx
  have HFW := hid (few_any A0 n0 cp0 bb0 off0 fs w hfa hn0)
  have HXA := hid hxa
  have hn2' : n2 ≤ 9223372036854775807 := by unfold maxLen at hn2; omega
  have HPA := hid (fun W v (hb : Below w.heap.size w W) (h : FilesIs W v (fewL fs)) => iparse_any (fewL fs) name v W (hG.kept hb) h (by have := fewL_len fs; omega) (fewL_name fs) (fewL_text fs) hn)
  have HWK := hid (fun W (h : Below w.heap.size w W) => works_any W (hG.kept h))
  have HP1 := hid (fun W t (h : Below w.heap.size w W) (ht : t.length ≤ 100000) => parse_one [111, 110, 101] t [111, 110, 101] W (hG.kept h) (by decide) ht (by decide))
  clear hG hfa hxa hn0 hn2 hn
  go_enter Tryd.func4, Tryd.ntmps4
  go_wp2_with (fail)
  refine HFW.out.mono ?_
  rintro e1 w1 ⟨⟨vf, rfl, hvf⟩, hb1⟩
  have HB1 := hid hb1
  have HCP := hid (HPA.out w1 vf hb1 hvf)
  obtain ⟨Af, cf, hvfe⟩ := hvf.form
  obtain ⟨nf, hnf⟩ : ∃ nf, (fewL fs).length = nf := ⟨_, rfl⟩
  rw [hnf] at hvfe
  subst hvfe
  clear hb1 hvf hnf
  go_wp2_with (fail)
  refine HCP.out.mono ?_
  rintro e2 w2 ⟨h2, hb2⟩
  have HB2 : Hid (Below w.heap.size w w2) := HB1.out.thenG hb2
  have HW2 := hid (HWK.out w2 HB2.out)
  unfold ParseOut at h2
  cases gr : readL (fewL fs) 4 [] name [] with
  | error c =>
    rw [gr] at h2
    obtain ⟨rfl, hc⟩ := h2
    have hcz : (c == 0) = false := by simp [hc]
    have hcn : (c != 0) = true := by simp [hc]
    clear hc gr hb2
    go_wp2_with (go_at_call 12; refine HW2.out.mono ?_; rintro e4 w4 ⟨rfl, hb4⟩)
    go_ret
    exact ⟨rfl, HB2.out.thenG hb4⟩
  | ok qs =>
    rw [gr] at h2
    obtain ⟨L, rfl, _, hL, hlen⟩ := h2
    have HL := hid hL
    have HLEN := hid hlen
    have HOK := hid (readL_ok _ _ _ _ _ _ gr (fun s hs => nomatch hs))
    have HLI := hid (ilines_any w1.heap.size L qs w2 hL hlen)
    unfold ptrV at HLI
    unfold ptrV
    clear gr hL hlen hb2
    go_wp2_with (fail)
    refine HLI.out.mono ?_
    rintro e3 w3 ⟨⟨vl, rfl, hvl⟩, hb3⟩
    have HB3 : Hid (Below w.heap.size w w3) := HB2.out.thenG hb3
    have HB23 := hid hb3
    have HJ := hid (joined_any w2.heap.size vl qs w3 hvl HLEN.out (fun s hs => by have := perr_len (HOK.out s hs).2.2.2.2; omega))
    have hjl : (joinL qs).length ≤ 100000 := by
      have h1 := joinL_len (ps := qs) (m := 128) (fun s hs => perr_len (HOK.out s hs).2.2.2.2)
      have h2 : qs.length * (128 + 1) ≤ 64 * 129 := Nat.mul_le_mul_right _ HLEN.out
      omega
    have HP3 := hid (HP1.out w3 (joinL qs) HB3.out hjl)
    obtain ⟨Al, cl, hvle⟩ := own_form hvl
    obtain ⟨nq, hnq⟩ : ∃ nq, qs.length = nq := ⟨_, rfl⟩
    rw [hnq] at hvle
    subst hvle
    have n3 : (⟨#[111, 110, 101]⟩ : ByteArray) = ba [111, 110, 101] := rfl
    clear hb3 hvl hjl
    go_wp2_with (go_at_call 16; refine HJ.out.mono ?_; rintro e4 w4 ⟨rfl, rfl⟩)
    refine HP3.out.mono ?_
    rintro e5 w5 ⟨h5, hb5⟩
    unfold ParseOut at h5
    rw [readL_join HOK.out HLEN.out] at h5
    obtain ⟨M, rfl, _, hM, _⟩ := h5
    have HB5 : Hid (Below w.heap.size w w5) := HB3.out.thenG hb5
    have HM := hid hM
    have HL5 := hid (HL.out.below (HB23.out.thenG hb5))
    have HN1 := hid (len_any _ M qs w5 hM)
    have HN2 := hid (len_any _ L qs w5 HL5.out)
    rw [hnq] at HN1 HN2
    have hqq : ((nq : Int) == (nq : Int)) = true := by simp
    have hqn : ((nq : Int) != (nq : Int)) = false := by simp
    have HM1 := hid (fun W p (h : Below w5.heap.size w5 W) (hp : p.length ≤ 4000) => imatch_any _ L qs p W (HG.out.kept (HB5.out.thenG h)) (HL5.out.below h) HLEN.out hp)
    have HM2 := hid (fun W p (h : Below w5.heap.size w5 W) (hp : p.length ≤ 4000) => imatch_any _ M qs p W (HG.out.kept (HB5.out.thenG h)) (HM.out.below h) HLEN.out hp)
    have HMAY := hid (fun W p (h : Below w5.heap.size w5 W) (hp : p.length ≤ 4000) => may_any (ba p) W (HG.out.kept (HB5.out.thenG h)) (by rw [ba_size]; exact hp))
    have HX5 := hid (HXA.out.stays HB5.out)
    unfold ptrV at HN1 HN2 HM1 HM2
    unfold ptrV
    clear hb5 hM hnq
    go_wp2_with (fail)
    refine HN1.out.mono ?_
    rintro e6 w6 ⟨rfl, rfl⟩
    go_wp2_with (fail)
    refine HN2.out.mono ?_
    rintro e7 w7 ⟨rfl, rfl⟩
    go_wp2
    go_loopw [11] (fun i wr => ∃ k : Nat, i = .int .i64 (k : Int) ∧ k ≤ 10 ∧ k ≤ n2 ∧ Hid (Below w5.heap.size w5 wr))
      (fun i _ => 10 - (intOf i).toNat)
    case atStart => exact ⟨0, rfl, by omega, Nat.zero_le _, Below.refl _ _⟩
    case round =>
      obtain ⟨k, rfl, hk10, hkn, HB⟩ := hrel
      by_cases hlt : k < n2
      · by_cases h10 : k < 10
        · have hlt2 : k < xs.length := by rw [HX5.out.len]; exact hlt
          obtain ⟨hA, hbb⟩ := HX5.out.src (by omega)
          subst hA
          have c0 := (HB.out.cell (p := ⟨bb2, off2 + k, none⟩) hbb).trans (HX5.out.at_ k hlt2)
          have b1 := HX5.out.ok k hlt2
          have hki : (k : Int) < (n2 : Int) := by omega
          have hki2 : (k : Int) < 10 := by omega
          obtain ⟨m1, hm1⟩ : ∃ m, min xs[k].length 200 = m := ⟨_, rfl⟩
          have i1 : min (xs[k].length : Int) 200 = (m1 : Int) := by omega
          have l1 : (m1 : Int) ≤ (xs[k].length : Int) := by omega
          have e1 := ba_take xs[k] m1
          have q1 := ba_size xs[k]
          have u1 : (xs[k].take m1).length ≤ 4000 := by rw [List.length_take]; omega
          generalize xs[k].take m1 = u at e1 u1
          generalize xs[k].length = n1 at *
          obtain ⟨X1, hX1⟩ : ∃ X, ba xs[k] = X := ⟨_, rfl⟩
          rw [hX1] at c0 e1 q1
          have HC0 := hid c0
          have HU := hid u1
          clear hX1 hm1 hbb u1 c0
          go_wp2_with (fail)
          refine wp_region_noPanic ?_
          refine wp_region_held_drew (S := fun U => U.cell? ⟨bb2, off2 + k, none⟩ = some (.string X1)) (by kernel_rfl) ((show wr.drew.cell? _ = _ from HC0.out)) (fun hS => ?_)
          refine wpAnyH_take (i := 0) (v := ?_) (by simp only [List.getElem?_toArray, List.getElem?_cons_zero]; rfl) (by kernel_rfl) (by kernel_rfl) (by kernel_rfl) (fun _ _ _ h => h) (Or.inl ⟨by rfl, ?_⟩) (by assumption) ?_
          rotate_left 1
          · intro w hSw
            have d0 := hSw
            go_simp
            with_reducible rfl
          simp only [Act.put, List.setIfInBounds_toArray, List.set_cons_zero, List.set_cons_succ]
          refine wpAnyH_take (i := 1) (v := ?_) (by simp only [List.getElem?_toArray, List.getElem?_cons_zero, List.getElem?_cons_succ]; rfl) (by kernel_rfl) (by kernel_rfl) (by kernel_rfl) (fun _ _ _ h => h) (Or.inl ⟨by rfl, ?_⟩) (by assumption) ?_
          rotate_left 1
          · intro w hSw
            have d0 := hSw
            go_simp
            with_reducible rfl
          simp only [Act.put, List.setIfInBounds_toArray, List.set_cons_zero, List.set_cons_succ]
          refine wpAnyH_take (i := 2) (v := ?_) (by simp only [List.getElem?_toArray, List.getElem?_cons_zero, List.getElem?_cons_succ]; rfl) (by kernel_rfl) (by kernel_rfl) (by kernel_rfl) (fun _ _ _ h => h) (Or.inl ⟨by rfl, ?_⟩) (by assumption) ?_
          rotate_left 1
          · intro w hSw
            have d0 := hSw
            go_simp
            with_reducible rfl
          simp only [Act.put, List.setIfInBounds_toArray, List.set_cons_zero, List.set_cons_succ]
          refine wpAnyH_take (i := 3) (v := ?_) (by simp only [List.getElem?_toArray, List.getElem?_cons_zero, List.getElem?_cons_succ]; rfl) (by kernel_rfl) (by kernel_rfl) (by kernel_rfl) (fun _ _ _ h => h) (Or.inl ⟨by rfl, ?_⟩) (by assumption) ?_
          rotate_left 1
          · intro w hSw
            have d0 := hSw
            go_simp
            with_reducible rfl
          simp only [Act.put, List.setIfInBounds_toArray, List.set_cons_zero, List.set_cons_succ]
          refine wpAnyH_take (i := 4) (v := ?_) (by simp only [List.getElem?_toArray, List.getElem?_cons_zero, List.getElem?_cons_succ]; rfl) (by kernel_rfl) (by kernel_rfl) (by kernel_rfl) (fun _ _ _ h => h) (Or.inl ⟨by rfl, ?_⟩) (by assumption) ?_
          rotate_left 1
          · intro w hSw
            have d0 := hSw
            go_simp
            with_reducible rfl
          simp only [Act.put, List.setIfInBounds_toArray, List.set_cons_zero, List.set_cons_succ]
          refine wpAnyH_take (i := 5) (v := ?_) (by simp only [List.getElem?_toArray, List.getElem?_cons_zero, List.getElem?_cons_succ]; rfl) (by kernel_rfl) (by kernel_rfl) (by kernel_rfl) (fun _ _ _ h => h) (Or.inl ⟨by rfl, ?_⟩) (by assumption) ?_
          rotate_left 1
          · intro w hSw
            have d0 := hSw
            go_simp
            with_reducible rfl
          simp only [Act.put, List.setIfInBounds_toArray, List.set_cons_zero, List.set_cons_succ]
          refine wpAnyH_take (i := 6) (v := ?_) (by simp only [List.getElem?_toArray, List.getElem?_cons_zero, List.getElem?_cons_succ]; rfl) (by kernel_rfl) (by kernel_rfl) (by kernel_rfl) (fun _ _ _ h => h) (Or.inl ⟨by rfl, ?_⟩) (by assumption) ?_
          rotate_left 1
          · intro w hSw
            have d0 := hSw
            go_simp
            with_reducible rfl
          simp only [Act.put, List.setIfInBounds_toArray, List.set_cons_zero, List.set_cons_succ]
          refine wpAnyH_take (i := 7) (v := ?_) (by simp only [List.getElem?_toArray, List.getElem?_cons_zero, List.getElem?_cons_succ]; rfl) (by kernel_rfl) (by kernel_rfl) (by kernel_rfl) (fun _ _ _ h => h) (Or.inl ⟨by rfl, ?_⟩) (by assumption) ?_
          rotate_left 1
          · intro w hSw
            have d0 := hSw
            go_simp
            with_reducible rfl
          simp only [Act.put, List.setIfInBounds_toArray, List.set_cons_zero, List.set_cons_succ]
          refine wpAnyH_take (i := 8) (v := ?_) (by simp only [List.getElem?_toArray, List.getElem?_cons_zero, List.getElem?_cons_succ]; rfl) (by kernel_rfl) (by kernel_rfl) (by kernel_rfl) (fun _ _ _ h => h) (Or.inl ⟨by rfl, ?_⟩) (by assumption) ?_
          rotate_left 1
          · intro w hSw
            have d0 := hSw
            go_simp
            with_reducible rfl
          simp only [Act.put, List.setIfInBounds_toArray, List.set_cons_zero, List.set_cons_succ]
          refine wpAnyH_take (i := 9) (v := ?_) (by simp only [List.getElem?_toArray, List.getElem?_cons_zero, List.getElem?_cons_succ]; rfl) (by kernel_rfl) (by kernel_rfl) (by kernel_rfl) (fun _ _ _ h => h) (Or.inl ⟨by rfl, ?_⟩) (by assumption) ?_
          rotate_left 1
          · intro w hSw
            have d0 := hSw
            go_simp
            with_reducible rfl
          simp only [Act.put, List.setIfInBounds_toArray, List.set_cons_zero, List.set_cons_succ]
          refine wpAnyH_take (i := 10) (v := ?_) (by simp only [List.getElem?_toArray, List.getElem?_cons_zero, List.getElem?_cons_succ]; rfl) (by kernel_rfl) (by kernel_rfl) (by kernel_rfl) (fun _ _ _ h => h) (Or.inl ⟨by rfl, ?_⟩) (by assumption) ?_
          rotate_left 1
          · intro w hSw
            have d0 := hSw
            go_simp
            with_reducible rfl
          simp only [Act.put, List.setIfInBounds_toArray, List.set_cons_zero, List.set_cons_succ]
          refine wpAnyH_take (i := 11) (v := ?_) (by simp only [List.getElem?_toArray, List.getElem?_cons_zero, List.getElem?_cons_succ]; rfl) (by kernel_rfl) (by kernel_rfl) (by kernel_rfl) (fun _ _ _ h => h) (Or.inl ⟨by rfl, ?_⟩) (by assumption) ?_
          rotate_left 1
          · intro w hSw
            have d0 := hSw
            go_simp
            with_reducible rfl
          simp only [Act.put, List.setIfInBounds_toArray, List.set_cons_zero, List.set_cons_succ]
          refine wpAnyH_done (by kernel_rfl) ?_ _
          refine NoPanic.normal ?_
          have HBD : Hid (Below w5.heap.size w5 wr.drew) := HB.out.drew
          have D1 := hid (HM1.out wr.drew u HBD.out HU.out)
          obtain ⟨y, hy⟩ : ∃ y, matL qs u = y := ⟨_, rfl⟩
          have HMA := hid (@mat_may qs u)
          have HMD := hid (@mat_del qs u)
          rw [hy] at D1 HMA HMD
          obtain ⟨ya, yb⟩ := y
          go_wp2_with (fail)
          refine D1.out.mono ?_
          rintro e8 w8 ⟨rfl, hb8⟩
          have HB8 : Hid (Below w5.heap.size w5 w8) := HBD.out.thenG hb8
          have D2 := hid (HM2.out w8 u HB8.out HU.out)
          rw [hy] at D2
          clear hb8
          go_wp2_with (fail)
          refine D2.out.mono ?_
          rintro e9 w9 ⟨rfl, hb9⟩
          have HB9 : Hid (Below w5.heap.size w5 w9) := HB8.out.thenG hb9
          have D3 := hid (HMAY.out w9 u HB9.out HU.out)
          clear hb9 hy
          cases ya with
          | false =>
            have hbf := HMD.out rfl
            subst hbf
            clear HMA HMD D3
            go_wp2
            exact ⟨⟨k + 1, by go_num, by omega, by omega, HB9.out⟩, by simp [intOf]; omega⟩
          | true =>
            have hmy : mayB (tl (ba u)) = true := HMA.out rfl
            rw [hmy] at D3
            clear HMA HMD hmy
            cases yb with
            | false =>
              go_wp2_with (go_at_call 18; refine D3.out.mono ?_; rintro e10 w10 ⟨rfl, hb10⟩)
              exact ⟨⟨k + 1, by go_num, by omega, by omega, HB9.out.thenG hb10⟩, by simp [intOf]; omega⟩
            | true =>
              go_wp2_with (go_at_call 18; refine D3.out.mono ?_; rintro e10 w10 ⟨rfl, hb10⟩)
              exact ⟨⟨k + 1, by go_num, by omega, by omega, HB9.out.thenG hb10⟩, by simp [intOf]; omega⟩
        · have hki2 : ¬ ((k : Int) < 10) := by omega
          have HWW := hid (HWK.out wr (HB5.out.thenG HB.out))
          go_wp2_with (go_at_call 12; refine HWW.out.mono ?_; rintro e10 w10 ⟨rfl, hb10⟩)
          go_ret
          exact ⟨rfl, (HB5.out.thenG HB.out).thenG hb10⟩
      · have hki : ¬ ((k : Int) < (n2 : Int)) := by omega
        have HWW := hid (HWK.out wr (HB5.out.thenG HB.out))
        go_wp2_with (go_at_call 12; refine HWW.out.mono ?_; rintro e10 w10 ⟨rfl, hb10⟩)
        go_ret
        exact ⟨rfl, (HB5.out.thenG HB.out).thenG hb10⟩
theorem iagain_law (v0 : Value) (fs : Fl) (name : ByteArray) (v2 : Value) (xs : List By) (w : World) (hG : Gd w) (hf : FilesIn w v0 fs) (hn : name.size ≤ 140737488355328) (hx : NamesIn w v2 xs) :
    Calls Tryd.prog 4 #[v0, .string name, v2] w fun e w' => e = .returned (.bool true) ∧ Below w.heap.size w w' := by
  have := iagain_any v0 fs (tl name) v2 xs w hG hf (by rw [tl_length]; omega) hx
  rw [ba_tl] at this; exact this
end Go.Proofs.YtpipkgkfhbagmaaDoor.Glob
