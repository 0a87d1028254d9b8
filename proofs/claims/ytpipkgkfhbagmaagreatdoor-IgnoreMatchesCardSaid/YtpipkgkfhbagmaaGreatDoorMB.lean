/- The document's files of patterns: Read: what the call does. Conditions: at most 1000 files, texts of at most 100000 bytes. -/
import Derived.Test.YtpipkgkfhbagmaaGreatDoorMA
import Derived.Test.YtpipkgkfhbagmaaGreatDoorKD
namespace Go.Proofs.YtpipkgkfhbagmaaGreatDoor.Glob
open Go.RowKit Go.Maps
theorem grown_trans {a b c : World} {r r' : Option Nat} (h : a.grownBy b r) (k : b.grownBy c r') (hr : ∀ j, j < a.heap.size → some j = r' → some j = r) : a.grownBy c r :=
  ⟨k.os.trans h.os, k.tape.trans h.tape, k.output.trans h.output, Nat.le_trans h.size k.size, fun j hj hn => (k.block j (Nat.lt_of_lt_of_le hj h.size) (fun e => hn (hr j hj e))).trans (h.block j hj hn)⟩
theorem below_grown {a b : World} {r : Option Nat} (h : Below a.heap.size a b) : a.grownBy b r := ⟨h.os, h.tape, h.output, h.size, fun j hj _ => h.block j hj⟩
theorem grown_then {a b c : World} {r : Option Nat} (h : a.grownBy b r) (k : Below b.heap.size b c) : a.grownBy c r := grown_trans h (below_grown (r := r) k) (fun _ _ h => h)
theorem Ar.grown {B : Nat} {w W : World} {v : Value} {l : List By} {r : Option Nat} (h : Ar B w v l) (hg : w.grownBy W r) (hne : ∀ k, v.ownBlock = some k → some k ≠ r) : Ar B W v l :=
  own_stays h fun k hk => hg.block k (own_inside h k hk).2 (hne k hk)
theorem FilesIs.grown {w W : World} {v lv : Value} {fs : Fl} {B : Nat} {ps : List By} (h : FilesIs w v fs) (hl : Ar B w lv ps) (hg : w.grownBy W lv.ownBlock) : FilesIs W v fs := by
  refine own_stays h fun k hk => hg.block k (own_inside h k hk).2 fun e => ?_
  obtain ⟨cs, q, h1⟩ := own_typed h k hk
  obtain ⟨cs', q', h2⟩ := own_typed hl k e.symm
  have e2 := Option.some.inj (h1.symm.trans h2)
  simp only [Obj.cells.injEq] at e2
  exact absurd e2.2.1 (by decide)
/-- A row appended to nothing. -/
theorem copy_row {B : Nat} {w : World} {v : Value} {l : List By} (h : Ar B w v l) (hn : l.length ≤ 1000) (ty : TypeId) :
    ∃ v' w', (Builtin.append_ #[23, 23] ty #[.slice none 0 0, v]).run Tryz.prog w = .ok v' w' ∧ Ar w.heap.size w' v' l ∧ Below w.heap.size w w' := by
  obtain ⟨i0, hi, hz0, hz1, hz2⟩ := info_parts infoStr
  rcases h.2 with ⟨rfl, h0⟩ | ⟨g, c, cur, rfl, hB, h3, h4⟩
  · obtain rfl := List.eq_nil_of_length_eq_zero h0
    exact ⟨_, w, run_append_owned_none (P := Tryz.prog) w w.heap.size 23 ty 9 i0 1 Tryz.underlying23 hi (.slice none 0 0) 0 [] (World.ownsRow_nil _ _ _ _), World.ownsRow_nil _ _ _ _, Below.refl _ _⟩
  · obtain ⟨v', w', hr, h1, _, h5, _⟩ := append_old (w := w) (B := w.heap.size) (t := 23) (ty := ty) Tryz.underlying23 hi hz0 hz1 hz2 rfl (by omega) (World.ownsRow_nil w w.heap.size 9 1) (a := ⟨g, 0, none⟩) (m := l.length) (c := c) (news := l.map strV) (by simp) (fun j u hj => h.cells (g := g) rfl j u hj) (fun u hu => by obtain ⟨x, _, rfl⟩ := List.mem_map.1 hu; rfl) (by omega) (by omega) (Nat.le_refl _)
    rw [Nat.zero_add, List.nil_append] at h1
    exact ⟨v', w', hr, h1, ⟨h5.os, h5.tape, h5.output, h5.size, fun j hj => h5.block j hj (fun e => nomatch e)⟩⟩
theorem rowsYtpipkgkfhbagmaaGreatDoorcount (n : Nat) : ∀ l : By, l.length ≤ n → (rowsN l).length ≤ l.length + 1 := by
  induction n with
  | zero => intro l h; obtain rfl := List.length_eq_zero_iff.1 (Nat.le_zero.1 h); simp [rowsN]
  | succ n ih =>
    intro l h
    rw [rowsYtpipkgkfhbagmaaGreatDoorcut]
    have h1 := cutYtpipkgkfhbagmaaGreatDoorlen l
    split
    · rename_i hc
      have := h1.2.2 hc
      have := ih _ (show (cutN l).2.1.length ≤ n by omega)
      simp only [List.length_cons]; omega
    · simp
/-- What Read answers. -/
def OutR (g : Except Int (List By)) (e : Ending) (Y : Value → List By → Prop) : Prop :=
  match g with
  | .error c => (∃ A n k, e = .returned (.tuple #[.slice A n k, .int .i64 c])) ∧ c ≠ 0
  | .ok qs => ∃ r, e = .returned (.tuple #[r, .int .i64 0]) ∧ Y r qs
theorem OutR.err {g : Except Int (List By)} {c : Int} {A : Option Addr} {n k : Nat} (h : g = .error c) {e : Ending} {Y : Value → List By → Prop} (h1 : e = .returned (.tuple #[.slice A n k, .int .i64 c])) (h2 : c ≠ 0) : OutR g e Y := by subst h; exact ⟨⟨_, _, _, h1⟩, h2⟩
theorem OutR.ok {g : Except Int (List By)} {qs : List By} {r : Value} (h : g = .ok qs) {e : Ending} {Y : Value → List By → Prop} (h1 : e = .returned (.tuple #[r, .int .i64 0])) (h2 : Y r qs) : OutR g e Y := by subst h; exact ⟨_, h1, h2⟩
theorem OutR.of_err {c : Int} {e : Ending} {Y : Value → List By → Prop} (h : OutR (.error c) e Y) : (∃ A n k, e = .returned (.tuple #[.slice A n k, .int .i64 c])) ∧ c ≠ 0 := h
theorem OutR.of_ok {qs : List By} {e : Ending} {Y : Value → List By → Prop} (h : OutR (.ok qs) e Y) : ∃ r, e = .returned (.tuple #[r, .int .i64 0]) ∧ Y r qs := h
/-- Whose row a row is: an older one's, or a new one. -/
def Fresh1 (w : World) (lv r : Value) : Prop := r.ownBlock = lv.ownBlock ∨ ∃ j, r.ownBlock = some j ∧ w.heap.size ≤ j
def ReadR (fs : Fl) (k : Nat) : Prop :=
  ∀ (within : List By) (name : By) (ps : List By) (fv v lv : Value) (w : World), within.length + k = 4 → FilesIs w fv fs → Ar 0 w v within → Ar 0 w lv ps → ps.length ≤ 64 →
    Calls Tryz.prog 18 #[fv, .string (ba name), v, lv] w fun e W => OutR (readL fs k within name ps) e (fun r qs => Ar 0 W r qs ∧ Fresh1 w lv r) ∧ w.grownBy W lv.ownBlock
theorem drop_line {l : List By} {j : Nat} (hj : j < l.length) : (l.drop j).filter (fun s => !idle s) = (if idle l[j] then [] else [l[j]]) ++ (l.drop (j + 1)).filter (fun s => !idle s) := by
  rw [List.drop_eq_getElem_cons hj, List.filter_cons]
  cases idle l[j] <;> simp
set_option maxRecDepth 100000 in
set_option maxHeartbeats 16000000 in
theorem rread_step (fs : Fl) (hfl : fs.length ≤ 1000) (htx : ∀ i (hi : i < fs.length), fs[i].2.length ≤ 100000) (k : Nat) (ih : ∀ k', k = k' + 1 → ReadR fs k') : ReadR fs k := by
  intro within name ps fv v lv w hk hfv hv hlv h64
  have HF := hid hfv
  have HV := hid hv
  have HLV := hid hlv
  have H64 := hid h64
  have HIH := hid ih
  have HKK := hid hk
  have HFI := hid (rfind_any fv fs name w hfv hfl)
  obtain ⟨goal, HGO⟩ : ∃ g, Hid (readL fs k within name ps = g) := ⟨_, rfl⟩
  rw [HGO.out]
  have HREF : Hid (w.grownBy w lv.ownBlock) := below_grown (Below.refl _ _)
  obtain ⟨Af, cf, hfe⟩ := hfv.form
  obtain ⟨Av, cv, hve⟩ := own_form hv
  obtain ⟨Al, cl, hle⟩ := own_form hlv
  obtain ⟨nf, hnf⟩ : ∃ n, fs.length = n := ⟨_, rfl⟩
  obtain ⟨nv, hnv⟩ : ∃ n, within.length = n := ⟨_, rfl⟩
  obtain ⟨nl, hnl⟩ : ∃ n, ps.length = n := ⟨_, rfl⟩
  rw [hnf] at hfe
  rw [hnv] at hve
  rw [hnl] at hle
  subst hfe hve hle
  have HNV := hid hnv
  have zn : (ba name).toList = name := toList_ba name
  have hnvb : nv ≤ 4 := by omega
  cases hff : findF fs name with
  | none =>
    have HE : Hid (goal = .error 5) := by show _ = _; rw [← HGO.out]; cases k <;> (unfold readL; rw [hff])
    rw [hff] at HFI
    unfold findV8 at HFI
    simp only at HFI
    clear hfv hv hlv h64 ih hk hnf hnv hnl hff
    go_enter Tryz.func18, Tryz.ntmps18
    go_wp2_with (go_at_call 36; refine HFI.out.mono ?_; rintro e1 w1 ⟨rfl, rfl⟩)
    go_ret2
    exact ⟨OutR.err HE.out rfl (by decide), HREF.out⟩
  | some t =>
    rw [hff] at HFI
    unfold findV8 at HFI
    simp only at HFI
    have HTL : Hid (t.length ≤ 100000) := by show _ ≤ _; obtain ⟨_, i, hi, rfl⟩ := findF_mem hff; exact htx i hi
    have HER : Hid (name ∈ within → goal = .error 22) := fun hm => by rw [← HGO.out]; cases k <;> (unfold readL; rw [hff]; simp only; rw [if_pos hm])
    have HE0 : Hid (name ∉ within → k = 0 → goal = .error 3) := fun hm h0 => by rw [← HGO.out, h0]; unfold readL; rw [hff]; simp only; rw [if_neg hm]
    have HEK : Hid (∀ k', name ∉ within → k = k' + 1 → goal = stepL (readL fs k' (within ++ [name])) (((rowsN t).map trimB).filter fun s => !idle s) ps) := fun k' hm h0 => by
      rw [← HGO.out, h0]
      conv => lhs; unfold readL
      rw [hff]; simp only; rw [if_neg hm]; rfl
    clear hfv hv hlv h64 ih hk hnf hnv hnl hff
    go_enter Tryz.func18, Tryz.ntmps18
    go_wp2_with (go_at_call 36; refine HFI.out.mono ?_; rintro e1 w1 ⟨rfl, rfl⟩)
    go_loopw [12] (fun i wr => ∃ j : Nat, i = .int .i64 (j : Int) ∧ j ≤ nv ∧ Hid (name ∉ within.take j) ∧ w = wr)
      (fun i _ => nv - (intOf i).toNat)
    case atStart => exact ⟨0, rfl, Nat.zero_le _, by show name ∉ List.take 0 within; simp, rfl⟩
    case round =>
      obtain ⟨j, rfl, hj, HNO, rfl⟩ := hrel
      by_cases hlt : j < nv
      · have hlt2 : j < within.length := by rw [HNV.out]; exact hlt
        obtain ⟨g, cap, hge, hg, hcell⟩ := HV.out.at_ (by omega)
        rw [HNV.out] at hge
        simp only [Value.slice.injEq, true_and] at hge
        obtain ⟨rfl, rfl⟩ := hge
        have c0 := hcell j hlt2
        have hji : (j : Int) < (nv : Int) := by omega
        have zx : (ba within[j]).toList = within[j] := toList_ba _
        by_cases hx : within[j] = name
        · have HE : Hid (goal = .error 22) := HER.out (hx ▸ List.getElem_mem hlt2)
          generalize within[j] = x at c0 zx hx
          subst hx
          clear hlt hcell
          go_wp2
          go_ret2
          exact ⟨OutR.err HE.out rfl (by decide), HREF.out⟩
        · have HNO2 : Hid (name ∉ within.take (j + 1)) := by
            show name ∉ _
            rw [List.take_succ_eq_append_getElem hlt2, List.mem_append, not_or]
            exact ⟨HNO.out, by simp; exact fun e => hx e.symm⟩
          have hbf : (within[j] == name) = false := by simpa using hx
          generalize within[j] = x at c0 zx hx hbf
          clear hlt hcell
          go_wp2
          exact ⟨⟨j + 1, by go_num, by omega, HNO2.out, trivial⟩, by simp [intOf]; omega⟩
      · have hji : ¬ ((j : Int) < (nv : Int)) := by omega
        have HNM : Hid (name ∉ within) := by
          have := HNO.out
          rw [List.take_of_length_le (by have := HNV.out; omega)] at this
          exact this
        clear hlt
        cases k with
        | zero =>
          have hn4 : (4 : Int) < (nv : Int) + 1 := by have := HNV.out; have := HKK.out; omega
          have HE : Hid (goal = .error 3) := HE0.out HNM.out rfl
          go_wp2
          go_ret2
          exact ⟨OutR.err HE.out rfl (by decide), HREF.out⟩
        | succ k' =>
          have hn4 : ¬ ((4 : Int) < (nv : Int) + 1) := by have := HNV.out; have := HKK.out; omega
          have HEG := hid (HEK.out k' HNM.out rfl)
          have HRR := hid (HIH.out k' rfl)
          obtain ⟨v1, w1, hr1, ha1, hb1⟩ := copy_row HV.out (by have := HKK.out; omega) 23
          obtain ⟨Wb, hWb⟩ : ∃ Wb, w1.alloc (.cells #[.string (ba name)] 9) = Wb := ⟨_, rfl⟩
          have bb : Below w1.heap.size w1 Wb := hWb ▸ (Below.refl _ _).alloc (Nat.le_refl _) _
          have hfb : Has Wb w1.heap.size 9 #[.string (ba name)] := hWb ▸ Has.fresh _ _ _
          obtain ⟨v5, w5, hr5, ha5, _, hg5, _⟩ := append_str (own_below ha1 bb) hfb (by have := HKK.out; omega) (Nat.le_trans hb1.size bb.size) 23
          have hb5 : Below w.heap.size w w5 := grown_below hg5 (hb1.thenG bb) (fun j hj => (own_inside ha1 j hj).1) (Nat.le_trans hb1.size bb.size)
          have HR1 := hid hr1
          have HR5 := hid hr5
          have HA5 := hid ha5
          have HB5 := hid hb5
          have HLN := hid (rlines_any t w5 HTL.out)
          obtain ⟨A1, c1, hv1⟩ := own_form ha1
          rw [HNV.out] at hv1
          obtain ⟨A5, c5, hv5⟩ := own_form ha5
          rw [List.length_append, List.length_singleton, HNV.out] at hv5
          subst hv1 hv5
          clear hr1 ha1 hb1 bb hfb hr5 ha5 hg5 hb5
          go_wp2_with (first
            | (at_builtin; refine wpList_append_run rfl (.tmp 48) (.tmp 49) 23 23 rfl ⟨_, w1, HR1.out, ?_⟩)
            | (at_builtin; refine wpList_append_run rfl (.tmp 51) (.tmp 53) 23 23 rfl ⟨_, w5, HR5.out, ?_⟩)
            | (go_at_call 37; refine HLN.out.mono ?_; rintro e6 w6 ⟨⟨vl, rfl, hvl⟩, hb6⟩
               have HVL := hid hvl
               have HB6 : Hid (Below w.heap.size w w6) := HB5.out.thenG hb6
               have HA6 : Hid (Ar w.heap.size w6 (.slice A5 (nv + 1) c5) (within ++ [name])) := own_below HA5.out hb6
               have HS56 := hid HB5.out.size
               obtain ⟨A6, c6, hv6⟩ := own_form hvl
               clear hvl hb6
               generalize hRW : (rowsN t).map trimB = rows at HVL HEG hv6
               have HRL : Hid (∀ s ∈ rows, s.length ≤ 100000) := fun s hs => by
                 rw [← hRW] at hs
                 obtain ⟨p, hp, rfl⟩ := List.mem_map.1 hs
                 exact Nat.le_trans (trimB_len p) (Nat.le_trans (rowsYtpipkgkfhbagmaaGreatDoorlen _ t (Nat.le_refl _) p hp) HTL.out)
               obtain ⟨nr, hnr⟩ : ∃ n, rows.length = n := ⟨_, rfl⟩
               have hnrb : nr ≤ 100001 := by
                 have h1 := rowsYtpipkgkfhbagmaaGreatDoorcount _ t (Nat.le_refl _)
                 have h2 := HTL.out
                 rw [← hnr, ← hRW, List.length_map]; omega
               have HNR := hid hnr
               rw [hnr] at hv6
               subst hv6
               clear hRW hnr))
          go_loopw [3, 15] (fun l i wr => ∃ (j : Nat) (A : Option Addr) (m c : Nat) (qs : List By), i = .int .i64 (j : Int) ∧ l = .slice A m c ∧ j ≤ nr ∧ m ≤ 64 ∧ Hid (qs.length = m) ∧ Hid (goal = stepL (readL fs k' (within ++ [name])) ((rows.drop j).filter fun s => !idle s) qs) ∧ Hid (Ar 0 wr (.slice A m c) qs) ∧ Hid (Fresh1 w (.slice Al nl cl) (.slice A m c)) ∧ Hid (w.grownBy wr (Value.slice Al nl cl).ownBlock) ∧ Hid (Ar 0 wr (.slice A5 (nv + 1) c5) (within ++ [name])) ∧ Hid (Ar 0 wr (.slice A6 nr c6) rows) ∧ Hid (∀ k, (Value.slice A m c).ownBlock = some k → (Value.slice A5 (nv + 1) c5).ownBlock ≠ some k ∧ (Value.slice A6 nr c6).ownBlock ≠ some k) ∧ Hid (FilesIs wr (.slice Af nf cf) fs))
            (fun _ i _ => nr - (intOf i).toNat)
          case atStart =>
            have hlen : ps.length = nl := by
              have := own_form HLV.out
              obtain ⟨_, _, h⟩ := this
              simp only [Value.slice.injEq] at h
              exact h.2.1.symm
            refine ⟨0, Al, nl, cl, ps, rfl, rfl, Nat.zero_le _, by have := H64.out; omega, hlen, by show goal = _; rw [HEG.out]; rfl, own_below HLV.out (HB6.out), .inl rfl, below_grown HB6.out, own_mono HA6.out (Nat.zero_le _), own_mono HVL.out (Nat.zero_le _), fun k hk => ?_, HF.out.stays HB6.out⟩
            have h1 := (own_inside HLV.out k hk).2
            exact ⟨fun e => by have := (own_inside HA6.out k e).1; omega, fun e => by have := (own_inside HVL.out k e).1; have := HS56.out; omega⟩
          case round =>
            obtain ⟨j2, A, m, c, qs, rfl, rfl, hj2, hm64, HQL, HG2, HAQ, HFR, HGB, HAD, HAR, HDJ, HFW⟩ := hrel
            by_cases hlt3 : j2 < nr
            · have hlt4 : j2 < rows.length := by rw [HNR.out]; exact hlt3
              have h3i : (j2 : Int) < (nr : Int) := by omega
              obtain ⟨g, cap, hge, hg, hcell⟩ := HAR.out.at_ (by omega)
              rw [HNR.out] at hge
              simp only [Value.slice.injEq, true_and] at hge
              obtain ⟨rfl, rfl⟩ := hge
              have c0 := hcell j2 hlt4
              have hdl := drop_line hlt4
              have HSL : Hid (rows[j2].length ≤ 100000) := HRL.out _ (List.getElem_mem hlt4)
              generalize rows[j2] = s at c0 hdl HSL
              have HB2 := hid (fun W => begins8_any s [47, 47] W)
              cases hid0 : idle s with
              | true =>
                have HG3 : Hid (goal = stepL (readL fs k' (within ++ [name])) ((rows.drop (j2 + 1)).filter fun s => !idle s) qs) := by
                  show _ = _; rw [HG2.out, hdl, hid0]; rfl
                rcases idle_yes hid0 with rfl | ⟨x, u', rfl, hpre⟩
                · have zt : (ba ([] : By)).toList = [] := toList_ba _
                  generalize ba ([] : By) = X at zt c0 HB2
                  clear hid0 hdl hlt3 hlt4 hcell hg
                  go_wp2
                  exact ⟨⟨j2 + 1, A, m, c, qs, by go_num, rfl, by omega, hm64, HQL.out, HG3.out, HAQ.out, HFR.out, HGB.out, HAD.out, HAR.out, HDJ.out, HFW.out⟩, by simp [intOf]; omega⟩
                · rw [hpre] at HB2
                  have zt : (ba (x :: u')).toList = x :: u' := toList_ba _
                  generalize ba (x :: u') = X at zt c0 HB2
                  clear hid0 hdl hlt3 hlt4 hcell hg hpre
                  go_wp2_with (go_at_call 38; refine (HB2.out _).mono ?_; rintro e7 w7 ⟨rfl, rfl⟩)
                  exact ⟨⟨j2 + 1, A, m, c, qs, by go_num, rfl, by omega, hm64, HQL.out, HG3.out, HAQ.out, HFR.out, HGB.out, HAD.out, HAR.out, HDJ.out, HFW.out⟩, by simp [intOf]; omega⟩
              | false =>
                obtain ⟨x, u', hu, hpre⟩ := idle_no hid0
                rw [hpre] at HB2
                have zt : (ba s).toList = x :: u' := by rw [toList_ba, hu]
                have HG3 : Hid (goal = stepL (readL fs k' (within ++ [name])) (s :: (rows.drop (j2 + 1)).filter fun s => !idle s) qs) := by
                  show _ = _; rw [HG2.out, hdl, hid0]; rfl
                have HBI := hid (fun W => begins8_any s incM W)
                have zl := ba_size s
                cases hin : pre incM s with
                | true =>
                  rw [hin] at HBI
                  have h9 : (9 : Int) ≤ (s.length : Int) := by have := pre_len hin; simp [incM] at this; omega
                  have zd := ba_drop s 9
                  have HCR := hid (HRR.out (within ++ [name]) (s.drop 9) qs (.slice Af nf cf) (.slice A5 (nv + 1) c5) (.slice A m c) wr (by rw [List.length_append, List.length_singleton]; have := HKK.out; omega) HFW.out HAD.out HAQ.out (by have := HQL.out; omega))
                  have HG4 : Hid (goal = match readL fs k' (within ++ [name]) (s.drop 9) qs with | .error e => .error e | .ok rs => stepL (readL fs k' (within ++ [name])) ((rows.drop (j2 + 1)).filter fun s => !idle s) rs) := by
                    show _ = _; rw [HG3.out]; conv => lhs; unfold stepL
                    rw [if_pos hin]
                    cases readL fs k' (within ++ [name]) (s.drop 9) qs <;> rfl
                  obtain ⟨r0, HR0⟩ : ∃ r0, Hid (readL fs k' (within ++ [name]) (s.drop 9) qs = r0) := ⟨_, rfl⟩
                  rw [HR0.out] at HCR HG4
                  generalize s.drop 9 = u at zd HCR HR0
                  generalize s.length = ns at h9 zd zl
                  generalize ba s = X at zt c0 HB2 HBI zd zl
                  clear hid0 hdl hlt3 hlt4 hcell hg hpre hu hin
                  go_wp2_with (fail)
                  refine (HB2.out _).mono ?_
                  rintro e7 w7 ⟨rfl, rfl⟩
                  go_wp2_with (fail)
                  refine (HBI.out _).mono ?_
                  rintro e8 w8 ⟨rfl, rfl⟩
                  go_wp2_with (fail)
                  refine HCR.out.mono ?_
                  intro e9 w9 h9
                  obtain ⟨h9, hg9⟩ := h9
                  have HG9 : Hid (w.grownBy w9 (Value.slice Al nl cl).ownBlock) := grown_trans HGB.out hg9 (fun i hi e => by
                    rcases HFR.out with h | ⟨j, h, hj⟩
                    · exact e.trans h
                    · rw [h] at e; injection e with e; omega)
                  have HAD9 : Hid (Ar 0 w9 (.slice A5 (nv + 1) c5) (within ++ [name])) := HAD.out.grown hg9 (fun k hk e => (HDJ.out k e.symm).1 hk)
                  have HAR9 : Hid (Ar 0 w9 (.slice (some ⟨g, 0, none⟩) nr c6) rows) := HAR.out.grown hg9 (fun k hk e => (HDJ.out k e.symm).2 hk)
                  have HFW9 : Hid (FilesIs w9 (.slice Af nf cf) fs) := HFW.out.grown HAQ.out hg9
                  have hsz9 := hg9.size
                  cases r0 with
                  | error ce =>
                    obtain ⟨⟨Ae, ne, ke, rfl⟩, hce⟩ := h9.of_err
                    have hcz : (ce == 0) = false := by simp [hce]
                    have hcn : (ce != 0) = true := by simp [hce]
                    have HCE := hid hce
                    clear h9 hg9 hce hsz9
                    go_wp2
                    go_ret2
                    exact ⟨OutR.err HG4.out rfl HCE.out, HG9.out⟩
                  | ok rs =>
                    obtain ⟨r, rfl, har, hfr⟩ := h9.of_ok
                    have HAR2 := hid har
                    have HRS : Hid (rs.length ≤ 64) := readL_64 _ _ _ _ _ _ HR0.out (by have := HQL.out; omega)
                    have HDJ9 : Hid (∀ k, r.ownBlock = some k → (Value.slice A5 (nv + 1) c5).ownBlock ≠ some k ∧ (Value.slice (some ⟨g, 0, none⟩) nr c6).ownBlock ≠ some k) := fun k hk => by
                      rcases hfr with h | ⟨j, h, hj⟩
                      · exact HDJ.out k (h ▸ hk)
                      · rw [h] at hk
                        injection hk with hk
                        exact ⟨fun e => by have := (own_inside HAD.out k e).2; omega, fun e => by have := (own_inside HAR.out k e).2; omega⟩
                    have HFR9 : Hid (Fresh1 w (.slice Al nl cl) r) := by
                      rcases hfr with h | ⟨j, h, hj⟩
                      · rcases HFR.out with h2 | ⟨j2, h2, hj2⟩
                        · exact .inl (h.trans h2)
                        · exact .inr ⟨j2, h.trans h2, hj2⟩
                      · exact .inr ⟨j, h, Nat.le_trans HGB.out.size hj⟩
                    obtain ⟨Ar2, cr2, hre⟩ := own_form har
                    obtain ⟨m2, hm2⟩ : ∃ m2, rs.length = m2 := ⟨_, rfl⟩
                    rw [hm2] at hre
                    subst hre
                    have HM2 := hid hm2
                    clear h9 hg9 har hfr hsz9 hm2
                    go_wp2
                    exact ⟨⟨j2 + 1, Ar2, m2, cr2, rs, by go_num, rfl, by omega, by have := HRS.out; have := HM2.out; omega, HM2.out, HG4.out, HAR2.out, HFR9.out, HG9.out, HAD9.out, HAR9.out, HDJ9.out, HFW9.out⟩, by simp [intOf]; omega⟩
                | false =>
                  rw [hin] at HBI
                  have HG4 : Hid (goal = if qs.length = 64 then .error 3 else if perr s ≠ 0 then .error (perr s) else stepL (readL fs k' (within ++ [name])) ((rows.drop (j2 + 1)).filter fun s => !idle s) (qs ++ [s])) := by
                    show _ = _; rw [HG3.out]; conv => lhs; unfold stepL
                    rw [if_neg (by rw [hin]; decide)]
                  by_cases h64 : m = 64
                  · have hmi : (m : Int) = 64 := by omega
                    have HE : Hid (goal = .error 3) := by show _ = _; rw [HG4.out, if_pos (by rw [HQL.out]; exact h64)]
                    generalize ba s = X at zt c0 HB2 HBI zl
                    clear hid0 hdl hlt3 hlt4 hcell hg hpre hu hin h64
                    go_wp2_with (fail)
                    refine (HB2.out _).mono ?_
                    rintro e7 w7 ⟨rfl, rfl⟩
                    go_wp2_with (fail)
                    refine (HBI.out _).mono ?_
                    rintro e8 w8 ⟨rfl, rfl⟩
                    go_wp2
                    go_ret2
                    exact ⟨OutR.err HE.out rfl (by decide), HGB.out⟩
                  · have hmi : ¬ ((m : Int) = 64) := by omega
                    have HMM : Hid (m < 64) := by show _ < _; omega
                    have HG5 : Hid (goal = if perr s ≠ 0 then .error (perr s) else stepL (readL fs k' (within ++ [name])) ((rows.drop (j2 + 1)).filter fun s => !idle s) (qs ++ [s])) := by
                      show _ = _; rw [HG4.out, if_neg (by rw [HQL.out]; exact h64)]
                    have HPR := hid (rparse_any s wr)
                    obtain ⟨X, hX⟩ : ∃ X, ba s = X := ⟨_, rfl⟩
                    have HX := hid hX
                    rw [hX] at zt c0 HB2 HBI HPR
                    clear hid0 hdl hlt3 hlt4 hcell hg hpre hu hin h64 zl hX
                    go_wp2_with (fail)
                    refine (HB2.out _).mono ?_
                    rintro e7 w7 ⟨rfl, rfl⟩
                    go_wp2_with (fail)
                    refine (HBI.out _).mono ?_
                    rintro e8 w8 ⟨rfl, rfl⟩
                    go_wp2_with (fail)
                    refine HPR.out.mono ?_
                    rintro e9 w9 ⟨⟨pn, pf, pd, pr, pA, pl, pc, rfl, _⟩, hb9⟩
                    obtain ⟨W9, hW9⟩ : ∃ W9, w9.alloc (.cells #[.bool pn, .bool pf, .bool pd, .bool pr, .slice pA pl pc] 62) = W9 := ⟨_, rfl⟩
                    have hbw : Below wr.heap.size wr W9 := hb9.thenG (hW9 ▸ (Below.refl _ _).alloc (Nat.le_refl _) _)
                    obtain ⟨pe, HPE⟩ : ∃ pe, Hid (perr s = pe) := ⟨_, rfl⟩
                    have hpe := HPE.out
                    rw [hpe]
                    rw [hpe] at HG5
                    by_cases hp0 : pe = 0
                    · have HG6 : Hid (goal = stepL (readL fs k' (within ++ [name])) ((rows.drop (j2 + 1)).filter fun s => !idle s) (qs ++ [s])) := by show _ = _; rw [HG5.out, if_neg (by rw [hp0]; decide)]
                      subst hp0
                      obtain ⟨Wc, hWc⟩ : ∃ Wc, W9.alloc (.cells #[.string X] 9) = Wc := ⟨_, rfl⟩
                      have hbc : Below wr.heap.size wr Wc := hbw.thenG (hWc ▸ (Below.refl _ _).alloc (Nat.le_refl _) _)
                      have hfc : Has Wc W9.heap.size 9 #[.string (ba s)] := by rw [HX.out]; exact hWc ▸ Has.fresh _ _ _
                      obtain ⟨v7, w7, hr7, ha7, _, hg7, hk7⟩ := append_str (own_below HAQ.out hbc) hfc (by have := HQL.out; omega) (Nat.zero_le _) 23
                      have HR7 := hid hr7
                      have HA7 := hid ha7
                      have HG7 : Hid (w.grownBy w7 (Value.slice Al nl cl).ownBlock) := grown_trans (grown_then HGB.out hbc) hg7 (fun i hi e => by
                        rcases HFR.out with h | ⟨j, h, hj⟩
                        · exact e.trans h
                        · rw [h] at e; injection e with e; omega)
                      have HAD7 : Hid (Ar 0 w7 (.slice A5 (nv + 1) c5) (within ++ [name])) := Ar.grown (own_below HAD.out hbc) hg7 (fun k hk e => (HDJ.out k e.symm).1 hk)
                      have HAR7 : Hid (Ar 0 w7 (.slice (some ⟨g, 0, none⟩) nr c6) rows) := Ar.grown (own_below HAR.out hbc) hg7 (fun k hk e => (HDJ.out k e.symm).2 hk)
                      have HFW7 : Hid (FilesIs w7 (.slice Af nf cf) fs) := FilesIs.grown (HFW.out.stays hbc) (own_below HAQ.out hbc) hg7
                      have HDJ7 : Hid (∀ k, v7.ownBlock = some k → (Value.slice A5 (nv + 1) c5).ownBlock ≠ some k ∧ (Value.slice (some ⟨g, 0, none⟩) nr c6).ownBlock ≠ some k) := fun k hk => by
                        rcases hk7 with h | h
                        · exact HDJ.out k (h ▸ hk)
                        · rw [h] at hk
                          injection hk with hk
                          have := hbc.size
                          exact ⟨fun e => by have := (own_inside HAD.out k e).2; omega, fun e => by have := (own_inside HAR.out k e).2; omega⟩
                      have HFR7 : Hid (Fresh1 w (.slice Al nl cl) v7) := by
                        rcases hk7 with h | h
                        · rcases HFR.out with h2 | ⟨j2, h2, hj2⟩
                          · exact .inl (h.trans h2)
                          · exact .inr ⟨j2, h.trans h2, hj2⟩
                        · exact .inr ⟨_, h, Nat.le_trans HGB.out.size hbc.size⟩
                      obtain ⟨A7, c7, hv7⟩ := own_form ha7
                      rw [List.length_append, List.length_singleton, HQL.out] at hv7
                      subst hv7
                      have HQ7 : Hid ((qs ++ [s]).length = m + 1) := by show _ = _; rw [List.length_append, List.length_singleton, HQL.out]
                      clear hb9 hbw hbc hfc hr7 ha7 hg7 hk7 hpe
                      go_wp2_with (at_builtin; refine wpList_append_run rfl (.tmp 102) (.tmp 104) 23 23 rfl ⟨_, w7, HR7.out, ?_⟩)
                      exact ⟨⟨j2 + 1, A7, m + 1, c7, qs ++ [s], by go_num, rfl, by omega, by have := HMM.out; omega, HQ7.out, HG6.out, HA7.out, HFR7.out, HG7.out, HAD7.out, HAR7.out, HDJ7.out, HFW7.out⟩, by simp [intOf]; omega⟩
                    · have HE : Hid (goal = .error pe) := by show _ = _; rw [HG5.out, if_pos hp0]
                      have hcz : (pe == 0) = false := by simp [hp0]
                      have hcn : (pe != 0) = true := by simp [hp0]
                      have HP0 := hid hp0
                      have HGW : Hid (w.grownBy W9 (Value.slice Al nl cl).ownBlock) := grown_then HGB.out hbw
                      clear hb9 hbw hpe hp0
                      go_wp2
                      go_ret2
                      exact ⟨OutR.err HE.out rfl HP0.out, HGW.out⟩
            · have h3i : ¬ ((j2 : Int) < (nr : Int)) := by omega
              have HE : Hid (goal = .ok qs) := by show _ = _; rw [HG2.out, List.drop_eq_nil_of_le (by have := HNR.out; omega)]; rfl
              clear hlt3
              go_wp2
              go_ret2
              exact ⟨OutR.ok HE.out rfl ⟨HAQ.out, HFR.out⟩, HGB.out⟩
theorem rread_ok (fs : Fl) (hfl : fs.length ≤ 1000) (htx : ∀ i (hi : i < fs.length), fs[i].2.length ≤ 100000) : ∀ k, ReadR fs k := by
  intro k
  induction k with
  | zero => exact rread_step fs hfl htx 0 (fun k' h => by omega)
  | succ k ih => exact rread_step fs hfl htx (k + 1) (fun k' h => by have e : k = k' := (by omega); exact e ▸ ih)
/-- What the document's Parse answers. -/
def ParseOutR (fs : Fl) (name : By) (e : Ending) (W : World) : Prop :=
  match readL fs 4 [] name [] with
  | .error c => e = .returned (.tuple #[.slice none 0 0, .int .i64 c]) ∧ c ≠ 0
  | .ok qs => ∃ r, e = .returned (.tuple #[r, .int .i64 0]) ∧ Ar 0 W r qs
theorem rparse8_any (fs : Fl) (name : By) (v : Value) (w : World) (hf : FilesIs w v fs) (hfl : fs.length ≤ 1000) (htx : ∀ i (hi : i < fs.length), fs[i].2.length ≤ 100000) :
    Calls Tryz.prog 6 #[v, .string (ba name)] w fun e W => ParseOutR fs name e W ∧ Below w.heap.size w W := by
  have HC := hid (rread_ok fs hfl htx 4 [] name [] v (.slice none 0 0) (.slice none 0 0) w rfl hf (World.ownsRow_nil _ _ _ _) (World.ownsRow_nil _ _ _ _) (by simp))
  obtain ⟨g, HG⟩ : ∃ g, Hid (readL fs 4 [] name [] = g) := ⟨_, rfl⟩
  rw [HG.out] at HC
  obtain ⟨A, cp, hv⟩ := hf.form
  obtain ⟨nf, hnf⟩ : ∃ nf, fs.length = nf := ⟨_, rfl⟩
  rw [hnf] at hv
  subst hv
  clear hf hfl htx hnf
  go_enter Tryz.func6, Tryz.ntmps6
  go_wp2_with (fail)
  refine HC.out.mono ?_
  intro e1 w1 h1
  obtain ⟨h1, hg1⟩ := h1
  have HB : Hid (Below w.heap.size w w1) := ⟨hg1.os, hg1.tape, hg1.output, hg1.size, fun j hj => hg1.block j hj (fun e => nomatch e)⟩
  clear hg1
  cases g with
  | error c =>
    obtain ⟨⟨Ae, ne, ke, rfl⟩, hc⟩ := h1.of_err
    have hcz : (c == 0) = false := by simp [hc]
    have hcn : (c != 0) = true := by simp [hc]
    have HCE := hid hc
    clear h1 hc
    go_wp2
    go_ret2
    refine ⟨?_, HB.out⟩
    unfold ParseOutR
    rw [HG.out]
    exact ⟨rfl, HCE.out⟩
  | ok qs =>
    obtain ⟨r, rfl, har, _⟩ := h1.of_ok
    have HAR := hid har
    obtain ⟨Ar2, cr2, hre⟩ := own_form har
    obtain ⟨m2, hm2⟩ : ∃ m2, qs.length = m2 := ⟨_, rfl⟩
    rw [hm2] at hre
    subst hre
    clear h1 har hm2
    go_wp2
    go_ret2
    refine ⟨?_, HB.out⟩
    unfold ParseOutR
    rw [HG.out]
    exact ⟨_, rfl, HAR.out⟩
end Go.Proofs.YtpipkgkfhbagmaaGreatDoor.Glob
