/- The document's files of patterns: begins, find, Lines: what each call does. Conditions: texts of at most 100000 bytes. -/
import Derived.Test.YtpipkgkfhbagmaaGreatDoorLM
import Derived.Test.YtpipkgkfhbagmaaGreatDoorLQ
namespace Go.Proofs.YtpipkgkfhbagmaaGreatDoor.Glob
open Go.RowKit Go.Maps
set_option maxRecDepth 100000 in
theorem begins8_any (s p : By) (w : World) :
    Calls Tryz.prog 38 #[.string (ba s), .string (ba p)] w fun e w' => e = .returned (.bool (pre p s)) ∧ w = w' := by
  have z1 := ba_size s
  have z2 := ba_size p
  have HP := hid (pre_take p s)
  by_cases h : p.length ≤ s.length
  · go_enter Tryz.func38, Tryz.ntmps38
    go_wp2
    go_ret
    exact ⟨ret_bool (by rw [HP.out, toList_ba, ba_take, toList_ba]), rfl⟩
  · go_enter Tryz.func38, Tryz.ntmps38
    go_wp2
    go_ret
    refine ⟨ret_bool ?_, rfl⟩
    cases hb : pre p s with
    | false => rfl
    | true => exact absurd (pre_len hb) h
theorem find_take {fs : Fl} {name : By} {k : Nat} (hk : k < fs.length) (h1 : ∀ i (hi : i < fs.length), i < k → (fs[i].1 == name) = false) (h2 : (fs[k].1 == name) = true) : findF fs name = some fs[k].2 := by
  induction fs generalizing k with
  | nil => simp at hk
  | cons f fs ih =>
    unfold findF
    rw [List.find?_cons]
    cases k with
    | zero => simp only [List.getElem_cons_zero] at h2 ⊢; rw [h2]
    | succ k =>
      have h0 := h1 0 (by simp) (by omega)
      simp only [List.getElem_cons_zero] at h0
      rw [h0]
      have := ih (k := k) (by simpa using hk) (fun i hi hik => by have := h1 (i + 1) (by simpa using hi) (by omega); simpa using this) (by simpa using h2)
      unfold findF at this
      simpa using this
theorem find_nil {fs : Fl} {name : By} (h1 : ∀ i (hi : i < fs.length), (fs[i].1 == name) = false) : findF fs name = none := by
  induction fs with
  | nil => rfl
  | cons f fs ih =>
    unfold findF
    rw [List.find?_cons]
    have h0 := h1 0 (by simp)
    simp only [List.getElem_cons_zero] at h0
    rw [h0]
    have := ih (fun i hi => by have := h1 (i + 1) (by simpa using hi); simpa using this)
    unfold findF at this
    exact this
def findV8 (o : Option By) : Value := match o with | none => .tuple #[.string ⟨#[]⟩, .bool false] | some t => .tuple #[.string (ba t), .bool true]
set_option maxRecDepth 100000 in
set_option maxHeartbeats 1000000 in
theorem rfind_any (v : Value) (fs : Fl) (name : By) (w : World) (hf : FilesIs w v fs) (hn : fs.length ≤ 1000) :
    Calls Tryz.prog 36 #[v, .string (ba name)] w fun e w' => e = .returned (findV8 (findF fs name)) ∧ w = w' := by
  have HF := hid hf
  obtain ⟨n, HNL⟩ : ∃ n, Hid (fs.length = n) := ⟨_, rfl⟩
  obtain ⟨A, cp, hv⟩ := hf.form
  rw [HNL.out] at hv hn
  subst hv
  obtain ⟨goal, HGO⟩ : ∃ g, Hid (findF fs name = g) := ⟨_, rfl⟩
  rw [HGO.out]
  have zn : (ba name).toList = name := toList_ba name
  clear hf
  go_enter Tryz.func36, Tryz.ntmps36
  go_wp2
  go_loopw [6] (fun i wr => ∃ (k : Nat), i = .int .i64 (k : Int) ∧ k ≤ n ∧ Hid (∀ i (hi : i < fs.length), i < k → (fs[i].1 == name) = false) ∧ w = wr)
    (fun i _ => n - (intOf i).toNat)
  case atStart => exact ⟨0, rfl, Nat.zero_le _, fun i hi h => absurd h (by omega), rfl⟩
  case round =>
    obtain ⟨k, rfl, hk, HT, rfl⟩ := hrel
    by_cases hlt : k < n
    · have hlt2 : k < fs.length := by rw [HNL.out]; exact hlt
      obtain ⟨g, cp2, hve, hg, hcell⟩ := HF.out.row (by omega)
      rw [HNL.out] at hve
      simp only [Value.slice.injEq, true_and] at hve
      obtain ⟨rfl, rfl⟩ := hve
      have c0 := (hcell k hlt2).1
      have c1 := (hcell k hlt2).2
      have hki : (k : Int) < (n : Int) := by omega
      have zx : (ba fs[k].1).toList = fs[k].1 := toList_ba _
      cases hb : (fs[k].1 == name) with
      | true =>
        have HG2 : Hid (goal = some fs[k].2) := by show _ = _; rw [← HGO.out]; exact find_take hlt2 HT.out hb
        have hb2 : (fs[k].1 = name) := by simpa using hb
        generalize fs[k].2 = t at c1 HG2
        generalize fs[k].1 = x at c0 zx hb hb2
        subst hb2
        clear hcell hb
        go_wp2
        go_ret2
        rw [HG2.out]
        exact ⟨rfl, rfl⟩
      | false =>
        have HT2 : Hid (∀ i (hi : i < fs.length), i < k + 1 → (fs[i].1 == name) = false) := fun i hi h => by
          by_cases hik : i < k
          · exact HT.out i hi hik
          · obtain rfl : i = k := by omega
            exact hb
        have hb2 : ¬ (fs[k].1 = name) := by simpa using hb
        generalize fs[k].2 = t at c1
        generalize fs[k].1 = x at c0 zx hb hb2
        clear hcell
        go_wp2
        exact ⟨⟨k + 1, by go_num, by omega, HT2.out, trivial⟩, by simp [intOf]; omega⟩
    · have hki : ¬ ((k : Int) < (n : Int)) := by omega
      have HG2 : Hid (goal = none) := by show _ = _; rw [← HGO.out]; exact find_nil (fun i hi => HT.out i hi (by have := HNL.out; omega))
      go_wp2
      go_ret2
      rw [HG2.out]
      exact ⟨rfl, rfl⟩
theorem trimR_cons (c : UInt8) (r : By) : trimR (c :: r) = if trimR r = [] then (if blk c then [] else [c]) else c :: trimR r := by
  unfold trimR
  rw [List.reverse_cons, List.dropWhile_append]
  cases h : r.reverse.dropWhile blk with
  | nil =>
    simp only [List.isEmpty_nil, if_true, List.reverse_nil]
    cases hb : blk c <;> simp [hb]
  | cons x t => simp
theorem trim_comm : ∀ l : By, trimR (l.dropWhile blk) = (trimR l).dropWhile blk
  | [] => rfl
  | c :: r => by
    have ih := trim_comm r
    rw [List.dropWhile_cons, trimR_cons]
    cases hb : blk c with
    | true =>
      simp only [if_true]
      rw [ih]
      split
      · rename_i h; rw [h]
      · rw [List.dropWhile_cons_of_pos hb]
    | false =>
      simp only [Bool.false_eq_true, if_false]
      rw [trimR_cons, hb]
      simp only [Bool.false_eq_true, if_false]
      split
      · rw [List.dropWhile_cons_of_neg (by rw [hb]; decide)]
      · rw [List.dropWhile_cons_of_neg (by rw [hb]; decide)]
/-- What stands from a to b. -/
def sg (s : By) (a b : Nat) : By := (s.drop a).take (b - a)
theorem sg_cons {s : By} {a b : Nat} (h : a < b) (hb : b ≤ s.length) : sg s a b = at8 s a :: sg s (a + 1) b := by
  unfold sg
  rw [List.drop_eq_getElem_cons (by omega), show b - a = (b - (a + 1)) + 1 by omega, List.take_succ_cons]
  simp [at8, List.getD, show a < s.length by omega]
theorem sg_snoc {s : By} {a b : Nat} (h : a < b) (hb : b ≤ s.length) : sg s a b = sg s a (b - 1) ++ [at8 s (b - 1)] := by
  unfold sg
  rw [show b - a = (b - 1 - a) + 1 by omega, List.take_succ_eq_append_getElem (by rw [List.length_drop]; omega)]
  congr 1
  have e : a + (b - 1 - a) = b - 1 := by omega
  simp [at8, List.getD, e, show b - 1 < s.length by omega]
theorem sg_nil (s : By) (a : Nat) : sg s a a = [] := by unfold sg; simp
theorem cutYtpipkgkfhbagmaaGreatDoorat : ∀ (l : By) (m : Nat), (∀ j, j < m → at8 l j ≠ 10) → m < l.length → at8 l m = 10 → cutN l = (l.take m, l.drop (m + 1), true)
  | [], m, _, hm, _ => by simp at hm
  | c :: l, 0, _, _, h => by
    have : c = 10 := h
    unfold cutN
    rw [if_pos this]; rfl
  | c :: l, m + 1, h1, hm, h => by
    have h0 : ¬ c = 10 := h1 0 (by omega)
    have ih := cutYtpipkgkfhbagmaaGreatDoorat l m (fun j hj => h1 (j + 1) (by omega)) (by simpa using hm) h
    unfold cutN
    rw [if_neg h0, ih]; rfl
theorem cutYtpipkgkfhbagmaaGreatDoorend : ∀ (l : By), (∀ j, j < l.length → at8 l j ≠ 10) → cutN l = (l, [], false)
  | [], _ => rfl
  | c :: l, h1 => by
    have h0 : ¬ c = 10 := h1 0 (by simp)
    have ih := cutYtpipkgkfhbagmaaGreatDoorend l (fun j hj => h1 (j + 1) (by simpa using hj))
    unfold cutN
    rw [if_neg h0, ih]
theorem at8_drop (l : By) (f m : Nat) : at8 (l.drop f) m = at8 l (f + m) := by simp [at8, List.getD, List.getElem?_drop]
/-- How far the lines of s have come: those before f are R; nothing ends from f to k. -/
def LI (s : By) (R : List By) (f k : Nat) : Prop :=
  f ≤ k ∧ R.length ≤ k ∧ (k ≤ s.length → rowsN s = R ++ rowsN (s.drop f) ∧ ∀ j, f ≤ j → j < k → at8 s j ≠ 10) ∧ (s.length < k → rowsN s = R)
theorem LI.on {s : By} {R : List By} {f k : Nat} (h : LI s R f k) (hk : k < s.length) (hx : at8 s k ≠ 10) : LI s R f (k + 1) := by
  obtain ⟨h1, h2, h3, _⟩ := h
  refine ⟨by omega, by omega, fun _ => ⟨(h3 (by omega)).1, fun j hj hjk => ?_⟩, fun h => absurd h (by omega)⟩
  by_cases hjk2 : j = k
  · rw [hjk2]; exact hx
  · exact (h3 (by omega)).2 j hj (by omega)
theorem LI.cut {s : By} {R : List By} {f k : Nat} (h : LI s R f k) (hk : k ≤ s.length) (hx : k < s.length → at8 s k = 10) : LI s (R ++ [sg s f k]) (k + 1) (k + 1) := by
  obtain ⟨h1, h2, h3, _⟩ := h
  obtain ⟨h4, h5⟩ := h3 hk
  refine ⟨Nat.le_refl _, by simp; omega, fun hk2 => ⟨?_, fun j hj hjk => absurd hjk (by omega)⟩, fun hk2 => ?_⟩
  · have hkl : k < s.length := by omega
    have hc := cutYtpipkgkfhbagmaaGreatDoorat (s.drop f) (k - f) (fun j hj => by rw [at8_drop]; exact h5 _ (by omega) (by omega)) (by rw [List.length_drop]; omega) (by rw [at8_drop, show f + (k - f) = k by omega]; exact hx hkl)
    rw [h4, rowsYtpipkgkfhbagmaaGreatDoorcut, hc]
    simp only [if_true]
    rw [List.drop_drop, show f + (k - f + 1) = k + 1 by omega, List.append_assoc]
    rfl
  · have hkl : k = s.length := by omega
    have hc := cutYtpipkgkfhbagmaaGreatDoorend (s.drop f) (fun j hj => by rw [at8_drop]; rw [List.length_drop] at hj; exact h5 _ (by omega) (by omega))
    rw [h4, rowsYtpipkgkfhbagmaaGreatDoorcut, hc]
    simp only [Bool.false_eq_true, if_false]
    congr 1
    unfold sg
    rw [List.take_of_length_le (by rw [List.length_drop]; omega)]
theorem ba_sg (s : By) (a b : Nat) : (ba s).extract a b = ba (sg s a b) := by
  apply ByteArray.ext; apply Array.ext'; simp [ba, sg]
set_option maxRecDepth 100000 in
set_option maxHeartbeats 8000000 in
theorem rlines_any (s : By) (w : World) (hs : s.length ≤ 100000) :
    Calls Tryz.prog 37 #[.string (ba s)] w fun e w' => (∃ v, e = .returned v ∧ Ar w.heap.size w' v ((rowsN s).map trimB)) ∧ Below w.heap.size w w' := by
  have z := ba_size s
  obtain ⟨n, hn⟩ : ∃ n, s.length = n := ⟨_, rfl⟩
  have HN := hid hn
  rw [hn] at z
  have HSL : Hid (n ≤ 100000) := by show _ ≤ _; omega
  have hnl : n ≤ 100000 := HSL.out
  have IX := hid (fun i (h : i < n) W => index_str s i (by rw [hn]; exact h) W)
  have BSG := hid (ba_sg s)
  generalize hX : ba s = X at z IX BSG
  clear hs hn hX
  go_enter Tryz.func37, Tryz.ntmps37
  go_wp2
  go_loopw [3, 4, 5] (fun l fr i wr => ∃ (f k : Nat) (R : List By) (A : Option Addr) (m c : Nat), i = .int .i64 (k : Int) ∧ fr = .int .i64 (f : Int) ∧ l = .slice A m c ∧ f ≤ n + 1 ∧ k ≤ n + 1 ∧ Hid (LI s R f k) ∧ Hid (Ar w.heap.size wr (.slice A m c) (R.map trimB)) ∧ Hid (Below w.heap.size w wr))
    (fun _ _ i _ => n + 1 - (intOf i).toNat)
  case atStart => exact ⟨0, 0, [], none, 0, 0, rfl, rfl, rfl, by omega, by omega, ⟨Nat.le_refl _, Nat.le_refl _, fun _ => ⟨rfl, fun j _ hj => absurd hj (by omega)⟩, fun h => absurd h (by omega)⟩, World.ownsRow_nil _ _ _ _, Below.refl _ _⟩
  case round =>
    obtain ⟨f, k, R, A, m, c, rfl, rfl, rfl, hfn, hkn, HLI, HA, HB⟩ := hrel
    by_cases hk : k ≤ n
    · have hki : (k : Int) ≤ (n : Int) := by omega
      have HKN := hid hk
      by_cases hon : k < n ∧ at8 s k ≠ 10
      · have hkl : (k : Int) < (n : Int) := by omega
        have HLI2 := hid (HLI.out.on (by have := HN.out; omega) hon.2)
        have ix := IX.out k hon.1
        have hq : (b8 (at8 s k) == 10) = false := by rw [show (10 : Int) = b8 10 from rfl, b8_eq]; simpa using hon.2
        have hqn : (b8 (at8 s k) != 10) = true := by rw [bne, hq]; rfl
        generalize at8 s k = x at ix hq hqn
        clear hon hk
        go_wp2
        exact ⟨⟨f, k + 1, R, A, m, c, by go_num, rfl, rfl, by omega, by omega, HLI2.out, HA.out, HB.out⟩, by simp [intOf]; omega⟩
      · have HCUT := hid (HLI.out.cut (k := k) (by have := HN.out; omega) (fun h => by
          have := HN.out
          by_cases hx : at8 s k = 10
          · exact hx
          · exact absurd ⟨by omega, hx⟩ hon))
        have HFK := hid HLI.out.1
        have HRK := hid HLI.out.2.1
        by_cases hkl2 : k < n
        · have hkl : (k : Int) < (n : Int) := by omega
          have hx10 : at8 s k = 10 := by
            by_cases hx : at8 s k = 10
            · exact hx
            · exact absurd ⟨hkl2, hx⟩ hon
          have ix := IX.out k hkl2
          rw [hx10] at ix
          rw [show b8 10 = 10 from rfl] at ix
          clear hon hk hkl2 hx10
          go_wp2
          go_loopw [6] (fun av wx => ∃ a : Nat, av = .int .i64 (a : Int) ∧ f ≤ a ∧ a ≤ k ∧ Hid ((sg s f k).dropWhile blk = (sg s a k).dropWhile blk) ∧ wr = wx)
            (fun av _ => k - (intOf av).toNat)
          case atStart => exact ⟨f, rfl, Nat.le_refl _, HFK.out, rfl, rfl⟩
          case round =>
            obtain ⟨a, rfl, hfa, hak, HY0, rfl⟩ := hrel
            by_cases hlt2 : a < k
            · have h2i : (a : Int) < (k : Int) := by omega
              have ix := IX.out a (by have := HKN.out; omega)
              have HSC : Hid (sg s a k = at8 s a :: sg s (a + 1) k) := sg_cons hlt2 (by have := HN.out; have := HKN.out; omega)
              have HAK := hid hlt2
              by_cases hx32 : at8 s a = 32
              · rw [hx32] at ix HSC
                rw [show b8 32 = 32 from rfl] at ix
                have HY1 : Hid ((sg s f k).dropWhile blk = (sg s (a + 1) k).dropWhile blk) := by show _ = _; rw [HY0.out, HSC.out]; rfl
                clear hx32 hlt2
                go_wp2
                exact ⟨⟨a + 1, by go_num, by omega, HAK.out, HY1.out, trivial⟩, by have := HAK.out; simp [intOf]; omega⟩
              · by_cases hx9 : at8 s a = 9
                · rw [hx9] at ix HSC
                  rw [show b8 9 = 9 from rfl] at ix
                  have HY1 : Hid ((sg s f k).dropWhile blk = (sg s (a + 1) k).dropWhile blk) := by show _ = _; rw [HY0.out, HSC.out]; rfl
                  clear hx32 hx9 hlt2
                  go_wp2
                  exact ⟨⟨a + 1, by go_num, by omega, HAK.out, HY1.out, trivial⟩, by have := HAK.out; simp [intOf]; omega⟩
                · have q32 : (b8 (at8 s a) == 32) = false := by rw [show (32 : Int) = b8 32 from rfl, b8_eq]; simpa using hx32
                  have q9 : (b8 (at8 s a) == 9) = false := by rw [show (9 : Int) = b8 9 from rfl, b8_eq]; simpa using hx9
                  have HY : Hid ((sg s f k).dropWhile blk = sg s a k) := by
                    show _ = _
                    rw [HY0.out, HSC.out, List.dropWhile_cons_of_neg]
                    simp [blk, hx32, hx9]
                  generalize at8 s a = x at ix q32 q9
                  clear hx32 hx9 hlt2 HSC
                  go_wp2
                  go_loopw [7] (fun bv wx => ∃ b : Nat, bv = .int .i64 (b : Int) ∧ a ≤ b ∧ b ≤ k ∧ Hid (trimR (sg s a k) = trimR (sg s a b)) ∧ wr = wx)
                    (fun bv _ => (intOf bv).toNat)
                  case atStart => exact ⟨k, rfl, by omega, Nat.le_refl _, rfl, rfl⟩
                  case round =>
                    obtain ⟨b, rfl, hab0, hbk, HZ0, rfl⟩ := hrel
                    by_cases hlt3 : a < b
                    · have h3i : (a : Int) < (b : Int) := by omega
                      obtain ⟨b1, hb1⟩ : ∃ b1, b - 1 = b1 := ⟨_, rfl⟩
                      have hb1i : (b : Int) - 1 = (b1 : Int) := by omega
                      have hsn : sg s a b = sg s a b1 ++ [at8 s b1] := by rw [← hb1]; exact sg_snoc hlt3 (by have := HN.out; have := HKN.out; omega)
                      have ix := IX.out b1 (by have := HKN.out; omega)
                      have HSN : Hid (trimR (sg s a b) = if blk (at8 s b1) then trimR (sg s a b1) else sg s a b) := by show _ = _; rw [hsn, trimR_snoc]
                      have HLT : Hid (b1 + 1 = b ∧ a ≤ b1) := ⟨by omega, by omega⟩
                      clear hsn hb1
                      by_cases hx32 : at8 s b1 = 32
                      · rw [hx32] at ix HSN
                        rw [show b8 32 = 32 from rfl] at ix
                        have HZ1 : Hid (trimR (sg s a k) = trimR (sg s a b1)) := by show _ = _; rw [HZ0.out, HSN.out]; rfl
                        clear hx32 hlt3
                        go_wp2
                        exact ⟨⟨b1, rfl, HLT.out.2, by have := HLT.out.1; omega, HZ1.out, trivial⟩, by have := HLT.out.1; simp [intOf]; omega⟩
                      · by_cases hx9 : at8 s b1 = 9
                        · rw [hx9] at ix HSN
                          rw [show b8 9 = 9 from rfl] at ix
                          have HZ1 : Hid (trimR (sg s a k) = trimR (sg s a b1)) := by show _ = _; rw [HZ0.out, HSN.out]; rfl
                          clear hx32 hx9 hlt3
                          go_wp2
                          exact ⟨⟨b1, rfl, HLT.out.2, by have := HLT.out.1; omega, HZ1.out, trivial⟩, by have := HLT.out.1; simp [intOf]; omega⟩
                        · have q32 : (b8 (at8 s b1) == 32) = false := by rw [show (32 : Int) = b8 32 from rfl, b8_eq]; simpa using hx32
                          have q9 : (b8 (at8 s b1) == 9) = false := by rw [show (9 : Int) = b8 9 from rfl, b8_eq]; simpa using hx9
                          have HZ : Hid (trimR (sg s a k) = sg s a b) := by
                            show _ = _
                            rw [HZ0.out, HSN.out, if_neg]
                            simp [blk, hx32, hx9]
                          generalize at8 s b1 = x at ix q32 q9
                          clear hx32 hx9 hlt3 HSN
                          obtain ⟨t, ht⟩ : ∃ t, sg s a b = t := ⟨_, rfl⟩
                          have HT : Hid (trimB (sg s f k) = t) := by
                            show _ = _
                            unfold trimB
                            rw [← trim_comm, HY.out, HZ.out, ← ht]
                          have bsg := BSG.out a b
                          rw [ht] at bsg
                          have hab : (a : Int) ≤ (b : Int) := by omega
                          have hbn : (b : Int) ≤ (n : Int) := by have := HKN.out; omega
                          obtain ⟨Wb, hWb⟩ : ∃ Wb, wr.alloc (.cells #[.string (ba t)] 9) = Wb := ⟨_, rfl⟩
                          have bb : Below wr.heap.size wr Wb := hWb ▸ (Below.refl _ _).alloc (Nat.le_refl _) _
                          have hfb : Has Wb wr.heap.size 9 #[.string (ba t)] := hWb ▸ Has.fresh _ _ _
                          obtain ⟨v5, w5, hr5, ha5, _, hg5, _⟩ := append_str (own_below HA.out bb) hfb (by rw [List.length_map]; have := HRK.out; have := HKN.out; have := HSL.out; omega) (Nat.le_trans HB.out.size bb.size) 23
                          have hts : R.map trimB ++ [t] = (R ++ [sg s f k]).map trimB := by rw [List.map_append, List.map_cons, HT.out]; rfl
                          rw [hts] at ha5
                          have HR5 := hid hr5
                          have HA5 := hid ha5
                          have HB5 : Hid (Below w.heap.size w w5) := grown_below hg5 (HB.out.thenG bb) (fun j hj => (own_inside HA.out j hj).1) (Nat.le_trans HB.out.size bb.size)
                          obtain ⟨A5, c5, hv5⟩ := own_form ha5
                          generalize ((R ++ [sg s f k]).map trimB).length = m5 at hv5
                          subst hv5
                          clear ht bb hfb hr5 ha5 hg5 hts
                          go_wp2_with (at_builtin; refine wpList_append_run rfl (.tmp 62) (.tmp 67) 23 23 rfl ⟨_, w5, HR5.out, ?_⟩)
                          first | (exact ⟨⟨k + 1, k + 1, R ++ [sg s f k], A5, m5, c5, by go_num, by go_num, rfl, by have := HKN.out; omega, by have := HKN.out; omega, HCUT.out, HA5.out, HB5.out⟩, by have := HKN.out; simp [intOf]; omega⟩) | omega
                    · have h3i : ¬ ((a : Int) < (b : Int)) := by omega
                      have HZ : Hid (trimR (sg s a k) = sg s a b) := by
                        show _ = _
                        obtain rfl : a = b := by omega
                        rw [HZ0.out, sg_nil]; rfl
                      clear hlt3
                      obtain ⟨t, ht⟩ : ∃ t, sg s a b = t := ⟨_, rfl⟩
                      have HT : Hid (trimB (sg s f k) = t) := by
                        show _ = _
                        unfold trimB
                        rw [← trim_comm, HY.out, HZ.out, ← ht]
                      have bsg := BSG.out a b
                      rw [ht] at bsg
                      have hab : (a : Int) ≤ (b : Int) := by omega
                      have hbn : (b : Int) ≤ (n : Int) := by have := HKN.out; omega
                      obtain ⟨Wb, hWb⟩ : ∃ Wb, wr.alloc (.cells #[.string (ba t)] 9) = Wb := ⟨_, rfl⟩
                      have bb : Below wr.heap.size wr Wb := hWb ▸ (Below.refl _ _).alloc (Nat.le_refl _) _
                      have hfb : Has Wb wr.heap.size 9 #[.string (ba t)] := hWb ▸ Has.fresh _ _ _
                      obtain ⟨v5, w5, hr5, ha5, _, hg5, _⟩ := append_str (own_below HA.out bb) hfb (by rw [List.length_map]; have := HRK.out; have := HKN.out; have := HSL.out; omega) (Nat.le_trans HB.out.size bb.size) 23
                      have hts : R.map trimB ++ [t] = (R ++ [sg s f k]).map trimB := by rw [List.map_append, List.map_cons, HT.out]; rfl
                      rw [hts] at ha5
                      have HR5 := hid hr5
                      have HA5 := hid ha5
                      have HB5 : Hid (Below w.heap.size w w5) := grown_below hg5 (HB.out.thenG bb) (fun j hj => (own_inside HA.out j hj).1) (Nat.le_trans HB.out.size bb.size)
                      obtain ⟨A5, c5, hv5⟩ := own_form ha5
                      generalize ((R ++ [sg s f k]).map trimB).length = m5 at hv5
                      subst hv5
                      clear ht bb hfb hr5 ha5 hg5 hts
                      go_wp2_with (at_builtin; refine wpList_append_run rfl (.tmp 62) (.tmp 67) 23 23 rfl ⟨_, w5, HR5.out, ?_⟩)
                      first | (exact ⟨⟨k + 1, k + 1, R ++ [sg s f k], A5, m5, c5, by go_num, by go_num, rfl, by have := HKN.out; omega, by have := HKN.out; omega, HCUT.out, HA5.out, HB5.out⟩, by have := HKN.out; simp [intOf]; omega⟩) | omega
            · have h2i : ¬ ((a : Int) < (k : Int)) := by omega
              have HY : Hid ((sg s f k).dropWhile blk = sg s a k) := by
                show _ = _
                obtain rfl : a = k := by omega
                rw [HY0.out, sg_nil]; rfl
              clear hlt2
              go_wp2
              go_loopw [7] (fun bv wx => ∃ b : Nat, bv = .int .i64 (b : Int) ∧ a ≤ b ∧ b ≤ k ∧ Hid (trimR (sg s a k) = trimR (sg s a b)) ∧ wr = wx)
                (fun bv _ => (intOf bv).toNat)
              case atStart => exact ⟨k, rfl, by omega, Nat.le_refl _, rfl, rfl⟩
              case round =>
                obtain ⟨b, rfl, hab0, hbk, HZ0, rfl⟩ := hrel
                by_cases hlt3 : a < b
                · have h3i : (a : Int) < (b : Int) := by omega
                  obtain ⟨b1, hb1⟩ : ∃ b1, b - 1 = b1 := ⟨_, rfl⟩
                  have hb1i : (b : Int) - 1 = (b1 : Int) := by omega
                  have hsn : sg s a b = sg s a b1 ++ [at8 s b1] := by rw [← hb1]; exact sg_snoc hlt3 (by have := HN.out; have := HKN.out; omega)
                  have ix := IX.out b1 (by have := HKN.out; omega)
                  have HSN : Hid (trimR (sg s a b) = if blk (at8 s b1) then trimR (sg s a b1) else sg s a b) := by show _ = _; rw [hsn, trimR_snoc]
                  have HLT : Hid (b1 + 1 = b ∧ a ≤ b1) := ⟨by omega, by omega⟩
                  clear hsn hb1
                  by_cases hx32 : at8 s b1 = 32
                  · rw [hx32] at ix HSN
                    rw [show b8 32 = 32 from rfl] at ix
                    have HZ1 : Hid (trimR (sg s a k) = trimR (sg s a b1)) := by show _ = _; rw [HZ0.out, HSN.out]; rfl
                    clear hx32 hlt3
                    go_wp2
                    exact ⟨⟨b1, rfl, HLT.out.2, by have := HLT.out.1; omega, HZ1.out, trivial⟩, by have := HLT.out.1; simp [intOf]; omega⟩
                  · by_cases hx9 : at8 s b1 = 9
                    · rw [hx9] at ix HSN
                      rw [show b8 9 = 9 from rfl] at ix
                      have HZ1 : Hid (trimR (sg s a k) = trimR (sg s a b1)) := by show _ = _; rw [HZ0.out, HSN.out]; rfl
                      clear hx32 hx9 hlt3
                      go_wp2
                      exact ⟨⟨b1, rfl, HLT.out.2, by have := HLT.out.1; omega, HZ1.out, trivial⟩, by have := HLT.out.1; simp [intOf]; omega⟩
                    · have q32 : (b8 (at8 s b1) == 32) = false := by rw [show (32 : Int) = b8 32 from rfl, b8_eq]; simpa using hx32
                      have q9 : (b8 (at8 s b1) == 9) = false := by rw [show (9 : Int) = b8 9 from rfl, b8_eq]; simpa using hx9
                      have HZ : Hid (trimR (sg s a k) = sg s a b) := by
                        show _ = _
                        rw [HZ0.out, HSN.out, if_neg]
                        simp [blk, hx32, hx9]
                      generalize at8 s b1 = x at ix q32 q9
                      clear hx32 hx9 hlt3 HSN
                      obtain ⟨t, ht⟩ : ∃ t, sg s a b = t := ⟨_, rfl⟩
                      have HT : Hid (trimB (sg s f k) = t) := by
                        show _ = _
                        unfold trimB
                        rw [← trim_comm, HY.out, HZ.out, ← ht]
                      have bsg := BSG.out a b
                      rw [ht] at bsg
                      have hab : (a : Int) ≤ (b : Int) := by omega
                      have hbn : (b : Int) ≤ (n : Int) := by have := HKN.out; omega
                      obtain ⟨Wb, hWb⟩ : ∃ Wb, wr.alloc (.cells #[.string (ba t)] 9) = Wb := ⟨_, rfl⟩
                      have bb : Below wr.heap.size wr Wb := hWb ▸ (Below.refl _ _).alloc (Nat.le_refl _) _
                      have hfb : Has Wb wr.heap.size 9 #[.string (ba t)] := hWb ▸ Has.fresh _ _ _
                      obtain ⟨v5, w5, hr5, ha5, _, hg5, _⟩ := append_str (own_below HA.out bb) hfb (by rw [List.length_map]; have := HRK.out; have := HKN.out; have := HSL.out; omega) (Nat.le_trans HB.out.size bb.size) 23
                      have hts : R.map trimB ++ [t] = (R ++ [sg s f k]).map trimB := by rw [List.map_append, List.map_cons, HT.out]; rfl
                      rw [hts] at ha5
                      have HR5 := hid hr5
                      have HA5 := hid ha5
                      have HB5 : Hid (Below w.heap.size w w5) := grown_below hg5 (HB.out.thenG bb) (fun j hj => (own_inside HA.out j hj).1) (Nat.le_trans HB.out.size bb.size)
                      obtain ⟨A5, c5, hv5⟩ := own_form ha5
                      generalize ((R ++ [sg s f k]).map trimB).length = m5 at hv5
                      subst hv5
                      clear ht bb hfb hr5 ha5 hg5 hts
                      go_wp2_with (at_builtin; refine wpList_append_run rfl (.tmp 62) (.tmp 67) 23 23 rfl ⟨_, w5, HR5.out, ?_⟩)
                      first | (exact ⟨⟨k + 1, k + 1, R ++ [sg s f k], A5, m5, c5, by go_num, by go_num, rfl, by have := HKN.out; omega, by have := HKN.out; omega, HCUT.out, HA5.out, HB5.out⟩, by have := HKN.out; simp [intOf]; omega⟩) | omega
                · have h3i : ¬ ((a : Int) < (b : Int)) := by omega
                  have HZ : Hid (trimR (sg s a k) = sg s a b) := by
                    show _ = _
                    obtain rfl : a = b := by omega
                    rw [HZ0.out, sg_nil]; rfl
                  clear hlt3
                  obtain ⟨t, ht⟩ : ∃ t, sg s a b = t := ⟨_, rfl⟩
                  have HT : Hid (trimB (sg s f k) = t) := by
                    show _ = _
                    unfold trimB
                    rw [← trim_comm, HY.out, HZ.out, ← ht]
                  have bsg := BSG.out a b
                  rw [ht] at bsg
                  have hab : (a : Int) ≤ (b : Int) := by omega
                  have hbn : (b : Int) ≤ (n : Int) := by have := HKN.out; omega
                  obtain ⟨Wb, hWb⟩ : ∃ Wb, wr.alloc (.cells #[.string (ba t)] 9) = Wb := ⟨_, rfl⟩
                  have bb : Below wr.heap.size wr Wb := hWb ▸ (Below.refl _ _).alloc (Nat.le_refl _) _
                  have hfb : Has Wb wr.heap.size 9 #[.string (ba t)] := hWb ▸ Has.fresh _ _ _
                  obtain ⟨v5, w5, hr5, ha5, _, hg5, _⟩ := append_str (own_below HA.out bb) hfb (by rw [List.length_map]; have := HRK.out; have := HKN.out; have := HSL.out; omega) (Nat.le_trans HB.out.size bb.size) 23
                  have hts : R.map trimB ++ [t] = (R ++ [sg s f k]).map trimB := by rw [List.map_append, List.map_cons, HT.out]; rfl
                  rw [hts] at ha5
                  have HR5 := hid hr5
                  have HA5 := hid ha5
                  have HB5 : Hid (Below w.heap.size w w5) := grown_below hg5 (HB.out.thenG bb) (fun j hj => (own_inside HA.out j hj).1) (Nat.le_trans HB.out.size bb.size)
                  obtain ⟨A5, c5, hv5⟩ := own_form ha5
                  generalize ((R ++ [sg s f k]).map trimB).length = m5 at hv5
                  subst hv5
                  clear ht bb hfb hr5 ha5 hg5 hts
                  go_wp2_with (at_builtin; refine wpList_append_run rfl (.tmp 62) (.tmp 67) 23 23 rfl ⟨_, w5, HR5.out, ?_⟩)
                  first | (exact ⟨⟨k + 1, k + 1, R ++ [sg s f k], A5, m5, c5, by go_num, by go_num, rfl, by have := HKN.out; omega, by have := HKN.out; omega, HCUT.out, HA5.out, HB5.out⟩, by have := HKN.out; simp [intOf]; omega⟩) | omega
        · have hkl : ¬ ((k : Int) < (n : Int)) := by omega
          clear hon hk hkl2
          go_wp2
          go_loopw [6] (fun av wx => ∃ a : Nat, av = .int .i64 (a : Int) ∧ f ≤ a ∧ a ≤ k ∧ Hid ((sg s f k).dropWhile blk = (sg s a k).dropWhile blk) ∧ wr = wx)
            (fun av _ => k - (intOf av).toNat)
          case atStart => exact ⟨f, rfl, Nat.le_refl _, HFK.out, rfl, rfl⟩
          case round =>
            obtain ⟨a, rfl, hfa, hak, HY0, rfl⟩ := hrel
            by_cases hlt2 : a < k
            · have h2i : (a : Int) < (k : Int) := by omega
              have ix := IX.out a (by have := HKN.out; omega)
              have HSC : Hid (sg s a k = at8 s a :: sg s (a + 1) k) := sg_cons hlt2 (by have := HN.out; have := HKN.out; omega)
              have HAK := hid hlt2
              by_cases hx32 : at8 s a = 32
              · rw [hx32] at ix HSC
                rw [show b8 32 = 32 from rfl] at ix
                have HY1 : Hid ((sg s f k).dropWhile blk = (sg s (a + 1) k).dropWhile blk) := by show _ = _; rw [HY0.out, HSC.out]; rfl
                clear hx32 hlt2
                go_wp2
                exact ⟨⟨a + 1, by go_num, by omega, HAK.out, HY1.out, trivial⟩, by have := HAK.out; simp [intOf]; omega⟩
              · by_cases hx9 : at8 s a = 9
                · rw [hx9] at ix HSC
                  rw [show b8 9 = 9 from rfl] at ix
                  have HY1 : Hid ((sg s f k).dropWhile blk = (sg s (a + 1) k).dropWhile blk) := by show _ = _; rw [HY0.out, HSC.out]; rfl
                  clear hx32 hx9 hlt2
                  go_wp2
                  exact ⟨⟨a + 1, by go_num, by omega, HAK.out, HY1.out, trivial⟩, by have := HAK.out; simp [intOf]; omega⟩
                · have q32 : (b8 (at8 s a) == 32) = false := by rw [show (32 : Int) = b8 32 from rfl, b8_eq]; simpa using hx32
                  have q9 : (b8 (at8 s a) == 9) = false := by rw [show (9 : Int) = b8 9 from rfl, b8_eq]; simpa using hx9
                  have HY : Hid ((sg s f k).dropWhile blk = sg s a k) := by
                    show _ = _
                    rw [HY0.out, HSC.out, List.dropWhile_cons_of_neg]
                    simp [blk, hx32, hx9]
                  generalize at8 s a = x at ix q32 q9
                  clear hx32 hx9 hlt2 HSC
                  go_wp2
                  go_loopw [7] (fun bv wx => ∃ b : Nat, bv = .int .i64 (b : Int) ∧ a ≤ b ∧ b ≤ k ∧ Hid (trimR (sg s a k) = trimR (sg s a b)) ∧ wr = wx)
                    (fun bv _ => (intOf bv).toNat)
                  case atStart => exact ⟨k, rfl, by omega, Nat.le_refl _, rfl, rfl⟩
                  case round =>
                    obtain ⟨b, rfl, hab0, hbk, HZ0, rfl⟩ := hrel
                    by_cases hlt3 : a < b
                    · have h3i : (a : Int) < (b : Int) := by omega
                      obtain ⟨b1, hb1⟩ : ∃ b1, b - 1 = b1 := ⟨_, rfl⟩
                      have hb1i : (b : Int) - 1 = (b1 : Int) := by omega
                      have hsn : sg s a b = sg s a b1 ++ [at8 s b1] := by rw [← hb1]; exact sg_snoc hlt3 (by have := HN.out; have := HKN.out; omega)
                      have ix := IX.out b1 (by have := HKN.out; omega)
                      have HSN : Hid (trimR (sg s a b) = if blk (at8 s b1) then trimR (sg s a b1) else sg s a b) := by show _ = _; rw [hsn, trimR_snoc]
                      have HLT : Hid (b1 + 1 = b ∧ a ≤ b1) := ⟨by omega, by omega⟩
                      clear hsn hb1
                      by_cases hx32 : at8 s b1 = 32
                      · rw [hx32] at ix HSN
                        rw [show b8 32 = 32 from rfl] at ix
                        have HZ1 : Hid (trimR (sg s a k) = trimR (sg s a b1)) := by show _ = _; rw [HZ0.out, HSN.out]; rfl
                        clear hx32 hlt3
                        go_wp2
                        exact ⟨⟨b1, rfl, HLT.out.2, by have := HLT.out.1; omega, HZ1.out, trivial⟩, by have := HLT.out.1; simp [intOf]; omega⟩
                      · by_cases hx9 : at8 s b1 = 9
                        · rw [hx9] at ix HSN
                          rw [show b8 9 = 9 from rfl] at ix
                          have HZ1 : Hid (trimR (sg s a k) = trimR (sg s a b1)) := by show _ = _; rw [HZ0.out, HSN.out]; rfl
                          clear hx32 hx9 hlt3
                          go_wp2
                          exact ⟨⟨b1, rfl, HLT.out.2, by have := HLT.out.1; omega, HZ1.out, trivial⟩, by have := HLT.out.1; simp [intOf]; omega⟩
                        · have q32 : (b8 (at8 s b1) == 32) = false := by rw [show (32 : Int) = b8 32 from rfl, b8_eq]; simpa using hx32
                          have q9 : (b8 (at8 s b1) == 9) = false := by rw [show (9 : Int) = b8 9 from rfl, b8_eq]; simpa using hx9
                          have HZ : Hid (trimR (sg s a k) = sg s a b) := by
                            show _ = _
                            rw [HZ0.out, HSN.out, if_neg]
                            simp [blk, hx32, hx9]
                          generalize at8 s b1 = x at ix q32 q9
                          clear hx32 hx9 hlt3 HSN
                          obtain ⟨t, ht⟩ : ∃ t, sg s a b = t := ⟨_, rfl⟩
                          have HT : Hid (trimB (sg s f k) = t) := by
                            show _ = _
                            unfold trimB
                            rw [← trim_comm, HY.out, HZ.out, ← ht]
                          have bsg := BSG.out a b
                          rw [ht] at bsg
                          have hab : (a : Int) ≤ (b : Int) := by omega
                          have hbn : (b : Int) ≤ (n : Int) := by have := HKN.out; omega
                          obtain ⟨Wb, hWb⟩ : ∃ Wb, wr.alloc (.cells #[.string (ba t)] 9) = Wb := ⟨_, rfl⟩
                          have bb : Below wr.heap.size wr Wb := hWb ▸ (Below.refl _ _).alloc (Nat.le_refl _) _
                          have hfb : Has Wb wr.heap.size 9 #[.string (ba t)] := hWb ▸ Has.fresh _ _ _
                          obtain ⟨v5, w5, hr5, ha5, _, hg5, _⟩ := append_str (own_below HA.out bb) hfb (by rw [List.length_map]; have := HRK.out; have := HKN.out; have := HSL.out; omega) (Nat.le_trans HB.out.size bb.size) 23
                          have hts : R.map trimB ++ [t] = (R ++ [sg s f k]).map trimB := by rw [List.map_append, List.map_cons, HT.out]; rfl
                          rw [hts] at ha5
                          have HR5 := hid hr5
                          have HA5 := hid ha5
                          have HB5 : Hid (Below w.heap.size w w5) := grown_below hg5 (HB.out.thenG bb) (fun j hj => (own_inside HA.out j hj).1) (Nat.le_trans HB.out.size bb.size)
                          obtain ⟨A5, c5, hv5⟩ := own_form ha5
                          generalize ((R ++ [sg s f k]).map trimB).length = m5 at hv5
                          subst hv5
                          clear ht bb hfb hr5 ha5 hg5 hts
                          go_wp2_with (at_builtin; refine wpList_append_run rfl (.tmp 62) (.tmp 67) 23 23 rfl ⟨_, w5, HR5.out, ?_⟩)
                          first | (exact ⟨⟨k + 1, k + 1, R ++ [sg s f k], A5, m5, c5, by go_num, by go_num, rfl, by have := HKN.out; omega, by have := HKN.out; omega, HCUT.out, HA5.out, HB5.out⟩, by have := HKN.out; simp [intOf]; omega⟩) | omega
                    · have h3i : ¬ ((a : Int) < (b : Int)) := by omega
                      have HZ : Hid (trimR (sg s a k) = sg s a b) := by
                        show _ = _
                        obtain rfl : a = b := by omega
                        rw [HZ0.out, sg_nil]; rfl
                      clear hlt3
                      obtain ⟨t, ht⟩ : ∃ t, sg s a b = t := ⟨_, rfl⟩
                      have HT : Hid (trimB (sg s f k) = t) := by
                        show _ = _
                        unfold trimB
                        rw [← trim_comm, HY.out, HZ.out, ← ht]
                      have bsg := BSG.out a b
                      rw [ht] at bsg
                      have hab : (a : Int) ≤ (b : Int) := by omega
                      have hbn : (b : Int) ≤ (n : Int) := by have := HKN.out; omega
                      obtain ⟨Wb, hWb⟩ : ∃ Wb, wr.alloc (.cells #[.string (ba t)] 9) = Wb := ⟨_, rfl⟩
                      have bb : Below wr.heap.size wr Wb := hWb ▸ (Below.refl _ _).alloc (Nat.le_refl _) _
                      have hfb : Has Wb wr.heap.size 9 #[.string (ba t)] := hWb ▸ Has.fresh _ _ _
                      obtain ⟨v5, w5, hr5, ha5, _, hg5, _⟩ := append_str (own_below HA.out bb) hfb (by rw [List.length_map]; have := HRK.out; have := HKN.out; have := HSL.out; omega) (Nat.le_trans HB.out.size bb.size) 23
                      have hts : R.map trimB ++ [t] = (R ++ [sg s f k]).map trimB := by rw [List.map_append, List.map_cons, HT.out]; rfl
                      rw [hts] at ha5
                      have HR5 := hid hr5
                      have HA5 := hid ha5
                      have HB5 : Hid (Below w.heap.size w w5) := grown_below hg5 (HB.out.thenG bb) (fun j hj => (own_inside HA.out j hj).1) (Nat.le_trans HB.out.size bb.size)
                      obtain ⟨A5, c5, hv5⟩ := own_form ha5
                      generalize ((R ++ [sg s f k]).map trimB).length = m5 at hv5
                      subst hv5
                      clear ht bb hfb hr5 ha5 hg5 hts
                      go_wp2_with (at_builtin; refine wpList_append_run rfl (.tmp 62) (.tmp 67) 23 23 rfl ⟨_, w5, HR5.out, ?_⟩)
                      first | (exact ⟨⟨k + 1, k + 1, R ++ [sg s f k], A5, m5, c5, by go_num, by go_num, rfl, by have := HKN.out; omega, by have := HKN.out; omega, HCUT.out, HA5.out, HB5.out⟩, by have := HKN.out; simp [intOf]; omega⟩) | omega
            · have h2i : ¬ ((a : Int) < (k : Int)) := by omega
              have HY : Hid ((sg s f k).dropWhile blk = sg s a k) := by
                show _ = _
                obtain rfl : a = k := by omega
                rw [HY0.out, sg_nil]; rfl
              clear hlt2
              go_wp2
              go_loopw [7] (fun bv wx => ∃ b : Nat, bv = .int .i64 (b : Int) ∧ a ≤ b ∧ b ≤ k ∧ Hid (trimR (sg s a k) = trimR (sg s a b)) ∧ wr = wx)
                (fun bv _ => (intOf bv).toNat)
              case atStart => exact ⟨k, rfl, by omega, Nat.le_refl _, rfl, rfl⟩
              case round =>
                obtain ⟨b, rfl, hab0, hbk, HZ0, rfl⟩ := hrel
                by_cases hlt3 : a < b
                · have h3i : (a : Int) < (b : Int) := by omega
                  obtain ⟨b1, hb1⟩ : ∃ b1, b - 1 = b1 := ⟨_, rfl⟩
                  have hb1i : (b : Int) - 1 = (b1 : Int) := by omega
                  have hsn : sg s a b = sg s a b1 ++ [at8 s b1] := by rw [← hb1]; exact sg_snoc hlt3 (by have := HN.out; have := HKN.out; omega)
                  have ix := IX.out b1 (by have := HKN.out; omega)
                  have HSN : Hid (trimR (sg s a b) = if blk (at8 s b1) then trimR (sg s a b1) else sg s a b) := by show _ = _; rw [hsn, trimR_snoc]
                  have HLT : Hid (b1 + 1 = b ∧ a ≤ b1) := ⟨by omega, by omega⟩
                  clear hsn hb1
                  by_cases hx32 : at8 s b1 = 32
                  · rw [hx32] at ix HSN
                    rw [show b8 32 = 32 from rfl] at ix
                    have HZ1 : Hid (trimR (sg s a k) = trimR (sg s a b1)) := by show _ = _; rw [HZ0.out, HSN.out]; rfl
                    clear hx32 hlt3
                    go_wp2
                    exact ⟨⟨b1, rfl, HLT.out.2, by have := HLT.out.1; omega, HZ1.out, trivial⟩, by have := HLT.out.1; simp [intOf]; omega⟩
                  · by_cases hx9 : at8 s b1 = 9
                    · rw [hx9] at ix HSN
                      rw [show b8 9 = 9 from rfl] at ix
                      have HZ1 : Hid (trimR (sg s a k) = trimR (sg s a b1)) := by show _ = _; rw [HZ0.out, HSN.out]; rfl
                      clear hx32 hx9 hlt3
                      go_wp2
                      exact ⟨⟨b1, rfl, HLT.out.2, by have := HLT.out.1; omega, HZ1.out, trivial⟩, by have := HLT.out.1; simp [intOf]; omega⟩
                    · have q32 : (b8 (at8 s b1) == 32) = false := by rw [show (32 : Int) = b8 32 from rfl, b8_eq]; simpa using hx32
                      have q9 : (b8 (at8 s b1) == 9) = false := by rw [show (9 : Int) = b8 9 from rfl, b8_eq]; simpa using hx9
                      have HZ : Hid (trimR (sg s a k) = sg s a b) := by
                        show _ = _
                        rw [HZ0.out, HSN.out, if_neg]
                        simp [blk, hx32, hx9]
                      generalize at8 s b1 = x at ix q32 q9
                      clear hx32 hx9 hlt3 HSN
                      obtain ⟨t, ht⟩ : ∃ t, sg s a b = t := ⟨_, rfl⟩
                      have HT : Hid (trimB (sg s f k) = t) := by
                        show _ = _
                        unfold trimB
                        rw [← trim_comm, HY.out, HZ.out, ← ht]
                      have bsg := BSG.out a b
                      rw [ht] at bsg
                      have hab : (a : Int) ≤ (b : Int) := by omega
                      have hbn : (b : Int) ≤ (n : Int) := by have := HKN.out; omega
                      obtain ⟨Wb, hWb⟩ : ∃ Wb, wr.alloc (.cells #[.string (ba t)] 9) = Wb := ⟨_, rfl⟩
                      have bb : Below wr.heap.size wr Wb := hWb ▸ (Below.refl _ _).alloc (Nat.le_refl _) _
                      have hfb : Has Wb wr.heap.size 9 #[.string (ba t)] := hWb ▸ Has.fresh _ _ _
                      obtain ⟨v5, w5, hr5, ha5, _, hg5, _⟩ := append_str (own_below HA.out bb) hfb (by rw [List.length_map]; have := HRK.out; have := HKN.out; have := HSL.out; omega) (Nat.le_trans HB.out.size bb.size) 23
                      have hts : R.map trimB ++ [t] = (R ++ [sg s f k]).map trimB := by rw [List.map_append, List.map_cons, HT.out]; rfl
                      rw [hts] at ha5
                      have HR5 := hid hr5
                      have HA5 := hid ha5
                      have HB5 : Hid (Below w.heap.size w w5) := grown_below hg5 (HB.out.thenG bb) (fun j hj => (own_inside HA.out j hj).1) (Nat.le_trans HB.out.size bb.size)
                      obtain ⟨A5, c5, hv5⟩ := own_form ha5
                      generalize ((R ++ [sg s f k]).map trimB).length = m5 at hv5
                      subst hv5
                      clear ht bb hfb hr5 ha5 hg5 hts
                      go_wp2_with (at_builtin; refine wpList_append_run rfl (.tmp 62) (.tmp 67) 23 23 rfl ⟨_, w5, HR5.out, ?_⟩)
                      first | (exact ⟨⟨k + 1, k + 1, R ++ [sg s f k], A5, m5, c5, by go_num, by go_num, rfl, by have := HKN.out; omega, by have := HKN.out; omega, HCUT.out, HA5.out, HB5.out⟩, by have := HKN.out; simp [intOf]; omega⟩) | omega
                · have h3i : ¬ ((a : Int) < (b : Int)) := by omega
                  have HZ : Hid (trimR (sg s a k) = sg s a b) := by
                    show _ = _
                    obtain rfl : a = b := by omega
                    rw [HZ0.out, sg_nil]; rfl
                  clear hlt3
                  obtain ⟨t, ht⟩ : ∃ t, sg s a b = t := ⟨_, rfl⟩
                  have HT : Hid (trimB (sg s f k) = t) := by
                    show _ = _
                    unfold trimB
                    rw [← trim_comm, HY.out, HZ.out, ← ht]
                  have bsg := BSG.out a b
                  rw [ht] at bsg
                  have hab : (a : Int) ≤ (b : Int) := by omega
                  have hbn : (b : Int) ≤ (n : Int) := by have := HKN.out; omega
                  obtain ⟨Wb, hWb⟩ : ∃ Wb, wr.alloc (.cells #[.string (ba t)] 9) = Wb := ⟨_, rfl⟩
                  have bb : Below wr.heap.size wr Wb := hWb ▸ (Below.refl _ _).alloc (Nat.le_refl _) _
                  have hfb : Has Wb wr.heap.size 9 #[.string (ba t)] := hWb ▸ Has.fresh _ _ _
                  obtain ⟨v5, w5, hr5, ha5, _, hg5, _⟩ := append_str (own_below HA.out bb) hfb (by rw [List.length_map]; have := HRK.out; have := HKN.out; have := HSL.out; omega) (Nat.le_trans HB.out.size bb.size) 23
                  have hts : R.map trimB ++ [t] = (R ++ [sg s f k]).map trimB := by rw [List.map_append, List.map_cons, HT.out]; rfl
                  rw [hts] at ha5
                  have HR5 := hid hr5
                  have HA5 := hid ha5
                  have HB5 : Hid (Below w.heap.size w w5) := grown_below hg5 (HB.out.thenG bb) (fun j hj => (own_inside HA.out j hj).1) (Nat.le_trans HB.out.size bb.size)
                  obtain ⟨A5, c5, hv5⟩ := own_form ha5
                  generalize ((R ++ [sg s f k]).map trimB).length = m5 at hv5
                  subst hv5
                  clear ht bb hfb hr5 ha5 hg5 hts
                  go_wp2_with (at_builtin; refine wpList_append_run rfl (.tmp 62) (.tmp 67) 23 23 rfl ⟨_, w5, HR5.out, ?_⟩)
                  first | (exact ⟨⟨k + 1, k + 1, R ++ [sg s f k], A5, m5, c5, by go_num, by go_num, rfl, by have := HKN.out; omega, by have := HKN.out; omega, HCUT.out, HA5.out, HB5.out⟩, by have := HKN.out; simp [intOf]; omega⟩) | omega
    · have hki : ¬ ((k : Int) ≤ (n : Int)) := by omega
      have HE : Hid (rowsN s = R) := HLI.out.2.2.2 (by have := HN.out; omega)
      clear hk
      go_wp2
      go_ret
      refine ⟨⟨_, rfl, ?_⟩, HB.out⟩
      rw [HE.out]
      have h1 := HA.out
      have h2 := own_form h1
      exact h1
end Go.Proofs.YtpipkgkfhbagmaaGreatDoor.Glob
