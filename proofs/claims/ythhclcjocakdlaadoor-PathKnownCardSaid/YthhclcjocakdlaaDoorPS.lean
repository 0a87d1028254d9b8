/- path.Join and the document's Join: what they answer of a list of texts. Conditions: a world in which the listed variables lie; at most nine texts of at most 400 bytes. -/
import Derived.Test.YthhclcjocakdlaaDoorPR
import Derived.Test.YthhclcjocakdlaaDoorPO
namespace Go.Proofs.YthhclcjocakdlaaDoor
open Go.RowKit
/-- The cells of a slice of texts. -/
structure Sl (w : World) (A : Option Addr) (xs : List (List UInt8)) (g c : Nat) : Prop where
  src : 0 < xs.length → A = some ⟨g, 0, none⟩
  at_ : ∀ i, i < xs.length → w.cell? ⟨g, i, none⟩ = some (S9 (xs.getD i []))
  blk : g < w.heap.size
  le : xs.length ≤ c
theorem Sl.kept {w w' : World} {A : Option Addr} {xs : List (List UInt8)} {g c : Nat} (h : Sl w A xs g c) (hb : Below w.heap.size w w') : Sl w' A xs g c :=
  ⟨h.src, fun i hi => (hb.cell (p := ⟨g, i, none⟩) h.blk).trans (h.at_ i hi), Nat.lt_of_lt_of_le h.blk hb.size, h.le⟩
theorem sl_of_own {w : World} {B : Nat} {v : Value} {xs : List (List UInt8)} (h : w.ownsRow B 9 1 v xs.length (xs.map S9)) (h0 : 0 < w.heap.size) : ∃ A g c, v = .slice A xs.length c ∧ Sl w A xs g c := by
  have hc := fun g hg => h.cells (g := g) hg
  have hlt := h.lt
  rcases h.2 with ⟨rfl, h2⟩ | ⟨g, c, cs, rfl, _, _, hn, _⟩
  · exact ⟨none, 0, 0, by rw [h2], fun e => by omega, fun i hi => by omega, h0, by omega⟩
  · refine ⟨_, g, c, rfl, fun _ => rfl, fun i hi => ?_, (hlt g rfl).2, hn⟩
    have := hc g rfl i (S9 (xs.getD i [])) (by rw [List.getElem?_map, List.getElem?_eq_getElem hi]; simp [List.getD, List.getElem?_eq_getElem hi])
    have e : (⟨g, 0, none⟩ : Addr).add i = ⟨g, i, none⟩ := by unfold Addr.add; split <;> simp_all
    rwa [e] at this
def joinL (xs : List (List UInt8)) : List UInt8 := Lib.join xs [47]
theorem joinL_snoc (xs : List (List UInt8)) (x : List UInt8) : joinL (xs ++ [x]) = if xs = [] then x else joinL xs ++ 47 :: x := by
  unfold joinL
  cases xs with
  | nil => simp [Lib.join_one]
  | cons y ys => rw [List.cons_append, Lib.join_cons, Lib.join_cons]; simp [Lib.joinTail]
theorem joinL_len (xs : List (List UInt8)) (h : ∀ x ∈ xs, x.length ≤ 400) : (joinL xs).length ≤ xs.length * 401 := by
  unfold joinL
  cases xs with
  | nil => simp [Lib.join_nil]
  | cons y ys =>
    rw [Lib.join_cons, List.length_append, List.length_cons]
    have h1 := h y List.mem_cons_self
    have h2 : (Lib.joinTail [47] ys).length ≤ ys.length * 401 := by
      clear h1
      induction ys with
      | nil => simp [Lib.joinTail]
      | cons z zs ih =>
        have := h z (by simp)
        have h3 := ih (fun x hx => h x (by simp at hx ⊢; rcases hx with hx | hx <;> simp [hx]))
        simp only [Lib.joinTail, List.map_cons, List.flatten_cons, List.length_append, List.length_cons, List.length_nil] at h3 ⊢
        omega
    omega
/-- The path of parts, and whether there is one. -/
def joinV (xs : List (List UInt8)) : List UInt8 × Bool := if decide (xs.length ≤ 6) && xs.all nameB && mayB (joinL xs) then (joinL xs, true) else ([], false)
theorem isNoName_any (s : ByteArray) (v : Bool) (h : Hid (nameB (tl s) = v)) (w : World) (hs : s.size ≤ 400) : Calls Tryd.prog 56 #[.string s] w fun e w' => e = .returned (.bool (!v)) ∧ w = w' := by
  have C : Hid (Calls Tryd.prog 20 #[.string s] w fun e w' => e = .returned (.bool v) ∧ w = w') := by rw [← h.out]; exact name_any s w (by omega)
  go_enter Tryd.func56, Tryd.ntmps56
  go_wp2_with (go_at_call 20; refine C.out.mono ?_; rintro e1 w1 ⟨rfl, rfl⟩)
  go_ret
  exact ⟨rfl, rfl⟩
/-- The place of the first text that is no name, or -1. -/
def FirstBad (b : Bool) (w : World) (e : Ending) (w' : World) : Prop := ∃ r : Int, e = .returned (.int .i64 r) ∧ ((0 ≤ r) ↔ b = false) ∧ w = w'
theorem names_at {xs : List (List UInt8)} {k : Nat} (h : k < xs.length) (hx : ∀ x ∈ xs, x.length ≤ 400) : (xs.getD k []).length ≤ 400 := by
  simp only [List.getD, List.getElem?_eq_getElem h, Option.getD_some]; exact hx _ (List.getElem_mem h)
set_option maxRecDepth 100000 in
set_option maxHeartbeats 400000 in
theorem indexFunc_any (A : Option Addr) (xs : List (List UInt8)) (n g c : Nat) (w : World) (h : Sl w A xs g c) (hn : xs.length = n) (hx : ∀ x ∈ xs, x.length ≤ 400) (h9 : n ≤ 9) :
    Calls Tryd.prog 87 #[.slice A n c, .func (.func 56) #[] #[]] w (FirstBad (xs.all nameB) w) := by
  have HN := hid hn; have HX := hid hx; have HS := hid h
  by_cases h0 : n = 0
  · have HA : Hid (xs.all nameB = true) := by show _ = _; rw [List.length_eq_zero_iff.1 (hn.trans h0)]; rfl
    subst h0
    clear hn hx h
    go_enter Tryd.func87, Tryd.ntmps87
    go_wp2
    go_loopw [8] (fun i wr => i = .int .i64 0 ∧ w = wr) (fun _ _ => 0)
    case atStart => exact ⟨rfl, rfl⟩
    case round =>
      obtain ⟨rfl, rfl⟩ := hrel
      go_wp2
      go_ret
      unfold FirstBad
      exact ⟨-1, rfl, by rw [HA.out]; simp, rfl⟩
  · have hA := h.src (by omega)
    subst hA
    clear hn hx h
    go_enter Tryd.func87, Tryd.ntmps87
    go_wp2
    go_loopw [8] (fun i wr => ∃ k : Nat, k ≤ n ∧ i = .int .i64 (k : Int) ∧ Hid ((xs.take k).all nameB = true) ∧ w = wr) (fun i _ => n - (intOf i).toNat)
    case atStart => exact ⟨0, by omega, rfl, rfl, rfl⟩
    case round =>
      obtain ⟨k, hk, rfl, HA, rfl⟩ := hrel
      by_cases hlt : k < n
      · have hlt' : k < xs.length := by rw [HN.out]; exact hlt
        have hc : w.cell? ⟨g, k, none⟩ = some (.string (ba (xs.getD k []))) := HS.out.at_ k hlt'
        have HL : Hid ((xs.getD k []).length ≤ 400) := names_at hlt' HX.out
        have HY := hid (all_at (xs := xs) (k := k) hlt' HA.out)
        have HNo := hid (all_no (xs := xs) (k := k) hlt')
        clear hlt'
        generalize xs.getD k [] = x at hc HL HY HNo
        cases hb : nameB x with
        | true =>
          have HM := hid (fun W => isNoName_any (ba x) true hb W (by rw [ba_size]; exact HL.out))
          have HY2 := hid (HY.out hb)
          clear HY HNo hb
          go_wp2_with fail
          refine (HM.out _).mono ?_; rintro e3 w3 ⟨rfl, rfl⟩
          go_wp2
          go_roundw
          case rel => exact ⟨k + 1, by omega, by go_num, HY2.out, trivial⟩
          case measure => simp [intOf]; omega
        | false =>
          have HM := hid (fun W => isNoName_any (ba x) false hb W (by rw [ba_size]; exact HL.out))
          have HY2 := hid (HNo.out hb)
          clear HY HNo hb
          go_wp2_with fail
          refine (HM.out _).mono ?_; rintro e3 w3 ⟨rfl, rfl⟩
          go_wp2
          go_ret
          unfold FirstBad
          exact ⟨(k : Int), rfl, by rw [HY2.out]; simp, rfl⟩
      · have HK : Hid (k = n) := by show _ = _; omega
        go_wp2
        go_ret
        have ha := HA.out
        rw [List.take_of_length_le (by rw [HN.out, HK.out]; exact Nat.le_refl _)] at ha
        unfold FirstBad
        exact ⟨-1, rfl, by rw [ha]; simp, rfl⟩
set_option maxRecDepth 100000 in
set_option maxHeartbeats 400000 in
theorem containsFunc_any (A : Option Addr) (xs : List (List UInt8)) (n g c : Nat) (b : Bool) (hb : Hid (xs.all nameB = b)) (w : World) (h : Sl w A xs g c) (hn : xs.length = n) (hx : ∀ x ∈ xs, x.length ≤ 400) (h9 : n ≤ 9) :
    Calls Tryd.prog 55 #[.slice A n c, .func (.func 56) #[] #[]] w fun e w' => e = .returned (.bool (!b)) ∧ w = w' := by
  have H := hid (indexFunc_any A xs n g c w h hn hx h9)
  clear h hn hx
  cases b with
  | true =>
    go_enter Tryd.func55, Tryd.ntmps55
    go_wp2_with fail
    refine H.out.mono ?_
    rintro e1 w1 ⟨r, rfl, hr, rfl⟩
    have hr' : decide (0 ≤ r) = false := decide_eq_false (fun h => by have := hr.1 h; rw [hb.out] at this; cases this)
    clear hr
    go_wp2
    go_ret
    exact ⟨rfl, rfl⟩
  | false =>
    go_enter Tryd.func55, Tryd.ntmps55
    go_wp2_with fail
    refine H.out.mono ?_
    rintro e1 w1 ⟨r, rfl, hr, rfl⟩
    have hr' : 0 ≤ r := hr.2 hb.out
    clear hr
    go_wp2
    go_ret
    exact ⟨rfl, rfl⟩
theorem sjoin_any (A : Option Addr) (xs : List (List UInt8)) (n g c : Nat) (p : ByteArray) (hp : Hid (ba (joinL xs) = p)) (w : World) (h : Sl w A xs g c) (hn : xs.length = n) (hx : ∀ x ∈ xs, x.length ≤ 400) (h9 : 0 < n ∧ n ≤ 9) :
    Calls Tryd.prog 57 #[.slice A n c, .string ⟨#[47]⟩] w fun e w' => e = .returned (.string p) ∧ Below w.heap.size w w' := by
  obtain rfl := h.src (by omega)
  have hl := joinL_len xs hx
  have hm : (xs.map ba).map (fun x => x.data.toList) = xs := by
    rw [List.map_map]
    conv => rhs; rw [← List.map_id xs]
    rfl
  have := Tryd.strings_Join g 0 c (xs.map ba) ⟨#[47]⟩ w (fun j x hj => by
      rw [List.getElem?_map] at hj
      obtain ⟨y, hy, rfl⟩ := Option.map_eq_some_iff.1 hj
      have hlt := (List.getElem?_eq_some_iff.1 hy).1
      rw [Nat.zero_add, h.at_ j hlt, S9]
      simp [List.getD, hy])
    h.blk (by rw [List.length_map]; omega) (by rw [List.length_map]; exact h.le)
    (by rw [hm]; show (joinL xs).length ≤ _; rw [hn] at hl; omega)
  rw [hm, List.length_map, hn] at this
  refine this.mono fun e w' ⟨h1, h2⟩ => ⟨?_, h2⟩
  rw [h1, ← hp.out]; rfl
set_option maxRecDepth 100000 in
set_option maxHeartbeats 1000000 in
theorem join_any (A : Option Addr) (xs : List (List UInt8)) (n g c : Nat) (w : World) (hG : Gd w) (h : Sl w A xs g c) (hn : xs.length = n) (hx : ∀ x ∈ xs, x.length ≤ 400) (h9 : n ≤ 9) :
    Calls Tryd.prog 18 #[.slice A n c] w fun e w' => e = .returned (.tuple #[.string (ba (joinV xs).1), .bool (joinV xs).2]) ∧ Below w.heap.size w w' := by
  have hl := joinL_len xs hx
  by_cases h6 : n ≤ 6
  · have g6 : ¬ (6 : Int) < (n : Int) := by omega
    cases hb : xs.all nameB with
    | false =>
      have HV : Hid (joinV xs = ([], false)) := by show _ = _; rw [joinV, hb]; simp
      have HC := hid (containsFunc_any A xs n g c false hb w h hn hx h9)
      clear hG h hn hx hb hl
      go_enter Tryd.func18, Tryd.ntmps18
      go_wp2_with fail
      refine HC.out.mono ?_; rintro e1 w1 ⟨rfl, rfl⟩
      go_wp2
      go_ret2
      exact ⟨by rw [HV.out]; rfl, Below.refl _ _⟩
    | true =>
      have HC := hid (containsFunc_any A xs n g c true hb w h hn hx h9)
      by_cases h0 : n = 0
      · subst h0
        have HV : Hid (joinV xs = ([], false)) := by
          show _ = _; rw [List.length_eq_zero_iff.1 hn]; decide +kernel
        have HJ : Hid (Calls Tryd.prog 57 #[.slice A ((0 : Nat)) c, .string ⟨#[47]⟩] w fun e w' => e = .returned (.string ⟨#[]⟩) ∧ w = w') :=
          (Tryd.strings_Join_none A c ⟨#[47]⟩ w).mono fun _ _ ⟨a, b⟩ => ⟨a, b.symm⟩
        have HM : Hid (∀ W, Gd W → Calls Tryd.prog 22 #[.string ⟨#[]⟩] W fun e w' => e = .returned (.bool false) ∧ Below W.heap.size W w') := by
          intro W hW; have := may_any ⟨#[]⟩ W hW (by decide)
          rw [show mayB (tl ⟨#[]⟩) = false by decide +kernel] at this; exact this
        have HG := hid hG
        clear hG h hn hx hb hl
        go_enter Tryd.func18, Tryd.ntmps18
        go_wp2_with fail
        refine HC.out.mono ?_; rintro e1 w1 ⟨rfl, rfl⟩
        go_wp2_with fail
        refine HJ.out.mono ?_; rintro e2 w2 ⟨rfl, rfl⟩
        go_wp2_with fail
        refine (HM.out _ HG.out).mono ?_; rintro e3 w3 ⟨rfl, hb3⟩; have B3 := hid hb3; clear hb3
        go_wp2
        go_ret2
        exact ⟨by rw [HV.out]; rfl, B3.out⟩
      · obtain ⟨p, hp⟩ : ∃ p, ba (joinL xs) = p := ⟨_, rfl⟩
        obtain ⟨m, hm⟩ : ∃ m, mayB (joinL xs) = m := ⟨_, rfl⟩
        have hps : p.size ≤ 4000 := by rw [← hp, ba_size]; rw [hn] at hl; omega
        have HJ := hid (sjoin_any A xs n g c p hp w h hn hx (by omega))
        have HM : Hid (∀ W, Gd W → Calls Tryd.prog 22 #[.string p] W fun e w' => e = .returned (.bool m) ∧ Below W.heap.size W w') := by
          intro W hW; have := may_any p W hW hps
          rw [← hp, tl_ba, hm, hp] at this; exact this
        have HG := hid hG
        have HP := hid hp
        cases m with
        | false =>
          have HV : Hid (joinV xs = ([], false)) := by show _ = _; rw [joinV, hm]; simp
          clear hG h hn hx hb hl hp hm
          go_enter Tryd.func18, Tryd.ntmps18
          go_wp2_with fail
          refine HC.out.mono ?_; rintro e1 w1 ⟨rfl, rfl⟩
          go_wp2_with fail
          refine HJ.out.mono ?_; rintro e2 w2 ⟨rfl, hb2⟩; have B2 := hid hb2; clear hb2
          go_wp2_with fail
          refine (HM.out _ (HG.out.kept B2.out)).mono ?_; rintro e3 w3 ⟨rfl, hb3⟩; have B3 : Hid (Below w.heap.size w w3) := B2.out.trans (hb3.mono B2.out.size); clear hb3
          go_wp2
          go_ret2
          exact ⟨by rw [HV.out]; rfl, B3.out⟩
        | true =>
          have HV : Hid (joinV xs = (joinL xs, true)) := by show _ = _; rw [joinV, hm, hb, hn, decide_eq_true h6]; simp
          clear hG h hn hx hb hl hp hm
          go_enter Tryd.func18, Tryd.ntmps18
          go_wp2_with fail
          refine HC.out.mono ?_; rintro e1 w1 ⟨rfl, rfl⟩
          go_wp2_with fail
          refine HJ.out.mono ?_; rintro e2 w2 ⟨rfl, hb2⟩; have B2 := hid hb2; clear hb2
          go_wp2_with fail
          refine (HM.out _ (HG.out.kept B2.out)).mono ?_; rintro e3 w3 ⟨rfl, hb3⟩; have B3 : Hid (Below w.heap.size w w3) := B2.out.trans (hb3.mono B2.out.size); clear hb3
          go_wp2
          go_ret2
          exact ⟨by rw [HV.out, ← HP.out]; rfl, B3.out⟩
  · have g6 : (6 : Int) < (n : Int) := by omega
    have HV : Hid (joinV xs = ([], false)) := by show _ = _; rw [joinV, hn, decide_eq_false h6]; simp
    clear hG h hn hx hl
    go_enter Tryd.func18, Tryd.ntmps18
    go_wp2
    go_ret2
    exact ⟨by rw [HV.out]; rfl, Below.refl _ _⟩
set_option maxRecDepth 100000 in
set_option maxHeartbeats 1000000 in
theorem rjoin_any (A : Option Addr) (xs : List (List UInt8)) (n g c : Nat) (w : World) (h : Sl w A xs g c) (hn : xs.length = n) (hx : ∀ x ∈ xs, x.length ≤ 400) (h9 : n ≤ 9) :
    Calls Tryd.prog 19 #[.slice A n c] w fun e w' => e = .returned (.tuple #[.string (ba (joinV xs).1), .bool (joinV xs).2]) ∧ Below w.heap.size w w' := by
  by_cases h0 : n < 1
  · have g0 : (n : Int) < 1 := by omega
    have HV : Hid (joinV xs = ([], false)) := by
      show _ = _; rw [List.length_eq_zero_iff.1 (show xs.length = 0 by omega)]; decide +kernel
    clear h hn hx
    go_enter Tryd.func19, Tryd.ntmps19
    go_wp2
    go_ret2
    exact ⟨by rw [HV.out]; rfl, Below.refl _ _⟩
  · have g0 : ¬ (n : Int) < 1 := by omega
    by_cases h6 : n ≤ 6
    · have g6 : ¬ (6 : Int) < (n : Int) := by omega
      obtain rfl := h.src (by omega)
      have HN := hid hn; have HX := hid hx; have HS := hid h
      have HD : Hid (decide (xs.length ≤ 6) = true) := by show _ = _; rw [hn]; simpa using h6
      clear h hn hx
      go_enter Tryd.func19, Tryd.ntmps19
      go_wp2
      go_loopw [4, 5] (fun v i wr => ∃ (k : Nat) (p : ByteArray), k ≤ n ∧ i = .int .i64 (k : Int) ∧ v = .string p ∧ p.size ≤ k * 401 ∧ Hid (ba (joinL (xs.take k)) = p) ∧ Hid ((xs.take k).all nameB = true) ∧ w = wr) (fun _ i _ => n - (intOf i).toNat)
      case atStart => exact ⟨0, ⟨#[]⟩, by omega, rfl, rfl, Nat.le_refl _, rfl, rfl, rfl⟩
      case round =>
        obtain ⟨k, p, hk, rfl, rfl, hps, HP, HA, rfl⟩ := hrel
        by_cases hlt : k < n
        · have hlt' : k < xs.length := by rw [HN.out]; exact hlt
          have hc : w.cell? ⟨g, k, none⟩ = some (.string (ba (xs.getD k []))) := HS.out.at_ k hlt'
          have HL : Hid ((xs.getD k []).length ≤ 400) := names_at hlt' HX.out
          have HY := hid (all_at (xs := xs) (k := k) hlt' HA.out)
          have HNo := hid (all_no (xs := xs) (k := k) hlt')
          have HT : Hid (xs.take (k + 1) = xs.take k ++ [xs.getD k []]) := by
            show _ = _; rw [List.take_succ_eq_append_getElem hlt']; simp [List.getD, List.getElem?_eq_getElem hlt']
          have HE : Hid (xs.take k = [] ↔ k = 0) := by
            show _ ↔ _
            rw [List.take_eq_nil_iff]
            constructor
            · rintro (h | h)
              · exact h
              · have := HN.out; rw [h] at this; simp at this; omega
            · exact fun h => .inl h
          clear hlt'
          generalize xs.getD k [] = x at hc HL HY HNo HT
          obtain ⟨b, hbx⟩ : ∃ b, ba x = b := ⟨_, rfl⟩
          have hbs : b.size ≤ 400 := by rw [← hbx, ba_size]; exact HL.out
          rw [hbx] at hc
          cases hb : nameB x with
          | true =>
            have HM : Hid (∀ W, Calls Tryd.prog 21 #[.string b] W fun e w' => e = .returned (.bool true) ∧ W = w') := by
              intro W; have := rname_any b W (by omega); rw [← hbx, tl_ba, hb, hbx] at this; exact this
            have HY2 := hid (HY.out hb)
            by_cases hk0 : k = 0
            · have HJ : Hid (ba (joinL (xs.take (k + 1))) = b) := by
                show _ = _; rw [HT.out, joinL_snoc, if_pos (HE.out.2 hk0), hbx]
              have HQ : Hid (p = ⟨#[]⟩) := by
                show _ = _; rw [← HP.out, HE.out.2 hk0]; rfl
              subst hk0
              have HQ2 : Hid (p ++ b = b) := by show _ = _; rw [HQ.out, ba_append]; simp [tl, ba]
              clear HY HNo hb hbx HQ
              go_wp2_with fail
              refine (HM.out _).mono ?_; rintro e3 w3 ⟨rfl, rfl⟩
              go_wp2
              go_roundw
              case rel => exact ⟨0 + 1, p ++ b, by omega, by go_num, rfl, by rw [HQ2.out]; omega, by show _ = _; rw [HQ2.out]; exact HJ.out, HY2.out, trivial⟩
              case measure => simp [intOf]; omega
            · have gk : (0 : Int) < (k : Int) := by omega
              have HJ : Hid (ba (joinL (xs.take (k + 1))) = p ++ ⟨#[47]⟩ ++ b) := by
                show _ = _
                rw [HT.out, joinL_snoc, if_neg (fun e => hk0 (HE.out.1 e)), ba_append (p ++ ⟨#[47]⟩), ba_append p, ← HP.out, ← hbx, tl_ba, tl_ba, tl_ba]
                simp [tl]
              clear HY HNo hb hbx hk0
              go_wp2_with fail
              refine (HM.out _).mono ?_; rintro e3 w3 ⟨rfl, rfl⟩
              go_wp2
              go_roundw
              case rel => exact ⟨k + 1, p ++ ⟨#[47]⟩ ++ b, by omega, by go_num, rfl, by
                have k2 : (⟨#[47]⟩ : ByteArray).size = 1 := rfl
                simp only [ByteArray.size_append, k2]; omega, HJ, HY2, trivial⟩
              case measure => simp [intOf]; omega
          | false =>
            have HM : Hid (∀ W, Calls Tryd.prog 21 #[.string b] W fun e w' => e = .returned (.bool false) ∧ W = w') := by
              intro W; have := rname_any b W (by omega); rw [← hbx, tl_ba, hb, hbx] at this; exact this
            have HV : Hid (joinV xs = ([], false)) := by show _ = _; rw [joinV, HNo.out hb]; simp
            clear HY HNo hb hbx
            go_wp2_with fail
            refine (HM.out _).mono ?_; rintro e3 w3 ⟨rfl, rfl⟩
            go_wp2
            go_ret2
            exact ⟨by rw [HV.out]; rfl, Below.refl _ _⟩
        · obtain rfl : k = n := by omega
          have ha := HA.out
          rw [List.take_of_length_le (by rw [HN.out]; exact Nat.le_refl _)] at ha
          have hp := HP.out
          rw [List.take_of_length_le (by rw [HN.out]; exact Nat.le_refl _)] at hp
          have hp4 : p.size ≤ 4000 := by omega
          cases hm : mayB (joinL xs) with
          | true =>
            have HM : Hid (∀ W, Calls Tryd.prog 23 #[.string p] W fun e w' => e = .returned (.bool true) ∧ Below W.heap.size W w') := by
              intro W; have := rmay_any p W hp4; rw [← hp, tl_ba, hm, hp] at this; exact this
            have HV : Hid (joinV xs = (joinL xs, true)) := by show _ = _; rw [joinV, hm, ha, HD.out]; simp
            have HP2 := hid hp
            clear ha hp hm
            go_wp2_with fail
            refine (HM.out _).mono ?_; rintro e3 w3 ⟨rfl, hb3⟩; have B3 := hid hb3; clear hb3
            go_wp2
            go_ret2
            exact ⟨by rw [HV.out, ← HP2.out]; rfl, B3.out⟩
          | false =>
            have HM : Hid (∀ W, Calls Tryd.prog 23 #[.string p] W fun e w' => e = .returned (.bool false) ∧ Below W.heap.size W w') := by
              intro W; have := rmay_any p W hp4; rw [← hp, tl_ba, hm, hp] at this; exact this
            have HV : Hid (joinV xs = ([], false)) := by show _ = _; rw [joinV, hm]; simp
            clear ha hp hm
            go_wp2_with fail
            refine (HM.out _).mono ?_; rintro e3 w3 ⟨rfl, hb3⟩; have B3 := hid hb3; clear hb3
            go_wp2
            go_ret2
            exact ⟨by rw [HV.out]; rfl, B3.out⟩
    · have g6 : (6 : Int) < (n : Int) := by omega
      have HV : Hid (joinV xs = ([], false)) := by show _ = _; rw [joinV, hn, decide_eq_false h6]; simp
      clear h hn hx
      go_enter Tryd.func19, Tryd.ntmps19
      go_wp2
      go_ret2
      exact ⟨by rw [HV.out]; rfl, Below.refl _ _⟩
end Go.Proofs.YthhclcjocakdlaaDoor
