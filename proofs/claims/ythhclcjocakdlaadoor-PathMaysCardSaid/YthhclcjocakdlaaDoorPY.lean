/- The walk of the law PathMays. Conditions: a world in which the listed variables lie; a list of texts as it comes in. -/
import Derived.Test.YthhclcjocakdlaaDoorPX
namespace Go.Proofs.YthhclcjocakdlaaDoor
open Go.RowKit
theorem low_pos {w w2 : World} (hG : Gd w) (hb : Below w.heap.size w w2) : 0 < w2.heap.size := by
  have h1 := hG.2.2
  have h2 := hb.size
  have h3 : decide (0 < Tryd.prog.low) = true := by kernel_rfl
  have h3 := of_decide_eq_true h3
  omega
/-- A list of texts that comes in. -/
structure La (w : World) (A : Option Addr) (len cap b o : Nat) (ss : List ByteArray) : Prop where
  le : len ≤ cap
  big : cap ≤ maxLen
  src : 0 < len → A = some ⟨b, o, none⟩
  at_ : ∀ i, i < len → w.cell? ⟨b, o + i, none⟩ = some (.string (ss.getD i ByteArray.empty)) ∧ (ss.getD i ByteArray.empty).size ≤ maxLen
  blk : b < w.heap.size
def cutL (ss : List ByteArray) (m : Nat) : List (List UInt8) := (List.range m).map fun i => (tl (ss.getD i ByteArray.empty)).take 400
theorem cutL_len (ss : List ByteArray) (m : Nat) : (cutL ss m).length = m := by simp [cutL]
theorem cutL_next (ss : List ByteArray) (m : Nat) : cutL ss (m + 1) = cutL ss m ++ [(tl (ss.getD m ByteArray.empty)).take 400] := by simp [cutL, List.range_succ]
theorem cutL_small (ss : List ByteArray) (m : Nat) : ∀ x ∈ cutL ss m, x.length ≤ 400 := by
  intro x hx
  simp only [cutL, List.mem_map] at hx
  obtain ⟨i, _, rfl⟩ := hx
  rw [List.length_take]; omega
set_option maxRecDepth 100000 in
set_option maxHeartbeats 2000000 in
theorem mays_any (a0 : ByteArray) (A : Option Addr) (len cap b o : Nat) (ss : List ByteArray) (w : World) (hG : Gd w) (ha0 : a0.size ≤ maxLen) (hL : La w A len cap b o ss) :
    Calls Tryd.prog 4 #[.string a0, .slice A len cap] w fun e w' => e = .returned (.bool true) ∧ Below w.heap.size w w' := by
  have HG := hid hG
  obtain ⟨i0, hi, hz0, hz1, hz2⟩ := info_parts infoStr
  obtain ⟨a, HA⟩ : ∃ a, Hid (ba ((tl a0).take 400) = a) := ⟨_, rfl⟩
  have ka := small_cut a0 a HA.out
  have CA : Hid (∀ W, Calls Tryd.prog 17 #[.string a0] W fun e w' => e = .returned (.string a) ∧ W = w') := by intro W; rw [← HA.out]; exact cut_str a0 W ha0
  obtain ⟨m, hm⟩ : ∃ m : Nat, min len 9 = m := ⟨_, rfl⟩
  have hm1 : min (len : Int) (9 : Int) = (m : Int) := by omega
  have hm9 : m ≤ 9 := by omega
  have hle := hL.le
  have hbig := hL.big
  have hmc : (m : Int) ≤ (cap : Int) := by omega
  have HLa := hid hL
  have HM : Hid (m ≤ len ∧ (m = 0 ↔ len = 0)) := by show _ ∧ _; omega
  obtain ⟨v, hv⟩ : ∃ v, nameB (tl a) = v := ⟨_, rfl⟩
  obtain ⟨u, hu⟩ : ∃ u, mayB (tl a) = u := ⟨_, rfl⟩
  obtain ⟨x, hx⟩ : ∃ x, ba (joinV (cutL ss m)).1 = x := ⟨_, rfl⟩
  obtain ⟨y, hy⟩ : ∃ y, (joinV (cutL ss m)).2 = y := ⟨_, rfl⟩
  have C1 : Hid (∀ W, Calls Tryd.prog 20 #[.string a] W fun e w' => e = .returned (.bool v) ∧ W = w') := by intro W; rw [← hv]; exact name_any a W (by omega)
  have C2 : Hid (∀ W, Calls Tryd.prog 21 #[.string a] W fun e w' => e = .returned (.bool v) ∧ W = w') := by intro W; rw [← hv]; exact rname_any a W (by omega)
  have C3 : Hid (∀ W, Gd W → Calls Tryd.prog 22 #[.string a] W fun e w' => e = .returned (.bool u) ∧ Below W.heap.size W w') := by intro W h; rw [← hu]; exact may_any a W h (by omega)
  have C4 : Hid (∀ W, Calls Tryd.prog 23 #[.string a] W fun e w' => e = .returned (.bool u) ∧ Below W.heap.size W w') := by intro W; rw [← hu]; exact rmay_any a W (by omega)
  have C5 := hid (fun W h => parts_any a W h (by omega))
  have C6 := hid (fun W => rparts_any a W (by omega))
  obtain ⟨q, hq⟩ : ∃ q, (partsL (tl a)).length = q := ⟨_, rfl⟩
  have HQ := hid hq
  have hq4 : q ≤ 4001 := by
    rw [← hq, partsL]; split
    · have := pieces_count _ (tl a) (Nat.le_refl _); rw [tl_length] at this; omega
    · simp
  have C7 : Hid (∀ W B g c, Gd W → Sl W B (cutL ss m) g c → Calls Tryd.prog 18 #[.slice B m c] W fun e w' => e = .returned (.tuple #[.string x, .bool y]) ∧ Below W.heap.size W w') := by
    intro W B g c h hS; rw [← hx, ← hy]; exact join_any B (cutL ss m) m g c W h hS (cutL_len ss m) (cutL_small ss m) hm9
  have C8 : Hid (∀ W B g c, Sl W B (cutL ss m) g c → Calls Tryd.prog 19 #[.slice B m c] W fun e w' => e = .returned (.tuple #[.string x, .bool y]) ∧ Below W.heap.size W w') := by
    intro W B g c hS; rw [← hx, ← hy]; exact rjoin_any B (cutL ss m) m g c W hS (cutL_len ss m) (cutL_small ss m) hm9
  clear hG hL hv hu hx hy hq hm
  go_enter Tryd.func4, Tryd.ntmps4
  go_wp2_with fail
  refine (CA.out _).mono ?_; rintro e1 w1 ⟨rfl, rfl⟩
  go_wp2
  go_loopw [5, 6] (fun t i wr => ∃ k : Nat, k ≤ m ∧ i = .int .i64 (k : Int) ∧ Hid (wr.ownsRow w.heap.size 9 1 t k ((cutL ss k).map S9)) ∧ Hid (Below w.heap.size w wr)) (fun _ i _ => m - (intOf i).toNat)
  case atStart => exact ⟨0, by omega, rfl, World.ownsRow_nil _ _ _ _, Below.refl _ _⟩
  case round =>
    obtain ⟨k, hk, rfl, HO, HB⟩ := hrel
    by_cases hlt : k < m
    · have hA := HLa.out.src (by have := HM.out; omega)
      subst hA
      obtain ⟨hc0, hsz⟩ := HLa.out.at_ k (by have := HM.out; omega)
      have HX := hid (cutL_next ss k)
      generalize ss.getD k ByteArray.empty = z at hc0 hsz HX
      have hc : wr.cell? ⟨b, o + k, none⟩ = some (.string z) := (HB.out.cell (p := ⟨b, o + k, none⟩) HLa.out.blk).trans hc0
      obtain ⟨z2, hz⟩ : ∃ z2, ba ((tl z).take 400) = z2 := ⟨_, rfl⟩
      have CZ : Hid (∀ W, Calls Tryd.prog 17 #[.string z] W fun e w' => e = .returned (.string z2) ∧ W = w') := by intro W; rw [← hz]; exact cut_str z W hsz
      have HZ := hid hz
      have b1 : (k : Int) < (m : Int) := by omega
      have N2 : Hid (k + 1 ≤ maxLen) := by show _ ≤ _; unfold maxLen; omega
      have N3 : Hid ((k + 1) * 16 ≤ 140737488355328) := by show _ ≤ _; omega
      have N4 : Hid (∀ o, w.heap.size ≤ (wr.alloc o).heap.size) := by intro o; have := HB.out.size; simp; omega
      clear hc0 hsz hz
      go_wp2_with fail
      refine (CZ.out _).mono ?_; rintro e2 w2 ⟨rfl, rfl⟩
      go_wp2_with (at_builtin; refine wpList_append_own _ rfl _ _ 28 rfl w.heap.size 9 i0 (.string ⟨#[]⟩) 1 16 Tryd.underlying28 hi hz0 hz1 hz2 rfl (by omega) _ _ _ rfl (HO.out.alloc _) ⟨wr.heap.size, 0, none⟩ 1 1 [Value.string z2] rfl rfl (cell_one_new _ _ _) (S9_one _) N2.out N3.out (N4.out _) ?_; intro v' w1 hown' hgrow _)
      have HO2 : Hid (w1.ownsRow w.heap.size 9 1 v' (k + 1) ((cutL ss (k + 1)).map S9)) := by
        rw [HX.out, List.map_append]
        rw [← HZ.out] at hown'
        exact hown'
      have HB2 : Hid (Below w.heap.size w w1) :=
        ((HB.out.alloc HB.out.size _).grown hgrow (N4.out _) (fun g hg => by
          rcases HO.out.2 with ⟨rfl, _⟩ | ⟨g', _, _, rfl, hle, _⟩
          · cases hg
          · obtain rfl := Option.some.inj hg; exact hle))
      clear hown' hgrow
      go_wp2
      go_roundw
      case rel => exact ⟨k + 1, by omega, by go_num, HO2, HB2⟩
      case measure => simp [intOf]; omega
    · obtain rfl : k = m := by omega
      have hlow : 0 < wr.heap.size := low_pos HG.out HB.out
      have ho := HO.out
      have ho : wr.ownsRow w.heap.size 9 1 u5 (cutL ss k).length ((cutL ss k).map S9) := by rw [cutL_len]; exact ho
      obtain ⟨B, g, c, rfl, hS⟩ := sl_of_own ho hlow
      have S0 := hid hS
      rw [cutL_len]
      have b1 : ¬ (k : Int) < (k : Int) := by omega
      clear ho hS hlow HO
      go_wp2_with fail
      refine (C7.out _ _ _ _ (HG.out.kept HB.out) S0.out).mono ?_; rintro e2 w2 ⟨rfl, hb2⟩; have B2 : Hid (Below w.heap.size w w2) := HB.out.trans (hb2.mono HB.out.size); have S2 := hid (S0.out.kept hb2); clear hb2
      go_wp2_with fail
      refine (C8.out _ _ _ _ S2.out).mono ?_; rintro e3 w3 ⟨rfl, hb3⟩; have B3 : Hid (Below w.heap.size w w3) := B2.out.trans (hb3.mono B2.out.size); clear hb3
      go_wp2_with fail
      refine (C1.out _).mono ?_; rintro e4 w4 ⟨rfl, rfl⟩
      go_wp2_with fail
      refine (C2.out _).mono ?_; rintro e5 w5 ⟨rfl, rfl⟩
      go_wp2_with fail
      refine (C3.out _ (HG.out.kept B3.out)).mono ?_; rintro e6 w6 ⟨rfl, hb6⟩; have B6 : Hid (Below w.heap.size w w6) := B3.out.trans (hb6.mono B3.out.size); clear hb6
      go_wp2_with fail
      refine (C4.out _).mono ?_; rintro e7 w7 ⟨rfl, hb7⟩; have B7 : Hid (Below w.heap.size w w7) := B6.out.trans (hb7.mono B6.out.size); clear hb7
      go_wp2_with fail
      refine (C5.out _ (HG.out.kept B7.out)).mono ?_
      rintro e8 w8 ⟨v8, rfl, ho8, hb8⟩
      have B8 : Hid (Below w.heap.size w w8) := B7.out.trans (hb8.mono B7.out.size)
      obtain ⟨D, dg, dc, rfl, hS8⟩ := sl_of_own ho8 (low_pos HG.out B8.out)
      rw [HQ.out]
      have S8 := hid hS8
      clear ho8 hb8 hS8
      go_wp2_with fail
      refine (C6.out _).mono ?_
      rintro e9 w9 ⟨v9, rfl, ho9, hb9⟩
      have B9 : Hid (Below w.heap.size w w9) := B8.out.trans (hb9.mono B8.out.size)
      obtain ⟨E, eg, ec, rfl, hS9⟩ := sl_of_own ho9 (low_pos HG.out B9.out)
      rw [HQ.out]
      have S9' := hid hS9
      have S10 := hid (S8.out.kept hb9)
      clear ho9 hb9 hS9
      go_wp2_with fail
      refine (rsame_any _ _ (partsL (tl a)) q _ _ _ _ _ S10.out S9'.out HQ.out hq4).mono ?_; rintro e10 w10 ⟨rfl, hb10⟩; have B10 : Hid (Below w.heap.size w w10) := B9.out.trans (hb10.mono B9.out.size); clear hb10
      go_wp2_with fail
      refine (works_any _ (HG.out.kept B10.out)).mono ?_; rintro e11 w11 ⟨rfl, hb11⟩; have B11 : Hid (Below w.heap.size w w11) := B10.out.trans (hb11.mono B10.out.size); clear hb11
      go_wp2
      go_ret
      exact ⟨rfl, B11.out⟩
end Go.Proofs.YthhclcjocakdlaaDoor
