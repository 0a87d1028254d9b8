/- bytes.PutRow, bytes.Row, the document's Row: what each call does. Conditions: at most 300 numbers; a tape that lies there. -/
import Derived.Test.YtdmdddmfiankhaaCE
import Derived.Test.YtdmdddmfiankhaaBZ
namespace Go.Proofs.Ytdmdddmfiankhaa
open Go.RowKit
/-- Numbers of 32 bits lie there. -/
def NumsIn (w : World) (A : Option Addr) (n bb off : Nat) (l : List Nat) : Prop :=
  l.length = n ∧ (0 < n → A = some ⟨bb, off, none⟩ ∧ bb < w.heap.size) ∧ ∀ i, i < n → w.cell? ⟨bb, off + i, none⟩ = some (.int .u32 (l.getD i 0 : Nat)) ∧ l.getD i 0 < 4294967296
theorem NumsIn.kept {w w' : World} {A : Option Addr} {n bb off B : Nat} {l : List Nat} (h : NumsIn w A n bb off l) (hb : Below B w w') (hB : w.heap.size ≤ B) : NumsIn w' A n bb off l :=
  ⟨h.1, fun h0 => ⟨(h.2.1 h0).1, Nat.lt_of_lt_of_le (h.2.1 h0).2 hb.size⟩, fun i hi => ⟨(hb.cell (Nat.lt_of_lt_of_le (block_lt_of_cell (h.2.2 i hi).1) hB)).trans (h.2.2 i hi).1, (h.2.2 i hi).2⟩⟩
def rowB (l : List Nat) : List UInt8 := (l.map (numL 4)).flatten
theorem rowB_next (l : List Nat) (j : Nat) (h : j < l.length) : rowB (l.take (j + 1)) = rowB (l.take j) ++ numL 4 (l.getD j 0) := by
  have e : l.getD j 0 = l[j] := by rw [List.getD, List.getElem?_eq_getElem h]; rfl
  rw [e, rowB, rowB, List.take_succ_eq_append_getElem h, List.map_append, List.flatten_append]; simp
theorem rowB_len (l : List Nat) : (rowB l).length = 4 * l.length := by
  induction l with
  | nil => rfl
  | cons x l ih =>
    have h4 : (numL 4 x).length = 4 := by rw [numL, if_pos (show wid 4 = true from rfl), highs_len]; rfl
    rw [rowB, List.map_cons, List.flatten_cons, List.length_append, h4]
    unfold rowB at ih
    rw [ih, List.length_cons]; omega
set_option maxRecDepth 100000 in
set_option maxHeartbeats 1000000 in
theorem putRow_good (v : Value) (xs : List UInt8) (A0 : Option Addr) (c0 b0 o0 : Nat) (A : Option Addr) (n cap bb off : Nat) (l : List Nat) (hn : n ≤ 300) (hc : ∀ i, i < n → l.getD i 0 ≠ 99) (hx : xs.length ≤ 1000) (w : World) (h : Bytes w v xs A0 c0 b0 o0) (hl : NumsIn w A n bb off l) :
    Calls Try.prog 18 #[v, .slice A n cap, .func (.func 19) #[] #[]] w fun e w' => ∃ v', e = .returned (.tuple #[v', .int .i64 0]) ∧ Fresh w.heap.size w' v' ((xs ++ numL 2 n) ++ rowB l) ∧ Below w.heap.size w w' := by
  have HP : Hid (0 < w.heap.size) := Nat.lt_of_le_of_lt (Nat.zero_le _) h.blk
  have CP := hid (put_any v xs A0 c0 b0 o0 2 n (by omega) (by omega) w h)
  have HA := hid hl
  have HLEN : Hid (l.length = n) := hl.1
  have w1 : IntKind.u64.wrap (n : Int) = n := u64in _ (by omega)
  have hb1 : ¬ (65535 : Int) < (n : Int) := by omega
  have HX : Hid (xs.length ≤ 1000 ∧ n ≤ 300) := ⟨hx, hn⟩
  obtain rfl := h.form
  have HCL := hid hc
  clear h hl hx hc
  go_enter Try.func18, Try.ntmps18
  go_wp2_with (first
    | (go_at_call 13; refine CP.out.mono ?_; rintro e1 w1 ⟨v1, rfl, ho, hb⟩
       have O1 := hid ho
       have B1 := hid hb
       clear ho hb))
  go_loopw [8, 23] (fun u i wr => ∃ j : Nat, j ≤ n ∧ i = .int .i64 (j : Int) ∧ Hid (Fresh w.heap.size wr u ((xs ++ numL 2 n) ++ rowB (l.take j))) ∧ Hid (Below w.heap.size w wr)) (fun _ i _ => n - (intOf i).toNat)
  case atStart => exact ⟨0, by omega, rfl, by show Fresh _ _ _ _; rw [List.take_zero, rowB, List.map_nil, List.flatten_nil, List.append_nil]; exact O1.out, B1⟩
  case round =>
    obtain ⟨j, hj, rfl, HO, HB⟩ := hrel
    by_cases hlt : j < n
    · have hA := (HA.out.2.1 (by omega)).1
      subst hA
      obtain ⟨x, HXJ⟩ : ∃ x, Hid (l.getD j 0 = x) := ⟨_, rfl⟩
      have hq := (HA.out.kept HB.out (Nat.le_refl _)).2.2 j hlt
      rw [HXJ.out] at hq
      have c1 := hq.1
      have HQ := hid hq.2
      obtain ⟨A2, c2, b2, y2, _, _⟩ := HO.out.bytes (Nat.lt_of_lt_of_le HP.out HB.out.size)
      have Y2 := hid y2
      have HN : Hid ((xs ++ numL 2 n) ++ rowB (l.take (j + 1)) = ((xs ++ numL 2 n) ++ rowB (l.take j)) ++ numL 4 x) := by
        show _ = _
        rw [rowB_next _ _ (by rw [HLEN.out]; exact hlt), HXJ.out, List.append_assoc, List.append_assoc, List.append_assoc]
      have HLB : Hid (((xs ++ numL 2 n) ++ rowB (l.take j)).length ≤ 90000) := by
        show _ ≤ _
        have h1 := numL_len 2 n
        have h2 := HX.out
        rw [List.length_append, List.length_append, rowB_len, List.length_take]; omega
      clear y2 hq
      have H99 : Hid (x ≠ 99) := by
        show x ≠ 99
        rw [← HXJ.out]; exact HCL.out j hlt
      have CO := hid (putOne_good _ _ _ _ _ _ x H99.out HQ.out HLB.out _ Y2.out)
      go_wp2_with (first
        | (go_at_call 45; refine CO.out.mono ?_; rintro e2 w2 ⟨v2, rfl, ho, hb⟩
           have O2 := hid (ho.mono HB.out.size)
           rw [← HN.out] at O2
           have B2 : Hid (Below w.heap.size w w2) := HB.out.trans (hb.mono HB.out.size)
           clear ho hb))
      go_roundw
      case rel => exact ⟨j + 1, by omega, by go_num, O2, B2⟩
      case measure => simp [intOf]; omega
    · obtain rfl : n = j := by omega
      obtain ⟨A2, c2, b2, y2, _, _⟩ := HO.out.bytes (Nat.lt_of_lt_of_le HP.out HB.out.size)
      have e : l.take n = l := List.take_of_length_le (Nat.le_of_eq HLEN.out)
      rw [e] at y2
      have CC := hid (clone_any _ _ _ _ _ _ (by
        have h1 := numL_len 2 n
        have h2 := HX.out
        have h3 := HLEN.out
        rw [List.length_append, List.length_append, rowB_len]; omega) _ y2)
      clear y2 hlt e
      go_wp2_with (first
        | (go_at_call 46; refine CC.out.mono ?_; rintro e3 w3 ⟨v3, rfl, ho, hb⟩
           have O3 := hid (ho.mono HB.out.size)
           have B3 : Hid (Below w.heap.size w w3) := HB.out.trans (hb.mono HB.out.size)
           clear ho hb))
      go_ret2
      exact ⟨_, rfl, O3.out, B3.out⟩
set_option maxRecDepth 100000 in
set_option maxHeartbeats 1000000 in
theorem putRow_bad (v : Value) (xs : List UInt8) (A0 : Option Addr) (c0 b0 o0 : Nat) (A : Option Addr) (n cap bb off : Nat) (l : List Nat) (hn : n ≤ 300) (hc : ∃ i, i < n ∧ l.getD i 0 = 99) (hx : xs.length ≤ 1000) (w : World) (h : Bytes w v xs A0 c0 b0 o0) (hl : NumsIn w A n bb off l) :
    Calls Try.prog 18 #[v, .slice A n cap, .func (.func 19) #[] #[]] w fun e w' => e = .returned (.tuple #[.slice none 0 0, .int .i64 2]) ∧ Below w.heap.size w w' := by
  have HP : Hid (0 < w.heap.size) := Nat.lt_of_le_of_lt (Nat.zero_le _) h.blk
  have CP := hid (put_any v xs A0 c0 b0 o0 2 n (by omega) (by omega) w h)
  have HA := hid hl
  have HLEN : Hid (l.length = n) := hl.1
  have w1 : IntKind.u64.wrap (n : Int) = n := u64in _ (by omega)
  have hb1 : ¬ (65535 : Int) < (n : Int) := by omega
  have HX : Hid (xs.length ≤ 1000 ∧ n ≤ 300) := ⟨hx, hn⟩
  obtain rfl := h.form
  have HCL := hid hc
  clear h hl hx hc
  go_enter Try.func18, Try.ntmps18
  go_wp2_with (first
    | (go_at_call 13; refine CP.out.mono ?_; rintro e1 w1 ⟨v1, rfl, ho, hb⟩
       have O1 := hid ho
       have B1 := hid hb
       clear ho hb))
  go_loopw [8, 23] (fun u i wr => ∃ j : Nat, j ≤ n ∧ i = .int .i64 (j : Int) ∧ Hid (Fresh w.heap.size wr u ((xs ++ numL 2 n) ++ rowB (l.take j))) ∧ Hid (Below w.heap.size w wr) ∧ Hid (∀ i, i < j → l.getD i 0 ≠ 99)) (fun _ i _ => n - (intOf i).toNat)
  case atStart => exact ⟨0, by omega, rfl, by show Fresh _ _ _ _; rw [List.take_zero, rowB, List.map_nil, List.flatten_nil, List.append_nil]; exact O1.out, B1, fun i hi => absurd hi (by omega)⟩
  case round =>
    obtain ⟨j, hj, rfl, HO, HB, HF⟩ := hrel
    by_cases hlt : j < n
    · have hA := (HA.out.2.1 (by omega)).1
      subst hA
      obtain ⟨x, HXJ⟩ : ∃ x, Hid (l.getD j 0 = x) := ⟨_, rfl⟩
      have hq := (HA.out.kept HB.out (Nat.le_refl _)).2.2 j hlt
      rw [HXJ.out] at hq
      have c1 := hq.1
      have HQ := hid hq.2
      obtain ⟨A2, c2, b2, y2, _, _⟩ := HO.out.bytes (Nat.lt_of_lt_of_le HP.out HB.out.size)
      have Y2 := hid y2
      have HN : Hid ((xs ++ numL 2 n) ++ rowB (l.take (j + 1)) = ((xs ++ numL 2 n) ++ rowB (l.take j)) ++ numL 4 x) := by
        show _ = _
        rw [rowB_next _ _ (by rw [HLEN.out]; exact hlt), HXJ.out, List.append_assoc, List.append_assoc, List.append_assoc]
      have HLB : Hid (((xs ++ numL 2 n) ++ rowB (l.take j)).length ≤ 90000) := by
        show _ ≤ _
        have h1 := numL_len 2 n
        have h2 := HX.out
        rw [List.length_append, List.length_append, rowB_len, List.length_take]; omega
      clear y2 hq
      by_cases h99 : x = 99
      · subst h99
        have CO := hid (putOne_bad)
        go_wp2_with (first
          | (go_at_call 45; refine (CO.out _ _).mono ?_; rintro e2 w2 ⟨A9, n9, c9, rfl, hb⟩
             have B2 : Hid (Below w.heap.size w w2) := HB.out.trans (hb.mono HB.out.size)
             clear hb))
        go_ret2
        exact ⟨rfl, B2.out⟩
      · have CO := hid (putOne_good _ _ _ _ _ _ x h99 HQ.out HLB.out _ Y2.out)
        have HF2 : Hid (∀ i, i < j + 1 → l.getD i 0 ≠ 99) := by
          intro i hi
          rcases Nat.lt_or_ge i j with h | h
          · exact HF.out i h
          · obtain rfl : i = j := by omega
            rw [HXJ.out]; exact h99
        clear h99
        go_wp2_with (first
          | (go_at_call 45; refine CO.out.mono ?_; rintro e2 w2 ⟨v2, rfl, ho, hb⟩
             have O2 := hid (ho.mono HB.out.size)
             rw [← HN.out] at O2
             have B2 : Hid (Below w.heap.size w w2) := HB.out.trans (hb.mono HB.out.size)
             clear ho hb))
        go_roundw
        case rel => exact ⟨j + 1, by omega, by go_num, O2, B2, HF2⟩
        case measure => simp [intOf]; omega
    · exfalso
      obtain ⟨i, hi, h9⟩ := HCL.out
      exact HF.out i (by omega) h9
/-- What a row's things are, and what is left. -/
def rowL (k : Int) : Nat → St → List Nat → List Nat × St
  | 0, st, acc => (acc, st)
  | c + 1, st, acc => if (numS st k).2.1 then ([], (numS st k).2) else rowL k c (numS st k).2 (acc ++ [(numS st k).1])
def rowS (s : St) (most k : Int) : List Nat × St := if most < 0 then ([], tear s) else rowL k (belowS s 2 most.toNat).1 (belowS s 2 most.toNat).2 []
theorem below_small (s : St) (m : Nat) : (belowS s 2 m).1 ≤ 65535 ∧ ((belowS s 2 m).2.1 = true → (belowS s 2 m).1 = 0) := by
  unfold belowS
  rcases hn : nxt s 2 with _ | n
  · exact ⟨Nat.zero_le _, fun _ => rfl⟩
  · have h6 := nxt_two s n hn
    have h9 := (nxt_lt s 2 n hn).2.2.2.2
    simp only
    split
    · exact ⟨h6, fun h => by simp only at h; rw [h9] at h; cases h⟩
    · exact ⟨Nat.zero_le _, fun _ => rfl⟩
def V64 (x : Nat) : Value := .int .u64 (x : Int)
theorem info64 : (Try.prog.info? 22).map (fun i => (i.zero, i.size, i.bytes)) = some (some (.int .u64 0), 1, 8) := by kernel_rfl
theorem own_aside {B n g : Nat} {t : TypeId} {w w' : World} {v : Value} {xs : List Value} (h : w.ownsRow B t 1 v n xs) (hg : Grw g w w') (hB : g < B) : w'.ownsRow B t 1 v n xs := by
  refine World.ownsRow.kept h hg ?_
  rcases ho : v.ownBlock with _ | k
  · exact .inl rfl
  · refine .inr fun e => ?_
    have := (World.ownsRow.lt h k ho).1
    cases e; omega
end Go.Proofs.Ytdmdddmfiankhaa
