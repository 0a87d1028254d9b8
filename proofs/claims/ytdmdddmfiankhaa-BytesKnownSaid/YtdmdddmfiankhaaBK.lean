/- caravanlaw04.cut, works: what each call does. Conditions: a heap that has a block. -/
import Derived.Test.YtdmdddmfiankhaaBJ
namespace Go.Proofs.Ytdmdddmfiankhaa
open Go.RowKit
theorem ret_str {a b : ByteArray} (h : a = b) : Ending.returned (.string a) = .returned (.string b) := by rw [h]
theorem ba_take (s : ByteArray) (k : Nat) : s.extract 0 k = ba ((tl s).take k) := by
  apply ByteArray.ext; apply Array.ext'; simp [ba, tl]
set_option maxRecDepth 100000 in
set_option maxHeartbeats 400000 in
theorem cut_any (s : ByteArray) (m : Nat) (hm : m ≤ 100000) (w : World) : Calls Try.prog 12 #[.string s, .int .i64 (m : Int)] w fun e w' => e = .returned (.string (ba ((tl s).take m))) ∧ w = w' := by
  by_cases hlt : m < s.size
  · have hm1 : (m : Int) < (s.size : Int) := by omega
    go_enter Try.func12, Try.ntmps12
    go_wp2
    go_ret
    exact ⟨ret_str (by rw [← ba_take]), rfl⟩
  · have hm1 : ¬ (m : Int) < (s.size : Int) := by omega
    have HT : Hid (ba ((tl s).take m) = s) := by
      show _ = _
      rw [List.take_of_length_le (by rw [tl_length]; omega), ba_tl]
    go_enter Try.func12, Try.ntmps12
    go_wp2
    go_ret
    exact ⟨ret_str HT.out.symm, rfl⟩
theorem conv_eq {w : World} {v : Value} {ys zs : List UInt8} {A : Option Addr} {cap bb off : Nat} (h : Bytes w v ys A cap bb off) (e : ys = zs) : (convert 24 9 v).run Try.prog w = .ok (.string (ba zs)) w := by rw [← e]; exact conv_back h
set_option maxRecDepth 100000 in
set_option maxHeartbeats 1000000 in
theorem works_any (w : World) (hp : 0 < w.heap.size) : Calls Try.prog 17 #[] w fun e w' => e = .returned (.bool true) ∧ Below w.heap.size w w' := by
  have C1 : Hid (Calls Try.prog 13 #[.slice none 0 0, .int .i64 2, .int .u64 513] w fun e w' => ∃ v', e = .returned v' ∧ Fresh w.heap.size w' v' [2, 1] ∧ Below w.heap.size w w') :=
    put_any _ [] none 0 0 0 2 513 (by omega) (by decide) w (Bytes.nil w hp)
  have C2 : Hid (∀ (w1 : World) (v : Value), Below w.heap.size w w1 → Fresh w.heap.size w1 v [2, 1] → Calls Try.prog 14 #[v, .string ⟨#[97, 98]⟩] w1 fun e w' => ∃ v', e = .returned (.tuple #[v', .int .i64 0]) ∧ Fresh w.heap.size w' v' [2, 1, 0, 2, 97, 98] ∧ Below w.heap.size w w') := fun w1 v hb hf => by
    obtain ⟨A, cap, bb, h, _, _⟩ := hf.bytes (Nat.lt_of_lt_of_le hp hb.size)
    refine (putText_any v [2, 1] A cap bb 0 ⟨#[97, 98]⟩ (by decide) (by decide) w1 h).mono ?_
    rintro e w' ⟨v', h1, h2, h3⟩
    exact ⟨v', h1, h2.mono hb.size, hb.trans (h3.mono hb.size)⟩
  have C3 : Hid (∀ (w1 : World) (v : Value), Below w.heap.size w w1 → Fresh w.heap.size w1 v [2, 1, 0, 2, 97, 98] → Calls Try.prog 20 #[v] w1 fun e w' => ∃ g, e = .returned (.pointer (some ⟨g, 0, none⟩)) ∧ w.heap.size ≤ g ∧ Tp w' g (false, [2, 1, 0, 2, 97, 98]) ∧ Below w.heap.size w w' ∧ (convert 24 9 v).run Try.prog w' = .ok (.string ⟨#[2, 1, 0, 2, 97, 98]⟩) w' ∧ ∃ A cap bb, Bytes w' v [2, 1, 0, 2, 97, 98] A cap bb 0 ∧ bb ≠ g) := fun w1 v hb hf => by
    obtain ⟨A, cap, bb, h, _, _⟩ := hf.bytes (Nat.lt_of_lt_of_le hp hb.size)
    refine (newTape_any v _ A cap bb 0 (by decide) w1 h).mono ?_
    rintro e w' ⟨g, h1, h2, h3, h4⟩
    have hk := h.kept h4 (Nat.le_refl _)
    exact ⟨g, h1, Nat.le_trans hb.size h2, h3, hb.trans (h4.mono hb.size), conv_back hk, A, cap, bb, hk, Nat.ne_of_lt (Nat.lt_of_lt_of_le h.blk h2)⟩
  have C4 : Hid (∀ (w1 : World) (g : Nat), Tp w1 g (false, [2, 1, 0, 2, 97, 98]) → Calls Try.prog 23 #[.pointer (some ⟨g, 0, none⟩), .int .i64 2] w1 fun e w' => e = .returned (.int .u64 513) ∧ Tp w' g (false, [0, 2, 97, 98]) ∧ Grw g w1 w') := fun w1 g h => num_any g _ 2 w1 h
  have C5 : Hid (∀ (w1 : World) (g : Nat), Tp w1 g (false, [0, 2, 97, 98]) → Calls Try.prog 34 #[.pointer (some ⟨g, 0, none⟩), .int .i64 2] w1 fun e w' => e = .returned (.string ⟨#[97, 98]⟩) ∧ Tp w' g (false, []) ∧ Grw g w1 w') := fun w1 g h => text_any g _ 2 w1 h
  have C6 : Hid (∀ (w1 : World) (g : Nat), Tp w1 g (false, []) → Calls Try.prog 33 #[.pointer (some ⟨g, 0, none⟩)] w1 fun e w' => e = .returned (.int .i64 0) ∧ Tp w' g (false, []) ∧ Grw g w1 w') := fun w1 g h => end_any g _ w1 h
  clear hp
  go_enter Try.func17, Try.ntmps17
  go_wp2_with (first
    | (go_at_call 13; refine C1.out.mono ?_; rintro e1 w1 ⟨v1, rfl, ho1, hb1⟩
       have O1 := hid ho1
       have B1 := hid hb1
       clear ho1 hb1)
    | (go_at_call 14; refine (C2.out _ _ B1.out O1.out).mono ?_; rintro e2 w2 ⟨v2, rfl, ho2, hb2⟩
       have O2 := hid ho2
       have B2 := hid hb2
       clear ho2 hb2 O1 B1)
    | (go_at_call 20; refine (C3.out _ _ B2.out O2.out).mono ?_; rintro e3 w3 ⟨g, rfl, hg, ht, hb3, hc3, A, cap, bb, hv, hne⟩
       have GG := hid hg
       have T3 := hid ht
       have B3 := hid hb3
       have V3 := hid hv
       have NE := hid hne
       clear hg ht hb3 hc3 hv hne O2 B2)
    | (go_at_call 23; refine (C4.out _ _ T3.out).mono ?_; rintro e4 w4 ⟨rfl, ht, hg⟩
       have T4 := hid ht
       have G4 := hid hg
       clear ht hg T3)
    | (go_at_call 34; refine (C5.out _ _ T4.out).mono ?_; rintro e5 w5 ⟨rfl, ht, hg⟩
       have T5 := hid ht
       have G5 : Hid (Grw g w3 w5) := G4.out.trans hg
       have k5 : (convert 24 9 v2).run Try.prog w5 = .ok (.string ⟨#[2, 1, 0, 2, 97, 98]⟩) w5 := conv_back (V3.out.grw G5.out NE.out)
       clear ht hg T4)
    | (go_at_call 33; refine (C6.out _ _ T5.out).mono ?_; rintro e6 w6 ⟨rfl, ht, hg⟩))
  go_ret
  exact ⟨rfl, Grw.below B3.out (G5.out.trans hg) GG.out B3.out.size⟩
end Go.Proofs.Ytdmdddmfiankhaa
