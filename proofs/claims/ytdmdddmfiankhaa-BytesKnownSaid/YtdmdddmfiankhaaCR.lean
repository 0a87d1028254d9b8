/- The law BytesKnown: what its call does. Conditions: a heap that has a block. -/
import Derived.Test.YtdmdddmfiankhaaCQ
namespace Go.Proofs.Ytdmdddmfiankhaa
open Go.RowKit
theorem cell_hold {w w' : World} {go : Nat} {v : Value} (h : w.cell? ⟨go, 1, none⟩ = some v ∧ go < w.heap.size) (hb : Below w.heap.size w w') : w'.cell? ⟨go, 1, none⟩ = some v ∧ go < w'.heap.size := ⟨(hb.cell (p := ⟨go, 1, none⟩) h.2).trans h.1, Nat.lt_of_lt_of_le h.2 hb.size⟩
theorem cell_beside {w w' : World} {go g : Nat} {v : Value} (h : w.cell? ⟨go, 1, none⟩ = some v ∧ go < w.heap.size) (hg : Grw g w w') (hne : go ≠ g) : w'.cell? ⟨go, 1, none⟩ = some v ∧ go < w'.heap.size := ⟨hg.cell h.1 hne, Nat.lt_of_lt_of_le h.2 hg.size⟩
theorem own_formK {B n : Nat} {t : TypeId} {w : World} {v : Value} {xs : List Value} (h : w.ownsRow B t 1 v n xs) : ∃ A c, v = .slice A n c ∧ True := by
  rcases h.2 with ⟨rfl, h2⟩ | ⟨g, c, cur, rfl, _⟩
  · exact ⟨none, 0, by rw [h2], trivial⟩
  · exact ⟨some ⟨g, 0, none⟩, c, rfl, trivial⟩
theorem own_cellK {B n c : Nat} {t : TypeId} {w : World} {A : Option Addr} {ys : List Nat} (h : w.ownsRow B t 1 (.slice A n c) n (ys.map V64)) (j : Nat) (hj : j < n) : ∃ g, A = some ⟨g, 0, none⟩ ∧ w.cell? ⟨g, j, none⟩ = some (.int .u64 (ys.getD j 0 : Nat)) := by
  have hl : ys.length = n := by have := h.1; simpa using this
  rcases h.2 with ⟨h1, h2⟩ | ⟨g, c2, cur, h1, _⟩
  · omega
  · cases h1
    refine ⟨g, rfl, (World.ownsRow.cellAt h j (by omega)).trans ?_⟩
    have hj2 : j < ys.length := by omega
    rw [List.getElem?_map, List.getElem?_eq_getElem hj2]
    simp [V64, List.getD, List.getElem?_eq_getElem hj2]
theorem own_none {B : Nat} {w : World} {v : Value} (h : w.ownsRow B 22 1 v 0 []) : ∃ A c, v = .slice A 0 c := by
  rcases h.2 with ⟨rfl, _⟩ | ⟨g, c, cur, rfl, _⟩
  · exact ⟨_, _, rfl⟩
  · exact ⟨_, _, rfl⟩
set_option maxRecDepth 100000 in
set_option maxHeartbeats 1000000 in
theorem known_any (w : World) (hp : 0 < w.heap.size) : Calls Try.prog 11 #[] w fun e w' => e = .returned (.bool true) ∧ Below w.heap.size w w' := by
  have HP := hid hp
  have K1 : Hid (∀ w1 : World, 0 < w1.heap.size → Calls Try.prog 13 #[.slice none 0 0, .int .i64 2, .int .u64 513] w1 fun e w' => ∃ v', e = .returned v' ∧ Fresh w1.heap.size w' v' [2, 1] ∧ Below w1.heap.size w1 w') := fun w1 h => put_any _ [] none 0 0 0 2 513 (by omega) (by decide) w1 (Bytes.nil w1 h)
  have K2 : Hid (∀ w1 : World, 0 < w1.heap.size → Calls Try.prog 13 #[.slice none 0 0, .int .i64 4, .int .u64 4294967303] w1 fun e w' => ∃ v', e = .returned v' ∧ Fresh w1.heap.size w' v' [0, 0, 0, 7] ∧ Below w1.heap.size w1 w') := fun w1 h => put_any _ [] none 0 0 0 4 4294967303 (by omega) (by decide) w1 (Bytes.nil w1 h)
  have K3 : Hid (∀ (w1 : World) v A c b, Bytes w1 v [9] A c b 0 → Calls Try.prog 13 #[v, .int .i64 1, .int .u64 255] w1 fun e w' => ∃ v', e = .returned v' ∧ Fresh w1.heap.size w' v' [9, 255] ∧ Below w1.heap.size w1 w') := fun w1 v A c b h => put_any v [9] A c b 0 1 255 (by omega) (by decide) w1 h
  have K4 : Hid (∀ (w1 : World) v A c b, Bytes w1 v [9] A c b 0 → Calls Try.prog 13 #[v, .int .i64 3, .int .u64 1] w1 fun e w' => ∃ v', e = .returned v' ∧ Fresh w1.heap.size w' v' [9] ∧ Below w1.heap.size w1 w') := fun w1 v A c b h => put_any v [9] A c b 0 3 1 (by omega) (by decide) w1 h
  have K5 : Hid (∀ w1 : World, 0 < w1.heap.size → Calls Try.prog 14 #[.slice none 0 0, .string ⟨#[97, 98]⟩] w1 fun e w' => ∃ v', e = .returned (.tuple #[v', .int .i64 0]) ∧ Fresh w1.heap.size w' v' [0, 2, 97, 98] ∧ Below w1.heap.size w1 w') := fun w1 h => putText_any _ [] none 0 0 0 ⟨#[97, 98]⟩ (by decide) (by decide) w1 (Bytes.nil w1 h)
  obtain ⟨Cb, sb, hsb, hmk, hcb⟩ := make_big
  have K6 : Hid (∀ w1, Calls Try.prog 14 #[.slice none 0 0, .string sb] w1 fun e w' => e = .returned (.tuple #[.slice none 0 0, .int .i64 3]) ∧ w1 = w') := fun w1 => putText_long _ sb hsb w1
  have KT : Hid (∀ (w1 : World) v xs A cap bb off, xs.length ≤ 100 → Bytes w1 v xs A cap bb off → Calls Try.prog 20 #[v] w1 fun e w' => ∃ g, e = .returned (.pointer (some ⟨g, 0, none⟩)) ∧ w1.heap.size ≤ g ∧ Tp w' g (false, xs) ∧ Below w1.heap.size w1 w') := fun w1 v xs A cap bb off hl h => newTape_any v xs A cap bb off (by omega) w1 h
  have KA : Hid (∀ w1 g, Tp w1 g (false, [0, 2, 97, 98]) → Calls Try.prog 34 #[.pointer (some ⟨g, 0, none⟩), .int .i64 2] w1 fun e w' => e = .returned (.string ⟨#[97, 98]⟩) ∧ Tp w' g (false, []) ∧ Grw g w1 w') := fun w1 g h => text_any g _ 2 w1 h
  have KB : Hid (∀ w1 g, Tp w1 g (false, [0, 2, 97, 98]) → Calls Try.prog 34 #[.pointer (some ⟨g, 0, none⟩), .int .i64 1] w1 fun e w' => e = .returned (.string ⟨#[]⟩) ∧ Tp w' g (true, [0, 2, 97, 98]) ∧ Grw g w1 w') := fun w1 g h => text_any g _ 1 w1 h
  have KC : Hid (∀ w1 g, Tp w1 g (false, [0, 2, 97, 98]) → Calls Try.prog 23 #[.pointer (some ⟨g, 0, none⟩), .int .i64 8] w1 fun e w' => e = .returned (.int .u64 0) ∧ Tp w' g (true, [0, 2, 97, 98]) ∧ Grw g w1 w') := fun w1 g h => num_any g _ 8 w1 h
  have KD : Hid (∀ w1 g, Tp w1 g (false, [0, 5]) → Calls Try.prog 36 #[.pointer (some ⟨g, 0, none⟩), .int .i64 2, .int .u64 5] w1 fun e w' => e = .returned (.int .i64 5) ∧ Tp w' g (false, []) ∧ Grw g w1 w') := fun w1 g h => below_any g _ 2 5 w1 h
  have KE : Hid (∀ w1 g, Tp w1 g (false, [0, 6]) → Calls Try.prog 36 #[.pointer (some ⟨g, 0, none⟩), .int .i64 2, .int .u64 5] w1 fun e w' => e = .returned (.int .i64 0) ∧ Tp w' g (true, [0, 6]) ∧ Grw g w1 w') := fun w1 g h => below_any g _ 2 5 w1 h
  have KF : Hid (∀ w1 g, Tp w1 g (false, []) → Calls Try.prog 33 #[.pointer (some ⟨g, 0, none⟩)] w1 fun e w' => e = .returned (.int .i64 0) ∧ Tp w' g (false, []) ∧ Grw g w1 w') := fun w1 g h => end_any g _ w1 h
  have KR : Hid (∀ w1 g s, Tp w1 g s → Calls Try.prog 27 #[.pointer (some ⟨g, 0, none⟩)] w1 fun e w' => e = .returned (.int .i64 (errS s)) ∧ w1 = w') := fun w1 g s h => err_any g s w1 h
  have KL : Hid (∀ w1 g s, Tp w1 g s → Calls Try.prog 25 #[.pointer (some ⟨g, 0, none⟩)] w1 fun e w' => e = .returned (.int .i64 (s.2.length : Int)) ∧ w1 = w') := fun w1 g s h => left_any g s w1 h
  have ER : Hid (∀ xs, errS (true, xs) = 4) := fun xs => rfl
  have KO : Hid (∀ w1 g, Tp w1 g (false, [0, 2, 7, 9]) → Calls Try.prog 21 #[.pointer (some ⟨g, 0, none⟩), .int .i64 2, .func (.func 39) #[] #[]] w1 fun e w' => ∃ go c, e = .returned (.slice (some ⟨go, 0, none⟩) 2 c) ∧ w'.cell? ⟨go, 1, none⟩ = some (.int .u64 9) ∧ go < w'.heap.size ∧ Grw g w1 w') := fun w1 g h => by
    have hr : rowS (false, [0, 2, 7, 9]) ((2 : Nat) : Int) 1 = ([7, 9], (false, [])) := by rfl
    have := rowKnown_more g _ 2 (by omega) w1 h
    rw [hr] at this
    refine this.mono ?_
    rintro e w' ⟨v, rfl, ho, _, hg⟩
    obtain ⟨A, c, rfl, _⟩ := own_formK ho
    obtain ⟨go, rfl, hc⟩ := own_cellK (ys := [7, 9]) ho 1 (by decide)
    exact ⟨go, c, rfl, hc, block_lt_of_cell (a := ⟨go, 1, none⟩) hc, hg⟩
  have KP : Hid (∀ w1 g, Tp w1 g (false, [0, 2, 7, 9]) → Calls Try.prog 21 #[.pointer (some ⟨g, 0, none⟩), .int .i64 1, .func (.func 39) #[] #[]] w1 fun e w' => ∃ A c, e = .returned (.slice A 0 c) ∧ Tp w' g (true, [0, 2, 7, 9]) ∧ Grw g w1 w') := fun w1 g h => by
    have hr : rowS (false, [0, 2, 7, 9]) ((1 : Nat) : Int) 1 = ([], (true, [0, 2, 7, 9])) := by rfl
    have := rowKnown_more g _ 1 (by omega) w1 h
    rw [hr] at this
    refine this.mono ?_
    rintro e w' ⟨v, rfl, ho, ht, hg⟩
    obtain ⟨A, c, rfl⟩ := own_none ho
    exact ⟨A, c, rfl, ht, hg⟩
  have KS : Hid (∀ w1 g, Tp w1 g (false, [0, 3, 7, 9]) → Calls Try.prog 21 #[.pointer (some ⟨g, 0, none⟩), .int .i64 5, .func (.func 39) #[] #[]] w1 fun e w' => ∃ A c, e = .returned (.slice A 0 c) ∧ Tp w' g (true, []) ∧ Grw g w1 w') := fun w1 g h => by
    have hr : rowS (false, [0, 3, 7, 9]) ((5 : Nat) : Int) 1 = ([], (true, [])) := by rfl
    have := rowKnown_more g _ 5 (by omega) w1 h
    rw [hr] at this
    refine this.mono ?_
    rintro e w' ⟨v, rfl, ho, ht, hg⟩
    obtain ⟨A, c, rfl⟩ := own_none ho
    exact ⟨A, c, rfl, ht, hg⟩
  obtain ⟨Ci, hmi⟩ := make_ints
  have KI : Hid (∀ w1 A c f, Calls Try.prog 40 #[.slice none 0 0, .slice A 65536 c, f] w1 fun e w' => e = .returned (.tuple #[.slice none 0 0, .int .i64 3]) ∧ w1 = w') := fun w1 A c f => putRowInt_long _ A 65536 c f (by decide) w1
  have klt := fun w1 => (lit_text w1).2
  clear hp hsb
  go_enter Try.func11, Try.ntmps11
  go_wp2_with (fail)
  refine (K1.out w HP.out).mono ?_
  rintro e1 w1 ⟨v1, rfl, ho, hb⟩
  have B1 : Hid (Below w.heap.size w w1) := hb
  obtain ⟨A1, c1, b1, y1, _, _⟩ := ho.bytes (Nat.lt_of_lt_of_le HP.out B1.out.size)
  have Y1 : Hid (Bytes w1 v1 [2, 1] A1 c1 b1 0) := y1
  clear ho hb y1
  go_wp2_with (fail)
  refine (K2.out w1 (Nat.lt_of_lt_of_le HP.out B1.out.size)).mono ?_
  rintro e2 w2 ⟨v2, rfl, ho, hb⟩
  have B2 : Hid (Below w.heap.size w w2) := B1.out.trans (hb.mono B1.out.size)
  have Y1 := hid (Y1.out.kept hb (Nat.le_refl _))
  clear B1
  obtain ⟨A2, c2, b2, y2, _, _⟩ := ho.bytes (Nat.lt_of_lt_of_le HP.out B2.out.size)
  have Y2 : Hid (Bytes w2 v2 [0, 0, 0, 7] A2 c2 b2 0) := y2
  clear ho hb y2
  go_wp2_with (fail)
  refine (K3.out _ _ _ _ _ (lit_plain w2 [9] #[.int .u8 9] 1 rfl rfl)).mono ?_
  rintro e3 w3 ⟨v3, rfl, ho, hb⟩
  have hbl : Below w2.heap.size w2 w3 := ((Below.refl _ _).alloc (Nat.le_refl _) _).trans (hb.mono (by simp))
  clear hb
  have B3 : Hid (Below w.heap.size w w3) := B2.out.trans (hbl.mono B2.out.size)
  have Y1 := hid (Y1.out.kept hbl (Nat.le_refl _))
  have Y2 := hid (Y2.out.kept hbl (Nat.le_refl _))
  clear B2
  obtain ⟨A3, c3, b3, y3, _, _⟩ := ho.bytes (Nat.lt_of_lt_of_le HP.out B3.out.size)
  have Y3 : Hid (Bytes w3 v3 [9, 255] A3 c3 b3 0) := y3
  clear ho hbl y3
  go_wp2_with (fail)
  refine (K4.out _ _ _ _ _ (lit_plain w3 [9] #[.int .u8 9] 1 rfl rfl)).mono ?_
  rintro e4 w4 ⟨v4, rfl, ho, hb⟩
  have hbl : Below w3.heap.size w3 w4 := ((Below.refl _ _).alloc (Nat.le_refl _) _).trans (hb.mono (by simp))
  clear hb
  have B4 : Hid (Below w.heap.size w w4) := B3.out.trans (hbl.mono B3.out.size)
  have Y1 := hid (Y1.out.kept hbl (Nat.le_refl _))
  have Y2 := hid (Y2.out.kept hbl (Nat.le_refl _))
  have Y3 := hid (Y3.out.kept hbl (Nat.le_refl _))
  clear B3
  obtain ⟨A4, c4, b4, y4, _, _⟩ := ho.bytes (Nat.lt_of_lt_of_le HP.out B4.out.size)
  have Y4 : Hid (Bytes w4 v4 [9] A4 c4 b4 0) := y4
  clear ho hbl y4
  go_wp2_with (fail)
  refine (K5.out w4 (Nat.lt_of_lt_of_le HP.out B4.out.size)).mono ?_
  rintro e5 w5 ⟨v5, rfl, ho, hb⟩
  have B5 : Hid (Below w.heap.size w w5) := B4.out.trans (hb.mono B4.out.size)
  have Y1 := hid (Y1.out.kept hb (Nat.le_refl _))
  have Y2 := hid (Y2.out.kept hb (Nat.le_refl _))
  have Y3 := hid (Y3.out.kept hb (Nat.le_refl _))
  have Y4 := hid (Y4.out.kept hb (Nat.le_refl _))
  clear B4
  obtain ⟨A5, c5, b5, y5, _, _⟩ := ho.bytes (Nat.lt_of_lt_of_le HP.out B5.out.size)
  have Y5 : Hid (Bytes w5 v5 [0, 2, 97, 98] A5 c5 b5 0) := y5
  clear ho hb y5
  have hcb6 := hcb w5
  go_wp2_with (fail)
  refine (K6.out _).mono ?_
  rintro e6 w6 ⟨rfl, h6⟩
  have hb6 : Below w5.heap.size w5 w6 := by rw [← h6]; exact (Below.refl _ _).alloc (Nat.le_refl _) _
  have B6 : Hid (Below w.heap.size w w6) := B5.out.trans (hb6.mono B5.out.size)
  have Y1 := hid (Y1.out.kept hb6 (Nat.le_refl _))
  have Y2 := hid (Y2.out.kept hb6 (Nat.le_refl _))
  have Y3 := hid (Y3.out.kept hb6 (Nat.le_refl _))
  have Y4 := hid (Y4.out.kept hb6 (Nat.le_refl _))
  have Y5 := hid (Y5.out.kept hb6 (Nat.le_refl _))
  clear B5
  clear h6 hb6 hcb6 hcb hmk
  have k1 := conv_is Y1.out (x := ⟨#[2, 1]⟩) rfl
  have k2 := conv_is Y2.out (x := ⟨#[0, 0, 0, 7]⟩) rfl
  have k3 := conv_is Y3.out (x := ⟨#[9, 255]⟩) rfl
  have k4 := conv_is Y4.out (x := ⟨#[9]⟩) rfl
  have k5 := conv_is Y5.out (x := ⟨#[0, 2, 97, 98]⟩) rfl
  clear Y1 Y2 Y3 Y4 Y5
  go_wp2_with (fail)
  refine (KT.out _ _ [0, 2, 97, 98] _ _ _ _ (by decide) (lit_text w6).1).mono ?_
  rintro e7 w7 ⟨g7, rfl, hg, ht, hb⟩
  have hbl : Below w6.heap.size w6 w7 := ((Below.refl _ _).alloc (Nat.le_refl _) _).trans (hb.mono (by simp))
  have hgl : w6.heap.size ≤ g7 := Nat.le_trans (by simp) hg
  have G7 : Hid (w.heap.size ≤ g7) := Nat.le_trans B6.out.size hgl
  have T7 := hid ht
  have B7 : Hid (Below w.heap.size w w7) := B6.out.trans (hbl.mono B6.out.size)
  clear B6
  clear hg ht hb hbl hgl
  clear k1 k2 k3 k4 k5
  go_wp2_with (fail)
  refine (KT.out _ _ [0, 2, 97, 98] _ _ _ _ (by decide) (lit_text w7).1).mono ?_
  rintro e8 w8 ⟨g8, rfl, hg, ht, hb⟩
  have hbl : Below w7.heap.size w7 w8 := ((Below.refl _ _).alloc (Nat.le_refl _) _).trans (hb.mono (by simp))
  have hgl : w7.heap.size ≤ g8 := Nat.le_trans (by simp) hg
  have N7_8 : Hid (g7 ≠ g8) := Nat.ne_of_lt (Nat.lt_of_lt_of_le T7.out.inside hgl)
  have N8_7 : Hid (g8 ≠ g7) := Ne.symm N7_8.out
  have G8 : Hid (w.heap.size ≤ g8) := Nat.le_trans B7.out.size hgl
  have T8 := hid ht
  have B8 : Hid (Below w.heap.size w w8) := B7.out.trans (hbl.mono B7.out.size)
  have T7 := hid (T7.out.kept hbl)
  clear B7
  clear hg ht hb hbl hgl
  go_wp2_with (fail)
  refine (KT.out _ _ [0, 2, 97, 98] _ _ _ _ (by decide) (lit_text w8).1).mono ?_
  rintro e9 w9 ⟨g9, rfl, hg, ht, hb⟩
  have hbl : Below w8.heap.size w8 w9 := ((Below.refl _ _).alloc (Nat.le_refl _) _).trans (hb.mono (by simp))
  have hgl : w8.heap.size ≤ g9 := Nat.le_trans (by simp) hg
  have N7_9 : Hid (g7 ≠ g9) := Nat.ne_of_lt (Nat.lt_of_lt_of_le T7.out.inside hgl)
  have N9_7 : Hid (g9 ≠ g7) := Ne.symm N7_9.out
  have N8_9 : Hid (g8 ≠ g9) := Nat.ne_of_lt (Nat.lt_of_lt_of_le T8.out.inside hgl)
  have N9_8 : Hid (g9 ≠ g8) := Ne.symm N8_9.out
  have G9 : Hid (w.heap.size ≤ g9) := Nat.le_trans B8.out.size hgl
  have T9 := hid ht
  have B9 : Hid (Below w.heap.size w w9) := B8.out.trans (hbl.mono B8.out.size)
  have T7 := hid (T7.out.kept hbl)
  have T8 := hid (T8.out.kept hbl)
  clear B8
  clear hg ht hb hbl hgl
  go_wp2_with (fail)
  refine (KA.out _ _ T7.out).mono ?_
  rintro e10 w10 ⟨rfl, ht, hg⟩
  have T8 := Tp.beside T8 T7 N8_7 hg
  have T9 := Tp.beside T9 T7 N9_7 hg
  have B10 : Hid (Below w.heap.size w w10) := Grw.below B9.out hg G7.out B9.out.size
  have T7 := hid ht
  clear hg ht B9
  go_wp2_with (fail)
  refine (KB.out _ _ T8.out).mono ?_
  rintro e11 w11 ⟨rfl, ht, hg⟩
  have T9 := Tp.beside T9 T8 N9_8 hg
  have B11 : Hid (Below w.heap.size w w11) := Grw.below B10.out hg G8.out B10.out.size
  have T8 := hid ht
  clear hg ht B10
  go_wp2_with (fail)
  refine (KC.out _ _ T9.out).mono ?_
  rintro e12 w12 ⟨rfl, ht, hg⟩
  have T8 := Tp.beside T8 T9 N8_9 hg
  have B12 : Hid (Below w.heap.size w w12) := Grw.below B11.out hg G9.out B11.out.size
  have T9 := hid ht
  clear hg ht B11
  go_wp2_with (fail)
  refine (KT.out _ _ [0, 5] _ _ _ _ (by decide) (lit_plain w12 [0, 5] #[.int .u8 0, .int .u8 5] 2 rfl rfl)).mono ?_
  rintro e13 w13 ⟨g13, rfl, hg, ht, hb⟩
  have hbl : Below w12.heap.size w12 w13 := ((Below.refl _ _).alloc (Nat.le_refl _) _).trans (hb.mono (by simp))
  have hgl : w12.heap.size ≤ g13 := Nat.le_trans (by simp) hg
  have N8_13 : Hid (g8 ≠ g13) := Nat.ne_of_lt (Nat.lt_of_lt_of_le T8.out.inside hgl)
  have N13_8 : Hid (g13 ≠ g8) := Ne.symm N8_13.out
  have N9_13 : Hid (g9 ≠ g13) := Nat.ne_of_lt (Nat.lt_of_lt_of_le T9.out.inside hgl)
  have N13_9 : Hid (g13 ≠ g9) := Ne.symm N9_13.out
  have G13 : Hid (w.heap.size ≤ g13) := Nat.le_trans B12.out.size hgl
  have T13 := hid ht
  have B13 : Hid (Below w.heap.size w w13) := B12.out.trans (hbl.mono B12.out.size)
  have T8 := hid (T8.out.kept hbl)
  have T9 := hid (T9.out.kept hbl)
  clear B12
  clear hg ht hb hbl hgl
  go_wp2_with (fail)
  refine (KD.out _ _ T13.out).mono ?_
  rintro e14 w14 ⟨rfl, ht, hg⟩
  have T8 := Tp.beside T8 T13 N8_13 hg
  have T9 := Tp.beside T9 T13 N9_13 hg
  have B14 : Hid (Below w.heap.size w w14) := Grw.below B13.out hg G13.out B13.out.size
  have T13 := hid ht
  clear hg ht B13
  go_wp2_with (fail)
  refine (KT.out _ _ [0, 6] _ _ _ _ (by decide) (lit_plain w14 [0, 6] #[.int .u8 0, .int .u8 6] 2 rfl rfl)).mono ?_
  rintro e15 w15 ⟨g15, rfl, hg, ht, hb⟩
  have hbl : Below w14.heap.size w14 w15 := ((Below.refl _ _).alloc (Nat.le_refl _) _).trans (hb.mono (by simp))
  have hgl : w14.heap.size ≤ g15 := Nat.le_trans (by simp) hg
  have N8_15 : Hid (g8 ≠ g15) := Nat.ne_of_lt (Nat.lt_of_lt_of_le T8.out.inside hgl)
  have N15_8 : Hid (g15 ≠ g8) := Ne.symm N8_15.out
  have N9_15 : Hid (g9 ≠ g15) := Nat.ne_of_lt (Nat.lt_of_lt_of_le T9.out.inside hgl)
  have N15_9 : Hid (g15 ≠ g9) := Ne.symm N9_15.out
  have N13_15 : Hid (g13 ≠ g15) := Nat.ne_of_lt (Nat.lt_of_lt_of_le T13.out.inside hgl)
  have N15_13 : Hid (g15 ≠ g13) := Ne.symm N13_15.out
  have G15 : Hid (w.heap.size ≤ g15) := Nat.le_trans B14.out.size hgl
  have T15 := hid ht
  have B15 : Hid (Below w.heap.size w w15) := B14.out.trans (hbl.mono B14.out.size)
  have T8 := hid (T8.out.kept hbl)
  have T9 := hid (T9.out.kept hbl)
  have T13 := hid (T13.out.kept hbl)
  clear B14
  clear hg ht hb hbl hgl
  go_wp2_with (fail)
  refine (KE.out _ _ T15.out).mono ?_
  rintro e16 w16 ⟨rfl, ht, hg⟩
  have T8 := Tp.beside T8 T15 N8_15 hg
  have T9 := Tp.beside T9 T15 N9_15 hg
  have T13 := Tp.beside T13 T15 N13_15 hg
  have B16 : Hid (Below w.heap.size w w16) := Grw.below B15.out hg G15.out B15.out.size
  have T15 := hid ht
  clear hg ht B15
  go_wp2_with (fail)
  refine (KR.out _ _ _ T8.out).mono ?_
  rintro e17 w17 ⟨rfl, rfl⟩
  go_wp2_with (fail)
  refine (KR.out _ _ _ T9.out).mono ?_
  rintro e18 w18 ⟨rfl, rfl⟩
  go_wp2_with (fail)
  refine (KF.out _ _ T13.out).mono ?_
  rintro e19 w19 ⟨rfl, ht, hg⟩
  have T15 := Tp.beside T15 T13 N15_13 hg
  have B19 : Hid (Below w.heap.size w w19) := Grw.below B16.out hg G13.out B16.out.size
  have T13 := hid ht
  clear hg ht B16
  go_wp2_with (fail)
  refine (KL.out _ _ _ T15.out).mono ?_
  rintro e20 w20 ⟨rfl, rfl⟩
  go_wp2_with (fail)
  refine (KR.out _ _ _ T15.out).mono ?_
  rintro e21 w21 ⟨rfl, rfl⟩
  go_wp2_with (fail)
  refine (KT.out _ _ [0, 2, 7, 9] _ _ _ _ (by decide) (lit_plain w19 [0, 2, 7, 9] #[.int .u8 0, .int .u8 2, .int .u8 7, .int .u8 9] 4 rfl rfl)).mono ?_
  rintro e22 w22 ⟨g22, rfl, hg, ht, hb⟩
  have hbl : Below w19.heap.size w19 w22 := ((Below.refl _ _).alloc (Nat.le_refl _) _).trans (hb.mono (by simp))
  have hgl : w19.heap.size ≤ g22 := Nat.le_trans (by simp) hg
  have G22 : Hid (w.heap.size ≤ g22) := Nat.le_trans B19.out.size hgl
  have T22 := hid ht
  have B22 : Hid (Below w.heap.size w w22) := B19.out.trans (hbl.mono B19.out.size)
  clear B19
  clear hg ht hb hbl hgl
  go_wp2_with (fail)
  refine (KO.out _ _ T22.out).mono ?_
  rintro e23 w23 ⟨go, co, rfl, hc, hgo, hg⟩
  have B23 : Hid (Below w.heap.size w w23) := Grw.below B22.out hg G22.out B22.out.size
  clear hg  B22
  have OC := hid (And.intro hc hgo)
  clear hc hgo
  go_wp2_with (fail)
  refine (KT.out _ _ [0, 2, 7, 9] _ _ _ _ (by decide) (lit_plain w23 [0, 2, 7, 9] #[.int .u8 0, .int .u8 2, .int .u8 7, .int .u8 9] 4 rfl rfl)).mono ?_
  rintro e24 w24 ⟨g24, rfl, hg, ht, hb⟩
  have hbl : Below w23.heap.size w23 w24 := ((Below.refl _ _).alloc (Nat.le_refl _) _).trans (hb.mono (by simp))
  have hgl : w23.heap.size ≤ g24 := Nat.le_trans (by simp) hg
  have NO24 : Hid (go ≠ g24) := Nat.ne_of_lt (Nat.lt_of_lt_of_le OC.out.2 hgl)
  have G24 : Hid (w.heap.size ≤ g24) := Nat.le_trans B23.out.size hgl
  have T24 := hid ht
  have B24 : Hid (Below w.heap.size w w24) := B23.out.trans (hbl.mono B23.out.size)
  have OC := hid (cell_hold OC.out hbl)
  clear B23
  clear hg ht hb hbl hgl
  go_wp2_with (fail)
  refine (KP.out _ _ T24.out).mono ?_
  rintro e25 w25 ⟨Ap, cp, rfl, ht, hg⟩
  have OC := hid (cell_beside OC.out hg NO24.out)
  have B25 : Hid (Below w.heap.size w w25) := Grw.below B24.out hg G24.out B24.out.size
  have T24 := hid ht
  clear hg ht B24
  go_wp2_with (fail)
  refine (KT.out _ _ [0, 3, 7, 9] _ _ _ _ (by decide) (lit_plain w25 [0, 3, 7, 9] #[.int .u8 0, .int .u8 3, .int .u8 7, .int .u8 9] 4 rfl rfl)).mono ?_
  rintro e26 w26 ⟨g26, rfl, hg, ht, hb⟩
  have hbl : Below w25.heap.size w25 w26 := ((Below.refl _ _).alloc (Nat.le_refl _) _).trans (hb.mono (by simp))
  have hgl : w25.heap.size ≤ g26 := Nat.le_trans (by simp) hg
  have N24_26 : Hid (g24 ≠ g26) := Nat.ne_of_lt (Nat.lt_of_lt_of_le T24.out.inside hgl)
  have N26_24 : Hid (g26 ≠ g24) := Ne.symm N24_26.out
  have NO26 : Hid (go ≠ g26) := Nat.ne_of_lt (Nat.lt_of_lt_of_le OC.out.2 hgl)
  have G26 : Hid (w.heap.size ≤ g26) := Nat.le_trans B25.out.size hgl
  have T26 := hid ht
  have B26 : Hid (Below w.heap.size w w26) := B25.out.trans (hbl.mono B25.out.size)
  have T24 := hid (T24.out.kept hbl)
  have OC := hid (cell_hold OC.out hbl)
  clear B25
  clear hg ht hb hbl hgl
  go_wp2_with (fail)
  refine (KS.out _ _ T26.out).mono ?_
  rintro e27 w27 ⟨As, cs, rfl, ht, hg⟩
  have T24 := Tp.beside T24 T26 N24_26 hg
  have OC := hid (cell_beside OC.out hg NO26.out)
  have B27 : Hid (Below w.heap.size w w27) := Grw.below B26.out hg G26.out B26.out.size
  have T26 := hid ht
  clear hg ht B26
  go_wp2_with (fail)
  refine (KI.out _ _ _ _).mono ?_
  rintro e28 w28 ⟨rfl, h6⟩
  have hb6 : Below w27.heap.size w27 w28 := by rw [← h6]; exact (Below.refl _ _).alloc (Nat.le_refl _) _
  have B28 : Hid (Below w.heap.size w w28) := B27.out.trans (hb6.mono B27.out.size)
  have T24 := hid (T24.out.kept hb6)
  have T26 := hid (T26.out.kept hb6)
  have OC := hid (cell_hold OC.out hb6)
  clear B27
  clear h6 hb6 hmi
  have hb7 : Below w28.heap.size w28 (w28.alloc (.cells #[.bool false, .bool false, .slice none 0 0] 76)) := (Below.refl _ _).alloc (Nat.le_refl _) _
  have HE : Hid (Has (w28.alloc (.cells #[.bool false, .bool false, .slice none 0 0] 76)) w28.heap.size 76 #[.bool false, .bool false, .slice none 0 0]) := Has.fresh w28 76 _
  obtain ⟨ge, hge⟩ : ∃ ge, w28.heap.size = ge := ⟨_, rfl⟩
  generalize hW7 : w28.alloc (.cells #[.bool false, .bool false, .slice none 0 0] 76) = w29 at hb7 HE
  have B29 : Hid (Below w.heap.size w w29) := B28.out.trans (hb7.mono B28.out.size)
  have T24 := hid (T24.out.kept hb7)
  have T26 := hid (T26.out.kept hb7)
  have OC := hid (cell_hold OC.out hb7)
  clear B28
  rw [hge] at HE
  clear hb7
  have c9 := OC.out.1
  have NN := hid (none_nil w29)
  have NE := hid (none_empty w29 ge HE.out)
  go_wp2_with (fail)
  refine (none_tear _ _ NN).mono ?_
  rintro e30 w30 ⟨rfl, rfl⟩
  go_wp2_with (fail)
  refine (KR.out _ _ _ T24.out).mono ?_
  rintro e31 w31 ⟨rfl, rfl⟩
  go_wp2_with (fail)
  refine (KR.out _ _ _ T26.out).mono ?_
  rintro e32 w32 ⟨rfl, rfl⟩
  go_wp2_with (fail)
  refine (NN.out).mono ?_
  rintro e33 w33 ⟨rfl, rfl⟩
  go_wp2_with (fail)
  refine (none_num _ _ _ NN).mono ?_
  rintro e34 w34 ⟨rfl, rfl⟩
  go_wp2_with (fail)
  refine (none_end _ _ NN).mono ?_
  rintro e35 w35 ⟨rfl, rfl⟩
  go_wp2_with (fail)
  refine (none_left _ _ NN).mono ?_
  rintro e36 w36 ⟨rfl, rfl⟩
  go_wp2_with (fail)
  refine (NE.out).mono ?_
  rintro e37 w37 ⟨rfl, rfl⟩
  go_wp2_with (fail)
  refine (none_bytes _ _ _ NE).mono ?_
  rintro e38 w38 ⟨rfl, rfl⟩
  go_wp2_with (fail)
  refine (works_any _ (Nat.lt_of_lt_of_le HP.out B29.out.size)).mono ?_
  rintro e99 w99 ⟨rfl, hb99⟩
  go_wp2
  go_ret
  exact ⟨rfl, B29.out.trans (hb99.mono B29.out.size)⟩
end Go.Proofs.Ytdmdddmfiankhaa
