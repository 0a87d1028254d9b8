/- The law LinkKnown: what its call does. Conditions: a heap that has a block. -/
import Derived.Test.YtcfmjebnjjpajaaNK
namespace Go.Proofs.Ytcfmjebnjjpajaa
open Go.RowKit
theorem nolk_nil (w : World) : NoLk w (.pointer none) := .inl rfl
theorem nolk_empty {w : World} {p : Nat} {e a b : Value} (h : Has w p 49 #[.bool false, e, a, b]) : NoLk w (.pointer (some ⟨p, 0, none⟩)) := .inr ⟨p, e, a, b, rfl, h⟩
set_option maxRecDepth 100000 in
set_option maxHeartbeats 4000000 in
theorem known_law (w : World) (hp : 0 < w.heap.size) : Calls Try.prog 8 #[] w fun e w' => e = .returned (.bool true) ∧ Below w.heap.size w w' := by
  have kc := fun (w : World) (C : Array Value) (n c : Nat) => Lib.run_convert_bytes_const (P := Try.prog) w 26 5 C n c Try.underlying26 Try.underlying5
  have HP := hid hp
  obtain ⟨zs, Cz, hz, hmk, hby⟩ := make_some 262145 (by decide)
  have HZ := hid hz
  have HBY := hid hby
  have CN := hid (sk_new (w0 := w) (Below.refl _ _) hp)
  have C1 : Hid (∀ W, Sk w W w.heap.size (fun _ => []) 0 (fun _ => none) (0, 0) → Calls Try.prog 15 #[.pointer (some ⟨w.heap.size, 0, none⟩), .int .i64 1, .slice (some ⟨W.heap.size, 0, none⟩) 3 3] (W.alloc (.cells #[.int .u8 97, .int .u8 98, .int .u8 99] 5 (3, 4))) fun e w' => e = .returned (.int .i64 0) ∧ ∃ xs o, xs 1 = [97, 98, 99] ∧ xs 0 = [] ∧ Sk w w' w.heap.size xs 0 o (0, 0)) := fun W h => by
    refine (sk_send 1 (by decide) 1 (by decide) (h.alloc _) (lit_const W [97, 98, 99] _ 3 rfl rfl).1 (by decide)).mono ?_
    rintro e w' ⟨rfl, o', hs, _⟩
    exact ⟨rfl, _, _, rfl, rfl, hs⟩
  have C2 : Hid (∀ W (xs : Nat → List UInt8) (o : Nat → Option Nat), xs 1 = [97, 98, 99] → xs 0 = [] → Sk w W w.heap.size xs 0 o (0, 0) → Calls Try.prog 15 #[.pointer (some ⟨w.heap.size, 0, none⟩), .int .i64 1, .slice (some ⟨W.heap.size, 0, none⟩) 2 2] (W.alloc (.cells #[.int .u8 100, .int .u8 101] 5 (2, 3))) fun e w' => e = .returned (.int .i64 0) ∧ ∃ xs o, xs 1 = [97, 98, 99, 100, 101] ∧ xs 0 = [] ∧ Sk w w' w.heap.size xs 0 o (0, 0)) := fun W xs o h1 h0 h => by
    refine (sk_send 1 (by decide) 1 (by decide) (h.alloc _) (lit_const W [100, 101] _ 2 rfl rfl).1 (by decide)).mono ?_
    rintro e w' ⟨rfl, o', hs, _⟩
    rw [h1] at hs ⊢
    exact ⟨rfl, _, _, by rw [upd_at]; rfl, by rw [upd_ne _ _ (by decide)]; exact h0, hs⟩
  have C3 : Hid (∀ W (xs : Nat → List UInt8) (o : Nat → Option Nat), xs 1 = [97, 98, 99, 100, 101] → Sk w W w.heap.size xs 0 o (0, 0) → Calls Try.prog 11 #[.pointer (some ⟨w.heap.size, 0, none⟩), .int .i64 2] W fun e w' => e = .returned (.int .i64 5) ∧ Sk w w' w.heap.size xs 0 o (0, 0)) := fun W xs o h1 h => by
    refine (sk_left 1 (by decide) 2 (by decide) h).mono ?_
    rintro e w' ⟨rfl, hs, _⟩
    exact ⟨by rw [h1]; rfl, hs⟩
  have C4 : Hid (∀ W (xs : Nat → List UInt8) (n : Nat) (o : Nat → Option Nat), xs 0 = [] → Sk w W w.heap.size xs n o (0, 0) → Calls Try.prog 11 #[.pointer (some ⟨w.heap.size, 0, none⟩), .int .i64 1] W fun e w' => e = .returned (.int .i64 0) ∧ Sk w w' w.heap.size xs n o (0, 0)) := fun W xs n o h0 h => by
    refine (sk_left 0 (by decide) 1 (by decide) h).mono ?_
    rintro e w' ⟨rfl, hs, _⟩
    exact ⟨by rw [h0]; rfl, hs⟩
  have C5 : Hid (∀ W (xs : Nat → List UInt8) (o : Nat → Option Nat), xs 1 = [97, 98, 99, 100, 101] → xs 0 = [] → Sk w W w.heap.size xs 0 o (0, 0) → Calls Try.prog 16 #[.pointer (some ⟨w.heap.size, 0, none⟩), .int .i64 2, .int .i64 4] W fun e w' => ∃ A bb off, e = .returned (.tuple #[.slice A 4 4, .int .i64 0]) ∧ Bytes w' (.slice A 4 4) [97, 98, 99, 100] A 4 bb off ∧ bb ≠ w.heap.size ∧ o 0 ≠ some bb ∧ ∃ xs x, xs 1 = [101] ∧ xs 0 = [] ∧ Sk w w' w.heap.size xs 0 o x) := fun W xs o h1 h0 h => by
    refine (sk_deliver 1 (by decide) 2 (by decide) 4 (by decide) 4 (by rw [h1]; decide) h).mono ?_
    rintro e w' ⟨A, y, rfl, k1, k2, _⟩
    have hne := k1.ne k2.lk (by decide)
    have hno : o 0 ≠ some y.1 := by
      obtain ⟨_, _, _, k3⟩ := k1
      rcases k3 with ⟨k3, _⟩ | ⟨_, _, k3⟩
      · obtain ⟨_, _, _, _, k4⟩ := k2.lk
        exact fun e => k4 _ e k3
      · cases k3
    obtain ⟨off, k3⟩ := k1.bytes
    rw [h1] at k3
    exact ⟨A, _, off, rfl, k3, hne, hno, _, _, by rw [upd_at, h1]; rfl, by rw [upd_ne _ _ (by decide)]; exact h0, k2⟩
  have C6 : Hid (∀ W (xs : Nat → List UInt8) (o : Nat → Option Nat) (x : Nat × Nat), xs 1 = [101] → xs 0 = [] → Sk w W w.heap.size xs 0 o x → Calls Try.prog 16 #[.pointer (some ⟨w.heap.size, 0, none⟩), .int .i64 2, .int .i64 4] W fun e w' => ∃ A bb off, e = .returned (.tuple #[.slice A 1 1, .int .i64 0]) ∧ Bytes w' (.slice A 1 1) [101] A 1 bb off ∧ bb ≠ w.heap.size ∧ o 0 ≠ some bb ∧ Grw w.heap.size W w' ∧ ∃ xs x, xs 1 = [] ∧ xs 0 = [] ∧ Sk w w' w.heap.size xs 0 o x) := fun W xs o x h1 h0 h => by
    refine (sk_deliver 1 (by decide) 2 (by decide) 4 (by decide) 1 (by rw [h1]; decide) h).mono ?_
    rintro e w' ⟨A, y, rfl, k1, k2, kg⟩
    have hne := k1.ne k2.lk (by decide)
    have hno : o 0 ≠ some y.1 := by
      obtain ⟨_, _, _, k3⟩ := k1
      rcases k3 with ⟨k3, _⟩ | ⟨_, _, k3⟩
      · obtain ⟨_, _, _, _, k4⟩ := k2.lk
        exact fun e => k4 _ e k3
      · cases k3
    obtain ⟨off, k3⟩ := k1.bytes
    rw [h1] at k3
    exact ⟨A, _, off, rfl, k3, hne, hno, kg, _, _, by rw [upd_at, h1]; rfl, by rw [upd_ne _ _ (by decide)]; exact h0, k2⟩
  have C7 : Hid (∀ W (xs : Nat → List UInt8) (o : Nat → Option Nat) (x : Nat × Nat), xs 1 = [] → xs 0 = [] → Sk w W w.heap.size xs 0 o x → Calls Try.prog 16 #[.pointer (some ⟨w.heap.size, 0, none⟩), .int .i64 2, .int .i64 4] W fun e w' => ∃ A, e = .returned (.tuple #[.slice A 0 0, .int .i64 0]) ∧ Grw w.heap.size W w' ∧ ∃ xs x, xs 0 = [] ∧ Sk w w' w.heap.size xs 0 o x) := fun W xs o x h1 h0 h => by
    refine (sk_deliver 1 (by decide) 2 (by decide) 4 (by decide) 0 (by rw [h1]; decide) h).mono ?_
    rintro e w' ⟨A, y, rfl, _, k2, kg⟩
    exact ⟨A, rfl, kg, _, _, by rw [upd_ne _ _ (by decide)]; exact h0, k2⟩
  clear hp hz hby
  go_enter Try.func8, Try.ntmps8
  go_wp2_with (fail)
  refine CN.out.mono ?_
  rintro e1 w1 ⟨rfl, h1, _⟩
  have S1 := hid h1
  clear h1
  go_wp2_with (fail)
  refine (C1.out _ S1.out).mono ?_
  rintro e2 w2 ⟨rfl, x2, o2, q1, q0, h2⟩
  have S2 := hid h2
  have Q1 := hid q1
  have Q0 := hid q0
  clear h2 q1 q0
  go_wp2_with (fail)
  refine (C2.out _ _ _ Q1.out Q0.out S2.out).mono ?_
  rintro e3 w3 ⟨rfl, x3, o3, q1, q0, h3⟩
  have S3 := hid h3
  have R1 := hid q1
  have R0 := hid q0
  clear h3 q1 q0
  go_wp2_with (fail)
  refine (C3.out _ _ _ R1.out S3.out).mono ?_
  rintro e4 w4 ⟨rfl, h4⟩
  have S4 := hid h4
  clear h4
  go_wp2_with (fail)
  refine (C4.out _ _ _ _ R0.out S4.out).mono ?_
  rintro e5 w5 ⟨rfl, h5⟩
  have S5 := hid h5
  clear h5
  go_wp2_with (fail)
  refine (C5.out _ _ _ R1.out R0.out S5.out).mono ?_
  rintro e6 w6 ⟨A6, b6, f6, rfl, y6, n6, m6, x6, z6, q1, q0, h6⟩
  have S6 := hid h6
  have Y6 := hid y6
  have N6 := hid n6
  have M6 := hid m6
  have T1 := hid q1
  have T0 := hid q0
  clear h6 y6 n6 m6 q1 q0
  go_wp2_with (fail)
  refine (C6.out _ _ _ _ T1.out T0.out S6.out).mono ?_
  rintro e7 w7 ⟨A7, b7, f7, rfl, y7, n7, m7, g7, x7, z7, q1, q0, h7⟩
  have S7 := hid h7
  have Y7 := hid y7
  have N7 := hid n7
  have M7 := hid m7
  have T7 := hid q1
  have U7 := hid q0
  have Z7 := hid (Y6.out.grw g7 N6.out)
  clear h7 y7 n7 m7 q1 q0 g7
  go_wp2_with (fail)
  refine (C7.out _ _ _ _ T7.out U7.out S7.out).mono ?_
  rintro e8 w8 ⟨A8, rfl, g8, x8, z8, q0, h8⟩
  have S8 := hid h8
  have U8 := hid q0
  have Y8 := hid (Y7.out.grw g8 N7.out)
  have Z8 := hid (Z7.out.grw g8 N6.out)
  clear h8 g8 q0
  have C8 : Hid (Calls Try.prog 15 #[.pointer (some ⟨w.heap.size, 0, none⟩), .int .i64 2, .slice (some ⟨w8.heap.size, 0, none⟩) 1 1] (w8.alloc (.cells #[.int .u8 120] 5 (1, 2))) fun e w' => e = .returned (.int .i64 0) ∧ ∃ xs o, Sk w w' w.heap.size xs 0 o (0, 0) ∧ Bytes w' (.slice A6 4 4) [97, 98, 99, 100] A6 4 b6 f6 ∧ Bytes w' (.slice A7 1 1) [101] A7 1 b7 f7) := by
    refine (sk_send 0 (by decide) 2 (by decide) (S8.out.alloc _) (lit_const w8 [120] _ 1 rfl rfl).1 (by decide)).mono ?_
    rintro e w' ⟨rfl, o', hs, _, hc⟩
    have hb : Below w8.heap.size w8 (w8.alloc (.cells (bvec [120]) 5 ((bvec [120]).size, (bvec [120]).size + 1))) := (Below.refl _ _).alloc (Nat.le_refl _) _
    exact ⟨by rw [U8.out]; rfl, _, _, hs, (Z8.out.kept hb (Nat.le_refl _)).chg hc N6.out M6.out, (Y8.out.kept hb (Nat.le_refl _)).chg hc N7.out M7.out⟩
  go_wp2_with (fail)
  refine C8.out.mono ?_
  rintro e9 w9 ⟨rfl, x9, o9, h9, y9, z9⟩
  have S9 := hid h9
  have Y9 := hid y9
  have Z9 := hid z9
  clear h9 y9 z9 C8
  go_wp2_with (fail)
  refine (sk_reset (by decide) S9.out).mono ?_
  rintro e10 w10 ⟨rfl, h10, g10⟩
  have S10 := hid h10
  have cvA : (convert 26 9 (.slice A6 4 4)).run Try.prog w10 = .ok (.string ⟨#[97, 98, 99, 100]⟩) w10 := conv_back (Y9.out.grw g10 N6.out)
  have cvB : (convert 26 9 (.slice A7 1 1)).run Try.prog w10 = .ok (.string ⟨#[101]⟩) w10 := conv_back (Z9.out.grw g10 N7.out)
  clear h10 g10
  go_wp2_with (fail)
  refine (C4.out _ _ _ _ rfl S10.out).mono ?_
  rintro e11 w11 ⟨rfl, h11⟩
  have S11 := hid h11
  clear h11
  go_wp2_with (fail)
  refine (sk_epoch S11.out).mono ?_
  rintro e12 w12 ⟨rfl, rfl⟩
  go_wp2_with (fail)
  refine (send_bad w.heap.size 3 (.inr (by decide)) (by decide) _ _ _ _ _ _ (S11.out.alloc _).lk).mono ?_
  rintro e13 w13 ⟨rfl, b13⟩
  have S13 := hid ((S11.out.alloc _).kept b13)
  clear b13
  go_wp2_with (fail)
  refine (deliver_neg 0 (by decide) w.heap.size 1 (by decide) (-1) (by decide) _ _ _ _ _ S13.out.lk).mono ?_
  rintro e14 w14 ⟨rfl, b14⟩
  have S14 := hid (S13.out.kept b14)
  clear b14
  have C15 : Hid (Calls Try.prog 15 #[.pointer (some ⟨w.heap.size, 0, none⟩), .int .i64 1, .slice (some ⟨w14.heap.size, 0, none⟩) 262145 262145] (w14.alloc (.cells Cz 5)) fun e w' => e = .returned (.int .i64 7) ∧ Below w.heap.size w w') := by
    refine (sk_send 1 (by decide) 1 (by decide) (S14.out.alloc _) (HBY.out w14) (by rw [HZ.out]; decide)).mono ?_
    rintro e w' ⟨rfl, o', hs, _⟩
    exact ⟨by simp [sendE, HZ.out], hs.below⟩
  have hmk2 : ∀ (w : World), (Instr.makeSlice 26 (.int .i64 262145) (.int .i64 262145)).run Try.prog w = .ok (.slice (some ⟨w.heap.size, 0, none⟩) 262145 262145) (w.alloc (.cells Cz 5)) := hmk
  clear hmk
  go_wp2_with (fail)
  refine C15.out.mono ?_
  rintro e15 w15 ⟨rfl, b15⟩
  have B15 := hid b15
  clear b15 C15 hmk2
  have HE : Hid (∀ W, Below (w15.heap.size + 1) (w15.alloc (.cells #[.bool false, .int .i64 0, .slice none 0 0, .slice none 0 0] 49)) W → NoLk W (.pointer (some ⟨w15.heap.size, 0, none⟩))) := fun W hb => nolk_empty ((Has.fresh w15 49 _).kept hb (Nat.lt_succ_self _))
  have B16 : Hid (Below w.heap.size w (w15.alloc (.cells #[.bool false, .int .i64 0, .slice none 0 0, .slice none 0 0] 49))) := B15.out.alloc B15.out.size _
  go_wp2_with (fail)
  refine (deliver_none _ 1 1 _ (nolk_nil _)).mono ?_
  rintro e16 w16 ⟨rfl, b16⟩
  have W16 : Hid (Below (w15.heap.size + 1) (w15.alloc (.cells #[.bool false, .int .i64 0, .slice none 0 0, .slice none 0 0] 49)) w16) := b16.mono (by simp)
  have B17 : Hid (Below w.heap.size w w16) := B16.out.trans (b16.mono B16.out.size)
  clear b16
  go_wp2_with (fail)
  refine (send_none _ _ 1 (by decide) _ (nolk_nil _)).mono ?_
  rintro e17 w17 ⟨rfl, b17⟩
  have W17 : Hid (Below (w15.heap.size + 1) (w15.alloc (.cells #[.bool false, .int .i64 0, .slice none 0 0, .slice none 0 0] 49)) w17) := W16.out.trans (b17.mono (by have := W16.out.size; simp at this; omega))
  have B18 : Hid (Below w.heap.size w w17) := B17.out.trans (b17.mono B17.out.size)
  clear b17
  go_wp2_with (fail)
  refine (reset_none _ _ (nolk_nil _)).mono ?_
  rintro e18 w18 ⟨rfl, rfl⟩
  go_wp2_with (fail)
  refine (left_none _ 1 (by decide) _ (nolk_nil _)).mono ?_
  rintro e19 w19 ⟨rfl, b19⟩
  have W19 : Hid (Below (w15.heap.size + 1) (w15.alloc (.cells #[.bool false, .int .i64 0, .slice none 0 0, .slice none 0 0] 49)) w19) := W17.out.trans (b19.mono (by have := W17.out.size; simp at this; omega))
  have B20 : Hid (Below w.heap.size w w19) := B18.out.trans (b19.mono B18.out.size)
  clear b19
  go_wp2_with (fail)
  refine (epoch_none _ _ (nolk_nil _)).mono ?_
  rintro e20 w20 ⟨rfl, rfl⟩
  go_wp2_with (fail)
  refine (copy_none _ _ (nolk_nil _)).mono ?_
  rintro e21 w21 ⟨rfl, rfl⟩
  go_wp2_with (fail)
  refine (reset_none _ _ (HE.out _ W19.out)).mono ?_
  rintro e22 w22 ⟨rfl, rfl⟩
  go_wp2_with (fail)
  refine (copy_none _ _ (HE.out _ W19.out)).mono ?_
  rintro e23 w23 ⟨rfl, rfl⟩
  have CW := hid (works_any w19 (Nat.lt_of_lt_of_le HP.out B20.out.size))
  go_wp2_with (fail)
  refine CW.out.mono ?_
  rintro e24 w24 ⟨rfl, b24⟩
  have B24 : Hid (Below w.heap.size w w24) := B20.out.trans (b24.mono B20.out.size)
  clear b24
  go_wp2
  go_ret
  exact ⟨rfl, B24.out⟩
end Go.Proofs.Ytcfmjebnjjpajaa
