/- caravanlaw12.one, its other two ways. Conditions: both links, of one state, in blocks of their own. -/
import Derived.Test.YtcfmjebnjjpajaaNQ
namespace Go.Proofs.Ytcfmjebnjjpajaa
open Go.RowKit
theorem deliverP_len (n c : Int) {xs : Nat → List UInt8} (h : ∀ k, k < 2 → (xs k).length ≤ 262144) : (deliverP n c xs).2.1.length ≤ 262144 := by
  unfold deliverP
  have h0 := h 0 (by decide)
  have h1 := h 1 (by decide)
  split
  · exact Nat.zero_le _
  · split
    · rw [List.length_take]; omega
    · split
      · rw [List.length_take]; omega
      · exact Nat.zero_le _
set_option maxRecDepth 100000 in
set_option maxHeartbeats 8000000 in
theorem one_deliver (wh en nn : Int) (sd : ByteArray) (hr : wh.tmod 3 = 1) (w0 w : World) (p q : Nat) (xs : Nat → List UInt8) (e : Nat) (o : Nat → Option Nat) (x : Nat × Nat) (b : Nat → Nat) (h : Two w0 w p q xs e o x xs e b) :
    Calls Try.prog 10 #[.pointer (some ⟨p, 0, none⟩), .pointer (some ⟨q, 0, none⟩), .agg (actA (wh, en, nn, sd))] w fun ex w' => ex = .returned (.bool true) ∧ OneP w0 p q e w' := by
  have H0 : Hid (Two w0 (w.alloc (.cells #[.int .i64 wh, .int .i64 en, .int .i64 nn, .string sd] 31)) p q xs e o x xs e b) := h.kept ((Below.refl _ _).alloc (Nat.le_refl _) _)
  have HG : Hid (0 < w.heap.size ∧ Free p q o b w.heap.size) := ⟨Nat.lt_of_lt_of_le h.2.2.2.1 h.1.1.size, h.new (Nat.le_refl _)⟩
  have HX : Hid (Has (w.alloc (.cells #[.int .i64 wh, .int .i64 en, .int .i64 nn, .string sd] 31)) w.heap.size 31 #[.int .i64 wh, .int .i64 en, .int .i64 nn, .string sd]) := Has.fresh w 31 _
  generalize hW : w.alloc (.cells #[.int .i64 wh, .int .i64 en, .int .i64 nn, .string sd] 31) = w1 at H0 HX
  have c0 : w1.cell? ⟨w.heap.size, 0, none⟩ = some (.int .i64 wh) := HX.out.at_ 0
  have c1 : w1.cell? ⟨w.heap.size, 1, none⟩ = some (.int .i64 en) := HX.out.at_ 1
  have c2 : w1.cell? ⟨w.heap.size, 2, none⟩ = some (.int .i64 nn) := HX.out.at_ 2
  have CA := hid (two_deliverA en nn H0.out)
  have g0 : ((1 : Int) == 0) = false := rfl
  clear h
  go_enter Try.func10, Try.ntmps10
  go_wp2_with (fail)
  refine CA.out.mono ?_
  rintro e3 w3 ⟨A, m, y, rfl, p3, t3, k3⟩
  have d1 : w3.cell? ⟨w.heap.size, 1, none⟩ = some (.int .i64 en) := k3.cell 1 c1 HG.out.1 HG.out.2
  have d2 : w3.cell? ⟨w.heap.size, 2, none⟩ = some (.int .i64 nn) := k3.cell 2 c2 HG.out.1 HG.out.2
  obtain ⟨off, y3, hy2, hy3⟩ := p3
  have T3 := hid t3
  have Y3 := hid y3
  have CB := hid (two_deliverB en nn T3.out)
  obtain ⟨dc, hdc⟩ : ∃ dc, (deliverP en nn xs).1 = dc := ⟨_, rfl⟩
  obtain ⟨zs, hzs⟩ : ∃ zs, (deliverP en nn xs).2.1 = zs := ⟨_, rfl⟩
  obtain ⟨XS, hXS⟩ : ∃ XS, (deliverP en nn xs).2.2 = XS := ⟨_, rfl⟩
  rw [hdc, hzs, hXS] at CB
  rw [hzs] at Y3
  rw [hXS] at T3
  rw [hdc]
  have HY2 := hid hy2
  have HY3 := hid hy3
  have HML : Hid (m ≤ 1000000) := by
    show _ ≤ _
    have l1 := deliverP_len en nn (fun k hk => H0.out.1.lk.len hk)
    have ef := Y3.out.form
    injection ef with _ e2 _
    rw [hzs] at l1
    omega
  clear t3 k3 y3 hy2 hy3 CA hdc hzs hXS
  go_wp2_with (fail)
  refine CB.out.mono ?_
  rintro e4 w4 ⟨A4, m4, cap4, rfl, cv4, b4, t4, _, g4⟩
  have T4 := hid t4
  have hyq : y.1 ≠ q := by
    rcases HY3.out with ⟨h1, _⟩ | ⟨_, h2⟩
    · intro e; exact t4.2.2.2.2.1 (by rw [← e]; exact .inr h1)
    · have := t4.qpos; omega
  have cv3 : (convert 26 9 (.slice A m m)).run Try.prog w4 = .ok (.string (ba zs)) w4 := conv_back (Y3.out.grw g4 hyq)
  have WA : Hid (m = 0 ∨ (∃ k, k < 2 ∧ o k = some y.1) ∧ Wrt w4 y.1 off m) := by
    rcases HY3.out with ⟨h1, h2⟩ | ⟨h1, _⟩
    · exact .inr ⟨h1, h2.same (g4.block y.1 h2.inside (fun e => hyq (Option.some.inj e)))⟩
    · exact .inl h1
  have HA : Hid (0 < m → A = some ⟨y.1, off, none⟩) := fun h0 => by
    have ef := Y3.out.form
    injection ef with _ e2 _
    exact Y3.out.src (by omega)
  obtain ⟨sz, hsz⟩ : ∃ sz, ba zs = sz := ⟨_, rfl⟩
  rw [hsz] at cv3 cv4
  clear t4 g4 hsz Y3 HY3 CB
  go_wp2_with (fail)
  go_loopw [16] (fun i wr => ∃ (j : Nat), j ≤ m ∧ i = .int .i64 (j : Int) ∧ Hid (m = 0 ∨ (∃ k, k < 2 ∧ o k = some y.1) ∧ Wrt wr y.1 off m) ∧ Hid (Two w0 wr p q XS e o y XS e b4)) (fun i _ => m - (intOf i).toNat)
  case atStart => exact ⟨0, by omega, rfl, WA, T4⟩
  case round =>
    obtain ⟨j, hj, rfl, HW, HT6⟩ := hrel
    by_cases hml : j < m
    · obtain rfl := HA.out (by omega)
      have HW2 : Hid ((∃ k, k < 2 ∧ o k = some y.1) ∧ Wrt wr y.1 off m) := by
        rcases HW.out with h0 | h0
        · omega
        · exact h0
      obtain ⟨z, d1, f1, z0, z1⟩ := HW2.out.2.cell j hml
      have wz : IntKind.u8.wrap (255 - z) = 255 - z := by
        simp [IntKind.wrap, IntKind.signed, IntKind.bits]; omega
      have hs9 : m ≤ 1000000 := HML.out
      go_wp2
      go_roundw
      case rel => exact ⟨j + 1, by omega, by go_num, .inr ⟨HW2.out.1, HW2.out.2.put j _ (by omega) (by omega)⟩, HT6.out.part HW2.out.1 (by have := HY2.out; omega) _⟩
      case measure => simp [intOf]; omega
    · have gm : ¬ (j : Int) < (m : Int) := by omega
      clear hj hml
      go_wp2
      go_ret
      exact ⟨rfl, _, _, _, _, _, HT6.out, Nat.le_succ _⟩
set_option maxRecDepth 100000 in
set_option maxHeartbeats 8000000 in
theorem one_reset (wh en nn : Int) (sd : ByteArray) (h0 : wh.tmod 3 ≠ 0) (h1 : wh.tmod 3 ≠ 1) (w0 w : World) (p q : Nat) (xs : Nat → List UInt8) (e : Nat) (he : e ≤ 1000) (o : Nat → Option Nat) (x : Nat × Nat) (b : Nat → Nat) (h : Two w0 w p q xs e o x xs e b) :
    Calls Try.prog 10 #[.pointer (some ⟨p, 0, none⟩), .pointer (some ⟨q, 0, none⟩), .agg (actA (wh, en, nn, sd))] w fun ex w' => ex = .returned (.bool true) ∧ OneP w0 p q e w' := by
  have H0 : Hid (Two w0 (w.alloc (.cells #[.int .i64 wh, .int .i64 en, .int .i64 nn, .string sd] 31)) p q xs e o x xs e b) := h.kept ((Below.refl _ _).alloc (Nat.le_refl _) _)
  have HX : Hid (Has (w.alloc (.cells #[.int .i64 wh, .int .i64 en, .int .i64 nn, .string sd] 31)) w.heap.size 31 #[.int .i64 wh, .int .i64 en, .int .i64 nn, .string sd]) := Has.fresh w 31 _
  generalize hW : w.alloc (.cells #[.int .i64 wh, .int .i64 en, .int .i64 nn, .string sd] 31) = w1 at H0 HX
  have c0 : w1.cell? ⟨w.heap.size, 0, none⟩ = some (.int .i64 wh) := HX.out.at_ 0
  obtain ⟨r, hr⟩ : ∃ r, wh.tmod 3 = r := ⟨_, rfl⟩
  rw [hr] at h0 h1
  have g0 : (r == 0) = false := by simpa using h0
  have g1 : (r == 1) = false := by simpa using h1
  have CB := hid (two_resetB (by omega) H0.out)
  have HE := hid he
  clear h h0 h1 he
  go_enter Try.func10, Try.ntmps10
  go_wp2_with (fail)
  refine CB.out.mono ?_
  rintro e3 w3 ⟨rfl, t3⟩
  have T3 := hid t3
  have CA := hid (two_resetA (by have := HE.out; omega) T3.out)
  clear t3 CB
  go_wp2_with (fail)
  refine CA.out.mono ?_
  rintro e4 w4 ⟨rfl, t4⟩
  have T4 := hid t4
  clear t4 CA
  go_wp2
  go_ret
  exact ⟨rfl, _, _, _, _, _, T4.out, Nat.le_refl _⟩
theorem one_any (x : AcT) (hx : I64 x.2.1) (w0 w : World) (p q : Nat) (xs : Nat → List UInt8) (e : Nat) (he : e ≤ 1000) (o : Nat → Option Nat) (y : Nat × Nat) (b : Nat → Nat) (h : Two w0 w p q xs e o y xs e b) :
    Calls Try.prog 10 #[.pointer (some ⟨p, 0, none⟩), .pointer (some ⟨q, 0, none⟩), .agg (actA x)] w fun ex w' => ex = .returned (.bool true) ∧ OneP w0 p q e w' := by
  obtain ⟨wh, en, nn, sd⟩ := x
  by_cases h0 : wh.tmod 3 = 0
  · exact one_send wh en nn sd hx h0 w0 w p q xs e o y b h
  · by_cases h1 : wh.tmod 3 = 1
    · exact one_deliver wh en nn sd h1 w0 w p q xs e o y b h
    · exact one_reset wh en nn sd h0 h1 w0 w p q xs e he o y b h
end Go.Proofs.Ytcfmjebnjjpajaa
