/- The law LinkWhole: what its call does. Conditions: a heap that has a block; acts that come in. -/
import Derived.Test.YtcfmjebnjjpajaaNP
import Derived.Test.YtcfmjebnjjpajaaNTB
import Derived.StillTailTactics
namespace Go.Proofs.Ytcfmjebnjjpajaa
open Go.RowKit
theorem tl_append (a b : ByteArray) : tl (a ++ b) = tl a ++ tl b := by simp [tl]
theorem tl_inj {a b : ByteArray} (h : tl a = tl b) : a = b := by rw [← ba_tl a, ← ba_tl b, h]
/-- The link, and the law's rows of what was sent and what came, in blocks of their own. -/
structure Wb (w0 w : World) (p S C : Nat) (xs : Nat → List UInt8) (e : Nat) (o : Nat → Option Nat) (x : Nat × Nat) (z0 z1 : ByteArray) (se ca : Nat → ByteArray) : Prop where
  sk : Sk w0 w p xs e o x
  s : Has w S 36 #[.string z0, .string (se 0), .string (se 1)]
  c : Has w C 36 #[.string z1, .string (ca 0), .string (ca 1)]
  nS : ¬ Owns p o S
  nC : ¬ Owns p o C
  ne : S ≠ C
  lS : w0.heap.size ≤ S
  lC : w0.heap.size ≤ C
/-- What came, and what is in flight, is what was sent. -/
def We (xs : Nat → List UInt8) (se ca : Nat → ByteArray) (j : Nat) : Prop := ∀ k, k < 2 → tl (ca k) ++ xs k = tl (se k) ∧ (se k).size ≤ 2000 * j
section
variable {w0 w w' : World} {p S C : Nat} {xs xs' : Nat → List UInt8} {e e' : Nat} {o o' : Nat → Option Nat} {x x' : Nat × Nat} {z0 z1 : ByteArray} {se ca : Nat → ByteArray} {j : Nat}
theorem Wb.kept (h : Wb w0 w p S C xs e o x z0 z1 se ca) (hb : Below w.heap.size w w') : Wb w0 w' p S C xs e o x z0 z1 se ca :=
  ⟨h.sk.kept hb, h.s.kept hb h.s.inside, h.c.kept hb h.c.inside, h.nS, h.nC, h.ne, h.lS, h.lC⟩
theorem Wb.step {k : Nat} {o1 : Option Nat} (h : Wb w0 w p S C xs e o x z0 z1 se ca) (hk : k < 2) (hs : Sk w0 w' p xs' e' (upd o k o1) x') (hn : Nx (o k) o1 w) (hc : Chg p (o k) w w') : Wb w0 w' p S C xs' e' (upd o k o1) x' z0 z1 se ca :=
  ⟨hs, h.s.chg hc (fun e => h.nS (.inl e)) (fun e => h.nS (.inr ⟨k, hk, e⟩)), h.c.chg hc (fun e => h.nC (.inl e)) (fun e => h.nC (.inr ⟨k, hk, e⟩)), fun hO => h.nS (hO.step hn h.s.inside hk), fun hO => h.nC (hO.step hn h.c.inside hk), h.ne, h.lS, h.lC⟩
theorem Wb.stepP (h : Wb w0 w p S C xs e o x z0 z1 se ca) (hs : Sk w0 w' p xs' e' o' x') (ho : ∀ g, Owns p o' g → Owns p o g) (hc : Grw p w w') : Wb w0 w' p S C xs' e' o' x' z0 z1 se ca :=
  ⟨hs, h.s.grw hc (fun e => h.nS (.inl e)), h.c.grw hc (fun e => h.nC (.inl e)), fun hO => h.nS (ho _ hO), fun hO => h.nC (ho _ hO), h.ne, h.lS, h.lC⟩
theorem wb_send {bv : Value} {ys : List UInt8} {A : Option Addr} {cap bb off : Nat} (k : Nat) (hk : k < 2) (n : Int) (hn : n = 2 - (k : Int)) (h : Wb w0 w p S C xs e o x z0 z1 se ca) (hs : Bytes w bv ys A cap bb off) (hy : ys.length ≤ 500000) :
    Calls Try.prog 15 #[.pointer (some ⟨p, 0, none⟩), .int .i64 n, bv] w fun ex w' => ex = .returned (.int .i64 (sendE (xs k) ys)) ∧ (∃ o', Wb w0 w' p S C (upd xs k (sendX (xs k) ys)) e o' (0, 0) z0 z1 se ca) ∧ ∀ g, g < w.heap.size → ¬ Owns p o g → w'.heap[g]? = w.heap[g]? := by
  refine (sk_send k hk n hn h.sk hs hy).mono ?_
  rintro ex w' ⟨rfl, o1, h1, h2, h3⟩
  exact ⟨rfl, ⟨_, h.step hk h1 h2 h3⟩, fun g hg hO => h3.block g hg (fun e => hO (.inl e)) (fun e => hO (.inr ⟨k, hk, e⟩))⟩
theorem Wb.free (h : Wb w0 w p S C xs e o x z0 z1 se ca) {g : Nat} (hO : ¬ Owns p o g) (h0 : w0.heap.size ≤ g) (hc : Grw g w w') : Sk w0 w' p xs e o x := by
  refine ⟨Grw.below h.sk.1 hc h0 h.sk.1.size, h.sk.2.1, h.sk.2.2.1, h.sk.lk.same ?_ (fun k i hk hi => ?_)⟩
  · exact hc.block p h.sk.lk.inside (fun e => hO (.inl (Option.some.inj e).symm))
  · exact hc.block i (h.sk.lk.row hk hi) (fun e => hO (.inr ⟨k, hk, by rw [← Option.some.inj e]; exact hi⟩))
theorem Wb.past (h : Wb w0 w p S C xs e o x z0 z1 se ca) {g : Nat} (hO : ¬ Owns p o g) (hS : S ≠ g) (hC : C ≠ g) (h0 : w0.heap.size ≤ g) (hc : Grw g w w') : Wb w0 w' p S C xs e o x z0 z1 se ca :=
  ⟨h.free hO h0 hc, h.s.grw hc hS, h.c.grw hc hC, h.nS, h.nC, h.ne, h.lS, h.lC⟩
theorem Wb.setS (h : Wb w0 w p S C xs e o x z0 z1 se ca) {k : Nat} (hk : k < 2) (y : ByteArray) : Wb w0 (w.setCell ⟨S, 1 + k, none⟩ (.string y)) p S C xs e o x z0 z1 (upd se k y) ca := by
  have hg := Grw.of_set S (1 + k) w (.string y)
  refine ⟨h.free h.nS h.lS hg, ?_, h.c.grw hg (Ne.symm h.ne), h.nS, h.nC, h.ne, h.lS, h.lC⟩
  have := h.s.put (1 + k) (.string y)
  rcases two_cases hk with rfl | rfl
  · exact this
  · exact this
theorem Wb.setC (h : Wb w0 w p S C xs e o x z0 z1 se ca) {k : Nat} (hk : k < 2) (y : ByteArray) : Wb w0 (w.setCell ⟨C, 1 + k, none⟩ (.string y)) p S C xs e o x z0 z1 se (upd ca k y) := by
  have hg := Grw.of_set C (1 + k) w (.string y)
  refine ⟨h.free h.nC h.lC hg, h.s.grw hg h.ne, ?_, h.nS, h.nC, h.ne, h.lS, h.lC⟩
  have := h.c.put (1 + k) (.string y)
  rcases two_cases hk with rfl | rfl
  · exact this
  · exact this
theorem Wb.zeroS (h : Wb w0 w p S C xs e o x z0 z1 se ca) (y : ByteArray) : Wb w0 (((w.setCell ⟨S, 0, none⟩ (.string y)).setCell ⟨S, 1, none⟩ (.string y)).setCell ⟨S, 2, none⟩ (.string y)) p S C xs e o x y z1 (fun _ => y) ca := by
  have hg := ((Grw.of_set S 0 w (.string y)).trans (Grw.of_set S 1 _ (.string y))).trans (Grw.of_set S 2 _ (.string y))
  exact ⟨h.free h.nS h.lS hg, ((h.s.put 0 (.string y)).put 1 (.string y)).put 2 (.string y), h.c.grw hg (Ne.symm h.ne), h.nS, h.nC, h.ne, h.lS, h.lC⟩
theorem Wb.zeroC (h : Wb w0 w p S C xs e o x z0 z1 se ca) (y : ByteArray) : Wb w0 (((w.setCell ⟨C, 0, none⟩ (.string y)).setCell ⟨C, 1, none⟩ (.string y)).setCell ⟨C, 2, none⟩ (.string y)) p S C xs e o x z0 y se (fun _ => y) := by
  have hg := ((Grw.of_set C 0 w (.string y)).trans (Grw.of_set C 1 _ (.string y))).trans (Grw.of_set C 2 _ (.string y))
  exact ⟨h.free h.nC h.lC hg, h.s.grw hg h.ne, ((h.c.put 0 (.string y)).put 1 (.string y)).put 2 (.string y), h.nS, h.nC, h.ne, h.lS, h.lC⟩
theorem We.up (h : We xs se ca j) : We xs se ca (j + 1) := fun k hk => ⟨(h k hk).1, by have := (h k hk).2; omega⟩
theorem We.send (h : We xs se ca j) {k : Nat} (hk : k < 2) {t : ByteArray} (ht : t.size ≤ 2000) : We (upd xs k (xs k ++ tl t)) (upd se k (se k ++ t)) ca (j + 1) := fun i hi => by
  by_cases hik : i = k
  · subst hik
    rw [upd_at, upd_at, tl_append, ← (h i hi).1, List.append_assoc]
    exact ⟨rfl, by rw [ByteArray.size_append]; have := (h i hi).2; omega⟩
  · rw [upd_ne _ _ hik, upd_ne _ _ hik]
    exact h.up i hi
theorem We.deliver (h : We xs se ca j) {k : Nat} (hk : k < 2) (q : Nat) : We (upd xs k ((xs k).drop q)) se (upd ca k (ca k ++ ba ((xs k).take q))) (j + 1) := fun i hi => by
  by_cases hik : i = k
  · subst hik
    rw [upd_at, upd_at, tl_append, tl_ba, List.append_assoc, List.take_append_drop]
    exact h.up i hi
  · rw [upd_ne _ _ hik, upd_ne _ _ hik]
    exact h.up i hi
theorem We.came (h : We xs se ca j) {k : Nat} (hk : k < 2) : (ca k).size + (xs k).length ≤ 2000 * j := by
  obtain ⟨h1, h2⟩ := h k hk
  have := congrArg List.length h1
  rw [List.length_append, tl_length, tl_length] at this
  omega
end
set_option maxRecDepth 100000 in
set_option maxHeartbeats 8000000 in
theorem whole_law (A : Option Addr) (n cap bp off : Nat) (acts : List AcT) (w : World) (hp : 0 < w.heap.size) (hr : ActsIn w A n bp off acts) : Calls Try.prog 4 #[.slice A n cap] w fun e w' => e = .returned (.bool true) ∧ Below w.heap.size w w' := by
  have wi1 : IntKind.i64.wrap 1 = 1 := rfl
  have wi2 : IntKind.i64.wrap 2 = 2 := rfl
  have HP := hid hp
  have HR := hid hr
  have CN := hid (sk_new (w0 := w) (Below.refl _ _) hp)
  clear hp hr
  go_enter Try.func4, Try.ntmps4
  go_wp2_with (fail)
  refine CN.out.mono ?_
  rintro e1 w1 ⟨rfl, h1, _⟩
  obtain ⟨p, hpp⟩ : ∃ p, w.heap.size = p := ⟨_, rfl⟩
  have W1 : Hid (Wb w ((w1.alloc (.cells #[.string ⟨#[]⟩, .string ⟨#[]⟩, .string ⟨#[]⟩] 36)).alloc (.cells #[.string ⟨#[]⟩, .string ⟨#[]⟩, .string ⟨#[]⟩] 36)) p w1.heap.size (w1.heap.size + 1) (fun _ => []) 0 (fun _ => none) (0, 0) ⟨#[]⟩ ⟨#[]⟩ (fun _ => ⟨#[]⟩) (fun _ => ⟨#[]⟩)) := by
    have hin := h1.lk.inside
    have hle := h1.1.size
    rw [hpp] at h1 hin
    refine ⟨(h1.alloc _).alloc _, (Has.fresh w1 36 _).more _, Has.fresh' _ 36 _ (by simp), fun hO => ?_, fun hO => ?_, by omega, hle, by omega⟩
    · rcases hO with e | ⟨k, _, e⟩
      · omega
      · cases e
    · rcases hO with e | ⟨k, _, e⟩
      · omega
      · cases e
  obtain ⟨S, hS⟩ : ∃ S, w1.heap.size = S := ⟨_, rfl⟩
  have E1 : Hid (We (fun _ => []) (fun _ => ⟨#[]⟩) (fun _ => ⟨#[]⟩) 0) := fun k _ => ⟨rfl, Nat.zero_le _⟩
  rw [hS] at W1
  rw [hpp]
  clear h1 CN
  go_wp2_with (fail)
  clear hS hpp
  go_loopw [6] (fun i wr => ∃ (j : Nat) (xs : Nat → List UInt8) (e : Nat) (o : Nat → Option Nat) (y : Nat × Nat) (z0 z1 : ByteArray) (se ca : Nat → ByteArray), j ≤ 100 ∧ i = .int .i64 (j : Int) ∧ Hid (e ≤ j ∧ Wb w wr p S (S + 1) xs e o y z0 z1 se ca ∧ We xs se ca j)) (fun i _ => 100 - (intOf i).toNat)
  case atStart => exact ⟨0, _, _, _, _, _, _, _, _, by omega, rfl, Nat.le_refl _, W1.out, E1.out⟩
  case round =>
    obtain ⟨j, xs, e, o, y, z0, z1, se, ca, hj, rfl, HT⟩ := hrel
    obtain ⟨wo, hwo⟩ : ∃ wo, wo = wr := ⟨_, rfl⟩
    subst hwo
    by_cases hlt : j < n
    · by_cases hlt2 : j < 100
      · have PA := (HR.out.kept HT.out.2.1.sk.below (Nat.le_refl _)).2.2.1 j hlt
        have HI := hid (HR.out.2.2.2 j hlt)
        obtain rfl := (HR.out.2.1 (by omega)).1
        obtain ⟨x, hx⟩ : ∃ x, acts.getD j acz = x := ⟨_, rfl⟩
        rw [hx] at PA HI
        obtain ⟨wh, en, nn, sd⟩ := x
        obtain ⟨c0, c1, c2, c3⟩ := PA
        simp only at c0 c1 c2 c3
        have g0 : (0 : Int) ≤ (j : Int) := by omega
        have g1 : (j : Int) < (n : Int) := by omega
        have g2 : (j : Int) < 100 := by omega
        have HX : Hid (Has (wo.alloc (.cells #[.int .i64 wh, .int .i64 en, .int .i64 nn, .string sd] 31)) wo.heap.size 31 #[.int .i64 wh, .int .i64 en, .int .i64 nn, .string sd]) := Has.fresh wo 31 _
        have WX : Hid (Wb w (wo.alloc (.cells #[.int .i64 wh, .int .i64 en, .int .i64 nn, .string sd] 31)) p S (S + 1) xs e o y z0 z1 se ca) := HT.out.2.1.kept ((Below.refl _ _).alloc (Nat.le_refl _) _)
        have HF : Hid (¬ Owns p o wo.heap.size ∧ S ≠ wo.heap.size ∧ S + 1 ≠ wo.heap.size) := ⟨fun hO => Nat.lt_irrefl _ (HT.out.2.1.sk.lt hO), Nat.ne_of_lt HT.out.2.1.s.inside, Nat.ne_of_lt HT.out.2.1.c.inside⟩
        have HE := hid HT.out.1
        have HWE := hid HT.out.2.2
        obtain ⟨B, hB⟩ : ∃ B, wo.heap.size = B := ⟨_, rfl⟩
        obtain ⟨wx, hwx⟩ : ∃ wx, wo.alloc (.cells #[.int .i64 wh, .int .i64 en, .int .i64 nn, .string sd] 31) = wx := ⟨_, rfl⟩
        rw [hB, hwx] at HX
        rw [hwx] at WX
        rw [hB] at HF
        have k0 : wx.cell? ⟨B, 0, none⟩ = some (.int .i64 wh) := HX.out.at_ 0
        have k1 : wx.cell? ⟨B, 1, none⟩ = some (.int .i64 en) := HX.out.at_ 1
        have k2 : wx.cell? ⟨B, 2, none⟩ = some (.int .i64 nn) := HX.out.at_ 2
        have k3 : wx.cell? ⟨B, 3, none⟩ = some (.string sd) := HX.out.at_ 3
        obtain ⟨t, ht, hct⟩ := cut_text sd 2000
        have KT := conv_string t
        have HTS : Hid (t.size ≤ 2000) := ht
        obtain ⟨r, hrr⟩ : ∃ r, wh.tmod 3 = r := ⟨_, rfl⟩
        clear hlt hlt2 hx ht HT
        rcases hct with ⟨rfl, hsd⟩ | ⟨hsd, e9⟩
        · by_cases hr0 : r = 0
          · subst hr0
            rcases end_cases (n := en) with (rfl | rfl) | hbad
            · have CS := hid (wb_send 1 (by decide) 1 (by decide) (WX.out.kept (conv_below t wx)) (conv_bytes t wx) (by rw [tl_length]; have := HTS.out; omega))
              have HXB : Hid (Has (Lib.bytesWorld wx 5 t) B 31 #[.int .i64 wh, .int .i64 1, .int .i64 nn, .string t]) := HX.out.kept (conv_below t wx) HX.out.inside
              go_wp2_with (fail)
              refine CS.out.mono ?_
              rintro e3 w3 ⟨rfl, ⟨o3, h3⟩, hold⟩
              have W3 := hid h3
              have X3 : Hid (Has w3 B 31 #[.int .i64 wh, .int .i64 1, .int .i64 nn, .string t]) := (hold B HXB.out.inside HF.out.1).trans HXB.out
              clear h3 hold CS
              have hfull : (sendE (xs 1) (tl t) = 0 ∧ sendX (xs 1) (tl t) = xs 1 ++ tl t) ∨ (sendE (xs 1) (tl t) = 7 ∧ sendX (xs 1) (tl t) = xs 1) := by
                by_cases hf : 262144 < (xs 1).length + (tl t).length
                · exact .inr ⟨by rw [sendE, if_pos hf], by rw [sendX, if_pos hf]⟩
                · exact .inl ⟨by rw [sendE, if_neg hf], by rw [sendX, if_neg hf]⟩
              rcases hfull with ⟨hE, hX⟩ | ⟨hE, hX⟩
              · rw [hX] at W3
                rw [hE]
                have q1 : w3.cell? ⟨B, 1, none⟩ = some (.int .i64 1) := X3.out.at_ 1
                have WE2 := hid (HWE.out.send (k := 1) (by decide) HTS.out)
                have r1 : w3.cell? ⟨S, 2, none⟩ = some (.string (se 1)) := W3.out.s.at_ 2
                have r2 := W3.out.s.free 2
                have r3 : (se 1).size ≤ 200000 := by have := (HWE.out 1 (by decide)).2; omega
                have r4 : t.size ≤ 2000 := HTS.out
                have SS : Hid (∀ wz, Wb w wz p S (S + 1) (upd xs 1 (xs 1 ++ tl t)) e o3 (0, 0) z0 z1 se ca → Wb w (wz.setCell ⟨S, 2, none⟩ (.string (se 1 ++ t))) p S (S + 1) (upd xs 1 (xs 1 ++ tl t)) e o3 (0, 0) z0 z1 (upd se 1 (se 1 ++ t)) ca) := fun wz h => h.setS (k := 1) (by decide) _
                obtain ⟨s1, hs1⟩ : ∃ s1, se 1 = s1 := ⟨_, rfl⟩
                rw [hs1] at r1 r3 SS WE2
                have r5 : ¬ 9223372036854775807 < s1.size + t.size := by omega
                clear hE hX
                go_wp2_with (fail)
                go_still_tail 11, (by kernel_rfl)
                change wpList _ _ _ _ _ w3.drew
                obtain ⟨wz, hz⟩ : ∃ wz, w3.drew = wz := ⟨_, rfl⟩
                have WZ := hid (W3.out.kept (Below.refl _ _).drew)
                have rz : w3.drew.cell? ⟨S, 2, none⟩ = some (.string s1) := r1
                have rf : w3.drew.frozen? ⟨S, 2, none⟩ = false := r2
                rw [hz] at WZ rz rf ⊢
                clear hz r1 r2 q1 hs1
                go_wp2
                go_roundw
                case rel => exact ⟨j + 1, _, _, _, _, _, _, _, _, by omega, by go_num, by have := HE.out; omega, SS.out _ WZ.out, WE2.out⟩
                case measure => simp [intOf]; omega
              · rw [hX, upd_self] at W3
                rw [hE]
                clear hE hX
                go_wp2
                go_roundw
                case rel => exact ⟨j + 1, _, _, _, _, _, _, _, _, by omega, by go_num, by have := HE.out; omega, W3.out, HWE.out.up⟩
                case measure => simp [intOf]; omega
            · have CS := hid (wb_send 0 (by decide) 2 (by decide) (WX.out.kept (conv_below t wx)) (conv_bytes t wx) (by rw [tl_length]; have := HTS.out; omega))
              have HXB : Hid (Has (Lib.bytesWorld wx 5 t) B 31 #[.int .i64 wh, .int .i64 2, .int .i64 nn, .string t]) := HX.out.kept (conv_below t wx) HX.out.inside
              go_wp2_with (fail)
              refine CS.out.mono ?_
              rintro e3 w3 ⟨rfl, ⟨o3, h3⟩, hold⟩
              have W3 := hid h3
              have X3 : Hid (Has w3 B 31 #[.int .i64 wh, .int .i64 2, .int .i64 nn, .string t]) := (hold B HXB.out.inside HF.out.1).trans HXB.out
              clear h3 hold CS
              have hfull : (sendE (xs 0) (tl t) = 0 ∧ sendX (xs 0) (tl t) = xs 0 ++ tl t) ∨ (sendE (xs 0) (tl t) = 7 ∧ sendX (xs 0) (tl t) = xs 0) := by
                by_cases hf : 262144 < (xs 0).length + (tl t).length
                · exact .inr ⟨by rw [sendE, if_pos hf], by rw [sendX, if_pos hf]⟩
                · exact .inl ⟨by rw [sendE, if_neg hf], by rw [sendX, if_neg hf]⟩
              rcases hfull with ⟨hE, hX⟩ | ⟨hE, hX⟩
              · rw [hX] at W3
                rw [hE]
                have q1 : w3.cell? ⟨B, 1, none⟩ = some (.int .i64 2) := X3.out.at_ 1
                have WE2 := hid (HWE.out.send (k := 0) (by decide) HTS.out)
                have r1 : w3.cell? ⟨S, 1, none⟩ = some (.string (se 0)) := W3.out.s.at_ 1
                have r2 := W3.out.s.free 1
                have r3 : (se 0).size ≤ 200000 := by have := (HWE.out 0 (by decide)).2; omega
                have r4 : t.size ≤ 2000 := HTS.out
                have SS : Hid (∀ wz, Wb w wz p S (S + 1) (upd xs 0 (xs 0 ++ tl t)) e o3 (0, 0) z0 z1 se ca → Wb w (wz.setCell ⟨S, 1, none⟩ (.string (se 0 ++ t))) p S (S + 1) (upd xs 0 (xs 0 ++ tl t)) e o3 (0, 0) z0 z1 (upd se 0 (se 0 ++ t)) ca) := fun wz h => h.setS (k := 0) (by decide) _
                obtain ⟨s1, hs1⟩ : ∃ s1, se 0 = s1 := ⟨_, rfl⟩
                rw [hs1] at r1 r3 SS WE2
                have r5 : ¬ 9223372036854775807 < s1.size + t.size := by omega
                clear hE hX
                go_wp2_with (fail)
                go_still_tail 11, (by kernel_rfl)
                change wpList _ _ _ _ _ w3.drew
                obtain ⟨wz, hz⟩ : ∃ wz, w3.drew = wz := ⟨_, rfl⟩
                have WZ := hid (W3.out.kept (Below.refl _ _).drew)
                have rz : w3.drew.cell? ⟨S, 1, none⟩ = some (.string s1) := r1
                have rf : w3.drew.frozen? ⟨S, 1, none⟩ = false := r2
                rw [hz] at WZ rz rf ⊢
                clear hz r1 r2 q1 hs1
                go_wp2
                go_roundw
                case rel => exact ⟨j + 1, _, _, _, _, _, _, _, _, by omega, by go_num, by have := HE.out; omega, SS.out _ WZ.out, WE2.out⟩
                case measure => simp [intOf]; omega
              · rw [hX, upd_self] at W3
                rw [hE]
                clear hE hX
                go_wp2
                go_roundw
                case rel => exact ⟨j + 1, _, _, _, _, _, _, _, _, by omega, by go_num, by have := HE.out; omega, W3.out, HWE.out.up⟩
                case measure => simp [intOf]; omega
            · have CB := hid (fun bv => send_bad p en hbad HI.out.2.1 bv xs e o y _ (WX.out.kept (conv_below t wx)).sk.lk)
              go_wp2_with (fail)
              refine (CB.out _).mono ?_
              rintro e3 w3 ⟨rfl, hb3⟩
              have W3 := hid (WX.out.kept ((conv_below t wx).trans (hb3.mono (conv_below t wx).size)))
              clear hb3 CB
              go_wp2
              go_roundw
              case rel => exact ⟨j + 1, _, _, _, _, _, _, _, _, by omega, by go_num, by have := HE.out; omega, W3.out, HWE.out.up⟩
              case measure => simp [intOf]; omega
          · by_cases hr1 : r = 1
            · subst hr1
              have gr0 : ((1 : Int) == 0) = false := rfl
              by_cases hnn : nn < 0
              · rcases end_cases (n := en) with (rfl | rfl) | hbad
                · have CB := hid (deliver_neg 0 (by decide) p 1 (by decide) nn hnn xs e o y _ WX.out.sk.lk)
                  go_wp2_with (fail)
                  refine CB.out.mono ?_
                  rintro e3 w3 ⟨rfl, hb3⟩
                  have W3 := hid (WX.out.kept hb3)
                  clear hb3 CB
                  go_wp2
                  go_roundw
                  case rel => exact ⟨j + 1, _, _, _, _, _, _, _, _, by omega, by go_num, by have := HE.out; omega, W3.out, HWE.out.up⟩
                  case measure => simp [intOf]; omega
                · have CB := hid (deliver_neg 1 (by decide) p 2 (by decide) nn hnn xs e o y _ WX.out.sk.lk)
                  go_wp2_with (fail)
                  refine CB.out.mono ?_
                  rintro e3 w3 ⟨rfl, hb3⟩
                  have W3 := hid (WX.out.kept hb3)
                  clear hb3 CB
                  go_wp2
                  go_roundw
                  case rel => exact ⟨j + 1, _, _, _, _, _, _, _, _, by omega, by go_num, by have := HE.out; omega, W3.out, HWE.out.up⟩
                  case measure => simp [intOf]; omega
                · have CB := hid (deliver_bad p en hbad nn xs e o y _ WX.out.sk.lk)
                  go_wp2_with (fail)
                  refine CB.out.mono ?_
                  rintro e3 w3 ⟨rfl, hb3⟩
                  have W3 := hid (WX.out.kept hb3)
                  clear hb3 CB
                  go_wp2
                  go_roundw
                  case rel => exact ⟨j + 1, _, _, _, _, _, _, _, _, by omega, by go_num, by have := HE.out; omega, W3.out, HWE.out.up⟩
                  case measure => simp [intOf]; omega
              · rcases end_cases (n := en) with (rfl | rfl) | hbad
                · obtain ⟨qv, hqv⟩ : ∃ qv : Nat, (qv : Int) = min nn ((xs 0).length : Int) := ⟨(min nn ((xs 0).length : Int)).toNat, by omega⟩
                  have CD := hid (sk_deliver 0 (by decide) 1 (by decide) nn (by omega) qv hqv WX.out.sk)
                  clear hqv
                  go_wp2_with (fail)
                  refine CD.out.mono ?_
                  rintro e3 w3 ⟨A3, y3, rfl, p3, h3, g3⟩
                  have W3 := hid (WX.out.stepP h3 (fun g hg => hg) g3)
                  have X3 : Hid (Has w3 B 31 #[.int .i64 wh, .int .i64 1, .int .i64 nn, .string t]) := HX.out.grw g3 (fun e => HF.out.1 (.inl e))
                  obtain ⟨off3, by3⟩ := p3.bytes
                  have cv := conv_back by3
                  have cz := conv_back (by3.kept (Below.refl _ _).drew (Nat.le_refl _))
                  have WE2 := hid (HWE.out.deliver (k := 0) (by decide) qv)
                  have q1 : w3.cell? ⟨B, 1, none⟩ = some (.int .i64 1) := X3.out.at_ 1
                  have r1 : w3.cell? ⟨S + 1, 1, none⟩ = some (.string (ca 0)) := W3.out.c.at_ 1
                  have r2 := W3.out.c.free 1
                  have r3 : (ca 0).size ≤ 200000 := by have := HWE.out.came (k := 0) (by decide); omega
                  have r4 : (ba (List.take qv (xs 0))).size ≤ 200000 := by have := HWE.out.came (k := 0) (by decide); rw [ba_size, List.length_take]; omega
                  obtain ⟨sz, hsz⟩ : ∃ sz, ba (List.take qv (xs 0)) = sz := ⟨_, rfl⟩
                  obtain ⟨s1, hs1⟩ : ∃ s1, ca 0 = s1 := ⟨_, rfl⟩
                  rw [hsz] at cv cz r4 WE2
                  rw [hs1] at r1 r3 WE2
                  have SS : Hid (∀ wz, Wb w wz p S (S + 1) (upd xs 0 (List.drop qv (xs 0))) e o y3 z0 z1 se ca → Wb w (wz.setCell ⟨S + 1, 1, none⟩ (.string (s1 ++ sz))) p S (S + 1) (upd xs 0 (List.drop qv (xs 0))) e o y3 z0 z1 se (upd ca 0 (s1 ++ sz))) := fun wz h => h.setC (k := 0) (by decide) _
                  have r5 : ¬ 9223372036854775807 < s1.size + sz.size := by omega
                  clear p3 h3 g3 by3 CD hsz hs1
                  go_wp2_with (fail)
                  go_still_tail 10, (by kernel_rfl)
                  change wpList _ _ _ _ _ w3.drew
                  obtain ⟨wz, hz⟩ : ∃ wz, w3.drew = wz := ⟨_, rfl⟩
                  have WZ := hid (W3.out.kept (Below.refl _ _).drew)
                  have rz : w3.drew.cell? ⟨S + 1, 1, none⟩ = some (.string s1) := r1
                  have rf : w3.drew.frozen? ⟨S + 1, 1, none⟩ = false := r2
                  rw [hz] at WZ rz rf ⊢
                  clear hz r1 r2 q1 cv cz
                  go_wp2
                  go_roundw
                  case rel => exact ⟨j + 1, _, _, _, _, _, _, _, _, by omega, by go_num, by have := HE.out; omega, SS.out _ WZ.out, WE2.out⟩
                  case measure => simp [intOf]; omega
                · obtain ⟨qv, hqv⟩ : ∃ qv : Nat, (qv : Int) = min nn ((xs 1).length : Int) := ⟨(min nn ((xs 1).length : Int)).toNat, by omega⟩
                  have CD := hid (sk_deliver 1 (by decide) 2 (by decide) nn (by omega) qv hqv WX.out.sk)
                  clear hqv
                  go_wp2_with (fail)
                  refine CD.out.mono ?_
                  rintro e3 w3 ⟨A3, y3, rfl, p3, h3, g3⟩
                  have W3 := hid (WX.out.stepP h3 (fun g hg => hg) g3)
                  have X3 : Hid (Has w3 B 31 #[.int .i64 wh, .int .i64 2, .int .i64 nn, .string t]) := HX.out.grw g3 (fun e => HF.out.1 (.inl e))
                  obtain ⟨off3, by3⟩ := p3.bytes
                  have cv := conv_back by3
                  have cz := conv_back (by3.kept (Below.refl _ _).drew (Nat.le_refl _))
                  have WE2 := hid (HWE.out.deliver (k := 1) (by decide) qv)
                  have q1 : w3.cell? ⟨B, 1, none⟩ = some (.int .i64 2) := X3.out.at_ 1
                  have r1 : w3.cell? ⟨S + 1, 2, none⟩ = some (.string (ca 1)) := W3.out.c.at_ 2
                  have r2 := W3.out.c.free 2
                  have r3 : (ca 1).size ≤ 200000 := by have := HWE.out.came (k := 1) (by decide); omega
                  have r4 : (ba (List.take qv (xs 1))).size ≤ 200000 := by have := HWE.out.came (k := 1) (by decide); rw [ba_size, List.length_take]; omega
                  obtain ⟨sz, hsz⟩ : ∃ sz, ba (List.take qv (xs 1)) = sz := ⟨_, rfl⟩
                  obtain ⟨s1, hs1⟩ : ∃ s1, ca 1 = s1 := ⟨_, rfl⟩
                  rw [hsz] at cv cz r4 WE2
                  rw [hs1] at r1 r3 WE2
                  have SS : Hid (∀ wz, Wb w wz p S (S + 1) (upd xs 1 (List.drop qv (xs 1))) e o y3 z0 z1 se ca → Wb w (wz.setCell ⟨S + 1, 2, none⟩ (.string (s1 ++ sz))) p S (S + 1) (upd xs 1 (List.drop qv (xs 1))) e o y3 z0 z1 se (upd ca 1 (s1 ++ sz))) := fun wz h => h.setC (k := 1) (by decide) _
                  have r5 : ¬ 9223372036854775807 < s1.size + sz.size := by omega
                  clear p3 h3 g3 by3 CD hsz hs1
                  go_wp2_with (fail)
                  go_still_tail 10, (by kernel_rfl)
                  change wpList _ _ _ _ _ w3.drew
                  obtain ⟨wz, hz⟩ : ∃ wz, w3.drew = wz := ⟨_, rfl⟩
                  have WZ := hid (W3.out.kept (Below.refl _ _).drew)
                  have rz : w3.drew.cell? ⟨S + 1, 2, none⟩ = some (.string s1) := r1
                  have rf : w3.drew.frozen? ⟨S + 1, 2, none⟩ = false := r2
                  rw [hz] at WZ rz rf ⊢
                  clear hz r1 r2 q1 cv cz
                  go_wp2
                  go_roundw
                  case rel => exact ⟨j + 1, _, _, _, _, _, _, _, _, by omega, by go_num, by have := HE.out; omega, SS.out _ WZ.out, WE2.out⟩
                  case measure => simp [intOf]; omega
                · have CB := hid (deliver_bad p en hbad nn xs e o y _ WX.out.sk.lk)
                  go_wp2_with (fail)
                  refine CB.out.mono ?_
                  rintro e3 w3 ⟨rfl, hb3⟩
                  have W3 := hid (WX.out.kept hb3)
                  clear hb3 CB
                  go_wp2
                  go_roundw
                  case rel => exact ⟨j + 1, _, _, _, _, _, _, _, _, by omega, by go_num, by have := HE.out; omega, W3.out, HWE.out.up⟩
                  case measure => simp [intOf]; omega
            · have gr0 : (r == 0) = false := by simpa using hr0
              have gr1 : (r == 1) = false := by simpa using hr1
              have CR := hid (sk_reset (by have := HE.out; omega) WX.out.sk)
              clear hr0 hr1
              go_wp2_with (fail)
              refine CR.out.mono ?_
              rintro e3 w3 ⟨rfl, h3, g3⟩
              have W3 := hid (WX.out.stepP h3 (fun g hg => by
                rcases hg with rfl | ⟨k, hk, hg⟩
                · exact .inl rfl
                · cases hg) g3)
              have a0 : w3.cell? ⟨S, 0, none⟩ = some (.string z0) := W3.out.s.at_ 0
              have a1 : w3.cell? ⟨S, 1, none⟩ = some (.string (se 0)) := W3.out.s.at_ 1
              have a2 : w3.cell? ⟨S, 2, none⟩ = some (.string (se 1)) := W3.out.s.at_ 2
              have f0 := W3.out.s.free 0
              have f1 := W3.out.s.free 1
              have f2 := W3.out.s.free 2
              have b0 : w3.cell? ⟨S + 1, 0, none⟩ = some (.string z1) := W3.out.c.at_ 0
              have b1 : w3.cell? ⟨S + 1, 1, none⟩ = some (.string (ca 0)) := W3.out.c.at_ 1
              have b2 : w3.cell? ⟨S + 1, 2, none⟩ = some (.string (ca 1)) := W3.out.c.at_ 2
              have h0 := W3.out.c.free 0
              have h1' := W3.out.c.free 1
              have h2 := W3.out.c.free 2
              clear h3 g3 CR
              go_wp2
              go_roundw
              case rel => exact ⟨j + 1, _, _, _, _, _, _, _, _, by omega, by go_num, by have := HE.out; omega, (W3.out.zeroS ⟨#[]⟩).zeroC ⟨#[]⟩, fun k _ => ⟨rfl, Nat.zero_le _⟩⟩
              case measure => simp [intOf]; omega
        · by_cases hr0 : r = 0
          · subst hr0
            rcases end_cases (n := en) with (rfl | rfl) | hbad
            · have CS := hid (wb_send 1 (by decide) 1 (by decide) (WX.out.kept (conv_below t wx)) (conv_bytes t wx) (by rw [tl_length]; have := HTS.out; omega))
              have HXB : Hid (Has (Lib.bytesWorld wx 5 t) B 31 #[.int .i64 wh, .int .i64 1, .int .i64 nn, .string sd]) := HX.out.kept (conv_below t wx) HX.out.inside
              go_wp2_with (fail)
              refine CS.out.mono ?_
              rintro e3 w3 ⟨rfl, ⟨o3, h3⟩, hold⟩
              have W3 := hid h3
              have X3 : Hid (Has w3 B 31 #[.int .i64 wh, .int .i64 1, .int .i64 nn, .string sd]) := (hold B HXB.out.inside HF.out.1).trans HXB.out
              clear h3 hold CS
              have hfull : (sendE (xs 1) (tl t) = 0 ∧ sendX (xs 1) (tl t) = xs 1 ++ tl t) ∨ (sendE (xs 1) (tl t) = 7 ∧ sendX (xs 1) (tl t) = xs 1) := by
                by_cases hf : 262144 < (xs 1).length + (tl t).length
                · exact .inr ⟨by rw [sendE, if_pos hf], by rw [sendX, if_pos hf]⟩
                · exact .inl ⟨by rw [sendE, if_neg hf], by rw [sendX, if_neg hf]⟩
              rcases hfull with ⟨hE, hX⟩ | ⟨hE, hX⟩
              · rw [hX] at W3
                rw [hE]
                have q1 : w3.cell? ⟨B, 1, none⟩ = some (.int .i64 1) := X3.out.at_ 1
                have WE2 := hid (HWE.out.send (k := 1) (by decide) HTS.out)
                have r1 : w3.cell? ⟨S, 2, none⟩ = some (.string (se 1)) := W3.out.s.at_ 2
                have r2 := W3.out.s.free 2
                have r3 : (se 1).size ≤ 200000 := by have := (HWE.out 1 (by decide)).2; omega
                have r4 : t.size ≤ 2000 := HTS.out
                have SS : Hid (∀ wz, Wb w wz p S (S + 1) (upd xs 1 (xs 1 ++ tl t)) e o3 (0, 0) z0 z1 se ca → Wb w (wz.setCell ⟨S, 2, none⟩ (.string (se 1 ++ t))) p S (S + 1) (upd xs 1 (xs 1 ++ tl t)) e o3 (0, 0) z0 z1 (upd se 1 (se 1 ++ t)) ca) := fun wz h => h.setS (k := 1) (by decide) _
                obtain ⟨s1, hs1⟩ : ∃ s1, se 1 = s1 := ⟨_, rfl⟩
                rw [hs1] at r1 r3 SS WE2
                have r5 : ¬ 9223372036854775807 < s1.size + t.size := by omega
                clear hE hX
                go_wp2_with (fail)
                go_still_tail 11, (by kernel_rfl)
                change wpList _ _ _ _ _ w3.drew
                obtain ⟨wz, hz⟩ : ∃ wz, w3.drew = wz := ⟨_, rfl⟩
                have WZ := hid (W3.out.kept (Below.refl _ _).drew)
                have rz : w3.drew.cell? ⟨S, 2, none⟩ = some (.string s1) := r1
                have rf : w3.drew.frozen? ⟨S, 2, none⟩ = false := r2
                rw [hz] at WZ rz rf ⊢
                clear hz r1 r2 q1 hs1
                go_wp2
                go_roundw
                case rel => exact ⟨j + 1, _, _, _, _, _, _, _, _, by omega, by go_num, by have := HE.out; omega, SS.out _ WZ.out, WE2.out⟩
                case measure => simp [intOf]; omega
              · rw [hX, upd_self] at W3
                rw [hE]
                clear hE hX
                go_wp2
                go_roundw
                case rel => exact ⟨j + 1, _, _, _, _, _, _, _, _, by omega, by go_num, by have := HE.out; omega, W3.out, HWE.out.up⟩
                case measure => simp [intOf]; omega
            · have CS := hid (wb_send 0 (by decide) 2 (by decide) (WX.out.kept (conv_below t wx)) (conv_bytes t wx) (by rw [tl_length]; have := HTS.out; omega))
              have HXB : Hid (Has (Lib.bytesWorld wx 5 t) B 31 #[.int .i64 wh, .int .i64 2, .int .i64 nn, .string sd]) := HX.out.kept (conv_below t wx) HX.out.inside
              go_wp2_with (fail)
              refine CS.out.mono ?_
              rintro e3 w3 ⟨rfl, ⟨o3, h3⟩, hold⟩
              have W3 := hid h3
              have X3 : Hid (Has w3 B 31 #[.int .i64 wh, .int .i64 2, .int .i64 nn, .string sd]) := (hold B HXB.out.inside HF.out.1).trans HXB.out
              clear h3 hold CS
              have hfull : (sendE (xs 0) (tl t) = 0 ∧ sendX (xs 0) (tl t) = xs 0 ++ tl t) ∨ (sendE (xs 0) (tl t) = 7 ∧ sendX (xs 0) (tl t) = xs 0) := by
                by_cases hf : 262144 < (xs 0).length + (tl t).length
                · exact .inr ⟨by rw [sendE, if_pos hf], by rw [sendX, if_pos hf]⟩
                · exact .inl ⟨by rw [sendE, if_neg hf], by rw [sendX, if_neg hf]⟩
              rcases hfull with ⟨hE, hX⟩ | ⟨hE, hX⟩
              · rw [hX] at W3
                rw [hE]
                have q1 : w3.cell? ⟨B, 1, none⟩ = some (.int .i64 2) := X3.out.at_ 1
                have WE2 := hid (HWE.out.send (k := 0) (by decide) HTS.out)
                have r1 : w3.cell? ⟨S, 1, none⟩ = some (.string (se 0)) := W3.out.s.at_ 1
                have r2 := W3.out.s.free 1
                have r3 : (se 0).size ≤ 200000 := by have := (HWE.out 0 (by decide)).2; omega
                have r4 : t.size ≤ 2000 := HTS.out
                have SS : Hid (∀ wz, Wb w wz p S (S + 1) (upd xs 0 (xs 0 ++ tl t)) e o3 (0, 0) z0 z1 se ca → Wb w (wz.setCell ⟨S, 1, none⟩ (.string (se 0 ++ t))) p S (S + 1) (upd xs 0 (xs 0 ++ tl t)) e o3 (0, 0) z0 z1 (upd se 0 (se 0 ++ t)) ca) := fun wz h => h.setS (k := 0) (by decide) _
                obtain ⟨s1, hs1⟩ : ∃ s1, se 0 = s1 := ⟨_, rfl⟩
                rw [hs1] at r1 r3 SS WE2
                have r5 : ¬ 9223372036854775807 < s1.size + t.size := by omega
                clear hE hX
                go_wp2_with (fail)
                go_still_tail 11, (by kernel_rfl)
                change wpList _ _ _ _ _ w3.drew
                obtain ⟨wz, hz⟩ : ∃ wz, w3.drew = wz := ⟨_, rfl⟩
                have WZ := hid (W3.out.kept (Below.refl _ _).drew)
                have rz : w3.drew.cell? ⟨S, 1, none⟩ = some (.string s1) := r1
                have rf : w3.drew.frozen? ⟨S, 1, none⟩ = false := r2
                rw [hz] at WZ rz rf ⊢
                clear hz r1 r2 q1 hs1
                go_wp2
                go_roundw
                case rel => exact ⟨j + 1, _, _, _, _, _, _, _, _, by omega, by go_num, by have := HE.out; omega, SS.out _ WZ.out, WE2.out⟩
                case measure => simp [intOf]; omega
              · rw [hX, upd_self] at W3
                rw [hE]
                clear hE hX
                go_wp2
                go_roundw
                case rel => exact ⟨j + 1, _, _, _, _, _, _, _, _, by omega, by go_num, by have := HE.out; omega, W3.out, HWE.out.up⟩
                case measure => simp [intOf]; omega
            · have CB := hid (fun bv => send_bad p en hbad HI.out.2.1 bv xs e o y _ (WX.out.kept (conv_below t wx)).sk.lk)
              go_wp2_with (fail)
              refine (CB.out _).mono ?_
              rintro e3 w3 ⟨rfl, hb3⟩
              have W3 := hid (WX.out.kept ((conv_below t wx).trans (hb3.mono (conv_below t wx).size)))
              clear hb3 CB
              go_wp2
              go_roundw
              case rel => exact ⟨j + 1, _, _, _, _, _, _, _, _, by omega, by go_num, by have := HE.out; omega, W3.out, HWE.out.up⟩
              case measure => simp [intOf]; omega
          · by_cases hr1 : r = 1
            · subst hr1
              have gr0 : ((1 : Int) == 0) = false := rfl
              by_cases hnn : nn < 0
              · rcases end_cases (n := en) with (rfl | rfl) | hbad
                · have CB := hid (deliver_neg 0 (by decide) p 1 (by decide) nn hnn xs e o y _ WX.out.sk.lk)
                  go_wp2_with (fail)
                  refine CB.out.mono ?_
                  rintro e3 w3 ⟨rfl, hb3⟩
                  have W3 := hid (WX.out.kept hb3)
                  clear hb3 CB
                  go_wp2
                  go_roundw
                  case rel => exact ⟨j + 1, _, _, _, _, _, _, _, _, by omega, by go_num, by have := HE.out; omega, W3.out, HWE.out.up⟩
                  case measure => simp [intOf]; omega
                · have CB := hid (deliver_neg 1 (by decide) p 2 (by decide) nn hnn xs e o y _ WX.out.sk.lk)
                  go_wp2_with (fail)
                  refine CB.out.mono ?_
                  rintro e3 w3 ⟨rfl, hb3⟩
                  have W3 := hid (WX.out.kept hb3)
                  clear hb3 CB
                  go_wp2
                  go_roundw
                  case rel => exact ⟨j + 1, _, _, _, _, _, _, _, _, by omega, by go_num, by have := HE.out; omega, W3.out, HWE.out.up⟩
                  case measure => simp [intOf]; omega
                · have CB := hid (deliver_bad p en hbad nn xs e o y _ WX.out.sk.lk)
                  go_wp2_with (fail)
                  refine CB.out.mono ?_
                  rintro e3 w3 ⟨rfl, hb3⟩
                  have W3 := hid (WX.out.kept hb3)
                  clear hb3 CB
                  go_wp2
                  go_roundw
                  case rel => exact ⟨j + 1, _, _, _, _, _, _, _, _, by omega, by go_num, by have := HE.out; omega, W3.out, HWE.out.up⟩
                  case measure => simp [intOf]; omega
              · rcases end_cases (n := en) with (rfl | rfl) | hbad
                · obtain ⟨qv, hqv⟩ : ∃ qv : Nat, (qv : Int) = min nn ((xs 0).length : Int) := ⟨(min nn ((xs 0).length : Int)).toNat, by omega⟩
                  have CD := hid (sk_deliver 0 (by decide) 1 (by decide) nn (by omega) qv hqv WX.out.sk)
                  clear hqv
                  go_wp2_with (fail)
                  refine CD.out.mono ?_
                  rintro e3 w3 ⟨A3, y3, rfl, p3, h3, g3⟩
                  have W3 := hid (WX.out.stepP h3 (fun g hg => hg) g3)
                  have X3 : Hid (Has w3 B 31 #[.int .i64 wh, .int .i64 1, .int .i64 nn, .string sd]) := HX.out.grw g3 (fun e => HF.out.1 (.inl e))
                  obtain ⟨off3, by3⟩ := p3.bytes
                  have cv := conv_back by3
                  have cz := conv_back (by3.kept (Below.refl _ _).drew (Nat.le_refl _))
                  have WE2 := hid (HWE.out.deliver (k := 0) (by decide) qv)
                  have q1 : w3.cell? ⟨B, 1, none⟩ = some (.int .i64 1) := X3.out.at_ 1
                  have r1 : w3.cell? ⟨S + 1, 1, none⟩ = some (.string (ca 0)) := W3.out.c.at_ 1
                  have r2 := W3.out.c.free 1
                  have r3 : (ca 0).size ≤ 200000 := by have := HWE.out.came (k := 0) (by decide); omega
                  have r4 : (ba (List.take qv (xs 0))).size ≤ 200000 := by have := HWE.out.came (k := 0) (by decide); rw [ba_size, List.length_take]; omega
                  obtain ⟨sz, hsz⟩ : ∃ sz, ba (List.take qv (xs 0)) = sz := ⟨_, rfl⟩
                  obtain ⟨s1, hs1⟩ : ∃ s1, ca 0 = s1 := ⟨_, rfl⟩
                  rw [hsz] at cv cz r4 WE2
                  rw [hs1] at r1 r3 WE2
                  have SS : Hid (∀ wz, Wb w wz p S (S + 1) (upd xs 0 (List.drop qv (xs 0))) e o y3 z0 z1 se ca → Wb w (wz.setCell ⟨S + 1, 1, none⟩ (.string (s1 ++ sz))) p S (S + 1) (upd xs 0 (List.drop qv (xs 0))) e o y3 z0 z1 se (upd ca 0 (s1 ++ sz))) := fun wz h => h.setC (k := 0) (by decide) _
                  have r5 : ¬ 9223372036854775807 < s1.size + sz.size := by omega
                  clear p3 h3 g3 by3 CD hsz hs1
                  go_wp2_with (fail)
                  go_still_tail 10, (by kernel_rfl)
                  change wpList _ _ _ _ _ w3.drew
                  obtain ⟨wz, hz⟩ : ∃ wz, w3.drew = wz := ⟨_, rfl⟩
                  have WZ := hid (W3.out.kept (Below.refl _ _).drew)
                  have rz : w3.drew.cell? ⟨S + 1, 1, none⟩ = some (.string s1) := r1
                  have rf : w3.drew.frozen? ⟨S + 1, 1, none⟩ = false := r2
                  rw [hz] at WZ rz rf ⊢
                  clear hz r1 r2 q1 cv cz
                  go_wp2
                  go_roundw
                  case rel => exact ⟨j + 1, _, _, _, _, _, _, _, _, by omega, by go_num, by have := HE.out; omega, SS.out _ WZ.out, WE2.out⟩
                  case measure => simp [intOf]; omega
                · obtain ⟨qv, hqv⟩ : ∃ qv : Nat, (qv : Int) = min nn ((xs 1).length : Int) := ⟨(min nn ((xs 1).length : Int)).toNat, by omega⟩
                  have CD := hid (sk_deliver 1 (by decide) 2 (by decide) nn (by omega) qv hqv WX.out.sk)
                  clear hqv
                  go_wp2_with (fail)
                  refine CD.out.mono ?_
                  rintro e3 w3 ⟨A3, y3, rfl, p3, h3, g3⟩
                  have W3 := hid (WX.out.stepP h3 (fun g hg => hg) g3)
                  have X3 : Hid (Has w3 B 31 #[.int .i64 wh, .int .i64 2, .int .i64 nn, .string sd]) := HX.out.grw g3 (fun e => HF.out.1 (.inl e))
                  obtain ⟨off3, by3⟩ := p3.bytes
                  have cv := conv_back by3
                  have cz := conv_back (by3.kept (Below.refl _ _).drew (Nat.le_refl _))
                  have WE2 := hid (HWE.out.deliver (k := 1) (by decide) qv)
                  have q1 : w3.cell? ⟨B, 1, none⟩ = some (.int .i64 2) := X3.out.at_ 1
                  have r1 : w3.cell? ⟨S + 1, 2, none⟩ = some (.string (ca 1)) := W3.out.c.at_ 2
                  have r2 := W3.out.c.free 2
                  have r3 : (ca 1).size ≤ 200000 := by have := HWE.out.came (k := 1) (by decide); omega
                  have r4 : (ba (List.take qv (xs 1))).size ≤ 200000 := by have := HWE.out.came (k := 1) (by decide); rw [ba_size, List.length_take]; omega
                  obtain ⟨sz, hsz⟩ : ∃ sz, ba (List.take qv (xs 1)) = sz := ⟨_, rfl⟩
                  obtain ⟨s1, hs1⟩ : ∃ s1, ca 1 = s1 := ⟨_, rfl⟩
                  rw [hsz] at cv cz r4 WE2
                  rw [hs1] at r1 r3 WE2
                  have SS : Hid (∀ wz, Wb w wz p S (S + 1) (upd xs 1 (List.drop qv (xs 1))) e o y3 z0 z1 se ca → Wb w (wz.setCell ⟨S + 1, 2, none⟩ (.string (s1 ++ sz))) p S (S + 1) (upd xs 1 (List.drop qv (xs 1))) e o y3 z0 z1 se (upd ca 1 (s1 ++ sz))) := fun wz h => h.setC (k := 1) (by decide) _
                  have r5 : ¬ 9223372036854775807 < s1.size + sz.size := by omega
                  clear p3 h3 g3 by3 CD hsz hs1
                  go_wp2_with (fail)
                  go_still_tail 10, (by kernel_rfl)
                  change wpList _ _ _ _ _ w3.drew
                  obtain ⟨wz, hz⟩ : ∃ wz, w3.drew = wz := ⟨_, rfl⟩
                  have WZ := hid (W3.out.kept (Below.refl _ _).drew)
                  have rz : w3.drew.cell? ⟨S + 1, 2, none⟩ = some (.string s1) := r1
                  have rf : w3.drew.frozen? ⟨S + 1, 2, none⟩ = false := r2
                  rw [hz] at WZ rz rf ⊢
                  clear hz r1 r2 q1 cv cz
                  go_wp2
                  go_roundw
                  case rel => exact ⟨j + 1, _, _, _, _, _, _, _, _, by omega, by go_num, by have := HE.out; omega, SS.out _ WZ.out, WE2.out⟩
                  case measure => simp [intOf]; omega
                · have CB := hid (deliver_bad p en hbad nn xs e o y _ WX.out.sk.lk)
                  go_wp2_with (fail)
                  refine CB.out.mono ?_
                  rintro e3 w3 ⟨rfl, hb3⟩
                  have W3 := hid (WX.out.kept hb3)
                  clear hb3 CB
                  go_wp2
                  go_roundw
                  case rel => exact ⟨j + 1, _, _, _, _, _, _, _, _, by omega, by go_num, by have := HE.out; omega, W3.out, HWE.out.up⟩
                  case measure => simp [intOf]; omega
            · have gr0 : (r == 0) = false := by simpa using hr0
              have gr1 : (r == 1) = false := by simpa using hr1
              have CR := hid (sk_reset (by have := HE.out; omega) WX.out.sk)
              clear hr0 hr1
              go_wp2_with (fail)
              refine CR.out.mono ?_
              rintro e3 w3 ⟨rfl, h3, g3⟩
              have W3 := hid (WX.out.stepP h3 (fun g hg => by
                rcases hg with rfl | ⟨k, hk, hg⟩
                · exact .inl rfl
                · cases hg) g3)
              have a0 : w3.cell? ⟨S, 0, none⟩ = some (.string z0) := W3.out.s.at_ 0
              have a1 : w3.cell? ⟨S, 1, none⟩ = some (.string (se 0)) := W3.out.s.at_ 1
              have a2 : w3.cell? ⟨S, 2, none⟩ = some (.string (se 1)) := W3.out.s.at_ 2
              have f0 := W3.out.s.free 0
              have f1 := W3.out.s.free 1
              have f2 := W3.out.s.free 2
              have b0 : w3.cell? ⟨S + 1, 0, none⟩ = some (.string z1) := W3.out.c.at_ 0
              have b1 : w3.cell? ⟨S + 1, 1, none⟩ = some (.string (ca 0)) := W3.out.c.at_ 1
              have b2 : w3.cell? ⟨S + 1, 2, none⟩ = some (.string (ca 1)) := W3.out.c.at_ 2
              have h0 := W3.out.c.free 0
              have h1' := W3.out.c.free 1
              have h2 := W3.out.c.free 2
              clear h3 g3 CR
              go_wp2
              go_roundw
              case rel => exact ⟨j + 1, _, _, _, _, _, _, _, _, by omega, by go_num, by have := HE.out; omega, (W3.out.zeroS ⟨#[]⟩).zeroC ⟨#[]⟩, fun k _ => ⟨rfl, Nat.zero_le _⟩⟩
              case measure => simp [intOf]; omega
      · have g1 : (j : Int) < (n : Int) := by omega
        have g2 : ¬ (j : Int) < 100 := by omega
        clear hlt hlt2
        have WE9 := hid HT.out.2.1
        have HWE := hid HT.out.2.2
        have HJ : Hid (j ≤ 100) := hj
        clear HT hj
        go_wp2_with (fail)
        refine (sk_copy WE9.out.sk).mono ?_
        rintro e2 w2 ⟨rfl, oc, h2, k2, a2, b2, n2⟩
        obtain ⟨c, hc⟩ : ∃ c, wo.heap.size = c := ⟨_, rfl⟩
        rw [hc] at k2 a2 n2 ⊢
        have W2 := hid (WE9.out.kept b2)
        have K2 := hid k2
        have HA := hid a2
        have HNC : Hid (¬ Owns p o c) := fun hO => a2 c hO (.inl rfl)
        have HSC : Hid (S ≠ c ∧ S + 1 ≠ c) := ⟨by rw [← hc]; exact Nat.ne_of_lt WE9.out.s.inside, by rw [← hc]; exact Nat.ne_of_lt WE9.out.c.inside⟩
        clear h2 k2 a2 b2 n2 hc
        go_wp2_with (fail)
        go_loopw [12] (fun i wr => ∃ (m : Nat) (xl xc : Nat → List UInt8) (u v : Nat × Nat), 1 ≤ m ∧ m ≤ 3 ∧ i = .int .i64 (m : Int) ∧ Hid (Wb w wr p S (S + 1) xl e o u z0 z1 se ca ∧ Sk w wr c xc e oc v ∧ ∀ i, m - 1 ≤ i → i < 2 → xl i = xs i ∧ xc i = xs i)) (fun i _ => 3 - (intOf i).toNat)
        case atStart => exact ⟨1, _, _, _, _, by omega, by omega, by go_num, W2.out, K2.out, fun _ _ _ => ⟨rfl, rfl⟩⟩
        case round =>
          obtain ⟨m, xl, xc, u, v, hm1, hm3, rfl, HV⟩ := hrel
          obtain ⟨wq, hwq⟩ : ∃ wq, wq = wr := ⟨_, rfl⟩
          subst hwq
          by_cases hma : m = 1
          · subst hma
            clear hm1 hm3
            have HLK : Hid ((xs 0).length ≤ 262144) := by
              show _ ≤ _
              have := HV.out.1.sk.lk.len (k := 0) (by decide)
              rw [(HV.out.2.2 0 (by decide) (by decide)).1] at this
              exact this
            have HXL : Hid (xl 0 = xs 0) := (HV.out.2.2 0 (by decide) (by decide)).1
            have HXC : Hid (xc 0 = xs 0) := (HV.out.2.2 0 (by decide) (by decide)).2
            go_wp2_with (fail)
            refine (sk_deliver 0 (by decide) _ (by rfl) _ (by decide) (xs 0).length (by rw [HXL.out]; have := HLK.out; omega) HV.out.1.sk).mono ?_
            rintro e3 w3 ⟨A3, y3, rfl, p3, h3, g3⟩
            have W3 := hid (HV.out.1.stepP h3 (fun g hg => hg) g3)
            have K3 := hid (HV.out.2.1.pastP HA.out h3.2.1 g3)
            have hyc : y3.1 ≠ c := by
              obtain ⟨_, _, _, q3⟩ := p3
              rcases q3 with ⟨q3, _⟩ | ⟨_, q3, _⟩
              · intro e; exact HNC.out (by rw [← e]; exact .inr ⟨0, by decide, q3⟩)
              · have := K3.out.lk.pos; omega
            obtain ⟨off3, by3⟩ := p3.bytes
            rw [HXL.out, List.take_of_length_le (Nat.le_refl _)] at by3
            have Y3 := hid by3
            clear p3 h3 g3 by3
            go_wp2_with (fail)
            refine (sk_deliver 0 (by decide) _ (by rfl) _ (by decide) (xs 0).length (by rw [HXC.out]; have := HLK.out; omega) K3.out).mono ?_
            rintro e4 w4 ⟨A4, y4, rfl, p4, h4, g4⟩
            have W4 := hid (W3.out.past HNC.out HSC.out.1 HSC.out.2 K3.out.2.1 g4)
            have K4 := hid h4
            obtain ⟨off4, by4⟩ := p4.bytes
            rw [HXC.out, List.take_of_length_le (Nat.le_refl _)] at by4
            have by3 := Y3.out.grw g4 hyc
            obtain ⟨sr, hsr⟩ : ∃ sr, ba (xs 0) = sr := ⟨_, rfl⟩
            have VA : Hid (∀ W, Below w4.heap.size w4 W → (convert 26 9 (.slice A3 (xs 0).length (xs 0).length)).run Try.prog W = .ok (.string sr) W ∧ (convert 26 9 (.slice A4 (xs 0).length (xs 0).length)).run Try.prog W = .ok (.string sr) W) := fun W hb => by
              rw [← hsr]
              exact ⟨conv_back (by3.kept hb (Nat.le_refl _)), conv_back (by4.kept hb (Nat.le_refl _))⟩
            have hEq : ca 0 ++ sr = se 0 := by
              apply tl_inj
              rw [tl_append, ← hsr, tl_ba]
              exact (HWE.out 0 (by decide)).1
            have CA : Hid (∀ W, Below w4.heap.size w4 W → W.cell? ⟨S + 1, 1, none⟩ = some (.string (ca 0)) ∧ W.cell? ⟨S, 1, none⟩ = some (.string (ca 0 ++ sr))) := fun W hb => by
              rw [hEq]
              exact ⟨(W4.out.kept hb).c.at_ 1, (W4.out.kept hb).s.at_ 1⟩
            have r3 : (ca 0).size ≤ 200000 := by have := HWE.out.came (k := 0) (by decide); have := HJ.out; omega
            have r4 : sr.size ≤ 200000 := by have := HWE.out.came (k := 0) (by decide); have := HJ.out; rw [← hsr, ba_size]; omega
            obtain ⟨c1, hc1⟩ : ∃ c1, ca 0 = c1 := ⟨_, rfl⟩
            rw [hc1] at CA r3
            have r5 : ¬ 9223372036854775807 < c1.size + sr.size := by omega
            have HZL : Hid ((upd xl 0 ((xl 0).drop (xs 0).length) 0).length = 0) := by show _ = _; rw [upd_at, HXL.out, List.length_drop, Nat.sub_self]
            obtain ⟨ln, hln⟩ : ∃ ln, (xs 0).length = ln := ⟨_, rfl⟩
            have WD := hid (W4.out.kept (Below.refl _ _).drew)
            have CL : Hid (Calls Try.prog 11 #[.pointer (some ⟨p, 0, none⟩), .int .i64 ((1 : Nat) : Int)] w4.drew fun ex w' => ex = .returned (.int .i64 0) ∧ Below w4.heap.size w4 w') := by
              refine (sk_left 0 (by decide) _ (by rfl) WD.out.sk).mono ?_
              rintro ex w' ⟨rfl, _, hb⟩
              exact ⟨by rw [HZL.out]; rfl, (Below.refl _ _).drew.trans hb⟩
            rw [hln] at VA
            rw [hln]
            have z4 : (w4.drew.cell? ⟨S + 1, 1, none⟩ = some (.string c1) ∧ w4.drew.cell? ⟨S, 1, none⟩ = some (.string (c1 ++ sr))) ∧ (convert 26 9 (.slice A3 ln ln)).run Try.prog w4.drew = .ok (.string sr) w4.drew ∧ (convert 26 9 (.slice A4 ln ln)).run Try.prog w4.drew = .ok (.string sr) w4.drew := ⟨CA.out _ (Below.refl _ _).drew, VA.out _ (Below.refl _ _).drew⟩
            clear p4 h4 g4 by3 by4 hsr hEq hc1 hln
            go_wp2_with (fail)
            refine wp_region_noPanic ?_
            refine wp_region_held_drew (S := fun W => (W.cell? ⟨S + 1, 1, none⟩ = some (.string c1) ∧ W.cell? ⟨S, 1, none⟩ = some (.string (c1 ++ sr))) ∧ (convert 26 9 (.slice A3 ln ln)).run Try.prog W = .ok (.string sr) W ∧ (convert 26 9 (.slice A4 ln ln)).run Try.prog W = .ok (.string sr) W) (by kernel_rfl) (z4) (fun hS => ?_)
            refine wpAnyH_take (i := 0) (v := ?_) (by simp only [List.getElem?_toArray, List.getElem?_cons_zero]; rfl) (by kernel_rfl) (by kernel_rfl) (by kernel_rfl) (fun _ _ _ h => h) (Or.inl ⟨by rfl, ?_⟩) (by assumption) ?_
            rotate_left 1
            · intro w hSw
              go_simp
              with_reducible rfl
            simp only [Act.put, List.setIfInBounds_toArray, List.set_cons_zero, List.set_cons_succ]
            refine wpAnyH_take (i := 1) (v := ?_) (by simp only [List.getElem?_toArray, List.getElem?_cons_zero, List.getElem?_cons_succ]; rfl) (by kernel_rfl) (by kernel_rfl) (by kernel_rfl) (fun _ _ _ h => h) (Or.inl ⟨by rfl, ?_⟩) (by assumption) ?_
            rotate_left 1
            · intro w hSw
              go_simp
              with_reducible rfl
            simp only [Act.put, List.setIfInBounds_toArray, List.set_cons_zero, List.set_cons_succ]
            refine wpAnyH_take (i := 2) (v := ?_) (by simp only [List.getElem?_toArray, List.getElem?_cons_zero, List.getElem?_cons_succ]; rfl) (by kernel_rfl) (by kernel_rfl) (by kernel_rfl) (fun _ _ _ h => h) (Or.inl ⟨by rfl, ?_⟩) (by assumption) ?_
            rotate_left 1
            · intro w hSw
              go_simp
              with_reducible rfl
            simp only [Act.put, List.setIfInBounds_toArray, List.set_cons_zero, List.set_cons_succ]
            refine wpAnyH_take (i := 3) (v := ?_) (by simp only [List.getElem?_toArray, List.getElem?_cons_zero, List.getElem?_cons_succ]; rfl) (by kernel_rfl) (by kernel_rfl) (by kernel_rfl) (fun _ _ _ h => h) (Or.inl ⟨by rfl, ?_⟩) (by assumption) ?_
            rotate_left 1
            · intro w hSw
              go_simp
              with_reducible rfl
            simp only [Act.put, List.setIfInBounds_toArray, List.set_cons_zero, List.set_cons_succ]
            refine wpAnyH_take (i := 4) (v := ?_) (by simp only [List.getElem?_toArray, List.getElem?_cons_zero, List.getElem?_cons_succ]; rfl) (by kernel_rfl) (by kernel_rfl) (by kernel_rfl) (fun _ _ _ h => h) (Or.inl ⟨by rfl, ?_⟩) (by assumption) ?_
            rotate_left 1
            · intro w hSw
              go_simp
              with_reducible rfl
            simp only [Act.put, List.setIfInBounds_toArray, List.set_cons_zero, List.set_cons_succ]
            refine wpAnyH_take (i := 5) (v := ?_) (by simp only [List.getElem?_toArray, List.getElem?_cons_zero, List.getElem?_cons_succ]; rfl) (by kernel_rfl) (by kernel_rfl) (by kernel_rfl) (fun _ _ _ h => h) (Or.inl ⟨by rfl, ?_⟩) (by assumption) ?_
            rotate_left 1
            · intro w hSw
              go_simp
              with_reducible rfl
            simp only [Act.put, List.setIfInBounds_toArray, List.set_cons_zero, List.set_cons_succ]
            refine wpAnyH_take (i := 6) (v := ?_) (by simp only [List.getElem?_toArray, List.getElem?_cons_zero, List.getElem?_cons_succ]; rfl) (by kernel_rfl) (by kernel_rfl) (by kernel_rfl) (fun _ _ _ h => h) (Or.inl ⟨by rfl, ?_⟩) (by assumption) ?_
            rotate_left 1
            · intro w hSw
              go_simp
              with_reducible rfl
            simp only [Act.put, List.setIfInBounds_toArray, List.set_cons_zero, List.set_cons_succ]
            refine wpAnyH_take (i := 7) (v := ?_) (by simp only [List.getElem?_toArray, List.getElem?_cons_zero, List.getElem?_cons_succ]; rfl) (by kernel_rfl) (by kernel_rfl) (by kernel_rfl) (fun _ _ _ h => h) (Or.inl ⟨by rfl, ?_⟩) (by assumption) ?_
            rotate_left 1
            · intro w hSw
              go_simp
              with_reducible rfl
            simp only [Act.put, List.setIfInBounds_toArray, List.set_cons_zero, List.set_cons_succ]
            refine wpAnyH_take (i := 8) (v := ?_) (by simp only [List.getElem?_toArray, List.getElem?_cons_zero, List.getElem?_cons_succ]; rfl) (by kernel_rfl) (by kernel_rfl) (by kernel_rfl) (fun _ _ _ h => h) (Or.inl ⟨by rfl, ?_⟩) (by assumption) ?_
            rotate_left 1
            · intro w hSw
              go_simp
              with_reducible rfl
            simp only [Act.put, List.setIfInBounds_toArray, List.set_cons_zero, List.set_cons_succ]
            refine wpAnyH_take (i := 9) (v := ?_) (by simp only [List.getElem?_toArray, List.getElem?_cons_zero, List.getElem?_cons_succ]; rfl) (by kernel_rfl) (by kernel_rfl) (by kernel_rfl) (fun _ _ _ h => h) (Or.inl ⟨by rfl, ?_⟩) (by assumption) ?_
            rotate_left 1
            · intro w hSw
              have u1 := hSw.1.1
              go_simp
              with_reducible rfl
            simp only [Act.put, List.setIfInBounds_toArray, List.set_cons_zero, List.set_cons_succ]
            refine wpAnyH_take (i := 10) (v := ?_) (by simp only [List.getElem?_toArray, List.getElem?_cons_zero, List.getElem?_cons_succ]; rfl) (by kernel_rfl) (by kernel_rfl) (by kernel_rfl) (fun _ _ _ h => h) (Or.inl ⟨by rfl, ?_⟩) (by assumption) ?_
            rotate_left 1
            · intro w hSw
              go_simp
              with_reducible rfl
            simp only [Act.put, List.setIfInBounds_toArray, List.set_cons_zero, List.set_cons_succ]
            refine wpAnyH_take (i := 11) (v := ?_) (by simp only [List.getElem?_toArray, List.getElem?_cons_zero, List.getElem?_cons_succ]; rfl) (by kernel_rfl) (by kernel_rfl) (by kernel_rfl) (fun _ _ _ h => h) (Or.inl ⟨by rfl, ?_⟩) (by assumption) ?_
            rotate_left 1
            · intro w hSw
              have v1 := hSw.2.1
              go_simp
              with_reducible rfl
            simp only [Act.put, List.setIfInBounds_toArray, List.set_cons_zero, List.set_cons_succ]
            refine wpAnyH_take (i := 12) (v := ?_) (by simp only [List.getElem?_toArray, List.getElem?_cons_zero, List.getElem?_cons_succ]; rfl) (by kernel_rfl) (by kernel_rfl) (by kernel_rfl) (fun _ _ _ h => h) (Or.inl ⟨by rfl, ?_⟩) (by assumption) ?_
            rotate_left 1
            · intro w hSw
              go_simp
              with_reducible rfl
            simp only [Act.put, List.setIfInBounds_toArray, List.set_cons_zero, List.set_cons_succ]
            refine wpAnyH_take (i := 13) (v := ?_) (by simp only [List.getElem?_toArray, List.getElem?_cons_zero, List.getElem?_cons_succ]; rfl) (by kernel_rfl) (by kernel_rfl) (by kernel_rfl) (fun _ _ _ h => h) (Or.inl ⟨by rfl, ?_⟩) (by assumption) ?_
            rotate_left 1
            · intro w hSw
              go_simp
              with_reducible rfl
            simp only [Act.put, List.setIfInBounds_toArray, List.set_cons_zero, List.set_cons_succ]
            refine wpAnyH_take (i := 14) (v := ?_) (by simp only [List.getElem?_toArray, List.getElem?_cons_zero, List.getElem?_cons_succ]; rfl) (by kernel_rfl) (by kernel_rfl) (by kernel_rfl) (fun _ _ _ h => h) (Or.inl ⟨by rfl, ?_⟩) (by assumption) ?_
            rotate_left 1
            · intro w hSw
              go_simp
              with_reducible rfl
            simp only [Act.put, List.setIfInBounds_toArray, List.set_cons_zero, List.set_cons_succ]
            refine wpAnyH_take (i := 15) (v := ?_) (by simp only [List.getElem?_toArray, List.getElem?_cons_zero, List.getElem?_cons_succ]; rfl) (by kernel_rfl) (by kernel_rfl) (by kernel_rfl) (fun _ _ _ h => h) (Or.inl ⟨by rfl, ?_⟩) (by assumption) ?_
            rotate_left 1
            · intro w hSw
              have u2 := hSw.1.2
              go_simp
              with_reducible rfl
            simp only [Act.put, List.setIfInBounds_toArray, List.set_cons_zero, List.set_cons_succ]
            refine wpAnyH_take (i := 16) (v := ?_) (by simp only [List.getElem?_toArray, List.getElem?_cons_zero, List.getElem?_cons_succ]; rfl) (by kernel_rfl) (by kernel_rfl) (by kernel_rfl) (fun _ _ _ h => h) (Or.inl ⟨by rfl, ?_⟩) (by assumption) ?_
            rotate_left 1
            · intro w hSw
              go_simp
              with_reducible rfl
            simp only [Act.put, List.setIfInBounds_toArray, List.set_cons_zero, List.set_cons_succ]
            refine wpAnyH_take (i := 17) (v := ?_) (by simp only [List.getElem?_toArray, List.getElem?_cons_zero, List.getElem?_cons_succ]; rfl) (by kernel_rfl) (by kernel_rfl) (by kernel_rfl) (fun _ _ _ h => h) (Or.inl ⟨by rfl, ?_⟩) (by assumption) ?_
            rotate_left 1
            · intro w hSw
              go_simp
              with_reducible rfl
            simp only [Act.put, List.setIfInBounds_toArray, List.set_cons_zero, List.set_cons_succ]
            refine wpAnyH_take (i := 18) (v := ?_) (by simp only [List.getElem?_toArray, List.getElem?_cons_zero, List.getElem?_cons_succ]; rfl) (by kernel_rfl) (by kernel_rfl) (by kernel_rfl) (fun _ _ _ h => h) (Or.inl ⟨by rfl, ?_⟩) (by assumption) ?_
            rotate_left 1
            · intro w hSw
              go_simp
              with_reducible rfl
            simp only [Act.put, List.setIfInBounds_toArray, List.set_cons_zero, List.set_cons_succ]
            refine wpAnyH_take (i := 19) (v := ?_) (by simp only [List.getElem?_toArray, List.getElem?_cons_zero, List.getElem?_cons_succ]; rfl) (by kernel_rfl) (by kernel_rfl) (by kernel_rfl) (fun _ _ _ h => h) (Or.inl ⟨by rfl, ?_⟩) (by assumption) ?_
            rotate_left 1
            · intro w hSw
              go_simp
              with_reducible rfl
            simp only [Act.put, List.setIfInBounds_toArray, List.set_cons_zero, List.set_cons_succ]
            refine wpAnyH_take (i := 20) (v := ?_) (by simp only [List.getElem?_toArray, List.getElem?_cons_zero, List.getElem?_cons_succ]; rfl) (by kernel_rfl) (by kernel_rfl) (by kernel_rfl) (fun _ _ _ h => h) (Or.inl ⟨by rfl, ?_⟩) (by assumption) ?_
            rotate_left 1
            · intro w hSw
              have v2 := hSw.2.2
              go_simp
              with_reducible rfl
            simp only [Act.put, List.setIfInBounds_toArray, List.set_cons_zero, List.set_cons_succ]
            refine wpAnyH_take (i := 21) (v := ?_) (by simp only [List.getElem?_toArray, List.getElem?_cons_zero, List.getElem?_cons_succ]; rfl) (by kernel_rfl) (by kernel_rfl) (by kernel_rfl) (fun _ _ _ h => h) (Or.inl ⟨by rfl, ?_⟩) (by assumption) ?_
            rotate_left 1
            · intro w hSw
              go_simp
              with_reducible rfl
            simp only [Act.put, List.setIfInBounds_toArray, List.set_cons_zero, List.set_cons_succ]
            refine wpAnyH_take (i := 22) (v := ?_) (by simp only [List.getElem?_toArray, List.getElem?_cons_zero, List.getElem?_cons_succ]; rfl) (by kernel_rfl) (by kernel_rfl) (by kernel_rfl) (fun _ _ _ h => h) (Or.inl ⟨by rfl, ?_⟩) (by assumption) ?_
            rotate_left 1
            · intro w hSw
              have v1 := hSw.2.1
              go_simp
              with_reducible rfl
            simp only [Act.put, List.setIfInBounds_toArray, List.set_cons_zero, List.set_cons_succ]
            refine wpAnyH_take (i := 23) (v := ?_) (by simp only [List.getElem?_toArray, List.getElem?_cons_zero, List.getElem?_cons_succ]; rfl) (by kernel_rfl) (by kernel_rfl) (by kernel_rfl) (fun _ _ _ h => h) (Or.inl ⟨by rfl, ?_⟩) (by assumption) ?_
            rotate_left 1
            · intro w hSw
              go_simp
              with_reducible rfl
            simp only [Act.put, List.setIfInBounds_toArray, List.set_cons_zero, List.set_cons_succ]
            refine wpAnyH_take (i := 24) (v := ?_) (by simp only [List.getElem?_toArray, List.getElem?_cons_zero, List.getElem?_cons_succ]; rfl) (by kernel_rfl) (by kernel_rfl) (by kernel_rfl) (fun _ _ _ h => h) (Or.inl ⟨by rfl, ?_⟩) (by assumption) ?_
            rotate_left 1
            · intro w hSw
              go_simp
              with_reducible rfl
            simp only [Act.put, List.setIfInBounds_toArray, List.set_cons_zero, List.set_cons_succ]
            refine wpAnyH_take (i := 25) (v := ?_) (by simp only [List.getElem?_toArray, List.getElem?_cons_zero, List.getElem?_cons_succ]; rfl) (by kernel_rfl) (by kernel_rfl) (by kernel_rfl) (fun _ _ _ h => h) (Or.inl ⟨by rfl, ?_⟩) (by assumption) ?_
            rotate_left 1
            · intro w hSw
              go_simp
              with_reducible rfl
            simp only [Act.put, List.setIfInBounds_toArray, List.set_cons_zero, List.set_cons_succ]
            refine wpAnyH_take (i := 26) (v := ?_) (by simp only [List.getElem?_toArray, List.getElem?_cons_zero, List.getElem?_cons_succ]; rfl) (by kernel_rfl) (by kernel_rfl) (by kernel_rfl) (fun _ _ _ h => h) (Or.inl ⟨by rfl, ?_⟩) (by assumption) ?_
            rotate_left 1
            · intro w hSw
              go_simp
              with_reducible rfl
            simp only [Act.put, List.setIfInBounds_toArray, List.set_cons_zero, List.set_cons_succ]
            refine wpAnyH_take (i := 27) (v := ?_) (by simp only [List.getElem?_toArray, List.getElem?_cons_zero, List.getElem?_cons_succ]; rfl) (by kernel_rfl) (by kernel_rfl) (by kernel_rfl) (fun _ _ _ h => h) (Or.inl ⟨by rfl, ?_⟩) (by assumption) ?_
            rotate_left 1
            · intro w hSw
              go_simp
              with_reducible rfl
            simp only [Act.put, List.setIfInBounds_toArray, List.set_cons_zero, List.set_cons_succ]
            refine wpAnyH_ready (rs := [28]) (by kernel_rfl) (by simp) ?_
            refine AllReadyH.cons (by simp only [List.getElem?_toArray, List.getElem?_cons_zero, List.getElem?_cons_succ]; rfl) (fun K hK => ?_) (AllReadyH.nil)
            go_simp
            refine (CL.out).mono ?_
            rintro e5 w5 ⟨rfl, b5⟩
            have hz1 := And.intro (CA.out _ b5) (VA.out _ b5)
            refine hK.out _ _ hz1 (fun hS => ?_)
            clear hK K hS
            refine wpAnyH_take (i := 29) (v := ?_) (by simp only [List.getElem?_toArray, List.getElem?_cons_zero, List.getElem?_cons_succ]; rfl) (by kernel_rfl) (by kernel_rfl) (by kernel_rfl) (fun _ _ _ h => h) (Or.inl ⟨by rfl, ?_⟩) (by assumption) ?_
            rotate_left 1
            · intro w hSw
              go_simp
              with_reducible rfl
            simp only [Act.put, List.setIfInBounds_toArray, List.set_cons_zero, List.set_cons_succ]
            refine wpAnyH_take (i := 30) (v := ?_) (by simp only [List.getElem?_toArray, List.getElem?_cons_zero, List.getElem?_cons_succ]; rfl) (by kernel_rfl) (by kernel_rfl) (by kernel_rfl) (fun _ _ _ h => h) (Or.inl ⟨by rfl, ?_⟩) (by assumption) ?_
            rotate_left 1
            · intro w hSw
              go_simp
              with_reducible rfl
            simp only [Act.put, List.setIfInBounds_toArray, List.set_cons_zero, List.set_cons_succ]
            refine wpAnyH_done (by kernel_rfl) ?_ _
            refine NoPanic.normal ?_
            have W5 := hid (W4.out.kept b5)
            have K5 := hid (K4.out.kept b5)
            clear b5 z4 hz1 CL CA VA
            go_wp2
            go_roundw
            case rel => exact ⟨2, _, _, _, _, by omega, by omega, by go_num, W5.out, K5.out, fun i h1 h2 => by rw [upd_ne _ _ (by omega), upd_ne _ _ (by omega)]; exact HV.out.2.2 i (by omega) h2⟩
            case measure => simp [intOf]
          · by_cases hmb : m = 2
            · subst hmb
              clear hm1 hm3 hma
              have HLK : Hid ((xs 1).length ≤ 262144) := by
                show _ ≤ _
                have := HV.out.1.sk.lk.len (k := 1) (by decide)
                rw [(HV.out.2.2 1 (by decide) (by decide)).1] at this
                exact this
              have HXL : Hid (xl 1 = xs 1) := (HV.out.2.2 1 (by decide) (by decide)).1
              have HXC : Hid (xc 1 = xs 1) := (HV.out.2.2 1 (by decide) (by decide)).2
              go_wp2_with (fail)
              refine (sk_deliver 1 (by decide) _ (by rfl) _ (by decide) (xs 1).length (by rw [HXL.out]; have := HLK.out; omega) HV.out.1.sk).mono ?_
              rintro e3 w3 ⟨A3, y3, rfl, p3, h3, g3⟩
              have W3 := hid (HV.out.1.stepP h3 (fun g hg => hg) g3)
              have K3 := hid (HV.out.2.1.pastP HA.out h3.2.1 g3)
              have hyc : y3.1 ≠ c := by
                obtain ⟨_, _, _, q3⟩ := p3
                rcases q3 with ⟨q3, _⟩ | ⟨_, q3, _⟩
                · intro e; exact HNC.out (by rw [← e]; exact .inr ⟨1, by decide, q3⟩)
                · have := K3.out.lk.pos; omega
              obtain ⟨off3, by3⟩ := p3.bytes
              rw [HXL.out, List.take_of_length_le (Nat.le_refl _)] at by3
              have Y3 := hid by3
              clear p3 h3 g3 by3
              go_wp2_with (fail)
              refine (sk_deliver 1 (by decide) _ (by rfl) _ (by decide) (xs 1).length (by rw [HXC.out]; have := HLK.out; omega) K3.out).mono ?_
              rintro e4 w4 ⟨A4, y4, rfl, p4, h4, g4⟩
              have W4 := hid (W3.out.past HNC.out HSC.out.1 HSC.out.2 K3.out.2.1 g4)
              have K4 := hid h4
              obtain ⟨off4, by4⟩ := p4.bytes
              rw [HXC.out, List.take_of_length_le (Nat.le_refl _)] at by4
              have by3 := Y3.out.grw g4 hyc
              obtain ⟨sr, hsr⟩ : ∃ sr, ba (xs 1) = sr := ⟨_, rfl⟩
              have VA : Hid (∀ W, Below w4.heap.size w4 W → (convert 26 9 (.slice A3 (xs 1).length (xs 1).length)).run Try.prog W = .ok (.string sr) W ∧ (convert 26 9 (.slice A4 (xs 1).length (xs 1).length)).run Try.prog W = .ok (.string sr) W) := fun W hb => by
                rw [← hsr]
                exact ⟨conv_back (by3.kept hb (Nat.le_refl _)), conv_back (by4.kept hb (Nat.le_refl _))⟩
              have hEq : ca 1 ++ sr = se 1 := by
                apply tl_inj
                rw [tl_append, ← hsr, tl_ba]
                exact (HWE.out 1 (by decide)).1
              have CA : Hid (∀ W, Below w4.heap.size w4 W → W.cell? ⟨S + 1, 2, none⟩ = some (.string (ca 1)) ∧ W.cell? ⟨S, 2, none⟩ = some (.string (ca 1 ++ sr))) := fun W hb => by
                rw [hEq]
                exact ⟨(W4.out.kept hb).c.at_ 2, (W4.out.kept hb).s.at_ 2⟩
              have r3 : (ca 1).size ≤ 200000 := by have := HWE.out.came (k := 1) (by decide); have := HJ.out; omega
              have r4 : sr.size ≤ 200000 := by have := HWE.out.came (k := 1) (by decide); have := HJ.out; rw [← hsr, ba_size]; omega
              obtain ⟨c1, hc1⟩ : ∃ c1, ca 1 = c1 := ⟨_, rfl⟩
              rw [hc1] at CA r3
              have r5 : ¬ 9223372036854775807 < c1.size + sr.size := by omega
              have HZL : Hid ((upd xl 1 ((xl 1).drop (xs 1).length) 1).length = 0) := by show _ = _; rw [upd_at, HXL.out, List.length_drop, Nat.sub_self]
              obtain ⟨ln, hln⟩ : ∃ ln, (xs 1).length = ln := ⟨_, rfl⟩
              have WD := hid (W4.out.kept (Below.refl _ _).drew)
              have CL : Hid (Calls Try.prog 11 #[.pointer (some ⟨p, 0, none⟩), .int .i64 ((2 : Nat) : Int)] w4.drew fun ex w' => ex = .returned (.int .i64 0) ∧ Below w4.heap.size w4 w') := by
                refine (sk_left 1 (by decide) _ (by rfl) WD.out.sk).mono ?_
                rintro ex w' ⟨rfl, _, hb⟩
                exact ⟨by rw [HZL.out]; rfl, (Below.refl _ _).drew.trans hb⟩
              rw [hln] at VA
              rw [hln]
              have z4 : (w4.drew.cell? ⟨S + 1, 2, none⟩ = some (.string c1) ∧ w4.drew.cell? ⟨S, 2, none⟩ = some (.string (c1 ++ sr))) ∧ (convert 26 9 (.slice A3 ln ln)).run Try.prog w4.drew = .ok (.string sr) w4.drew ∧ (convert 26 9 (.slice A4 ln ln)).run Try.prog w4.drew = .ok (.string sr) w4.drew := ⟨CA.out _ (Below.refl _ _).drew, VA.out _ (Below.refl _ _).drew⟩
              clear p4 h4 g4 by3 by4 hsr hEq hc1 hln
              go_wp2_with (fail)
              refine wp_region_noPanic ?_
              refine wp_region_held_drew (S := fun W => (W.cell? ⟨S + 1, 2, none⟩ = some (.string c1) ∧ W.cell? ⟨S, 2, none⟩ = some (.string (c1 ++ sr))) ∧ (convert 26 9 (.slice A3 ln ln)).run Try.prog W = .ok (.string sr) W ∧ (convert 26 9 (.slice A4 ln ln)).run Try.prog W = .ok (.string sr) W) (by kernel_rfl) (z4) (fun hS => ?_)
              refine wpAnyH_take (i := 0) (v := ?_) (by simp only [List.getElem?_toArray, List.getElem?_cons_zero]; rfl) (by kernel_rfl) (by kernel_rfl) (by kernel_rfl) (fun _ _ _ h => h) (Or.inl ⟨by rfl, ?_⟩) (by assumption) ?_
              rotate_left 1
              · intro w hSw
                go_simp
                with_reducible rfl
              simp only [Act.put, List.setIfInBounds_toArray, List.set_cons_zero, List.set_cons_succ]
              refine wpAnyH_take (i := 1) (v := ?_) (by simp only [List.getElem?_toArray, List.getElem?_cons_zero, List.getElem?_cons_succ]; rfl) (by kernel_rfl) (by kernel_rfl) (by kernel_rfl) (fun _ _ _ h => h) (Or.inl ⟨by rfl, ?_⟩) (by assumption) ?_
              rotate_left 1
              · intro w hSw
                go_simp
                with_reducible rfl
              simp only [Act.put, List.setIfInBounds_toArray, List.set_cons_zero, List.set_cons_succ]
              refine wpAnyH_take (i := 2) (v := ?_) (by simp only [List.getElem?_toArray, List.getElem?_cons_zero, List.getElem?_cons_succ]; rfl) (by kernel_rfl) (by kernel_rfl) (by kernel_rfl) (fun _ _ _ h => h) (Or.inl ⟨by rfl, ?_⟩) (by assumption) ?_
              rotate_left 1
              · intro w hSw
                go_simp
                with_reducible rfl
              simp only [Act.put, List.setIfInBounds_toArray, List.set_cons_zero, List.set_cons_succ]
              refine wpAnyH_take (i := 3) (v := ?_) (by simp only [List.getElem?_toArray, List.getElem?_cons_zero, List.getElem?_cons_succ]; rfl) (by kernel_rfl) (by kernel_rfl) (by kernel_rfl) (fun _ _ _ h => h) (Or.inl ⟨by rfl, ?_⟩) (by assumption) ?_
              rotate_left 1
              · intro w hSw
                go_simp
                with_reducible rfl
              simp only [Act.put, List.setIfInBounds_toArray, List.set_cons_zero, List.set_cons_succ]
              refine wpAnyH_take (i := 4) (v := ?_) (by simp only [List.getElem?_toArray, List.getElem?_cons_zero, List.getElem?_cons_succ]; rfl) (by kernel_rfl) (by kernel_rfl) (by kernel_rfl) (fun _ _ _ h => h) (Or.inl ⟨by rfl, ?_⟩) (by assumption) ?_
              rotate_left 1
              · intro w hSw
                go_simp
                with_reducible rfl
              simp only [Act.put, List.setIfInBounds_toArray, List.set_cons_zero, List.set_cons_succ]
              refine wpAnyH_take (i := 5) (v := ?_) (by simp only [List.getElem?_toArray, List.getElem?_cons_zero, List.getElem?_cons_succ]; rfl) (by kernel_rfl) (by kernel_rfl) (by kernel_rfl) (fun _ _ _ h => h) (Or.inl ⟨by rfl, ?_⟩) (by assumption) ?_
              rotate_left 1
              · intro w hSw
                go_simp
                with_reducible rfl
              simp only [Act.put, List.setIfInBounds_toArray, List.set_cons_zero, List.set_cons_succ]
              refine wpAnyH_take (i := 6) (v := ?_) (by simp only [List.getElem?_toArray, List.getElem?_cons_zero, List.getElem?_cons_succ]; rfl) (by kernel_rfl) (by kernel_rfl) (by kernel_rfl) (fun _ _ _ h => h) (Or.inl ⟨by rfl, ?_⟩) (by assumption) ?_
              rotate_left 1
              · intro w hSw
                go_simp
                with_reducible rfl
              simp only [Act.put, List.setIfInBounds_toArray, List.set_cons_zero, List.set_cons_succ]
              refine wpAnyH_take (i := 7) (v := ?_) (by simp only [List.getElem?_toArray, List.getElem?_cons_zero, List.getElem?_cons_succ]; rfl) (by kernel_rfl) (by kernel_rfl) (by kernel_rfl) (fun _ _ _ h => h) (Or.inl ⟨by rfl, ?_⟩) (by assumption) ?_
              rotate_left 1
              · intro w hSw
                go_simp
                with_reducible rfl
              simp only [Act.put, List.setIfInBounds_toArray, List.set_cons_zero, List.set_cons_succ]
              refine wpAnyH_take (i := 8) (v := ?_) (by simp only [List.getElem?_toArray, List.getElem?_cons_zero, List.getElem?_cons_succ]; rfl) (by kernel_rfl) (by kernel_rfl) (by kernel_rfl) (fun _ _ _ h => h) (Or.inl ⟨by rfl, ?_⟩) (by assumption) ?_
              rotate_left 1
              · intro w hSw
                go_simp
                with_reducible rfl
              simp only [Act.put, List.setIfInBounds_toArray, List.set_cons_zero, List.set_cons_succ]
              refine wpAnyH_take (i := 9) (v := ?_) (by simp only [List.getElem?_toArray, List.getElem?_cons_zero, List.getElem?_cons_succ]; rfl) (by kernel_rfl) (by kernel_rfl) (by kernel_rfl) (fun _ _ _ h => h) (Or.inl ⟨by rfl, ?_⟩) (by assumption) ?_
              rotate_left 1
              · intro w hSw
                have u1 := hSw.1.1
                go_simp
                with_reducible rfl
              simp only [Act.put, List.setIfInBounds_toArray, List.set_cons_zero, List.set_cons_succ]
              refine wpAnyH_take (i := 10) (v := ?_) (by simp only [List.getElem?_toArray, List.getElem?_cons_zero, List.getElem?_cons_succ]; rfl) (by kernel_rfl) (by kernel_rfl) (by kernel_rfl) (fun _ _ _ h => h) (Or.inl ⟨by rfl, ?_⟩) (by assumption) ?_
              rotate_left 1
              · intro w hSw
                go_simp
                with_reducible rfl
              simp only [Act.put, List.setIfInBounds_toArray, List.set_cons_zero, List.set_cons_succ]
              refine wpAnyH_take (i := 11) (v := ?_) (by simp only [List.getElem?_toArray, List.getElem?_cons_zero, List.getElem?_cons_succ]; rfl) (by kernel_rfl) (by kernel_rfl) (by kernel_rfl) (fun _ _ _ h => h) (Or.inl ⟨by rfl, ?_⟩) (by assumption) ?_
              rotate_left 1
              · intro w hSw
                have v1 := hSw.2.1
                go_simp
                with_reducible rfl
              simp only [Act.put, List.setIfInBounds_toArray, List.set_cons_zero, List.set_cons_succ]
              refine wpAnyH_take (i := 12) (v := ?_) (by simp only [List.getElem?_toArray, List.getElem?_cons_zero, List.getElem?_cons_succ]; rfl) (by kernel_rfl) (by kernel_rfl) (by kernel_rfl) (fun _ _ _ h => h) (Or.inl ⟨by rfl, ?_⟩) (by assumption) ?_
              rotate_left 1
              · intro w hSw
                go_simp
                with_reducible rfl
              simp only [Act.put, List.setIfInBounds_toArray, List.set_cons_zero, List.set_cons_succ]
              refine wpAnyH_take (i := 13) (v := ?_) (by simp only [List.getElem?_toArray, List.getElem?_cons_zero, List.getElem?_cons_succ]; rfl) (by kernel_rfl) (by kernel_rfl) (by kernel_rfl) (fun _ _ _ h => h) (Or.inl ⟨by rfl, ?_⟩) (by assumption) ?_
              rotate_left 1
              · intro w hSw
                go_simp
                with_reducible rfl
              simp only [Act.put, List.setIfInBounds_toArray, List.set_cons_zero, List.set_cons_succ]
              refine wpAnyH_take (i := 14) (v := ?_) (by simp only [List.getElem?_toArray, List.getElem?_cons_zero, List.getElem?_cons_succ]; rfl) (by kernel_rfl) (by kernel_rfl) (by kernel_rfl) (fun _ _ _ h => h) (Or.inl ⟨by rfl, ?_⟩) (by assumption) ?_
              rotate_left 1
              · intro w hSw
                go_simp
                with_reducible rfl
              simp only [Act.put, List.setIfInBounds_toArray, List.set_cons_zero, List.set_cons_succ]
              refine wpAnyH_take (i := 15) (v := ?_) (by simp only [List.getElem?_toArray, List.getElem?_cons_zero, List.getElem?_cons_succ]; rfl) (by kernel_rfl) (by kernel_rfl) (by kernel_rfl) (fun _ _ _ h => h) (Or.inl ⟨by rfl, ?_⟩) (by assumption) ?_
              rotate_left 1
              · intro w hSw
                have u2 := hSw.1.2
                go_simp
                with_reducible rfl
              simp only [Act.put, List.setIfInBounds_toArray, List.set_cons_zero, List.set_cons_succ]
              refine wpAnyH_take (i := 16) (v := ?_) (by simp only [List.getElem?_toArray, List.getElem?_cons_zero, List.getElem?_cons_succ]; rfl) (by kernel_rfl) (by kernel_rfl) (by kernel_rfl) (fun _ _ _ h => h) (Or.inl ⟨by rfl, ?_⟩) (by assumption) ?_
              rotate_left 1
              · intro w hSw
                go_simp
                with_reducible rfl
              simp only [Act.put, List.setIfInBounds_toArray, List.set_cons_zero, List.set_cons_succ]
              refine wpAnyH_take (i := 17) (v := ?_) (by simp only [List.getElem?_toArray, List.getElem?_cons_zero, List.getElem?_cons_succ]; rfl) (by kernel_rfl) (by kernel_rfl) (by kernel_rfl) (fun _ _ _ h => h) (Or.inl ⟨by rfl, ?_⟩) (by assumption) ?_
              rotate_left 1
              · intro w hSw
                go_simp
                with_reducible rfl
              simp only [Act.put, List.setIfInBounds_toArray, List.set_cons_zero, List.set_cons_succ]
              refine wpAnyH_take (i := 18) (v := ?_) (by simp only [List.getElem?_toArray, List.getElem?_cons_zero, List.getElem?_cons_succ]; rfl) (by kernel_rfl) (by kernel_rfl) (by kernel_rfl) (fun _ _ _ h => h) (Or.inl ⟨by rfl, ?_⟩) (by assumption) ?_
              rotate_left 1
              · intro w hSw
                go_simp
                with_reducible rfl
              simp only [Act.put, List.setIfInBounds_toArray, List.set_cons_zero, List.set_cons_succ]
              refine wpAnyH_take (i := 19) (v := ?_) (by simp only [List.getElem?_toArray, List.getElem?_cons_zero, List.getElem?_cons_succ]; rfl) (by kernel_rfl) (by kernel_rfl) (by kernel_rfl) (fun _ _ _ h => h) (Or.inl ⟨by rfl, ?_⟩) (by assumption) ?_
              rotate_left 1
              · intro w hSw
                go_simp
                with_reducible rfl
              simp only [Act.put, List.setIfInBounds_toArray, List.set_cons_zero, List.set_cons_succ]
              refine wpAnyH_take (i := 20) (v := ?_) (by simp only [List.getElem?_toArray, List.getElem?_cons_zero, List.getElem?_cons_succ]; rfl) (by kernel_rfl) (by kernel_rfl) (by kernel_rfl) (fun _ _ _ h => h) (Or.inl ⟨by rfl, ?_⟩) (by assumption) ?_
              rotate_left 1
              · intro w hSw
                have v2 := hSw.2.2
                go_simp
                with_reducible rfl
              simp only [Act.put, List.setIfInBounds_toArray, List.set_cons_zero, List.set_cons_succ]
              refine wpAnyH_take (i := 21) (v := ?_) (by simp only [List.getElem?_toArray, List.getElem?_cons_zero, List.getElem?_cons_succ]; rfl) (by kernel_rfl) (by kernel_rfl) (by kernel_rfl) (fun _ _ _ h => h) (Or.inl ⟨by rfl, ?_⟩) (by assumption) ?_
              rotate_left 1
              · intro w hSw
                go_simp
                with_reducible rfl
              simp only [Act.put, List.setIfInBounds_toArray, List.set_cons_zero, List.set_cons_succ]
              refine wpAnyH_take (i := 22) (v := ?_) (by simp only [List.getElem?_toArray, List.getElem?_cons_zero, List.getElem?_cons_succ]; rfl) (by kernel_rfl) (by kernel_rfl) (by kernel_rfl) (fun _ _ _ h => h) (Or.inl ⟨by rfl, ?_⟩) (by assumption) ?_
              rotate_left 1
              · intro w hSw
                have v1 := hSw.2.1
                go_simp
                with_reducible rfl
              simp only [Act.put, List.setIfInBounds_toArray, List.set_cons_zero, List.set_cons_succ]
              refine wpAnyH_take (i := 23) (v := ?_) (by simp only [List.getElem?_toArray, List.getElem?_cons_zero, List.getElem?_cons_succ]; rfl) (by kernel_rfl) (by kernel_rfl) (by kernel_rfl) (fun _ _ _ h => h) (Or.inl ⟨by rfl, ?_⟩) (by assumption) ?_
              rotate_left 1
              · intro w hSw
                go_simp
                with_reducible rfl
              simp only [Act.put, List.setIfInBounds_toArray, List.set_cons_zero, List.set_cons_succ]
              refine wpAnyH_take (i := 24) (v := ?_) (by simp only [List.getElem?_toArray, List.getElem?_cons_zero, List.getElem?_cons_succ]; rfl) (by kernel_rfl) (by kernel_rfl) (by kernel_rfl) (fun _ _ _ h => h) (Or.inl ⟨by rfl, ?_⟩) (by assumption) ?_
              rotate_left 1
              · intro w hSw
                go_simp
                with_reducible rfl
              simp only [Act.put, List.setIfInBounds_toArray, List.set_cons_zero, List.set_cons_succ]
              refine wpAnyH_take (i := 25) (v := ?_) (by simp only [List.getElem?_toArray, List.getElem?_cons_zero, List.getElem?_cons_succ]; rfl) (by kernel_rfl) (by kernel_rfl) (by kernel_rfl) (fun _ _ _ h => h) (Or.inl ⟨by rfl, ?_⟩) (by assumption) ?_
              rotate_left 1
              · intro w hSw
                go_simp
                with_reducible rfl
              simp only [Act.put, List.setIfInBounds_toArray, List.set_cons_zero, List.set_cons_succ]
              refine wpAnyH_take (i := 26) (v := ?_) (by simp only [List.getElem?_toArray, List.getElem?_cons_zero, List.getElem?_cons_succ]; rfl) (by kernel_rfl) (by kernel_rfl) (by kernel_rfl) (fun _ _ _ h => h) (Or.inl ⟨by rfl, ?_⟩) (by assumption) ?_
              rotate_left 1
              · intro w hSw
                go_simp
                with_reducible rfl
              simp only [Act.put, List.setIfInBounds_toArray, List.set_cons_zero, List.set_cons_succ]
              refine wpAnyH_take (i := 27) (v := ?_) (by simp only [List.getElem?_toArray, List.getElem?_cons_zero, List.getElem?_cons_succ]; rfl) (by kernel_rfl) (by kernel_rfl) (by kernel_rfl) (fun _ _ _ h => h) (Or.inl ⟨by rfl, ?_⟩) (by assumption) ?_
              rotate_left 1
              · intro w hSw
                go_simp
                with_reducible rfl
              simp only [Act.put, List.setIfInBounds_toArray, List.set_cons_zero, List.set_cons_succ]
              refine wpAnyH_ready (rs := [28]) (by kernel_rfl) (by simp) ?_
              refine AllReadyH.cons (by simp only [List.getElem?_toArray, List.getElem?_cons_zero, List.getElem?_cons_succ]; rfl) (fun K hK => ?_) (AllReadyH.nil)
              go_simp
              refine (CL.out).mono ?_
              rintro e5 w5 ⟨rfl, b5⟩
              have hz1 := And.intro (CA.out _ b5) (VA.out _ b5)
              refine hK.out _ _ hz1 (fun hS => ?_)
              clear hK K hS
              refine wpAnyH_take (i := 29) (v := ?_) (by simp only [List.getElem?_toArray, List.getElem?_cons_zero, List.getElem?_cons_succ]; rfl) (by kernel_rfl) (by kernel_rfl) (by kernel_rfl) (fun _ _ _ h => h) (Or.inl ⟨by rfl, ?_⟩) (by assumption) ?_
              rotate_left 1
              · intro w hSw
                go_simp
                with_reducible rfl
              simp only [Act.put, List.setIfInBounds_toArray, List.set_cons_zero, List.set_cons_succ]
              refine wpAnyH_take (i := 30) (v := ?_) (by simp only [List.getElem?_toArray, List.getElem?_cons_zero, List.getElem?_cons_succ]; rfl) (by kernel_rfl) (by kernel_rfl) (by kernel_rfl) (fun _ _ _ h => h) (Or.inl ⟨by rfl, ?_⟩) (by assumption) ?_
              rotate_left 1
              · intro w hSw
                go_simp
                with_reducible rfl
              simp only [Act.put, List.setIfInBounds_toArray, List.set_cons_zero, List.set_cons_succ]
              refine wpAnyH_done (by kernel_rfl) ?_ _
              refine NoPanic.normal ?_
              have W5 := hid (W4.out.kept b5)
              have K5 := hid (K4.out.kept b5)
              clear b5 z4 hz1 CL CA VA
              go_wp2
              go_roundw
              case rel => exact ⟨3, _, _, _, _, by omega, by omega, by go_num, W5.out, K5.out, fun i h1 h2 => by rw [upd_ne _ _ (by omega), upd_ne _ _ (by omega)]; exact HV.out.2.2 i (by omega) h2⟩
              case measure => simp [intOf]
            · obtain rfl : m = 3 := by omega
              have HB := hid HV.out.1.sk.below
              have CW := hid (works_any wq (Nat.lt_of_lt_of_le HP.out HB.out.size))
              clear hm1 hm3 hma hmb HV
              go_wp2_with (fail)
              refine CW.out.mono ?_
              rintro e8 w8 ⟨rfl, b8⟩
              have B8 : Hid (Below w.heap.size w w8) := HB.out.trans (b8.mono HB.out.size)
              clear b8
              go_wp2
              go_ret
              exact ⟨rfl, B8.out⟩
    · have g1 : ¬ (j : Int) < (n : Int) := by omega
      clear hlt
      have WE9 := hid HT.out.2.1
      have HWE := hid HT.out.2.2
      have HJ : Hid (j ≤ 100) := hj
      clear HT hj
      go_wp2_with (fail)
      refine (sk_copy WE9.out.sk).mono ?_
      rintro e2 w2 ⟨rfl, oc, h2, k2, a2, b2, n2⟩
      obtain ⟨c, hc⟩ : ∃ c, wo.heap.size = c := ⟨_, rfl⟩
      rw [hc] at k2 a2 n2 ⊢
      have W2 := hid (WE9.out.kept b2)
      have K2 := hid k2
      have HA := hid a2
      have HNC : Hid (¬ Owns p o c) := fun hO => a2 c hO (.inl rfl)
      have HSC : Hid (S ≠ c ∧ S + 1 ≠ c) := ⟨by rw [← hc]; exact Nat.ne_of_lt WE9.out.s.inside, by rw [← hc]; exact Nat.ne_of_lt WE9.out.c.inside⟩
      clear h2 k2 a2 b2 n2 hc
      go_wp2_with (fail)
      go_loopw [12] (fun i wr => ∃ (m : Nat) (xl xc : Nat → List UInt8) (u v : Nat × Nat), 1 ≤ m ∧ m ≤ 3 ∧ i = .int .i64 (m : Int) ∧ Hid (Wb w wr p S (S + 1) xl e o u z0 z1 se ca ∧ Sk w wr c xc e oc v ∧ ∀ i, m - 1 ≤ i → i < 2 → xl i = xs i ∧ xc i = xs i)) (fun i _ => 3 - (intOf i).toNat)
      case atStart => exact ⟨1, _, _, _, _, by omega, by omega, by go_num, W2.out, K2.out, fun _ _ _ => ⟨rfl, rfl⟩⟩
      case round =>
        obtain ⟨m, xl, xc, u, v, hm1, hm3, rfl, HV⟩ := hrel
        obtain ⟨wq, hwq⟩ : ∃ wq, wq = wr := ⟨_, rfl⟩
        subst hwq
        by_cases hma : m = 1
        · subst hma
          clear hm1 hm3
          have HLK : Hid ((xs 0).length ≤ 262144) := by
            show _ ≤ _
            have := HV.out.1.sk.lk.len (k := 0) (by decide)
            rw [(HV.out.2.2 0 (by decide) (by decide)).1] at this
            exact this
          have HXL : Hid (xl 0 = xs 0) := (HV.out.2.2 0 (by decide) (by decide)).1
          have HXC : Hid (xc 0 = xs 0) := (HV.out.2.2 0 (by decide) (by decide)).2
          go_wp2_with (fail)
          refine (sk_deliver 0 (by decide) _ (by rfl) _ (by decide) (xs 0).length (by rw [HXL.out]; have := HLK.out; omega) HV.out.1.sk).mono ?_
          rintro e3 w3 ⟨A3, y3, rfl, p3, h3, g3⟩
          have W3 := hid (HV.out.1.stepP h3 (fun g hg => hg) g3)
          have K3 := hid (HV.out.2.1.pastP HA.out h3.2.1 g3)
          have hyc : y3.1 ≠ c := by
            obtain ⟨_, _, _, q3⟩ := p3
            rcases q3 with ⟨q3, _⟩ | ⟨_, q3, _⟩
            · intro e; exact HNC.out (by rw [← e]; exact .inr ⟨0, by decide, q3⟩)
            · have := K3.out.lk.pos; omega
          obtain ⟨off3, by3⟩ := p3.bytes
          rw [HXL.out, List.take_of_length_le (Nat.le_refl _)] at by3
          have Y3 := hid by3
          clear p3 h3 g3 by3
          go_wp2_with (fail)
          refine (sk_deliver 0 (by decide) _ (by rfl) _ (by decide) (xs 0).length (by rw [HXC.out]; have := HLK.out; omega) K3.out).mono ?_
          rintro e4 w4 ⟨A4, y4, rfl, p4, h4, g4⟩
          have W4 := hid (W3.out.past HNC.out HSC.out.1 HSC.out.2 K3.out.2.1 g4)
          have K4 := hid h4
          obtain ⟨off4, by4⟩ := p4.bytes
          rw [HXC.out, List.take_of_length_le (Nat.le_refl _)] at by4
          have by3 := Y3.out.grw g4 hyc
          obtain ⟨sr, hsr⟩ : ∃ sr, ba (xs 0) = sr := ⟨_, rfl⟩
          have VA : Hid (∀ W, Below w4.heap.size w4 W → (convert 26 9 (.slice A3 (xs 0).length (xs 0).length)).run Try.prog W = .ok (.string sr) W ∧ (convert 26 9 (.slice A4 (xs 0).length (xs 0).length)).run Try.prog W = .ok (.string sr) W) := fun W hb => by
            rw [← hsr]
            exact ⟨conv_back (by3.kept hb (Nat.le_refl _)), conv_back (by4.kept hb (Nat.le_refl _))⟩
          have hEq : ca 0 ++ sr = se 0 := by
            apply tl_inj
            rw [tl_append, ← hsr, tl_ba]
            exact (HWE.out 0 (by decide)).1
          have CA : Hid (∀ W, Below w4.heap.size w4 W → W.cell? ⟨S + 1, 1, none⟩ = some (.string (ca 0)) ∧ W.cell? ⟨S, 1, none⟩ = some (.string (ca 0 ++ sr))) := fun W hb => by
            rw [hEq]
            exact ⟨(W4.out.kept hb).c.at_ 1, (W4.out.kept hb).s.at_ 1⟩
          have r3 : (ca 0).size ≤ 200000 := by have := HWE.out.came (k := 0) (by decide); have := HJ.out; omega
          have r4 : sr.size ≤ 200000 := by have := HWE.out.came (k := 0) (by decide); have := HJ.out; rw [← hsr, ba_size]; omega
          obtain ⟨c1, hc1⟩ : ∃ c1, ca 0 = c1 := ⟨_, rfl⟩
          rw [hc1] at CA r3
          have r5 : ¬ 9223372036854775807 < c1.size + sr.size := by omega
          have HZL : Hid ((upd xl 0 ((xl 0).drop (xs 0).length) 0).length = 0) := by show _ = _; rw [upd_at, HXL.out, List.length_drop, Nat.sub_self]
          obtain ⟨ln, hln⟩ : ∃ ln, (xs 0).length = ln := ⟨_, rfl⟩
          have WD := hid (W4.out.kept (Below.refl _ _).drew)
          have CL : Hid (Calls Try.prog 11 #[.pointer (some ⟨p, 0, none⟩), .int .i64 ((1 : Nat) : Int)] w4.drew fun ex w' => ex = .returned (.int .i64 0) ∧ Below w4.heap.size w4 w') := by
            refine (sk_left 0 (by decide) _ (by rfl) WD.out.sk).mono ?_
            rintro ex w' ⟨rfl, _, hb⟩
            exact ⟨by rw [HZL.out]; rfl, (Below.refl _ _).drew.trans hb⟩
          rw [hln] at VA
          rw [hln]
          have z4 : (w4.drew.cell? ⟨S + 1, 1, none⟩ = some (.string c1) ∧ w4.drew.cell? ⟨S, 1, none⟩ = some (.string (c1 ++ sr))) ∧ (convert 26 9 (.slice A3 ln ln)).run Try.prog w4.drew = .ok (.string sr) w4.drew ∧ (convert 26 9 (.slice A4 ln ln)).run Try.prog w4.drew = .ok (.string sr) w4.drew := ⟨CA.out _ (Below.refl _ _).drew, VA.out _ (Below.refl _ _).drew⟩
          clear p4 h4 g4 by3 by4 hsr hEq hc1 hln
          go_wp2_with (fail)
          refine wp_region_noPanic ?_
          refine wp_region_held_drew (S := fun W => (W.cell? ⟨S + 1, 1, none⟩ = some (.string c1) ∧ W.cell? ⟨S, 1, none⟩ = some (.string (c1 ++ sr))) ∧ (convert 26 9 (.slice A3 ln ln)).run Try.prog W = .ok (.string sr) W ∧ (convert 26 9 (.slice A4 ln ln)).run Try.prog W = .ok (.string sr) W) (by kernel_rfl) (z4) (fun hS => ?_)
          refine wpAnyH_take (i := 0) (v := ?_) (by simp only [List.getElem?_toArray, List.getElem?_cons_zero]; rfl) (by kernel_rfl) (by kernel_rfl) (by kernel_rfl) (fun _ _ _ h => h) (Or.inl ⟨by rfl, ?_⟩) (by assumption) ?_
          rotate_left 1
          · intro w hSw
            go_simp
            with_reducible rfl
          simp only [Act.put, List.setIfInBounds_toArray, List.set_cons_zero, List.set_cons_succ]
          refine wpAnyH_take (i := 1) (v := ?_) (by simp only [List.getElem?_toArray, List.getElem?_cons_zero, List.getElem?_cons_succ]; rfl) (by kernel_rfl) (by kernel_rfl) (by kernel_rfl) (fun _ _ _ h => h) (Or.inl ⟨by rfl, ?_⟩) (by assumption) ?_
          rotate_left 1
          · intro w hSw
            go_simp
            with_reducible rfl
          simp only [Act.put, List.setIfInBounds_toArray, List.set_cons_zero, List.set_cons_succ]
          refine wpAnyH_take (i := 2) (v := ?_) (by simp only [List.getElem?_toArray, List.getElem?_cons_zero, List.getElem?_cons_succ]; rfl) (by kernel_rfl) (by kernel_rfl) (by kernel_rfl) (fun _ _ _ h => h) (Or.inl ⟨by rfl, ?_⟩) (by assumption) ?_
          rotate_left 1
          · intro w hSw
            go_simp
            with_reducible rfl
          simp only [Act.put, List.setIfInBounds_toArray, List.set_cons_zero, List.set_cons_succ]
          refine wpAnyH_take (i := 3) (v := ?_) (by simp only [List.getElem?_toArray, List.getElem?_cons_zero, List.getElem?_cons_succ]; rfl) (by kernel_rfl) (by kernel_rfl) (by kernel_rfl) (fun _ _ _ h => h) (Or.inl ⟨by rfl, ?_⟩) (by assumption) ?_
          rotate_left 1
          · intro w hSw
            go_simp
            with_reducible rfl
          simp only [Act.put, List.setIfInBounds_toArray, List.set_cons_zero, List.set_cons_succ]
          refine wpAnyH_take (i := 4) (v := ?_) (by simp only [List.getElem?_toArray, List.getElem?_cons_zero, List.getElem?_cons_succ]; rfl) (by kernel_rfl) (by kernel_rfl) (by kernel_rfl) (fun _ _ _ h => h) (Or.inl ⟨by rfl, ?_⟩) (by assumption) ?_
          rotate_left 1
          · intro w hSw
            go_simp
            with_reducible rfl
          simp only [Act.put, List.setIfInBounds_toArray, List.set_cons_zero, List.set_cons_succ]
          refine wpAnyH_take (i := 5) (v := ?_) (by simp only [List.getElem?_toArray, List.getElem?_cons_zero, List.getElem?_cons_succ]; rfl) (by kernel_rfl) (by kernel_rfl) (by kernel_rfl) (fun _ _ _ h => h) (Or.inl ⟨by rfl, ?_⟩) (by assumption) ?_
          rotate_left 1
          · intro w hSw
            go_simp
            with_reducible rfl
          simp only [Act.put, List.setIfInBounds_toArray, List.set_cons_zero, List.set_cons_succ]
          refine wpAnyH_take (i := 6) (v := ?_) (by simp only [List.getElem?_toArray, List.getElem?_cons_zero, List.getElem?_cons_succ]; rfl) (by kernel_rfl) (by kernel_rfl) (by kernel_rfl) (fun _ _ _ h => h) (Or.inl ⟨by rfl, ?_⟩) (by assumption) ?_
          rotate_left 1
          · intro w hSw
            go_simp
            with_reducible rfl
          simp only [Act.put, List.setIfInBounds_toArray, List.set_cons_zero, List.set_cons_succ]
          refine wpAnyH_take (i := 7) (v := ?_) (by simp only [List.getElem?_toArray, List.getElem?_cons_zero, List.getElem?_cons_succ]; rfl) (by kernel_rfl) (by kernel_rfl) (by kernel_rfl) (fun _ _ _ h => h) (Or.inl ⟨by rfl, ?_⟩) (by assumption) ?_
          rotate_left 1
          · intro w hSw
            go_simp
            with_reducible rfl
          simp only [Act.put, List.setIfInBounds_toArray, List.set_cons_zero, List.set_cons_succ]
          refine wpAnyH_take (i := 8) (v := ?_) (by simp only [List.getElem?_toArray, List.getElem?_cons_zero, List.getElem?_cons_succ]; rfl) (by kernel_rfl) (by kernel_rfl) (by kernel_rfl) (fun _ _ _ h => h) (Or.inl ⟨by rfl, ?_⟩) (by assumption) ?_
          rotate_left 1
          · intro w hSw
            go_simp
            with_reducible rfl
          simp only [Act.put, List.setIfInBounds_toArray, List.set_cons_zero, List.set_cons_succ]
          refine wpAnyH_take (i := 9) (v := ?_) (by simp only [List.getElem?_toArray, List.getElem?_cons_zero, List.getElem?_cons_succ]; rfl) (by kernel_rfl) (by kernel_rfl) (by kernel_rfl) (fun _ _ _ h => h) (Or.inl ⟨by rfl, ?_⟩) (by assumption) ?_
          rotate_left 1
          · intro w hSw
            have u1 := hSw.1.1
            go_simp
            with_reducible rfl
          simp only [Act.put, List.setIfInBounds_toArray, List.set_cons_zero, List.set_cons_succ]
          refine wpAnyH_take (i := 10) (v := ?_) (by simp only [List.getElem?_toArray, List.getElem?_cons_zero, List.getElem?_cons_succ]; rfl) (by kernel_rfl) (by kernel_rfl) (by kernel_rfl) (fun _ _ _ h => h) (Or.inl ⟨by rfl, ?_⟩) (by assumption) ?_
          rotate_left 1
          · intro w hSw
            go_simp
            with_reducible rfl
          simp only [Act.put, List.setIfInBounds_toArray, List.set_cons_zero, List.set_cons_succ]
          refine wpAnyH_take (i := 11) (v := ?_) (by simp only [List.getElem?_toArray, List.getElem?_cons_zero, List.getElem?_cons_succ]; rfl) (by kernel_rfl) (by kernel_rfl) (by kernel_rfl) (fun _ _ _ h => h) (Or.inl ⟨by rfl, ?_⟩) (by assumption) ?_
          rotate_left 1
          · intro w hSw
            have v1 := hSw.2.1
            go_simp
            with_reducible rfl
          simp only [Act.put, List.setIfInBounds_toArray, List.set_cons_zero, List.set_cons_succ]
          refine wpAnyH_take (i := 12) (v := ?_) (by simp only [List.getElem?_toArray, List.getElem?_cons_zero, List.getElem?_cons_succ]; rfl) (by kernel_rfl) (by kernel_rfl) (by kernel_rfl) (fun _ _ _ h => h) (Or.inl ⟨by rfl, ?_⟩) (by assumption) ?_
          rotate_left 1
          · intro w hSw
            go_simp
            with_reducible rfl
          simp only [Act.put, List.setIfInBounds_toArray, List.set_cons_zero, List.set_cons_succ]
          refine wpAnyH_take (i := 13) (v := ?_) (by simp only [List.getElem?_toArray, List.getElem?_cons_zero, List.getElem?_cons_succ]; rfl) (by kernel_rfl) (by kernel_rfl) (by kernel_rfl) (fun _ _ _ h => h) (Or.inl ⟨by rfl, ?_⟩) (by assumption) ?_
          rotate_left 1
          · intro w hSw
            go_simp
            with_reducible rfl
          simp only [Act.put, List.setIfInBounds_toArray, List.set_cons_zero, List.set_cons_succ]
          refine wpAnyH_take (i := 14) (v := ?_) (by simp only [List.getElem?_toArray, List.getElem?_cons_zero, List.getElem?_cons_succ]; rfl) (by kernel_rfl) (by kernel_rfl) (by kernel_rfl) (fun _ _ _ h => h) (Or.inl ⟨by rfl, ?_⟩) (by assumption) ?_
          rotate_left 1
          · intro w hSw
            go_simp
            with_reducible rfl
          simp only [Act.put, List.setIfInBounds_toArray, List.set_cons_zero, List.set_cons_succ]
          refine wpAnyH_take (i := 15) (v := ?_) (by simp only [List.getElem?_toArray, List.getElem?_cons_zero, List.getElem?_cons_succ]; rfl) (by kernel_rfl) (by kernel_rfl) (by kernel_rfl) (fun _ _ _ h => h) (Or.inl ⟨by rfl, ?_⟩) (by assumption) ?_
          rotate_left 1
          · intro w hSw
            have u2 := hSw.1.2
            go_simp
            with_reducible rfl
          simp only [Act.put, List.setIfInBounds_toArray, List.set_cons_zero, List.set_cons_succ]
          refine wpAnyH_take (i := 16) (v := ?_) (by simp only [List.getElem?_toArray, List.getElem?_cons_zero, List.getElem?_cons_succ]; rfl) (by kernel_rfl) (by kernel_rfl) (by kernel_rfl) (fun _ _ _ h => h) (Or.inl ⟨by rfl, ?_⟩) (by assumption) ?_
          rotate_left 1
          · intro w hSw
            go_simp
            with_reducible rfl
          simp only [Act.put, List.setIfInBounds_toArray, List.set_cons_zero, List.set_cons_succ]
          refine wpAnyH_take (i := 17) (v := ?_) (by simp only [List.getElem?_toArray, List.getElem?_cons_zero, List.getElem?_cons_succ]; rfl) (by kernel_rfl) (by kernel_rfl) (by kernel_rfl) (fun _ _ _ h => h) (Or.inl ⟨by rfl, ?_⟩) (by assumption) ?_
          rotate_left 1
          · intro w hSw
            go_simp
            with_reducible rfl
          simp only [Act.put, List.setIfInBounds_toArray, List.set_cons_zero, List.set_cons_succ]
          refine wpAnyH_take (i := 18) (v := ?_) (by simp only [List.getElem?_toArray, List.getElem?_cons_zero, List.getElem?_cons_succ]; rfl) (by kernel_rfl) (by kernel_rfl) (by kernel_rfl) (fun _ _ _ h => h) (Or.inl ⟨by rfl, ?_⟩) (by assumption) ?_
          rotate_left 1
          · intro w hSw
            go_simp
            with_reducible rfl
          simp only [Act.put, List.setIfInBounds_toArray, List.set_cons_zero, List.set_cons_succ]
          refine wpAnyH_take (i := 19) (v := ?_) (by simp only [List.getElem?_toArray, List.getElem?_cons_zero, List.getElem?_cons_succ]; rfl) (by kernel_rfl) (by kernel_rfl) (by kernel_rfl) (fun _ _ _ h => h) (Or.inl ⟨by rfl, ?_⟩) (by assumption) ?_
          rotate_left 1
          · intro w hSw
            go_simp
            with_reducible rfl
          simp only [Act.put, List.setIfInBounds_toArray, List.set_cons_zero, List.set_cons_succ]
          refine wpAnyH_take (i := 20) (v := ?_) (by simp only [List.getElem?_toArray, List.getElem?_cons_zero, List.getElem?_cons_succ]; rfl) (by kernel_rfl) (by kernel_rfl) (by kernel_rfl) (fun _ _ _ h => h) (Or.inl ⟨by rfl, ?_⟩) (by assumption) ?_
          rotate_left 1
          · intro w hSw
            have v2 := hSw.2.2
            go_simp
            with_reducible rfl
          simp only [Act.put, List.setIfInBounds_toArray, List.set_cons_zero, List.set_cons_succ]
          refine wpAnyH_take (i := 21) (v := ?_) (by simp only [List.getElem?_toArray, List.getElem?_cons_zero, List.getElem?_cons_succ]; rfl) (by kernel_rfl) (by kernel_rfl) (by kernel_rfl) (fun _ _ _ h => h) (Or.inl ⟨by rfl, ?_⟩) (by assumption) ?_
          rotate_left 1
          · intro w hSw
            go_simp
            with_reducible rfl
          simp only [Act.put, List.setIfInBounds_toArray, List.set_cons_zero, List.set_cons_succ]
          refine wpAnyH_take (i := 22) (v := ?_) (by simp only [List.getElem?_toArray, List.getElem?_cons_zero, List.getElem?_cons_succ]; rfl) (by kernel_rfl) (by kernel_rfl) (by kernel_rfl) (fun _ _ _ h => h) (Or.inl ⟨by rfl, ?_⟩) (by assumption) ?_
          rotate_left 1
          · intro w hSw
            have v1 := hSw.2.1
            go_simp
            with_reducible rfl
          simp only [Act.put, List.setIfInBounds_toArray, List.set_cons_zero, List.set_cons_succ]
          refine wpAnyH_take (i := 23) (v := ?_) (by simp only [List.getElem?_toArray, List.getElem?_cons_zero, List.getElem?_cons_succ]; rfl) (by kernel_rfl) (by kernel_rfl) (by kernel_rfl) (fun _ _ _ h => h) (Or.inl ⟨by rfl, ?_⟩) (by assumption) ?_
          rotate_left 1
          · intro w hSw
            go_simp
            with_reducible rfl
          simp only [Act.put, List.setIfInBounds_toArray, List.set_cons_zero, List.set_cons_succ]
          refine wpAnyH_take (i := 24) (v := ?_) (by simp only [List.getElem?_toArray, List.getElem?_cons_zero, List.getElem?_cons_succ]; rfl) (by kernel_rfl) (by kernel_rfl) (by kernel_rfl) (fun _ _ _ h => h) (Or.inl ⟨by rfl, ?_⟩) (by assumption) ?_
          rotate_left 1
          · intro w hSw
            go_simp
            with_reducible rfl
          simp only [Act.put, List.setIfInBounds_toArray, List.set_cons_zero, List.set_cons_succ]
          refine wpAnyH_take (i := 25) (v := ?_) (by simp only [List.getElem?_toArray, List.getElem?_cons_zero, List.getElem?_cons_succ]; rfl) (by kernel_rfl) (by kernel_rfl) (by kernel_rfl) (fun _ _ _ h => h) (Or.inl ⟨by rfl, ?_⟩) (by assumption) ?_
          rotate_left 1
          · intro w hSw
            go_simp
            with_reducible rfl
          simp only [Act.put, List.setIfInBounds_toArray, List.set_cons_zero, List.set_cons_succ]
          refine wpAnyH_take (i := 26) (v := ?_) (by simp only [List.getElem?_toArray, List.getElem?_cons_zero, List.getElem?_cons_succ]; rfl) (by kernel_rfl) (by kernel_rfl) (by kernel_rfl) (fun _ _ _ h => h) (Or.inl ⟨by rfl, ?_⟩) (by assumption) ?_
          rotate_left 1
          · intro w hSw
            go_simp
            with_reducible rfl
          simp only [Act.put, List.setIfInBounds_toArray, List.set_cons_zero, List.set_cons_succ]
          refine wpAnyH_take (i := 27) (v := ?_) (by simp only [List.getElem?_toArray, List.getElem?_cons_zero, List.getElem?_cons_succ]; rfl) (by kernel_rfl) (by kernel_rfl) (by kernel_rfl) (fun _ _ _ h => h) (Or.inl ⟨by rfl, ?_⟩) (by assumption) ?_
          rotate_left 1
          · intro w hSw
            go_simp
            with_reducible rfl
          simp only [Act.put, List.setIfInBounds_toArray, List.set_cons_zero, List.set_cons_succ]
          refine wpAnyH_ready (rs := [28]) (by kernel_rfl) (by simp) ?_
          refine AllReadyH.cons (by simp only [List.getElem?_toArray, List.getElem?_cons_zero, List.getElem?_cons_succ]; rfl) (fun K hK => ?_) (AllReadyH.nil)
          go_simp
          refine (CL.out).mono ?_
          rintro e5 w5 ⟨rfl, b5⟩
          have hz1 := And.intro (CA.out _ b5) (VA.out _ b5)
          refine hK.out _ _ hz1 (fun hS => ?_)
          clear hK K hS
          refine wpAnyH_take (i := 29) (v := ?_) (by simp only [List.getElem?_toArray, List.getElem?_cons_zero, List.getElem?_cons_succ]; rfl) (by kernel_rfl) (by kernel_rfl) (by kernel_rfl) (fun _ _ _ h => h) (Or.inl ⟨by rfl, ?_⟩) (by assumption) ?_
          rotate_left 1
          · intro w hSw
            go_simp
            with_reducible rfl
          simp only [Act.put, List.setIfInBounds_toArray, List.set_cons_zero, List.set_cons_succ]
          refine wpAnyH_take (i := 30) (v := ?_) (by simp only [List.getElem?_toArray, List.getElem?_cons_zero, List.getElem?_cons_succ]; rfl) (by kernel_rfl) (by kernel_rfl) (by kernel_rfl) (fun _ _ _ h => h) (Or.inl ⟨by rfl, ?_⟩) (by assumption) ?_
          rotate_left 1
          · intro w hSw
            go_simp
            with_reducible rfl
          simp only [Act.put, List.setIfInBounds_toArray, List.set_cons_zero, List.set_cons_succ]
          refine wpAnyH_done (by kernel_rfl) ?_ _
          refine NoPanic.normal ?_
          have W5 := hid (W4.out.kept b5)
          have K5 := hid (K4.out.kept b5)
          clear b5 z4 hz1 CL CA VA
          go_wp2
          go_roundw
          case rel => exact ⟨2, _, _, _, _, by omega, by omega, by go_num, W5.out, K5.out, fun i h1 h2 => by rw [upd_ne _ _ (by omega), upd_ne _ _ (by omega)]; exact HV.out.2.2 i (by omega) h2⟩
          case measure => simp [intOf]
        · by_cases hmb : m = 2
          · subst hmb
            clear hm1 hm3 hma
            have HLK : Hid ((xs 1).length ≤ 262144) := by
              show _ ≤ _
              have := HV.out.1.sk.lk.len (k := 1) (by decide)
              rw [(HV.out.2.2 1 (by decide) (by decide)).1] at this
              exact this
            have HXL : Hid (xl 1 = xs 1) := (HV.out.2.2 1 (by decide) (by decide)).1
            have HXC : Hid (xc 1 = xs 1) := (HV.out.2.2 1 (by decide) (by decide)).2
            go_wp2_with (fail)
            refine (sk_deliver 1 (by decide) _ (by rfl) _ (by decide) (xs 1).length (by rw [HXL.out]; have := HLK.out; omega) HV.out.1.sk).mono ?_
            rintro e3 w3 ⟨A3, y3, rfl, p3, h3, g3⟩
            have W3 := hid (HV.out.1.stepP h3 (fun g hg => hg) g3)
            have K3 := hid (HV.out.2.1.pastP HA.out h3.2.1 g3)
            have hyc : y3.1 ≠ c := by
              obtain ⟨_, _, _, q3⟩ := p3
              rcases q3 with ⟨q3, _⟩ | ⟨_, q3, _⟩
              · intro e; exact HNC.out (by rw [← e]; exact .inr ⟨1, by decide, q3⟩)
              · have := K3.out.lk.pos; omega
            obtain ⟨off3, by3⟩ := p3.bytes
            rw [HXL.out, List.take_of_length_le (Nat.le_refl _)] at by3
            have Y3 := hid by3
            clear p3 h3 g3 by3
            go_wp2_with (fail)
            refine (sk_deliver 1 (by decide) _ (by rfl) _ (by decide) (xs 1).length (by rw [HXC.out]; have := HLK.out; omega) K3.out).mono ?_
            rintro e4 w4 ⟨A4, y4, rfl, p4, h4, g4⟩
            have W4 := hid (W3.out.past HNC.out HSC.out.1 HSC.out.2 K3.out.2.1 g4)
            have K4 := hid h4
            obtain ⟨off4, by4⟩ := p4.bytes
            rw [HXC.out, List.take_of_length_le (Nat.le_refl _)] at by4
            have by3 := Y3.out.grw g4 hyc
            obtain ⟨sr, hsr⟩ : ∃ sr, ba (xs 1) = sr := ⟨_, rfl⟩
            have VA : Hid (∀ W, Below w4.heap.size w4 W → (convert 26 9 (.slice A3 (xs 1).length (xs 1).length)).run Try.prog W = .ok (.string sr) W ∧ (convert 26 9 (.slice A4 (xs 1).length (xs 1).length)).run Try.prog W = .ok (.string sr) W) := fun W hb => by
              rw [← hsr]
              exact ⟨conv_back (by3.kept hb (Nat.le_refl _)), conv_back (by4.kept hb (Nat.le_refl _))⟩
            have hEq : ca 1 ++ sr = se 1 := by
              apply tl_inj
              rw [tl_append, ← hsr, tl_ba]
              exact (HWE.out 1 (by decide)).1
            have CA : Hid (∀ W, Below w4.heap.size w4 W → W.cell? ⟨S + 1, 2, none⟩ = some (.string (ca 1)) ∧ W.cell? ⟨S, 2, none⟩ = some (.string (ca 1 ++ sr))) := fun W hb => by
              rw [hEq]
              exact ⟨(W4.out.kept hb).c.at_ 2, (W4.out.kept hb).s.at_ 2⟩
            have r3 : (ca 1).size ≤ 200000 := by have := HWE.out.came (k := 1) (by decide); have := HJ.out; omega
            have r4 : sr.size ≤ 200000 := by have := HWE.out.came (k := 1) (by decide); have := HJ.out; rw [← hsr, ba_size]; omega
            obtain ⟨c1, hc1⟩ : ∃ c1, ca 1 = c1 := ⟨_, rfl⟩
            rw [hc1] at CA r3
            have r5 : ¬ 9223372036854775807 < c1.size + sr.size := by omega
            have HZL : Hid ((upd xl 1 ((xl 1).drop (xs 1).length) 1).length = 0) := by show _ = _; rw [upd_at, HXL.out, List.length_drop, Nat.sub_self]
            obtain ⟨ln, hln⟩ : ∃ ln, (xs 1).length = ln := ⟨_, rfl⟩
            have WD := hid (W4.out.kept (Below.refl _ _).drew)
            have CL : Hid (Calls Try.prog 11 #[.pointer (some ⟨p, 0, none⟩), .int .i64 ((2 : Nat) : Int)] w4.drew fun ex w' => ex = .returned (.int .i64 0) ∧ Below w4.heap.size w4 w') := by
              refine (sk_left 1 (by decide) _ (by rfl) WD.out.sk).mono ?_
              rintro ex w' ⟨rfl, _, hb⟩
              exact ⟨by rw [HZL.out]; rfl, (Below.refl _ _).drew.trans hb⟩
            rw [hln] at VA
            rw [hln]
            have z4 : (w4.drew.cell? ⟨S + 1, 2, none⟩ = some (.string c1) ∧ w4.drew.cell? ⟨S, 2, none⟩ = some (.string (c1 ++ sr))) ∧ (convert 26 9 (.slice A3 ln ln)).run Try.prog w4.drew = .ok (.string sr) w4.drew ∧ (convert 26 9 (.slice A4 ln ln)).run Try.prog w4.drew = .ok (.string sr) w4.drew := ⟨CA.out _ (Below.refl _ _).drew, VA.out _ (Below.refl _ _).drew⟩
            clear p4 h4 g4 by3 by4 hsr hEq hc1 hln
            go_wp2_with (fail)
            refine wp_region_noPanic ?_
            refine wp_region_held_drew (S := fun W => (W.cell? ⟨S + 1, 2, none⟩ = some (.string c1) ∧ W.cell? ⟨S, 2, none⟩ = some (.string (c1 ++ sr))) ∧ (convert 26 9 (.slice A3 ln ln)).run Try.prog W = .ok (.string sr) W ∧ (convert 26 9 (.slice A4 ln ln)).run Try.prog W = .ok (.string sr) W) (by kernel_rfl) (z4) (fun hS => ?_)
            refine wpAnyH_take (i := 0) (v := ?_) (by simp only [List.getElem?_toArray, List.getElem?_cons_zero]; rfl) (by kernel_rfl) (by kernel_rfl) (by kernel_rfl) (fun _ _ _ h => h) (Or.inl ⟨by rfl, ?_⟩) (by assumption) ?_
            rotate_left 1
            · intro w hSw
              go_simp
              with_reducible rfl
            simp only [Act.put, List.setIfInBounds_toArray, List.set_cons_zero, List.set_cons_succ]
            refine wpAnyH_take (i := 1) (v := ?_) (by simp only [List.getElem?_toArray, List.getElem?_cons_zero, List.getElem?_cons_succ]; rfl) (by kernel_rfl) (by kernel_rfl) (by kernel_rfl) (fun _ _ _ h => h) (Or.inl ⟨by rfl, ?_⟩) (by assumption) ?_
            rotate_left 1
            · intro w hSw
              go_simp
              with_reducible rfl
            simp only [Act.put, List.setIfInBounds_toArray, List.set_cons_zero, List.set_cons_succ]
            refine wpAnyH_take (i := 2) (v := ?_) (by simp only [List.getElem?_toArray, List.getElem?_cons_zero, List.getElem?_cons_succ]; rfl) (by kernel_rfl) (by kernel_rfl) (by kernel_rfl) (fun _ _ _ h => h) (Or.inl ⟨by rfl, ?_⟩) (by assumption) ?_
            rotate_left 1
            · intro w hSw
              go_simp
              with_reducible rfl
            simp only [Act.put, List.setIfInBounds_toArray, List.set_cons_zero, List.set_cons_succ]
            refine wpAnyH_take (i := 3) (v := ?_) (by simp only [List.getElem?_toArray, List.getElem?_cons_zero, List.getElem?_cons_succ]; rfl) (by kernel_rfl) (by kernel_rfl) (by kernel_rfl) (fun _ _ _ h => h) (Or.inl ⟨by rfl, ?_⟩) (by assumption) ?_
            rotate_left 1
            · intro w hSw
              go_simp
              with_reducible rfl
            simp only [Act.put, List.setIfInBounds_toArray, List.set_cons_zero, List.set_cons_succ]
            refine wpAnyH_take (i := 4) (v := ?_) (by simp only [List.getElem?_toArray, List.getElem?_cons_zero, List.getElem?_cons_succ]; rfl) (by kernel_rfl) (by kernel_rfl) (by kernel_rfl) (fun _ _ _ h => h) (Or.inl ⟨by rfl, ?_⟩) (by assumption) ?_
            rotate_left 1
            · intro w hSw
              go_simp
              with_reducible rfl
            simp only [Act.put, List.setIfInBounds_toArray, List.set_cons_zero, List.set_cons_succ]
            refine wpAnyH_take (i := 5) (v := ?_) (by simp only [List.getElem?_toArray, List.getElem?_cons_zero, List.getElem?_cons_succ]; rfl) (by kernel_rfl) (by kernel_rfl) (by kernel_rfl) (fun _ _ _ h => h) (Or.inl ⟨by rfl, ?_⟩) (by assumption) ?_
            rotate_left 1
            · intro w hSw
              go_simp
              with_reducible rfl
            simp only [Act.put, List.setIfInBounds_toArray, List.set_cons_zero, List.set_cons_succ]
            refine wpAnyH_take (i := 6) (v := ?_) (by simp only [List.getElem?_toArray, List.getElem?_cons_zero, List.getElem?_cons_succ]; rfl) (by kernel_rfl) (by kernel_rfl) (by kernel_rfl) (fun _ _ _ h => h) (Or.inl ⟨by rfl, ?_⟩) (by assumption) ?_
            rotate_left 1
            · intro w hSw
              go_simp
              with_reducible rfl
            simp only [Act.put, List.setIfInBounds_toArray, List.set_cons_zero, List.set_cons_succ]
            refine wpAnyH_take (i := 7) (v := ?_) (by simp only [List.getElem?_toArray, List.getElem?_cons_zero, List.getElem?_cons_succ]; rfl) (by kernel_rfl) (by kernel_rfl) (by kernel_rfl) (fun _ _ _ h => h) (Or.inl ⟨by rfl, ?_⟩) (by assumption) ?_
            rotate_left 1
            · intro w hSw
              go_simp
              with_reducible rfl
            simp only [Act.put, List.setIfInBounds_toArray, List.set_cons_zero, List.set_cons_succ]
            refine wpAnyH_take (i := 8) (v := ?_) (by simp only [List.getElem?_toArray, List.getElem?_cons_zero, List.getElem?_cons_succ]; rfl) (by kernel_rfl) (by kernel_rfl) (by kernel_rfl) (fun _ _ _ h => h) (Or.inl ⟨by rfl, ?_⟩) (by assumption) ?_
            rotate_left 1
            · intro w hSw
              go_simp
              with_reducible rfl
            simp only [Act.put, List.setIfInBounds_toArray, List.set_cons_zero, List.set_cons_succ]
            refine wpAnyH_take (i := 9) (v := ?_) (by simp only [List.getElem?_toArray, List.getElem?_cons_zero, List.getElem?_cons_succ]; rfl) (by kernel_rfl) (by kernel_rfl) (by kernel_rfl) (fun _ _ _ h => h) (Or.inl ⟨by rfl, ?_⟩) (by assumption) ?_
            rotate_left 1
            · intro w hSw
              have u1 := hSw.1.1
              go_simp
              with_reducible rfl
            simp only [Act.put, List.setIfInBounds_toArray, List.set_cons_zero, List.set_cons_succ]
            refine wpAnyH_take (i := 10) (v := ?_) (by simp only [List.getElem?_toArray, List.getElem?_cons_zero, List.getElem?_cons_succ]; rfl) (by kernel_rfl) (by kernel_rfl) (by kernel_rfl) (fun _ _ _ h => h) (Or.inl ⟨by rfl, ?_⟩) (by assumption) ?_
            rotate_left 1
            · intro w hSw
              go_simp
              with_reducible rfl
            simp only [Act.put, List.setIfInBounds_toArray, List.set_cons_zero, List.set_cons_succ]
            refine wpAnyH_take (i := 11) (v := ?_) (by simp only [List.getElem?_toArray, List.getElem?_cons_zero, List.getElem?_cons_succ]; rfl) (by kernel_rfl) (by kernel_rfl) (by kernel_rfl) (fun _ _ _ h => h) (Or.inl ⟨by rfl, ?_⟩) (by assumption) ?_
            rotate_left 1
            · intro w hSw
              have v1 := hSw.2.1
              go_simp
              with_reducible rfl
            simp only [Act.put, List.setIfInBounds_toArray, List.set_cons_zero, List.set_cons_succ]
            refine wpAnyH_take (i := 12) (v := ?_) (by simp only [List.getElem?_toArray, List.getElem?_cons_zero, List.getElem?_cons_succ]; rfl) (by kernel_rfl) (by kernel_rfl) (by kernel_rfl) (fun _ _ _ h => h) (Or.inl ⟨by rfl, ?_⟩) (by assumption) ?_
            rotate_left 1
            · intro w hSw
              go_simp
              with_reducible rfl
            simp only [Act.put, List.setIfInBounds_toArray, List.set_cons_zero, List.set_cons_succ]
            refine wpAnyH_take (i := 13) (v := ?_) (by simp only [List.getElem?_toArray, List.getElem?_cons_zero, List.getElem?_cons_succ]; rfl) (by kernel_rfl) (by kernel_rfl) (by kernel_rfl) (fun _ _ _ h => h) (Or.inl ⟨by rfl, ?_⟩) (by assumption) ?_
            rotate_left 1
            · intro w hSw
              go_simp
              with_reducible rfl
            simp only [Act.put, List.setIfInBounds_toArray, List.set_cons_zero, List.set_cons_succ]
            refine wpAnyH_take (i := 14) (v := ?_) (by simp only [List.getElem?_toArray, List.getElem?_cons_zero, List.getElem?_cons_succ]; rfl) (by kernel_rfl) (by kernel_rfl) (by kernel_rfl) (fun _ _ _ h => h) (Or.inl ⟨by rfl, ?_⟩) (by assumption) ?_
            rotate_left 1
            · intro w hSw
              go_simp
              with_reducible rfl
            simp only [Act.put, List.setIfInBounds_toArray, List.set_cons_zero, List.set_cons_succ]
            refine wpAnyH_take (i := 15) (v := ?_) (by simp only [List.getElem?_toArray, List.getElem?_cons_zero, List.getElem?_cons_succ]; rfl) (by kernel_rfl) (by kernel_rfl) (by kernel_rfl) (fun _ _ _ h => h) (Or.inl ⟨by rfl, ?_⟩) (by assumption) ?_
            rotate_left 1
            · intro w hSw
              have u2 := hSw.1.2
              go_simp
              with_reducible rfl
            simp only [Act.put, List.setIfInBounds_toArray, List.set_cons_zero, List.set_cons_succ]
            refine wpAnyH_take (i := 16) (v := ?_) (by simp only [List.getElem?_toArray, List.getElem?_cons_zero, List.getElem?_cons_succ]; rfl) (by kernel_rfl) (by kernel_rfl) (by kernel_rfl) (fun _ _ _ h => h) (Or.inl ⟨by rfl, ?_⟩) (by assumption) ?_
            rotate_left 1
            · intro w hSw
              go_simp
              with_reducible rfl
            simp only [Act.put, List.setIfInBounds_toArray, List.set_cons_zero, List.set_cons_succ]
            refine wpAnyH_take (i := 17) (v := ?_) (by simp only [List.getElem?_toArray, List.getElem?_cons_zero, List.getElem?_cons_succ]; rfl) (by kernel_rfl) (by kernel_rfl) (by kernel_rfl) (fun _ _ _ h => h) (Or.inl ⟨by rfl, ?_⟩) (by assumption) ?_
            rotate_left 1
            · intro w hSw
              go_simp
              with_reducible rfl
            simp only [Act.put, List.setIfInBounds_toArray, List.set_cons_zero, List.set_cons_succ]
            refine wpAnyH_take (i := 18) (v := ?_) (by simp only [List.getElem?_toArray, List.getElem?_cons_zero, List.getElem?_cons_succ]; rfl) (by kernel_rfl) (by kernel_rfl) (by kernel_rfl) (fun _ _ _ h => h) (Or.inl ⟨by rfl, ?_⟩) (by assumption) ?_
            rotate_left 1
            · intro w hSw
              go_simp
              with_reducible rfl
            simp only [Act.put, List.setIfInBounds_toArray, List.set_cons_zero, List.set_cons_succ]
            refine wpAnyH_take (i := 19) (v := ?_) (by simp only [List.getElem?_toArray, List.getElem?_cons_zero, List.getElem?_cons_succ]; rfl) (by kernel_rfl) (by kernel_rfl) (by kernel_rfl) (fun _ _ _ h => h) (Or.inl ⟨by rfl, ?_⟩) (by assumption) ?_
            rotate_left 1
            · intro w hSw
              go_simp
              with_reducible rfl
            simp only [Act.put, List.setIfInBounds_toArray, List.set_cons_zero, List.set_cons_succ]
            refine wpAnyH_take (i := 20) (v := ?_) (by simp only [List.getElem?_toArray, List.getElem?_cons_zero, List.getElem?_cons_succ]; rfl) (by kernel_rfl) (by kernel_rfl) (by kernel_rfl) (fun _ _ _ h => h) (Or.inl ⟨by rfl, ?_⟩) (by assumption) ?_
            rotate_left 1
            · intro w hSw
              have v2 := hSw.2.2
              go_simp
              with_reducible rfl
            simp only [Act.put, List.setIfInBounds_toArray, List.set_cons_zero, List.set_cons_succ]
            refine wpAnyH_take (i := 21) (v := ?_) (by simp only [List.getElem?_toArray, List.getElem?_cons_zero, List.getElem?_cons_succ]; rfl) (by kernel_rfl) (by kernel_rfl) (by kernel_rfl) (fun _ _ _ h => h) (Or.inl ⟨by rfl, ?_⟩) (by assumption) ?_
            rotate_left 1
            · intro w hSw
              go_simp
              with_reducible rfl
            simp only [Act.put, List.setIfInBounds_toArray, List.set_cons_zero, List.set_cons_succ]
            refine wpAnyH_take (i := 22) (v := ?_) (by simp only [List.getElem?_toArray, List.getElem?_cons_zero, List.getElem?_cons_succ]; rfl) (by kernel_rfl) (by kernel_rfl) (by kernel_rfl) (fun _ _ _ h => h) (Or.inl ⟨by rfl, ?_⟩) (by assumption) ?_
            rotate_left 1
            · intro w hSw
              have v1 := hSw.2.1
              go_simp
              with_reducible rfl
            simp only [Act.put, List.setIfInBounds_toArray, List.set_cons_zero, List.set_cons_succ]
            refine wpAnyH_take (i := 23) (v := ?_) (by simp only [List.getElem?_toArray, List.getElem?_cons_zero, List.getElem?_cons_succ]; rfl) (by kernel_rfl) (by kernel_rfl) (by kernel_rfl) (fun _ _ _ h => h) (Or.inl ⟨by rfl, ?_⟩) (by assumption) ?_
            rotate_left 1
            · intro w hSw
              go_simp
              with_reducible rfl
            simp only [Act.put, List.setIfInBounds_toArray, List.set_cons_zero, List.set_cons_succ]
            refine wpAnyH_take (i := 24) (v := ?_) (by simp only [List.getElem?_toArray, List.getElem?_cons_zero, List.getElem?_cons_succ]; rfl) (by kernel_rfl) (by kernel_rfl) (by kernel_rfl) (fun _ _ _ h => h) (Or.inl ⟨by rfl, ?_⟩) (by assumption) ?_
            rotate_left 1
            · intro w hSw
              go_simp
              with_reducible rfl
            simp only [Act.put, List.setIfInBounds_toArray, List.set_cons_zero, List.set_cons_succ]
            refine wpAnyH_take (i := 25) (v := ?_) (by simp only [List.getElem?_toArray, List.getElem?_cons_zero, List.getElem?_cons_succ]; rfl) (by kernel_rfl) (by kernel_rfl) (by kernel_rfl) (fun _ _ _ h => h) (Or.inl ⟨by rfl, ?_⟩) (by assumption) ?_
            rotate_left 1
            · intro w hSw
              go_simp
              with_reducible rfl
            simp only [Act.put, List.setIfInBounds_toArray, List.set_cons_zero, List.set_cons_succ]
            refine wpAnyH_take (i := 26) (v := ?_) (by simp only [List.getElem?_toArray, List.getElem?_cons_zero, List.getElem?_cons_succ]; rfl) (by kernel_rfl) (by kernel_rfl) (by kernel_rfl) (fun _ _ _ h => h) (Or.inl ⟨by rfl, ?_⟩) (by assumption) ?_
            rotate_left 1
            · intro w hSw
              go_simp
              with_reducible rfl
            simp only [Act.put, List.setIfInBounds_toArray, List.set_cons_zero, List.set_cons_succ]
            refine wpAnyH_take (i := 27) (v := ?_) (by simp only [List.getElem?_toArray, List.getElem?_cons_zero, List.getElem?_cons_succ]; rfl) (by kernel_rfl) (by kernel_rfl) (by kernel_rfl) (fun _ _ _ h => h) (Or.inl ⟨by rfl, ?_⟩) (by assumption) ?_
            rotate_left 1
            · intro w hSw
              go_simp
              with_reducible rfl
            simp only [Act.put, List.setIfInBounds_toArray, List.set_cons_zero, List.set_cons_succ]
            refine wpAnyH_ready (rs := [28]) (by kernel_rfl) (by simp) ?_
            refine AllReadyH.cons (by simp only [List.getElem?_toArray, List.getElem?_cons_zero, List.getElem?_cons_succ]; rfl) (fun K hK => ?_) (AllReadyH.nil)
            go_simp
            refine (CL.out).mono ?_
            rintro e5 w5 ⟨rfl, b5⟩
            have hz1 := And.intro (CA.out _ b5) (VA.out _ b5)
            refine hK.out _ _ hz1 (fun hS => ?_)
            clear hK K hS
            refine wpAnyH_take (i := 29) (v := ?_) (by simp only [List.getElem?_toArray, List.getElem?_cons_zero, List.getElem?_cons_succ]; rfl) (by kernel_rfl) (by kernel_rfl) (by kernel_rfl) (fun _ _ _ h => h) (Or.inl ⟨by rfl, ?_⟩) (by assumption) ?_
            rotate_left 1
            · intro w hSw
              go_simp
              with_reducible rfl
            simp only [Act.put, List.setIfInBounds_toArray, List.set_cons_zero, List.set_cons_succ]
            refine wpAnyH_take (i := 30) (v := ?_) (by simp only [List.getElem?_toArray, List.getElem?_cons_zero, List.getElem?_cons_succ]; rfl) (by kernel_rfl) (by kernel_rfl) (by kernel_rfl) (fun _ _ _ h => h) (Or.inl ⟨by rfl, ?_⟩) (by assumption) ?_
            rotate_left 1
            · intro w hSw
              go_simp
              with_reducible rfl
            simp only [Act.put, List.setIfInBounds_toArray, List.set_cons_zero, List.set_cons_succ]
            refine wpAnyH_done (by kernel_rfl) ?_ _
            refine NoPanic.normal ?_
            have W5 := hid (W4.out.kept b5)
            have K5 := hid (K4.out.kept b5)
            clear b5 z4 hz1 CL CA VA
            go_wp2
            go_roundw
            case rel => exact ⟨3, _, _, _, _, by omega, by omega, by go_num, W5.out, K5.out, fun i h1 h2 => by rw [upd_ne _ _ (by omega), upd_ne _ _ (by omega)]; exact HV.out.2.2 i (by omega) h2⟩
            case measure => simp [intOf]
          · obtain rfl : m = 3 := by omega
            have HB := hid HV.out.1.sk.below
            have CW := hid (works_any wq (Nat.lt_of_lt_of_le HP.out HB.out.size))
            clear hm1 hm3 hma hmb HV
            go_wp2_with (fail)
            refine CW.out.mono ?_
            rintro e8 w8 ⟨rfl, b8⟩
            have B8 : Hid (Below w.heap.size w w8) := HB.out.trans (b8.mono HB.out.size)
            clear b8
            go_wp2
            go_ret
            exact ⟨rfl, B8.out⟩
end Go.Proofs.Ytcfmjebnjjpajaa
