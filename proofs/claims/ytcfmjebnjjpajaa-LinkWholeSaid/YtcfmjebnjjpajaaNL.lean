/- Links that live apart; the law LinkCopies: what its call does. Conditions: a heap that has a block. -/
import Derived.Test.YtcfmjebnjjpajaaNTB
namespace Go.Proofs.Ytcfmjebnjjpajaa
open Go.RowKit
/-- The block is the link's, or one of its rows. -/
def Owns (p : Nat) (o : Nat → Option Nat) (g : Nat) : Prop := g = p ∨ ∃ k, k < 2 ∧ o k = some g
/-- Two links share no block. -/
def Ap (p : Nat) (o : Nat → Option Nat) (c : Nat) (oc : Nat → Option Nat) : Prop := ∀ g, Owns p o g → ¬ Owns c oc g
section
variable {w0 w w' : World} {p c : Nat} {xs xc : Nat → List UInt8} {e ec : Nat} {o oc : Nat → Option Nat} {x y : Nat × Nat}
theorem Ap.symm (h : Ap p o c oc) : Ap c oc p o := fun g h1 h2 => h g h2 h1
theorem Sk.lt (h : Sk w0 w p xs e o x) {g : Nat} (hg : Owns p o g) : g < w.heap.size := by
  rcases hg with rfl | ⟨k, hk, hg⟩
  · exact h.lk.inside
  · exact h.lk.row hk hg
/-- A link of old blocks and one of new ones live apart. -/
theorem Ap.new (h : Sk w0 w p xs e o x) (hc : ∀ g, Owns c oc g → w.heap.size ≤ g) : Ap p o c oc := fun g h1 h2 => by
  have := h.lt h1
  have := hc g h2
  omega
/-- A link that another one's call leaves alone. -/
theorem Sk.past (h : Sk w0 w c xc ec oc y) (ha : Ap p o c oc) (hp : w0.heap.size ≤ p) (hk : ∀ g, (∃ k, k < 2 ∧ o k = some g) → w0.heap.size ≤ g) {r : Option Nat} (hr : ∀ g, r = some g → ∃ k, k < 2 ∧ o k = some g) (hc : Chg p r w w') : Sk w0 w' c xc ec oc y := by
  refine ⟨Chg.below h.1 hc hp (fun g hg => hk g (hr g hg)) h.1.size, h.2.1, h.2.2.1, ?_⟩
  have hnp : ¬ Owns c oc p := ha p (.inl rfl)
  have hnr : ∀ g, r = some g → ¬ Owns c oc g := fun g hg => ha g (.inr (hr g hg))
  refine h.lk.same ?_ (fun k g hk hg => ?_)
  · exact hc.block c h.lk.inside (fun e => hnp (.inl e.symm)) (fun e => hnr c e (.inl rfl))
  · exact hc.block g (h.lk.row hk hg) (fun e => hnp (.inr ⟨k, hk, by rw [← e]; exact hg⟩)) (fun e => hnr g e (.inr ⟨k, hk, hg⟩))
theorem Sk.pastP (h : Sk w0 w c xc ec oc y) (ha : Ap p o c oc) (hp : w0.heap.size ≤ p) (hc : Grw p w w') : Sk w0 w' c xc ec oc y := by
  have hnp : ¬ Owns c oc p := ha p (.inl rfl)
  refine ⟨Grw.below h.1 hc hp h.1.size, h.2.1, h.2.2.1, h.lk.same ?_ (fun k g hk hg => ?_)⟩
  · exact hc.block c h.lk.inside (fun e => hnp (.inl (Option.some.inj e).symm))
  · exact hc.block g (h.lk.row hk hg) (fun e => hnp (.inr ⟨k, hk, by rw [← Option.some.inj e]; exact hg⟩))
/-- Apart still, when a row of the one is another one, or new. -/
theorem Ap.step (ha : Ap p o c oc) (hc : Sk w0 w c xc ec oc y) {k : Nat} (hk : k < 2) {o' : Option Nat} (hn : Nx (o k) o' w) : Ap p (upd o k o') c oc := fun g h1 h2 => by
  rcases h1 with rfl | ⟨j, hj, hg⟩
  · exact ha g (.inl rfl) h2
  · by_cases hjk : j = k
    · subst hjk
      rw [upd_at] at hg
      have hlt := hc.lt h2
      rcases hn with e | e | ⟨i, e, hi⟩
      · exact ha g (.inr ⟨j, hk, e ▸ hg⟩) h2
      · rw [e] at hg; cases hg
      · rw [e] at hg; cases hg; omega
    · rw [upd_ne _ _ hjk] at hg
      exact ha g (.inr ⟨j, hj, hg⟩) h2
theorem Ap.none (ha : Ap p o c oc) : Ap p (fun _ => none) c oc := fun g h1 h2 => by
  rcases h1 with rfl | ⟨j, hj, hg⟩
  · exact ha g (.inl rfl) h2
  · cases hg
theorem sk_copy (h : Sk w0 w p xs e o x) : Calls Try.prog 18 #[.pointer (some ⟨p, 0, none⟩)] w fun ex w' => ex = .returned (.pointer (some ⟨w.heap.size, 0, none⟩)) ∧ ∃ oc, Sk w0 w' p xs e o x ∧ Sk w0 w' w.heap.size xs e oc (0, 0) ∧ Ap p o w.heap.size oc ∧ Below w.heap.size w w' ∧ ∀ g, Owns w.heap.size oc g → w.heap.size ≤ g := by
  refine (copy_any p xs e o x w h.lk).mono ?_
  rintro ex w' ⟨rfl, oc, h1, h2, h3⟩
  have hO : ∀ g, Owns w.heap.size oc g → w.heap.size ≤ g := fun g hg => by
    rcases hg with rfl | ⟨k, hk, hg⟩
    · exact Nat.le_refl _
    · rcases h2 k hk with e | ⟨i, e, hi⟩
      · rw [e] at hg; cases hg
      · rw [e] at hg; cases hg; exact hi
  refine ⟨rfl, oc, h.kept h3, ⟨h.1.trans (h3.mono h.1.size), h.1.size, fun k hk g hg => Nat.le_trans h.1.size (hO g (.inr ⟨k, hk, hg⟩)), h1⟩, Ap.new h hO, h3, hO⟩
end
section
variable {w0 w : World} {p : Nat} {xs : Nat → List UInt8} {e : Nat} {o : Nat → Option Nat} {x : Nat × Nat}
/-- A Deliver whose answer is not looked at. -/
theorem sk_deliver2 (c : Int) (h : Sk w0 w p xs e o x) : Calls Try.prog 16 #[.pointer (some ⟨p, 0, none⟩), .int .i64 2, .int .i64 c] w fun ex w' => ∃ v, ex = .returned v ∧ ∃ zs, Sk w0 w' p (upd xs 1 zs) e o (0, 0) ∧ Grw p w w' := by
  by_cases hc : c < 0
  · refine (deliver_neg 1 (by decide) p 2 (by decide) c hc xs e o x w h.lk).mono ?_
    rintro ex w' ⟨rfl, hb⟩
    exact ⟨_, rfl, xs 1, by rw [upd_self]; exact (h.kept hb).weak, Grw.of_below hb⟩
  · refine (sk_deliver 1 (by decide) 2 (by decide) c (by omega) (min c ((xs 1).length : Int)).toNat (by omega) h).mono ?_
    rintro ex w' ⟨A, y, rfl, _, h2, h3⟩
    exact ⟨_, rfl, _, h2.weak, h3⟩
end
set_option maxRecDepth 100000 in
set_option maxHeartbeats 4000000 in
theorem copies_law (s t : ByteArray) (n : Int) (w : World) (hp : 0 < w.heap.size) : Calls Try.prog 7 #[.string s, .string t, .int .i64 n] w fun e w' => e = .returned (.bool true) ∧ Below w.heap.size w w' := by
  obtain ⟨u, hu, hcu⟩ := cut_text s 2000
  obtain ⟨v, hv, hcv⟩ := cut_text t 2000
  have KU := conv_string u
  have KV := conv_string v
  have kc := fun (w : World) (C : Array Value) (n c : Nat) => Lib.run_convert_bytes_const (P := Try.prog) w 26 5 C n c Try.underlying26 Try.underlying5
  have HP := hid hp
  have HU : Hid (u.size ≤ 2000) := hu
  have HV : Hid (v.size ≤ 2000) := hv
  have CN := hid (sk_new (w0 := w) (Below.refl _ _) hp)
  have CR : Hid (∀ W, Sk w W w.heap.size (fun _ => []) 0 (fun _ => none) (0, 0) → Calls Try.prog 17 #[.pointer (some ⟨w.heap.size, 0, none⟩)] W fun e w' => e = .returned (.int .i64 0) ∧ Sk w w' w.heap.size (fun _ => []) 1 (fun _ => none) (0, 0)) := fun W h => by
    refine (sk_reset (by decide) h).mono ?_
    rintro e w' ⟨rfl, h1, _⟩
    exact ⟨rfl, h1⟩
  have C1 : Hid (∀ W, Sk w W w.heap.size (fun _ => []) 1 (fun _ => none) (0, 0) → Calls Try.prog 15 #[.pointer (some ⟨w.heap.size, 0, none⟩), .int .i64 1, .slice (some ⟨W.heap.size, 0, none⟩) u.size (grownCap W u.size 0 5)] (Lib.bytesWorld W 5 u) fun e w' => e = .returned (.int .i64 0) ∧ ∃ xs o, xs 1 = tl u ∧ xs 0 = [] ∧ Sk w w' w.heap.size xs 1 o (0, 0)) := fun W h => by
    have hl : ¬ 262144 < 0 + (tl u).length := by rw [tl_length]; have := HU.out; omega
    refine (sk_send 1 (by decide) 1 (by decide) (h.kept (conv_below u W)) (conv_bytes u W) (by rw [tl_length]; have := HU.out; omega)).mono ?_
    rintro e w' ⟨rfl, o', hs, _⟩
    exact ⟨by simp only [sendE, List.length_nil, if_neg hl], _, _, by simp only [upd_at, sendX, List.length_nil, if_neg hl, List.nil_append], rfl, hs⟩
  have C2 : Hid (∀ W (xs : Nat → List UInt8) (o : Nat → Option Nat), xs 1 = tl u → xs 0 = [] → Sk w W w.heap.size xs 1 o (0, 0) → Calls Try.prog 15 #[.pointer (some ⟨w.heap.size, 0, none⟩), .int .i64 2, .slice (some ⟨W.heap.size, 0, none⟩) v.size (grownCap W v.size 0 5)] (Lib.bytesWorld W 5 v) fun e w' => e = .returned (.int .i64 0) ∧ ∃ xs o, xs 0 = tl v ∧ Sk w w' w.heap.size xs 1 o (0, 0)) := fun W xs o h1 h0 h => by
    have hl : ¬ 262144 < 0 + (tl v).length := by rw [tl_length]; have := HV.out; omega
    refine (sk_send 0 (by decide) 2 (by decide) (h.kept (conv_below v W)) (conv_bytes v W) (by rw [tl_length]; have := HV.out; omega)).mono ?_
    rintro e w' ⟨rfl, o', hs, _⟩
    rw [h0] at hs ⊢
    exact ⟨by simp only [sendE, List.length_nil, if_neg hl], _, _, by simp only [upd_at, sendX, List.length_nil, if_neg hl, List.nil_append], hs⟩
  clear hp hu hv
  rcases hcu with ⟨rfl, hs⟩ | ⟨hs, e0⟩
  all_goals rcases hcv with ⟨rfl, ht⟩ | ⟨ht, e1⟩
  all_goals
    go_enter Try.func7, Try.ntmps7
    go_wp2_with (fail)
    refine CN.out.mono ?_
    rintro e1 w1 ⟨rfl, h1, _⟩
    have S1 := hid h1
    clear h1
    go_wp2_with (fail)
    refine (CR.out _ S1.out).mono ?_
    rintro e2 w2 ⟨rfl, h2⟩
    have S2 := hid h2
    clear h2
    go_wp2_with (fail)
    refine (C1.out _ S2.out).mono ?_
    rintro e3 w3 ⟨rfl, x3, o3, q1, q0, h3⟩
    have S3 := hid h3
    have Q1 := hid q1
    have Q0 := hid q0
    clear h3 q1 q0
    go_wp2_with (fail)
    refine (C2.out _ _ _ Q1.out Q0.out S3.out).mono ?_
    rintro e4 w4 ⟨rfl, x4, o4, q0, h4⟩
    have S4 := hid h4
    have R0 := hid q0
    clear h4 q0
    go_wp2_with (fail)
    refine (sk_copy S4.out).mono ?_
    rintro e5 w5 ⟨rfl, oc, h5, k5, a5, _, _⟩
    obtain ⟨c, hc⟩ : ∃ c, w4.heap.size = c := ⟨_, rfl⟩
    rw [hc] at k5 a5 ⊢
    have S5 := hid h5
    have K5 := hid k5
    have A5 := hid a5
    clear h5 k5 a5 hc
    go_wp2_with (fail)
    refine (sk_deliver2 n S5.out).mono ?_
    rintro e6 w6 ⟨v6, rfl, z6, h6, g6⟩
    have S6 := hid h6
    have K6 := hid (K5.out.pastP A5.out S5.out.2.1 g6)
    have X6 : Hid (upd x4 1 z6 0 = tl v) := R0.out
    clear h6 g6
    go_wp2_with (fail)
    refine (sk_send 1 (by decide) 1 (by decide) (S6.out.alloc _) (lit_const w6 [109, 111, 114, 101] _ 4 rfl rfl).1 (by decide)).mono ?_
    rintro e7 w7 ⟨rfl, o7, h7, n7, g7⟩
    have S7 := hid h7
    have K7 : Hid (Sk w w7 c x4 1 oc (0, 0)) := (K6.out.alloc _).past A5.out S5.out.2.1 (fun g ⟨k, hk, hg⟩ => S6.out.2.2.1 k hk g hg) (fun g hg => ⟨1, by decide, hg⟩) g7
    have A7 := hid (A5.out.step (K6.out.alloc _) (by decide) n7)
    clear h7 n7 g7
    go_wp2_with (fail)
    refine (sk_reset (by decide) K7.out).mono ?_
    rintro e8 w8 ⟨rfl, k8, g8⟩
    have K8 := hid k8
    have S8 := hid (S7.out.pastP A7.out.symm K7.out.2.1 g8)
    have A8 := hid (A7.out.symm.none).symm
    clear k8 g8
    go_wp2_with (fail)
    refine (sk_copy S8.out).mono ?_
    rintro e9 w9 ⟨rfl, od, h9, d9, a9, b9, n9⟩
    have AC := hid (Ap.new K8.out n9)
    obtain ⟨d, hd⟩ : ∃ d, w8.heap.size = d := ⟨_, rfl⟩
    have K9 := hid (K8.out.kept b9)
    rw [hd] at d9 a9 AC ⊢
    have S9 := hid h9
    have D9 := hid d9
    have A9 := hid a9
    clear h9 d9 a9 b9 n9 hd
    go_wp2_with (fail)
    refine (sk_reset (by decide) S9.out).mono ?_
    rintro e10 w10 ⟨rfl, h10, g10⟩
    have S10 := hid h10
    have D10 := hid (D9.out.pastP A9.out S9.out.2.1 g10)
    have K10 := hid (K9.out.pastP A8.out S9.out.2.1 g10)
    have D0 : Hid ((upd (upd x4 1 z6) 1 (sendX (upd x4 1 z6 1) [109, 111, 114, 101]) 0) = tl v) := R0.out
    clear h10 g10
    have hq : ((v.size : Nat) : Int) = min 3000 (((upd (upd x4 1 z6) 1 (sendX (upd x4 1 z6 1) [109, 111, 114, 101])) 0).length : Int) := by
      rw [D0.out, tl_length]; have := HV.out; omega
    have CD := hid (sk_deliver 0 (by decide) 1 (by decide) 3000 (by decide) v.size hq D10.out)
    rw [D0.out] at CD
    clear hq
    go_wp2_with (fail)
    refine CD.out.mono ?_
    rintro e11 w11 ⟨A11, y11, rfl, p11, d11, g11⟩
    obtain ⟨off11, by11⟩ := p11.bytes
    have K11 := hid (K10.out.pastP AC.out.symm D10.out.2.1 g11)
    have S11 := hid (S10.out.pastP A9.out.none.symm D10.out.2.1 g11)
    have D11 := hid d11
    have cv : (convert 26 9 (.slice A11 v.size v.size)).run Try.prog w11 = .ok (.string v) w11 := by
      have := conv_back by11
      rw [List.take_of_length_le (by rw [tl_length]; exact Nat.le_refl _), ba_tl] at this
      exact this
    clear p11 d11 g11 by11 CD
    go_wp2_with (fail)
    refine (sk_epoch K11.out).mono ?_
    rintro e12 w12 ⟨rfl, rfl⟩
    go_wp2_with (fail)
    refine (sk_left 0 (by decide) 1 (by decide) K11.out).mono ?_
    rintro e13 w13 ⟨rfl, _, b13⟩
    have D13 := hid (D11.out.kept b13)
    have S13 := hid (S11.out.kept b13)
    clear b13
    go_wp2_with (fail)
    refine (sk_epoch D13.out).mono ?_
    rintro e14 w14 ⟨rfl, rfl⟩
    go_wp2_with (fail)
    refine (sk_epoch S13.out).mono ?_
    rintro e15 w15 ⟨rfl, rfl⟩
    have B15 := hid S13.out.below
    have CW := hid (works_any w13 (Nat.lt_of_lt_of_le HP.out B15.out.size))
    go_wp2_with (fail)
    refine CW.out.mono ?_
    rintro e16 w16 ⟨rfl, b16⟩
    have B16 : Hid (Below w.heap.size w w16) := B15.out.trans (b16.mono B15.out.size)
    clear b16
    go_wp2
    go_ret
    exact ⟨rfl, B16.out⟩
end Go.Proofs.Ytcfmjebnjjpajaa
