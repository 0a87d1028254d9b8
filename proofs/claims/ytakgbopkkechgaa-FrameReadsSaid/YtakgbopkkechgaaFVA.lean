/- Two readers side by side: what their calls do. No conditions but the ones said. -/
import Derived.Test.YtakgbopkkechgaaFV
namespace Go.Proofs.Ytakgbopkkechgaa
open Go.RowKit
/-- The document's call that answers as the program's did. -/
def Pair (w0 w1 : World) (p q : Nat) (R' : RS) (o' : Option Nat) (kd : Int) (is : Bool) (er : Int) (A : Option Addr) (n c : Nat) : Prop :=
  Calls Try.prog 18 #[.pointer (some ⟨q, 0, none⟩)] w1 fun e2 w2 => ∃ A2 n2 c2 s, e2 = .returned (.tuple #[.int .i64 kd, .slice A2 n2 c2, .bool is, .int .i64 er]) ∧
    (convert 22 9 (.slice A2 n2 c2)).run Try.prog w2 = .ok (.string s) w2 ∧ (convert 22 9 (.slice A n c)).run Try.prog w2 = .ok (.string s) w2 ∧ ∃ bb', Two w0 w2 p q R' R' o' bb'
theorem two_next {w0 w : World} {p q bb : Nat} {R : RS} {o : Option Nat} (h : Two w0 w p q R R o bb) :
    Calls Try.prog 17 #[.pointer (some ⟨p, 0, none⟩)] w fun e w1 => ∃ kd is er A n c R' o', e = .returned (.tuple #[.int .i64 kd, .slice A n c, .bool is, .int .i64 er]) ∧ Pair w0 w1 p q R' o' kd is er A n c := by
  have hq0 : 0 < q := by obtain ⟨_, _, _, _, _, _, h7, h8⟩ := h; omega
  have hqw : q < w.heap.size := h.2.1.inside
  obtain ⟨b, xs⟩ := R
  cases b
  · rcases hO : outL xs with _ | _ | ⟨k, body, rest⟩
    · refine (ses_wait h.1 hO).mono ?_
      rintro e w1 ⟨rfl, hs, hb⟩
      have T1 := h.kept hb
      refine ⟨0, false, 0, none, 0, 0, (false, xs), o, rfl, ?_⟩
      refine (rnext_any q bb xs w1 T1.2.1).mono ?_
      rintro e2 w2 (⟨_, rfl, rfl⟩ | ⟨h2, _⟩ | ⟨_, _, _, _, _, _, _, h2, _⟩)
      · exact ⟨none, 0, 0, _, rfl, conv_nil _, conv_nil _, bb, T1⟩
      · rw [hO] at h2; cases h2
      · rw [hO] at h2; cases h2
    · refine (ses_stop h.1 (.inr hO)).mono ?_
      rintro e w1 ⟨rfl, o', hs, hn, hc⟩
      have T1 := h.stepA hs hn hc
      refine ⟨0, false, 4, none, 0, 0, (true, xs), o', rfl, ?_⟩
      refine (rnext_any q bb xs w1 T1.2.1).mono ?_
      rintro e2 w2 (⟨h2, _⟩ | ⟨_, rfl, hq, hg⟩ | ⟨_, _, _, _, _, _, _, h2, _⟩)
      · rw [hO] at h2; cases h2
      · exact ⟨none, 0, 0, _, rfl, conv_nil _, conv_nil _, bb, T1.stepB hq (.inl rfl) hg⟩
      · rw [hO] at h2; cases h2
    · refine (ses_one h.1 hO).mono ?_
      rintro e w1 ⟨v, A, cap, bv, rfl, hy, hbv, hs, hg⟩
      have T1 := h.stepA hs (.inl rfl) (Chg.of_grw hg)
      have ev := hy.form
      subst ev
      refine ⟨b8 k, true, 0, A, body.length, cap, (false, rest), o, rfl, ?_⟩
      refine (rnext_any q bb xs w1 T1.2.1).mono ?_
      rintro e2 w2 (⟨h2, _⟩ | ⟨h2, _⟩ | ⟨k', body', rest', v', A', cap', bv', h2, rfl, hy', hbv', ⟨bb', hq, hn⟩, hg'⟩)
      · rw [hO] at h2; cases h2
      · rw [hO] at h2; cases h2
      · rw [hO] at h2
        injection h2 with h2 h3 h4
        subst h2 h3 h4
        have ev' := hy'.form
        subst ev'
        exact ⟨A', _, cap', _, rfl, conv_back hy', conv_back (hy.grw hg' (by omega)), bb', T1.stepB hq hn hg'⟩
  · refine (ses_stop h.1 (.inl rfl)).mono ?_
    rintro e w1 ⟨rfl, o', hs, hn, hc⟩
    have T1 := h.stepA hs hn hc
    refine ⟨0, false, 4, none, 0, 0, (true, xs), o', rfl, ?_⟩
    refine (rnext_broken q bb xs w1 T1.2.1).mono ?_
    rintro e2 w2 ⟨rfl, rfl⟩
    exact ⟨none, 0, 0, _, rfl, conv_nil _, conv_nil _, bb, T1⟩
theorem two_pushA {w0 w : World} {p q bb : Nat} {R S : RS} {o : Option Nat} (h : Two w0 w p q R S o bb) {bv : Value} {ys : List UInt8} {A : Option Addr} {cap b2 off : Nat} (hs : Bytes w bv ys A cap b2 off) (hn : ys.length ≤ 300000) :
    Calls Try.prog 15 #[.pointer (some ⟨p, 0, none⟩), bv] w fun e w' => e = .returned (.int .i64 (pushE R ys)) ∧ ∃ o', Two w0 w' p q (pushR R ys) S o' bb ∧ Nx o o' w ∧ Chg p o w w' := by
  refine (ses_push h.1 hs hn).mono ?_
  rintro e w' ⟨rfl, o', h2, hx, hc⟩
  exact ⟨rfl, o', h.stepA h2 hx hc, hx, hc⟩
theorem two_pushB {w0 w : World} {p q bb : Nat} {R S : RS} {o : Option Nat} (h : Two w0 w p q R S o bb) {bv : Value} {ys : List UInt8} {A : Option Addr} {cap b2 off : Nat} (hs : Bytes w bv ys A cap b2 off) (hn : ys.length ≤ 300000) :
    Calls Try.prog 16 #[.pointer (some ⟨q, 0, none⟩), bv] w fun e w' => e = .returned (.int .i64 (pushE S ys)) ∧ ∃ bb', Two w0 w' p q R (pushR S ys) o bb' ∧ Ny bb bb' w ∧ Grw q w w' := by
  refine (rpush_any q S bv ys A cap b2 off hn bb w h.2.1 hs).mono ?_
  rintro e w' ⟨rfl, bb', h2, hx, hc⟩
  exact ⟨rfl, bb', h.stepB h2 hx hc, hx, hc⟩
end Go.Proofs.Ytakgbopkkechgaa
