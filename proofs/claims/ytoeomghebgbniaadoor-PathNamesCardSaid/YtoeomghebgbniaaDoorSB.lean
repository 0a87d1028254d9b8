/- sha.nextWord, sha.firstSixteen: what each call does. Conditions: sixteen words, sixty-four bytes, t below 64. -/
import Derived.Test.YtoeomghebgbniaaDoorSH
import Derived.Deep.QuietTactic
import Derived.BigQuiet
import Derived.BigRegion
import Derived.Deep.Draws
namespace Go.Proofs.YtoeomghebgbniaaDoor.Sha
open Go.RowKit

def sig0 (x : BitVec 32) : BitVec 32 := rotR x 7 ^^^ rotR x 18 ^^^ shR x 3
def sig1 (x : BitVec 32) : BitVec 32 := rotR x 17 ^^^ rotR x 19 ^^^ shR x 10
def nextW (l : List (BitVec 32)) (t : Nat) : BitVec 32 :=
  at32 l (t % 16) + sig0 (at32 l ((t + 1) % 16)) + at32 l ((t + 9) % 16) + sig1 (at32 l ((t + 14) % 16))
theorem modE (t : Nat) : ∃ j : Nat, (t : Int) % 16 = (j : Int) ∧ j < 16 ∧ Hid (t % 16 = j) := ⟨t % 16, by omega, by omega, rfl⟩
theorem modEk (t k : Nat) : ∃ j : Nat, ((t : Int) + (k : Int)) % 16 = (j : Int) ∧ j < 16 ∧ Hid ((t + k) % 16 = j) := ⟨(t + k) % 16, by omega, by omega, rfl⟩
set_option maxHeartbeats 400000 in
theorem next_any (l : List (BitVec 32)) (hl : l.length = 16) (t : Nat) (ht : t < 64) (w : World) :
    Calls Tryd.prog 72 #[.agg (vec l), .int .i64 (t : Int)] w fun e w' => e = .returned (.int .u32 (u (nextW l t))) ∧ Below w.heap.size w w' := by
  have w1 : IntKind.i64.wrap ((t : Int) + 1) = (t : Int) + 1 := i64in _ (by omega) (by omega)
  have w14 : IntKind.i64.wrap ((t : Int) + 14) = (t : Int) + 14 := i64in _ (by omega) (by omega)
  have w9 : IntKind.i64.wrap ((t : Int) + 9) = (t : Int) + 9 := i64in _ (by omega) (by omega)
  obtain ⟨j0, m0, b0, H0⟩ := modE t
  obtain ⟨j1, m1, b1, H1⟩ : ∃ j : Nat, ((t : Int) + 1) % 16 = (j : Int) ∧ j < 16 ∧ Hid ((t + 1) % 16 = j) := modEk t 1
  obtain ⟨j9, m9, b9, H9⟩ : ∃ j : Nat, ((t : Int) + 9) % 16 = (j : Int) ∧ j < 16 ∧ Hid ((t + 9) % 16 = j) := modEk t 9
  obtain ⟨j14, m14, b14, H14⟩ : ∃ j : Nat, ((t : Int) + 14) % 16 = (j : Int) ∧ j < 16 ∧ Hid ((t + 14) % 16 = j) := modEk t 14
  have c0 := vec_get l j0 (by omega)
  have c1 := vec_get l j1 (by omega)
  have c9 := vec_get l j9 (by omega)
  have c14 := vec_get l j14 (by omega)
  have hs := vec_size l
  have HL := hid hl; clear hl
  have X := xor32
  have A32 := add32
  have R3 : ∀ x, u x / 8 = u (shR x 3) := fun x => shr32 x 3
  have R10 : ∀ x, u x / 1024 = u (shR x 10) := fun x => shr32 x 10
  have HN : Hid (nextW l t = at32 l j0 + sig0 (at32 l j1) + at32 l j9 + sig1 (at32 l j14)) := by
    unfold nextW; rw [H0.out, H1.out, H9.out, H14.out]; rfl
  go_enter Tryd.func72, Tryd.ntmps72
  go_wp2
  go_quiet (fail)
  go_wp2_with (go_at_call 73; refine (right_c _ _ (by decide) _).mono ?_; rintro e w' ⟨rfl, rfl⟩)
  go_quiet (fail)
  go_wp2
  go_ret
  refine ⟨ret32 HN.out.symm, ?_⟩
  exact (((Below.refl _ _).alloc (Nat.le_refl _) _).drewN' _).drewN' _
end Go.Proofs.YtoeomghebgbniaaDoor.Sha
