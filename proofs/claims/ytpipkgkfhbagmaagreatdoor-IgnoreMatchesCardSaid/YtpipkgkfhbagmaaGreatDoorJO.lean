/- Glob: Match; what Parse answers, and the error. No conditions. -/
import Derived.Test.YtpipkgkfhbagmaaGreatDoorJN
namespace Go.Proofs.YtpipkgkfhbagmaaGreatDoor.Glob
open Go.RowKit
theorem match_any (g : Nat) (s : By) (p : Pt) (path : By) (w : World) (hp : PatIs w g s p) :
    Calls Tryz.prog 22 #[.pointer (some ⟨g, 0, none⟩), .string (ba path)] w fun e w' => e = .returned (.bool (mB p.rooted p.hs path)) ∧ Below w.heap.size w w' := by
  by_cases hl : 160 < path.length
  · exact match_long g s p path w hp hl
  · exact match_short g s p path w hp (by omega)
theorem match_no {v : Value} {w : World} (h : NoPat w v) (path : By) : Calls Tryz.prog 22 #[v, .string (ba path)] w fun e w' => e = .returned (.bool false) ∧ w = w' := by
  have hm := made_no h
  obtain ⟨A, rfl⟩ : ∃ A, v = .pointer A := by
    rcases h with rfl | ⟨g, rfl, _⟩
    · exact ⟨_, rfl⟩
    · exact ⟨_, rfl⟩
  clear h
  go_enter Tryz.func22, Tryz.ntmps22
  go_wp2_with (go_at_call 40; refine hm.mono ?_; rintro e1 w1 ⟨rfl, rfl⟩)
  go_ret
  exact ⟨rfl, rfl⟩
/-- What Parse answers, and the error's number. -/
def perr (s : By) : Int := if 128 < s.length then 3 else match parseL s with | none => 4 | some _ => 0
theorem parse_cases {s : By} {e : Ending} {w : World} (h : ParseIs s e w) : ((∃ k : Int, k ≠ 0 ∧ perr s = k ∧ e = .returned (.tuple #[.pointer none, .int .i64 k])) ∨ ∃ p g, ¬ 128 < s.length ∧ parseL s = some p ∧ perr s = 0 ∧ e = .returned (.tuple #[.pointer (some ⟨g, 0, none⟩), .int .i64 0]) ∧ PatIs w g s p) := by
  unfold ParseIs at h
  unfold perr
  by_cases hl : 128 < s.length
  · rw [if_pos hl] at h ⊢
    exact .inl ⟨3, by decide, rfl, h⟩
  · rw [if_neg hl] at h ⊢
    cases hp : parseL s with
    | none => rw [hp] at h; exact .inl ⟨4, by decide, rfl, h⟩
    | some p =>
      rw [hp] at h
      obtain ⟨g, h1, h2⟩ := h
      exact .inr ⟨p, g, hl, rfl, rfl, h1, h2⟩
/-- Does a path match a text, as a pattern? -/
def ofB (s path : By) : Bool := if 128 < s.length then false else match parseL s with | none => false | some p => mB p.rooted p.hs path
theorem ofB_no {s path : By} {k : Int} (h0 : k ≠ 0) (h : perr s = k) : ofB s path = false := by
  unfold perr at h; unfold ofB
  split
  · rfl
  · rename_i hl
    rw [if_neg hl] at h
    cases hp : parseL s with
    | none => rfl
    | some p => rw [hp] at h; exact absurd h.symm h0
theorem ofB_yes {s path : By} {p : Pt} (hl : ¬ 128 < s.length) (h : parseL s = some p) : ofB s path = mB p.rooted p.hs path := by
  unfold ofB; rw [if_neg hl, h]
end Go.Proofs.YtpipkgkfhbagmaaGreatDoor.Glob
