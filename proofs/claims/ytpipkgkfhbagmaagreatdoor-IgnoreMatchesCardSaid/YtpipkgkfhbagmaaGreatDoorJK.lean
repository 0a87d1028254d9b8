/- Glob: what a pattern says: made, has, Negated, Deletable, Folded, Rooted, Text. Conditions: a pattern that Parse made; nil; one that it did not make. -/
import Derived.Test.YtpipkgkfhbagmaaGreatDoorJJ
namespace Go.Proofs.YtpipkgkfhbagmaaGreatDoor.Glob
open Go.RowKit
/-- A pattern that Parse did not make. -/
def NoPat (w : World) (v : Value) : Prop := v = .pointer none ∨ ∃ g, v = .pointer (some ⟨g, 0, none⟩) ∧ Has w g 84 #[.string ⟨#[]⟩, .int .i64 0, .bool false, .slice none 0 0]
theorem PatIs.cells {w : World} {g : Nat} {s : By} {p : Pt} (h : PatIs w g s p) : ∃ A c n, 0 < n ∧ w.cell? ⟨g, 0, none⟩ = some (.string (ba s)) ∧ w.cell? ⟨g, 1, none⟩ = some (.int .i64 (p.m : Int)) ∧ w.cell? ⟨g, 2, none⟩ = some (.bool p.rooted) ∧ w.cell? ⟨g, 3, none⟩ = some (.slice A n c) ∧ n = p.hs.length ∧ p.m < 8 := by
  obtain ⟨v, h1, h2, h3, h4, h5⟩ := h
  obtain ⟨A, c, rfl⟩ := h2.form
  exact ⟨A, c, p.hs.length, h3, h1.at_ 0, h1.at_ 1, h1.at_ 2, h1.at_ 3, rfl, h5⟩
theorem made_yes {g : Nat} {s : By} {p : Pt} {w : World} (h : PatIs w g s p) : Calls Tryz.prog 40 #[.pointer (some ⟨g, 0, none⟩)] w fun e w' => e = .returned (.bool true) ∧ w = w' := by
  obtain ⟨A, c, n, hn, k0, k1, k2, k3, hn2, _⟩ := h.cells
  clear hn2
  clear h
  go_enter Tryz.func40, Tryz.ntmps40
  go_wp2
  go_ret
  exact ⟨rfl, rfl⟩
theorem made_no {v : Value} {w : World} (h : NoPat w v) : Calls Tryz.prog 40 #[v] w fun e w' => e = .returned (.bool false) ∧ w = w' := by
  rcases h with rfl | ⟨g, rfl, h⟩
  · go_enter Tryz.func40, Tryz.ntmps40
    go_wp2
    go_ret
    exact ⟨rfl, rfl⟩
  · have k3 := h.at_ 3
    clear h
    go_enter Tryz.func40, Tryz.ntmps40
    go_wp2
    go_ret
    exact ⟨rfl, rfl⟩
theorem has_yes {g : Nat} {s : By} {p : Pt} {w : World} (h : PatIs w g s p) (k : Nat) (hk : k < 8) : Calls Tryz.prog 43 #[.pointer (some ⟨g, 0, none⟩), .int .i64 (k : Int)] w fun e w' => e = .returned (.bool (p.m &&& k != 0)) ∧ w = w' := by
  have hm := made_yes h
  obtain ⟨A, c, n, hn, k0, k1, k2, k3, hn2, h8⟩ := h.cells
  clear hn2
  have hb2 := and8 p.m k h8 hk
  have hne := int_ne0 (p.m &&& k)
  generalize (p.m &&& k) = a at hb2 hne
  obtain ⟨b, hb⟩ : ∃ b, (a != 0) = b := ⟨_, rfl⟩
  rw [hb] at hne
  rw [hb]
  generalize p.m = m at k1 hb2
  clear h hb h8 k0 k2 k3
  go_enter Tryz.func43, Tryz.ntmps43
  go_wp2_with (go_at_call 40; refine hm.mono ?_; rintro e1 w1 ⟨rfl, rfl⟩)
  go_ret
  exact ⟨rfl, rfl⟩
theorem has_no {v : Value} {w : World} (h : NoPat w v) (k : Int) : Calls Tryz.prog 43 #[v, .int .i64 k] w fun e w' => e = .returned (.bool false) ∧ w = w' := by
  have hm := made_no h
  obtain ⟨A, rfl⟩ : ∃ A, v = .pointer A := by
    rcases h with rfl | ⟨g, rfl, _⟩
    · exact ⟨_, rfl⟩
    · exact ⟨_, rfl⟩
  clear h
  go_enter Tryz.func43, Tryz.ntmps43
  go_wp2_with (go_at_call 40; refine hm.mono ?_; rintro e1 w1 ⟨rfl, rfl⟩)
  go_ret
  exact ⟨rfl, rfl⟩
theorem Negated_yes {g : Nat} {s : By} {p : Pt} {w : World} (h : PatIs w g s p) : Calls Tryz.prog 23 #[.pointer (some ⟨g, 0, none⟩)] w fun e w' => e = .returned (.bool (p.m &&& 1 != 0)) ∧ w = w' := by
  have hc : Calls Tryz.prog 43 #[.pointer (some ⟨g, 0, none⟩), .int .i64 1] w fun e w' => e = .returned (.bool (p.m &&& 1 != 0)) ∧ w = w' := has_yes h 1 (by omega)
  generalize (p.m &&& 1 != 0) = b at hc
  clear h
  go_enter Tryz.func23, Tryz.ntmps23
  go_wp2_with (go_at_call 43; refine hc.mono ?_; rintro e1 w1 ⟨rfl, rfl⟩)
  go_ret
  exact ⟨rfl, rfl⟩
theorem Negated_no {v : Value} {w : World} (h : NoPat w v) : Calls Tryz.prog 23 #[v] w fun e w' => e = .returned (.bool false) ∧ w = w' := by
  have hc := has_no h 1
  obtain ⟨A, rfl⟩ : ∃ A, v = .pointer A := by
    rcases h with rfl | ⟨g, rfl, _⟩
    · exact ⟨_, rfl⟩
    · exact ⟨_, rfl⟩
  clear h
  go_enter Tryz.func23, Tryz.ntmps23
  go_wp2_with (go_at_call 43; refine hc.mono ?_; rintro e1 w1 ⟨rfl, rfl⟩)
  go_ret
  exact ⟨rfl, rfl⟩
theorem Deletable_yes {g : Nat} {s : By} {p : Pt} {w : World} (h : PatIs w g s p) : Calls Tryz.prog 24 #[.pointer (some ⟨g, 0, none⟩)] w fun e w' => e = .returned (.bool (p.m &&& 4 != 0)) ∧ w = w' := by
  have hc : Calls Tryz.prog 43 #[.pointer (some ⟨g, 0, none⟩), .int .i64 4] w fun e w' => e = .returned (.bool (p.m &&& 4 != 0)) ∧ w = w' := has_yes h 4 (by omega)
  generalize (p.m &&& 4 != 0) = b at hc
  clear h
  go_enter Tryz.func24, Tryz.ntmps24
  go_wp2_with (go_at_call 43; refine hc.mono ?_; rintro e1 w1 ⟨rfl, rfl⟩)
  go_ret
  exact ⟨rfl, rfl⟩
theorem Deletable_no {v : Value} {w : World} (h : NoPat w v) : Calls Tryz.prog 24 #[v] w fun e w' => e = .returned (.bool false) ∧ w = w' := by
  have hc := has_no h 4
  obtain ⟨A, rfl⟩ : ∃ A, v = .pointer A := by
    rcases h with rfl | ⟨g, rfl, _⟩
    · exact ⟨_, rfl⟩
    · exact ⟨_, rfl⟩
  clear h
  go_enter Tryz.func24, Tryz.ntmps24
  go_wp2_with (go_at_call 43; refine hc.mono ?_; rintro e1 w1 ⟨rfl, rfl⟩)
  go_ret
  exact ⟨rfl, rfl⟩
end Go.Proofs.YtpipkgkfhbagmaaGreatDoor.Glob
