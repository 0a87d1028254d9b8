/- The document's Parent, Base, Within (caravanref02), and the walk of the law PathParents. Conditions: a world in which the listed variables lie. -/
import Derived.Test.YtoeomghebgbniaaDoorPO
import Derived.Test.YtoeomghebgbniaaDoorPI
namespace Go.Proofs.YtoeomghebgbniaaDoor
open Go.RowKit
theorem rmay_v (s : ByteArray) (v : Bool) (h : Hid (mayB (tl s) = v)) (w : World) (hs : s.size ≤ 4000) :
    Calls Tryd.prog 19 #[.string s] w fun e w' => e = .returned (.bool v) ∧ Below w.heap.size w w' := by
  rw [← h.out]; exact rmay_any s w hs
theorem prefix_iff (d p : List UInt8) : (d ++ [47]).isPrefixOf p = true ↔ d.length < p.length ∧ p.take d.length = d ∧ at8 p d.length = 47 := by
  constructor
  · intro h
    obtain ⟨r, hr⟩ := List.isPrefixOf_iff_prefix.1 h
    subst hr
    refine ⟨by simp, by simp, ?_⟩
    simp [at8, List.getD]
  · rintro ⟨h1, h2, h3⟩
    apply List.isPrefixOf_iff_prefix.2
    refine ⟨p.drop (d.length + 1), ?_⟩
    have e : at8 p d.length = p[d.length] := by simp [at8, List.getD, List.getElem?_eq_getElem h1]
    rw [e] at h3
    conv => rhs; rw [← List.take_append_drop d.length p, h2, List.drop_eq_getElem_cons h1, h3]
    simp
theorem lastP_one {l : List UInt8} (h : pieces l = [l]) : lastP l = l := by
  have : ∀ (ps : List (List UInt8)) (hne : ps ≠ []), ps = [l] → ps.getLast hne = l := by rintro ps hne rfl; rfl
  exact this _ _ h
theorem lastP_two {l a b : List UInt8} (h : pieces l = pieces a ++ [b]) : lastP l = b := by
  have : ∀ (ps : List (List UInt8)) (hne : ps ≠ []), ps = pieces a ++ [b] → ps.getLast hne = b := by rintro ps hne rfl; simp
  exact this _ _ h
theorem aheadL_one {l : List UInt8} (h : pieces l = [l]) : aheadL l = [] := by rw [aheadL, lastP_one h]; simp
theorem aheadL_two {l a b : List UInt8} (h1 : l = a ++ 47 :: b) (h : pieces l = pieces a ++ [b]) : aheadL l = a := by
  rw [aheadL, lastP_two h, h1, List.length_append, List.length_cons, show a.length + (b.length + 1) - b.length - 1 = a.length by omega, List.take_left]
end Go.Proofs.YtoeomghebgbniaaDoor
