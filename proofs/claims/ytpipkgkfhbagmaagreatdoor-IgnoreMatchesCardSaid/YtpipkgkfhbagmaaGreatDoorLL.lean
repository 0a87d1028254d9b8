/- Bytes one behind the other. No conditions. -/
import Derived.Test.YtpipkgkfhbagmaaGreatDoorLK
import Derived.Test.YtpipkgkfhbagmaaGreatDoorJQ
namespace Go.Proofs.YtpipkgkfhbagmaaGreatDoor.Glob
open Go.RowKit Go.Maps
theorem Ar.at_ {B : Nat} {w : World} {v : Value} {l : List By} (h : Ar B w v l) (h0 : 0 < l.length) : ∃ g c, v = .slice (some ⟨g, 0, none⟩) l.length c ∧ g < w.heap.size ∧ ∀ k (hk : k < l.length), w.cell? ⟨g, k, none⟩ = some (.string (ba l[k])) := by
  obtain ⟨g, c, h1, _, h3, _, h5⟩ := own_cells h h0
  exact ⟨g, c, h1, h3, fun k hk => h5 k _ (by simp [strV, hk])⟩
theorem ba_app (a b : By) : ba a ++ ba b = ba (a ++ b) := by
  apply ByteArray.ext; simp [ba]
end Go.Proofs.YtpipkgkfhbagmaaGreatDoor.Glob
