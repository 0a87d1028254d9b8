/- sha.Sum: the digest of bytes. Conditions: bytes in a block of the world, at most 2 to the 40, the listed table. -/
import Derived.Test.YtoeomghebgbniaaDoorSJ
namespace Go.Proofs.YtoeomghebgbniaaDoor.Sha
open Go.RowKit
theorem sum_new (w w1 : World) (g : Nat) (h : Hid ((w.alloc (.cells zero32 34)).heap.size ≤ g)) (hb : Hid (Below (w.alloc (.cells zero32 34)).heap.size (w.alloc (.cells zero32 34)) w1)) (hp : Hid (0 < w.heap.size)) :
    Hid (Below w.heap.size w w1) ∧ Hid (Has w1 w.heap.size 34 zero32) ∧ Hid (w.heap.size < g) ∧ Hid (g ≠ 0) := by
  have h1 := h.out
  have h2 := hp.out
  simp at h1
  refine ⟨((Below.refl _ _).alloc (Nat.le_refl _) _).trans (hb.out.mono (by simp)), (Has.fresh w 34 zero32).kept hb.out (by simp), ?_, ?_⟩
  · show _ < _; omega
  · show _ ≠ _; omega
theorem sum_take (w w1 w2 : World) (g : Nat) (h1 : Hid (Below w.heap.size w w1)) (h2 : Hid (Has w1 w.heap.size 34 zero32)) (h3 : Hid (w.heap.size < g)) (hg : Grw g w1 w2) :
    Hid (Below w.heap.size w w2) ∧ Hid (Has w2 w.heap.size 34 zero32) := by
  have := h3.out
  exact ⟨h1.out.trans (below_of_grw hg (by omega) h1.out.size), Has.grw h2.out hg (by omega)⟩
theorem feed_newS_n (xs : List UInt8) {len : Nat} (h : xs.length = len) (hb : len ≤ 1099511627776) : (feed newS xs).n ≤ 1099511627776 := by
  rw [feed_n]; show 0 + _ ≤ _; omega
theorem size_dig (l : List UInt8) (h : l.length = 32) : Hid ((Tryd.prog.info? 34).map (·.size) = some (bvec l).size) := by show _ = _; rw [bvec_size, h]; exact i25
theorem size_zero (l : List UInt8) (h : l.length = 32) : Hid (zero32.size = (bvec l).size) := by show _ = _; rw [bvec_size, h]; rfl
theorem fin_len (s : SS) : (fin s).length = 32 := dig_len _ _
set_option maxHeartbeats 400000 in
theorem sum_any (bb off len cap : Nat) (A : Option Addr) (xs : List UInt8) (w : World) (hT : Tab w) (hbb : bb < w.heap.size)
    (hxl : xs.length = len) (hcap : len ≤ cap) (hbig : len ≤ 1099511627776) (hsrc : ∀ j, j < len → w.cell? ⟨bb, off + j, none⟩ = some (.int .u8 (b8 (at8 xs j)))) (hA : 0 < len → A = some ⟨bb, off, none⟩) :
    Calls Tryd.prog 16 #[.slice A len cap] w fun e w' => e = .returned (.agg (bvec (shaL xs))) ∧ Below w.heap.size w w' := by
  have H1 := hid hT; have H2 := hid hxl; have H3 := hid hsrc; have H4 := hid hA; have H5 := hid hbb
  have HI := hid hT.pos
  have H6 : Hid ((0 : Nat) + len ≤ 4611686018427387904) := by show _ ≤ _; omega
  have Y1 := size_dig (shaL xs) (fin_len _)
  have Y2 := size_zero (shaL xs) (fin_len _)
  clear hT hxl hsrc hA hbb
  go_enter Tryd.func16, Tryd.ntmps16
  go_wp2_with (first
    | (go_at_call 38; refine (new_any _).mono ?_; rintro e1 w1 ⟨g, hg, rfl, hs1, hb1⟩
       obtain ⟨B1, R1, G1, G0⟩ := sum_new w w1 g hg hb1 HI
       have T1 : Hid (Tab w1) := H1.out.kept B1.out HI.out
       have S1 := hid hs1
       have M1 : Hid (∀ j, j < len → w1.cell? ⟨bb, off + j, none⟩ = some (.int .u8 (b8 (at8 xs j)))) := fun j hj => (B1.out.cell (p := ⟨bb, off + j, none⟩) H5.out).trans (H3.out j hj)
       have NE : Hid (bb ≠ g) := Nat.ne_of_lt (Nat.lt_trans H5.out G1.out)
       clear hg hb1 hs1)
    | (go_at_call 39; refine (take_any g newS bb off len cap A xs w1 newS_ok S1.out G0.out T1.out H2.out hcap H6.out M1.out NE.out H4.out).mono ?_; rintro e2 w2 ⟨rfl, hs2, hg2⟩
       obtain ⟨B2, R2⟩ := sum_take w w1 w2 g B1 R1 G1 hg2
       have T2 : Hid (Tab w2) := H1.out.kept B2.out HI.out
       have S2 := hid hs2
       clear hg2 hs2)
    | (go_at_call 40; refine (ssum_any g (feed newS xs) w2 (feed_ok _ _ newS_ok) S2.out (feed_newS_n xs H2.out hbig) T2.out).mono ?_; rintro e3 w3 ⟨rfl, hb3⟩
       have B3 : Hid (Below w.heap.size w w3) := B2.out.trans (hb3.mono B2.out.size)
       have R3 : Hid (Has w3 w.heap.size 34 zero32) := Has.kept R2.out hb3 (Has.inside R2.out)
       clear hb3)
    | (refine wpList_store_row rfl 34 (.tmp 2) (.tmp 9) rfl w.heap.size (bvec (shaL xs)) rfl rfl 34 zero32 R3.out Y1.out Y2.out (bvec_one _) ?_))
  refine bodyPost_ret (results_cell_row rfl _ _ w.heap.size 34 (bvec (shaL xs)) (0, 0) _ rfl R3.out.row Tryd.underlying34 rfl Y1.out) rfl ⟨rfl, B3.out.rowK (Nat.le_refl _) _⟩
end Go.Proofs.YtoeomghebgbniaaDoor.Sha
