/- Several texts in one. Conditions: those said at each. -/
import Derived.Test.YtahkcemdbfjilaaGreatDoorWb00
import Derived.Test.YtahkcemdbfjilaaGreatDoorWb13
import Derived.Test.YtahkcemdbfjilaaGreatDoorWb16
import Derived.Great.FillDense
set_option linter.unusedSimpArgs false
set_option linter.unusedVariables false
set_option maxRecDepth 100000
namespace Go.Proofs.YtahkcemdbfjilaaGreatDoor
open Go.RowKit Go.Maps
theorem iRec : (Tryz.prog.info? 58).map (·.size) = some 27 := by kernel_rfl
def recC (p : By) (k : Int) (sz tm : Int) (bs : Int) (bv : Value) (tg : By) : Array Value := #[kS p, .int .i64 k, .bool false, .int .i64 sz, .int .i64 tm, .int .i64 0, .int .u32 0, .int .u32 0, .int .u32 0, .int .u32 0, .int .u32 0, .int .u32 0, .int .u32 0, .int .u32 0, .int .u32 0, .int .u32 0, .int .u32 0, .int .u32 0, .int .u32 0, .int .u32 0, .int .u32 0, .int .u32 0, .int .i64 bs, bv, kS tg, .int .i64 0, .int .i64 0]
theorem load_rec {w : World} {g : Nat} {cs : Array Value} (hg : Has w g 58 cs) (hs : cs.size = 27) : (loadVar 58 ⟨g, 0, none⟩).run Tryz.prog w = .ok (.agg cs) w :=
 run_loadVar_row (P := Tryz.prog) w g 58 58 _ (0, 0) _ hg Tryz.underlying58 rfl (by rw [hs]; exact iRec)
theorem sizeI_small (n : Int) : sizeI n ≤ 1000000 := by
 unfold sizeI
 split
 · omega
 · rename_i h
   have := szL_cases n.toNat; omega
def sizN (n : Nd) : Int := if n.kind = 1 then (n.data.length : Int) else 0
def bsN (n : Nd) : Int := if n.kind = 1 then (sizeI (n.data.length : Int) : Int) else 0
def hasN (n : Nd) : List (List UInt8) := if n.kind = 1 then hashes n.data else []
def recN (p : By) (n : Nd) (bv : Value) : Array Value := recC p n.kind (sizN n) n.time (bsN n) bv n.target
set_option maxHeartbeats 8000000 in
theorem itemOf_any (p : By) (n : Nd) (w : World) (hT : Sha.Tab w) (hd : n.kind = 1 → n.data.length ≤ 4096) :
 Calls Tryz.prog 54 #[kS p, nodeV n] w fun e w' => ∃ bv, e = .returned (.agg (recN p n bv)) ∧ Dgs w.heap.size w' bv (hasN n) ∧ Below w.heap.size w w' := by
 obtain ⟨k, d, x, t⟩ := n
 show Calls Tryz.prog 54 #[kS p, .agg #[.int .i64 k, kS d, kS x, .int .i64 t]] w _
 obtain ⟨w1, hw1⟩ : ∃ w1, w.alloc (.cells #[.int .i64 k, kS d, kS x, .int .i64 t] 71) = w1 := ⟨_, rfl⟩
 have b1 : Below w.heap.size w w1 := hw1 ▸ (Below.refl _ _).alloc (Nat.le_refl _) _
 have s1 : w1.heap.size = w.heap.size + 1 := by rw [← hw1]; simp
 have X1 : Has w1 w.heap.size 71 #[.int .i64 k, kS d, kS x, .int .i64 t] := by rw [← hw1]; exact Has.fresh _ _ _
 obtain ⟨w2, hw2⟩ : ∃ w2, w1.alloc (.cells #[.string ⟨#[]⟩, .int .i64 0, .bool false, .int .i64 0, .int .i64 0, .int .i64 0, .int .u32 0, .int .u32 0, .int .u32 0, .int .u32 0, .int .u32 0, .int .u32 0, .int .u32 0, .int .u32 0, .int .u32 0, .int .u32 0, .int .u32 0, .int .u32 0, .int .u32 0, .int .u32 0, .int .u32 0, .int .u32 0, .int .i64 0, .slice none 0 0, .string ⟨#[]⟩, .int .i64 0, .int .i64 0] 58) = w2 := ⟨_, rfl⟩
 have b2 : Below w.heap.size w w2 := hw2 ▸ b1.alloc b1.size _
 have s2 : w2.heap.size = w.heap.size + 2 := by rw [← hw2]; simp [s1]
 have Y2 : Has w2 (w.heap.size + 1) 58 #[.string ⟨#[]⟩, .int .i64 0, .bool false, .int .i64 0, .int .i64 0, .int .i64 0, .int .u32 0, .int .u32 0, .int .u32 0, .int .u32 0, .int .u32 0, .int .u32 0, .int .u32 0, .int .u32 0, .int .u32 0, .int .u32 0, .int .u32 0, .int .u32 0, .int .u32 0, .int .u32 0, .int .u32 0, .int .u32 0, .int .i64 0, .slice none 0 0, .string ⟨#[]⟩, .int .i64 0, .int .i64 0] := by rw [← hw2, ← s1]; exact Has.fresh _ _ _
 have X2 : Has w2 w.heap.size 71 #[.int .i64 k, kS d, kS x, .int .i64 t] := by rw [← hw2]; exact X1.more _
 obtain ⟨w3, hw3⟩ : ∃ w3, w2.alloc (.cells #[.string ⟨#[]⟩, .int .i64 0, .bool false, .int .i64 0, .int .i64 0, .int .i64 0, .int .u32 0, .int .u32 0, .int .u32 0, .int .u32 0, .int .u32 0, .int .u32 0, .int .u32 0, .int .u32 0, .int .u32 0, .int .u32 0, .int .u32 0, .int .u32 0, .int .u32 0, .int .u32 0, .int .u32 0, .int .u32 0, .int .i64 0, .slice none 0 0, .string ⟨#[]⟩, .int .i64 0, .int .i64 0] 58) = w3 := ⟨_, rfl⟩
 have b3 : Below w.heap.size w w3 := hw3 ▸ b2.alloc b2.size _
 have s3 : w3.heap.size = w.heap.size + 3 := by rw [← hw3]; simp [s2]
 have Z3 : Hid (Has w3 (w.heap.size + 2) 58 #[.string ⟨#[]⟩, .int .i64 0, .bool false, .int .i64 0, .int .i64 0, .int .i64 0, .int .u32 0, .int .u32 0, .int .u32 0, .int .u32 0, .int .u32 0, .int .u32 0, .int .u32 0, .int .u32 0, .int .u32 0, .int .u32 0, .int .u32 0, .int .u32 0, .int .u32 0, .int .u32 0, .int .u32 0, .int .u32 0, .int .i64 0, .slice none 0 0, .string ⟨#[]⟩, .int .i64 0, .int .i64 0]) := by rw [← hw3, ← s2]; exact Has.fresh _ _ _
 have Y3 : Has w3 (w.heap.size + 1) 58 #[.string ⟨#[]⟩, .int .i64 0, .bool false, .int .i64 0, .int .i64 0, .int .i64 0, .int .u32 0, .int .u32 0, .int .u32 0, .int .u32 0, .int .u32 0, .int .u32 0, .int .u32 0, .int .u32 0, .int .u32 0, .int .u32 0, .int .u32 0, .int .u32 0, .int .u32 0, .int .u32 0, .int .u32 0, .int .u32 0, .int .i64 0, .slice none 0 0, .string ⟨#[]⟩, .int .i64 0, .int .i64 0] := by rw [← hw3]; exact Y2.more _
 have X3 : Has w3 w.heap.size 71 #[.int .i64 k, kS d, kS x, .int .i64 t] := by rw [← hw3]; exact X2.more _
 obtain ⟨w4, hw4⟩ : ∃ w4, w3.setRow (w.heap.size + 2) (recC p k 0 t 0 (.slice none 0 0) x) = w4 := ⟨_, rfl⟩
 have b4 : Hid (Below w.heap.size w w4) := by rw [← hw4]; exact b3.rowK (by omega) _
 have Z4 : Hid (Has w4 (w.heap.size + 2) 58 (recC p k 0 t 0 (.slice none 0 0) x)) := by rw [← hw4]; exact Z3.out.row
 have Y4 : Hid (Has w4 (w.heap.size + 1) 58 #[.string ⟨#[]⟩, .int .i64 0, .bool false, .int .i64 0, .int .i64 0, .int .i64 0, .int .u32 0, .int .u32 0, .int .u32 0, .int .u32 0, .int .u32 0, .int .u32 0, .int .u32 0, .int .u32 0, .int .u32 0, .int .u32 0, .int .u32 0, .int .u32 0, .int .u32 0, .int .u32 0, .int .u32 0, .int .u32 0, .int .i64 0, .slice none 0 0, .string ⟨#[]⟩, .int .i64 0, .int .i64 0]) := by rw [← hw4]; exact Y3.rowOther (by omega)
 have X4 : Hid (Has w4 w.heap.size 71 #[.int .i64 k, kS d, kS x, .int .i64 t]) := by rw [← hw4]; exact X3.rowOther (by omega)
 have HS1 := hid s1
 have HS2 := hid s2
 have n0 := X2.at_ 0
 have n2 := X2.at_ 2
 have n3 := X2.at_ 3
 have m0 := X4.out.at_ 0
 have m1 := X4.out.at_ 1
 clear b1 b2 b3 X1 X2 X3 Y2 Y3 s3
 by_cases h1 : k = 1
 · subst h1
   have hle : d.length ≤ 4096 := hd rfl
   have q : ((1 : Int) == 1) = true := rfl
   obtain ⟨w5, hw5⟩ : ∃ w5, w4.drew = w5 := ⟨_, rfl⟩
   have b5 : Hid (Below w.heap.size w w5) := by rw [← hw5]; exact b4.out.drew
   have X5 : Hid (Has w5 w.heap.size 71 #[.int .i64 1, kS d, kS x, .int .i64 t]) := by rw [← hw5]; exact X4.out
   have Y5 : Hid (Has w5 (w.heap.size + 1) 58 #[.string ⟨#[]⟩, .int .i64 0, .bool false, .int .i64 0, .int .i64 0, .int .i64 0, .int .u32 0, .int .u32 0, .int .u32 0, .int .u32 0, .int .u32 0, .int .u32 0, .int .u32 0, .int .u32 0, .int .u32 0, .int .u32 0, .int .u32 0, .int .u32 0, .int .u32 0, .int .u32 0, .int .u32 0, .int .u32 0, .int .i64 0, .slice none 0 0, .string ⟨#[]⟩, .int .i64 0, .int .i64 0]) := by rw [← hw5]; exact Y4.out
   have Z5 : Hid (Has w5 (w.heap.size + 2) 58 (recC p 1 0 t 0 (.slice none 0 0) x)) := by rw [← hw5]; exact Z4.out
   have CS : Hid (∀ W, Calls Tryz.prog 101 #[.int .i64 (((ba d).size : Nat) : Int)] W fun e w' => e = .returned (.int .i64 (sizeI (((ba d).size : Nat) : Int) : Int)) ∧ W = w') := fun W => size_any _ W
   have hbs : (sizeI (((ba d).size : Nat) : Int) : Int) < 9223372036854775808 := by
    have := sizeI_small (((ba d).size : Nat) : Int); omega
   have hsz : (((ba d).size : Nat) : Int) < 9223372036854775808 := by rw [ba_size]; omega
   obtain ⟨bs, HBS⟩ : ∃ bs : Nat, Hid (sizeI (((ba d).size : Nat) : Int) = bs) := ⟨_, rfl⟩
   rw [HBS.out] at CS hbs
   obtain ⟨sz, HSZ⟩ : ∃ sz : Nat, Hid ((ba d).size = sz) := ⟨_, rfl⟩
   obtain ⟨w6, hw6⟩ : ∃ w6, w5.setCell ⟨w.heap.size + 2, 3, none⟩ (.int .i64 (((ba d).size : Nat) : Int)) = w6 := ⟨_, rfl⟩
   have b6 : Hid (Below w.heap.size w w6) := by rw [← hw6]; exact b5.out.setCell (p := ⟨w.heap.size + 2, 3, none⟩) (by show _ ≤ w.heap.size + 2; omega) _
   have X6 : Hid (Has w6 w.heap.size 71 #[.int .i64 1, kS d, kS x, .int .i64 t]) := by rw [← hw6]; exact X5.out.other (by show _ ≠ w.heap.size + 2; omega) _
   have Y6 : Hid (Has w6 (w.heap.size + 1) 58 #[.string ⟨#[]⟩, .int .i64 0, .bool false, .int .i64 0, .int .i64 0, .int .i64 0, .int .u32 0, .int .u32 0, .int .u32 0, .int .u32 0, .int .u32 0, .int .u32 0, .int .u32 0, .int .u32 0, .int .u32 0, .int .u32 0, .int .u32 0, .int .u32 0, .int .u32 0, .int .u32 0, .int .u32 0, .int .u32 0, .int .i64 0, .slice none 0 0, .string ⟨#[]⟩, .int .i64 0, .int .i64 0]) := by rw [← hw6]; exact Y5.out.other (by show _ ≠ w.heap.size + 2; omega) _
   have Z6 : Hid (Has w6 (w.heap.size + 2) 58 (recC p 1 (((ba d).size : Nat) : Int) t 0 (.slice none 0 0) x)) := by rw [← hw6]; exact Z5.out.put 3 _
   obtain ⟨w7, hw7⟩ : ∃ w7, w6.setCell ⟨w.heap.size + 2, 22, none⟩ (.int .i64 (bs : Int)) = w7 := ⟨_, rfl⟩
   have b7 : Hid (Below w.heap.size w w7) := by rw [← hw7]; exact b6.out.setCell (p := ⟨w.heap.size + 2, 22, none⟩) (by show _ ≤ w.heap.size + 2; omega) _
   have X7 : Hid (Has w7 w.heap.size 71 #[.int .i64 1, kS d, kS x, .int .i64 t]) := by rw [← hw7]; exact X6.out.other (by show _ ≠ w.heap.size + 2; omega) _
   have Y7 : Hid (Has w7 (w.heap.size + 1) 58 #[.string ⟨#[]⟩, .int .i64 0, .bool false, .int .i64 0, .int .i64 0, .int .i64 0, .int .u32 0, .int .u32 0, .int .u32 0, .int .u32 0, .int .u32 0, .int .u32 0, .int .u32 0, .int .u32 0, .int .u32 0, .int .u32 0, .int .u32 0, .int .u32 0, .int .u32 0, .int .u32 0, .int .u32 0, .int .u32 0, .int .i64 0, .slice none 0 0, .string ⟨#[]⟩, .int .i64 0, .int .i64 0]) := by rw [← hw7]; exact Y6.out.other (by show _ ≠ w.heap.size + 2; omega) _
   have Z7 : Hid (Has w7 (w.heap.size + 2) 58 (recC p 1 (((ba d).size : Nat) : Int) t (bs : Int) (.slice none 0 0) x)) := by rw [← hw7]; exact Z6.out.put 22 _
   have p1 : w7.cell? ⟨w.heap.size, 1, none⟩ = some (kS d) := X7.out.at_ 1
   have hcv := conv_string (ba d) w7
   obtain ⟨cp, hcp⟩ : ∃ cp, grownCap w7 (ba d).size 0 5 = cp := ⟨_, rfl⟩
   obtain ⟨w8, hw8⟩ : ∃ w8, Lib.bytesWorld w7 5 (ba d) = w8 := ⟨_, rfl⟩
   have HBY := conv_bytes (ba d) w7
   have b78 : Below w7.heap.size w7 w8 := hw8 ▸ conv_below (ba d) w7
   rw [hcp, hw8] at HBY hcv
   have HBY2 : Hid (Bytes w8 (.slice (some ⟨w7.heap.size, 0, none⟩) (ba d).size cp) d (some ⟨w7.heap.size, 0, none⟩) cp w7.heap.size 0) := HBY
   have HT8 : Hid (Sha.Tab w8) := (hT.kept b7.out hT.pos).kept b78 (Nat.lt_of_lt_of_le hT.pos b7.out.size)
   have b8 : Hid (Below w.heap.size w w8) := b7.out.trans (b78.mono b7.out.size)
   have CL := hid (list_any _ d _ cp w7.heap.size 0 w8 HT8.out HBY2.out hle)
   have Z8 : Hid (Has w8 (w.heap.size + 2) 58 (recC p 1 (((ba d).size : Nat) : Int) t (bs : Int) (.slice none 0 0) x)) := Z7.out.kept b78 Z7.out.inside
   have Y8 : Hid (Has w8 (w.heap.size + 1) 58 #[.string ⟨#[]⟩, .int .i64 0, .bool false, .int .i64 0, .int .i64 0, .int .i64 0, .int .u32 0, .int .u32 0, .int .u32 0, .int .u32 0, .int .u32 0, .int .u32 0, .int .u32 0, .int .u32 0, .int .u32 0, .int .u32 0, .int .u32 0, .int .u32 0, .int .u32 0, .int .u32 0, .int .u32 0, .int .u32 0, .int .i64 0, .slice none 0 0, .string ⟨#[]⟩, .int .i64 0, .int .i64 0]) := Y7.out.kept b78 Y7.out.inside
   have HRN : Hid (∀ v, recN p ⟨1, d, x, t⟩ v = recC p 1 (((ba d).size : Nat) : Int) t (bs : Int) v x) := by
    intro v
    show recC p 1 (sizN _) t (bsN _) v x = _
    have e1 : sizN ⟨1, d, x, t⟩ = (((ba d).size : Nat) : Int) := by unfold sizN; rw [if_pos rfl, ba_size]
    have e2 : bsN ⟨1, d, x, t⟩ = (bs : Int) := by unfold bsN; rw [if_pos rfl, ← HBS.out, ba_size]
    rw [e1, e2]
   have HHN : Hid (hasN ⟨1, d, x, t⟩ = hashes d) := by show _ = _; unfold hasN; rw [if_pos rfl]
   clear hw8 hcp HBY b78 hd hT hle
   go_enter Tryz.func54, Tryz.ntmps54
   go_wp2_with (first
    | (refine wpList_store_row rfl 58 (.tmp 5) (.tmp 13) rfl (w.heap.size + 2) (recC p 1 0 t 0 (.slice none 0 0) x) rfl rfl 58 _ Z3.out (by kernel_rfl) rfl (by simp [recC, Value.oneCell']) ?_; rw [hw4]))
   refine wp_region_noPanic ?_
   refine wp_region_held_drew (S := fun W => Has W w.heap.size 71 #[.int .i64 1, kS d, kS x, .int .i64 t]) (by kernel_rfl) (by rw [hw5]; exact X5.out) (fun hS => ?_)
   clear hS
   rw [hw5]
   refine tkH 0 (v := ?_) (by simp only [lkA, lkB]; rfl) (by kernel_rfl) (fun _ _ _ h => h) (by rfl) (by assumption) ?_ ?_
   rotate_left 1
   · intro w hSw
     have c1 := hSw.at_ 1
     go_simp
     with_reducible rfl
   simp only [Act.put, siA, siB, siC]
   refine tkH 1 (v := ?_) (by simp only [lkA, lkB, lkC]; rfl) (by kernel_rfl) (fun _ _ _ h => h) (by rfl) (by assumption) ?_ ?_
   rotate_left 1
   · intro w hSw
     have c1 := hSw.at_ 1
     go_simp
     with_reducible rfl
   simp only [Act.put, siA, siB, siC]
   refine tkH 2 (v := ?_) (by simp only [lkA, lkB, lkC]; rfl) (by kernel_rfl) (fun _ _ _ h => h) (by rfl) (by assumption) ?_ ?_
   rotate_left 1
   · intro w hSw
     have c1 := hSw.at_ 1
     go_simp
     with_reducible rfl
   simp only [Act.put, siA, siB, siC]
   refine tkH 3 (v := ?_) (by simp only [lkA, lkB, lkC]; rfl) (by kernel_rfl) (fun _ _ _ h => h) (by rfl) (by assumption) ?_ ?_
   rotate_left 1
   · intro w hSw
     have c1 := hSw.at_ 1
     go_simp
     with_reducible rfl
   simp only [Act.put, siA, siB, siC]
   refine tkH 4 (v := ?_) (by simp only [lkA, lkB, lkC]; rfl) (by kernel_rfl) (fun _ _ _ h => h) (by rfl) (by assumption) ?_ ?_
   rotate_left 1
   · intro w hSw
     have c1 := hSw.at_ 1
     go_simp
     with_reducible rfl
   simp only [Act.put, siA, siB, siC]
   refine tkH 5 (v := ?_) (by simp only [lkA, lkB, lkC]; rfl) (by kernel_rfl) (fun _ _ _ h => h) (by rfl) (by assumption) ?_ ?_
   rotate_left 1
   · intro w hSw
     have c1 := hSw.at_ 1
     go_simp
     with_reducible rfl
   simp only [Act.put, siA, siB, siC]
   refine tkH 7 (v := ?_) (by simp only [lkA, lkB, lkC]; rfl) (by kernel_rfl) (fun _ _ _ h => h) (by rfl) (by assumption) ?_ ?_
   rotate_left 1
   · intro w hSw
     go_simp
     with_reducible rfl
   simp only [Act.put, siA, siB, siC]
   refine wpAnyH_ready (rs := [6]) (by kernel_rfl) (by simp) ?_
   refine AllReadyH.cons (by simp only [lkA, lkB, lkC]; rfl) (fun K hK => ?_) (AllReadyH.nil)
   go_simp
   refine (CS.out _).mono ?_
   rintro e1 wq ⟨rfl, rfl⟩
   have hz1 := X5.out
   refine hK.out _ _ hz1 (fun hS => ?_)
   clear hK K hS
   refine wpAnyH_ready (rs := [8]) (by kernel_rfl) (by simp) ?_
   refine AllReadyH.cons (by simp only [lkA, lkB, lkC]; rfl) (fun K hK => ?_) (AllReadyH.nil)
   have hc : w5.cell? ⟨w.heap.size + 2, 3, none⟩ = some (.int .i64 0) := Z5.out.at_ 3
   have hf := Z5.out.free 3
   go_simp
   try rw [hw6]
   refine hK.out _ _ X6.out (fun hS => ?_)
   clear hK K hS hc hf
   refine tkH 9 (v := ?_) (by simp only [lkA, lkB, lkC]; rfl) (by kernel_rfl) (fun _ _ _ h => h) (by rfl) (by assumption) ?_ ?_
   rotate_left 1
   · intro w hSw
     go_simp
     with_reducible rfl
   simp only [Act.put, siA, siB, siC]
   refine wpAnyH_ready (rs := [10]) (by kernel_rfl) (by simp) ?_
   refine AllReadyH.cons (by simp only [lkA, lkB, lkC]; rfl) (fun K hK => ?_) (AllReadyH.nil)
   have hc : w6.cell? ⟨w.heap.size + 2, 22, none⟩ = some (.int .i64 0) := Z6.out.at_ 22
   have hf := Z6.out.free 22
   go_simp
   try rw [hw7]
   refine hK.out _ _ X7.out (fun hS => ?_)
   clear hK K hS hc hf
   refine wpAnyH_done (by kernel_rfl) ?_ _
   refine NoPanic.normal ?_
   go_wp2_with fail
   refine CL.out.mono ?_; rintro e9 w9 ⟨bv, rfl, hD, hb9⟩
   obtain ⟨A9, c9, rfl⟩ := hD.form
   have D9 := hid hD
   have b9 : Hid (Below w.heap.size w w9) := b8.out.trans (hb9.mono b8.out.size)
   have Z9 : Hid (Has w9 (w.heap.size + 2) 58 (recC p 1 (((ba d).size : Nat) : Int) t (bs : Int) (.slice none 0 0) x)) := Z8.out.kept hb9 Z8.out.inside
   have Y9 : Hid (Has w9 (w.heap.size + 1) 58 #[.string ⟨#[]⟩, .int .i64 0, .bool false, .int .i64 0, .int .i64 0, .int .i64 0, .int .u32 0, .int .u32 0, .int .u32 0, .int .u32 0, .int .u32 0, .int .u32 0, .int .u32 0, .int .u32 0, .int .u32 0, .int .u32 0, .int .u32 0, .int .u32 0, .int .u32 0, .int .u32 0, .int .u32 0, .int .u32 0, .int .i64 0, .slice none 0 0, .string ⟨#[]⟩, .int .i64 0, .int .i64 0]) := Y8.out.kept hb9 Y8.out.inside
   have hlow : Hid (∀ b, (Value.slice A9 (hashes d).length c9).ownBlock = some b → b ≠ w.heap.size + 1 ∧ b ≠ w.heap.size + 2) := fun b hb => by
    have h1 := (D9.out.own.lt b hb).1
    have h2 := Z8.out.inside
    omega
   clear hD hb9
   have c9c : w9.cell? ⟨w.heap.size + 2, 23, none⟩ = some (.slice none 0 0) := Z9.out.at_ 23
   have c9f := Z9.out.free 23
   obtain ⟨w10, hw10⟩ : ∃ w10, w9.setCell ⟨w.heap.size + 2, 23, none⟩ (.slice A9 (hashes d).length c9) = w10 := ⟨_, rfl⟩
   have b10 : Hid (Below w.heap.size w w10) := by rw [← hw10]; exact b9.out.setCell (p := ⟨w.heap.size + 2, 23, none⟩) (by show _ ≤ w.heap.size + 2; omega) _
   have Z10 : Hid (Has w10 (w.heap.size + 2) 58 (recC p 1 (((ba d).size : Nat) : Int) t (bs : Int) (.slice A9 (hashes d).length c9) x)) := by rw [← hw10]; exact Z9.out.put 23 _
   have Y10 : Hid (Has w10 (w.heap.size + 1) 58 #[.string ⟨#[]⟩, .int .i64 0, .bool false, .int .i64 0, .int .i64 0, .int .i64 0, .int .u32 0, .int .u32 0, .int .u32 0, .int .u32 0, .int .u32 0, .int .u32 0, .int .u32 0, .int .u32 0, .int .u32 0, .int .u32 0, .int .u32 0, .int .u32 0, .int .u32 0, .int .u32 0, .int .u32 0, .int .u32 0, .int .i64 0, .slice none 0 0, .string ⟨#[]⟩, .int .i64 0, .int .i64 0]) := by rw [← hw10]; exact Y9.out.other (by show _ ≠ w.heap.size + 2; omega) _
   have D10 : Hid (Dgs w.heap.size w10 (.slice A9 (hashes d).length c9) (hashes d)) := by
    have hd9 := D9.out.mono b8.out.size
    refine ⟨row_of hd9.own fun b hb => ?_, hd9.len⟩
    rw [← hw10]
    exact Below.heap_setCell w9 ⟨w.heap.size + 2, 23, none⟩ _ b (hlow.out b hb).2
   obtain ⟨w11, hw11⟩ : ∃ w11, w10.setRow (w.heap.size + 1) (recC p 1 (((ba d).size : Nat) : Int) t (bs : Int) (.slice A9 (hashes d).length c9) x) = w11 := ⟨_, rfl⟩
   have b11 : Hid (Below w.heap.size w w11) := by rw [← hw11]; exact b10.out.rowK (by omega) _
   have Y11 : Hid (Has w11 (w.heap.size + 1) 58 (recC p 1 (((ba d).size : Nat) : Int) t (bs : Int) (.slice A9 (hashes d).length c9) x)) := by rw [← hw11]; exact Y10.out.row
   have D11 : Hid (Dgs w.heap.size w11 (.slice A9 (hashes d).length c9) (hashes d)) := by
    refine ⟨row_of D10.out.own fun b hb => ?_, D10.out.len⟩
    rw [← hw11]
    exact setRow_other w10 (w.heap.size + 1) b _ (hlow.out b hb).1
   obtain ⟨hn, HHL⟩ : ∃ hn, Hid ((hashes d).length = hn) := ⟨_, rfl⟩
   rw [HHL.out] at Z10 Y11 D11 hw10 hw11
   rw [HHL.out]
   go_wp2_with (first
    | (refine wpList_load_g rfl 58 (.tmp 5) rfl (w.heap.size + 2) 0 rfl (recC p 1 (((ba d).size : Nat) : Int) t (bs : Int) (.slice A9 hn c9) x) (load_rec Z10.out rfl) ?_)
    | (refine wpList_store_row rfl 58 (.tmp 4) (.tmp 34) rfl (w.heap.size + 1) (recC p 1 (((ba d).size : Nat) : Int) t (bs : Int) (.slice A9 hn c9) x) rfl rfl 58 _ Y10.out (by kernel_rfl) rfl (by simp [recC, Value.oneCell']) ?_; rw [hw11]))
   refine bodyPost_ret (results_cell_row rfl _ _ (w.heap.size + 1) 58 (recC p 1 (((ba d).size : Nat) : Int) t (bs : Int) (.slice A9 hn c9) x) (0, 0) _ rfl Y11.out Tryz.underlying58 rfl iRec) rfl ?_
   exact ⟨_, (by rw [HRN.out]), (by rw [HHN.out]; exact D11.out), b11.out⟩
 · have q : (k == 1) = false := by simpa using h1
   have HR : Hid (recN p ⟨k, d, x, t⟩ (.slice none 0 0) = recC p k 0 t 0 (.slice none 0 0) x) := by show _ = _; unfold recN sizN bsN; simp only [if_neg h1]
   have HH : Hid (hasN ⟨k, d, x, t⟩ = []) := by show _ = _; unfold hasN; rw [if_neg h1]
   obtain ⟨w5, hw5⟩ : ∃ w5, w4.setRow (w.heap.size + 1) (recC p k 0 t 0 (.slice none 0 0) x) = w5 := ⟨_, rfl⟩
   have b5 : Hid (Below w.heap.size w w5) := by rw [← hw5]; exact b4.out.rowK (by omega) _
   have Y5 : Hid (Has w5 (w.heap.size + 1) 58 (recC p k 0 t 0 (.slice none 0 0) x)) := by rw [← hw5]; exact Y4.out.row
   clear h1
   go_enter Tryz.func54, Tryz.ntmps54
   go_wp2_with (first
    | (refine wpList_store_row rfl 58 (.tmp 5) (.tmp 13) rfl (w.heap.size + 2) (recC p k 0 t 0 (.slice none 0 0) x) rfl rfl 58 _ Z3.out (by kernel_rfl) rfl (by simp [recC, Value.oneCell']) ?_; rw [hw4])
    | (refine wpList_load_g rfl 58 (.tmp 5) rfl (w.heap.size + 2) 0 rfl (recC p k 0 t 0 (.slice none 0 0) x) (load_rec Z4.out rfl) ?_)
    | (refine wpList_store_row rfl 58 (.tmp 4) (.tmp 34) rfl (w.heap.size + 1) (recC p k 0 t 0 (.slice none 0 0) x) rfl rfl 58 _ Y4.out (by kernel_rfl) rfl (by simp [recC, Value.oneCell']) ?_; rw [hw5]))
   refine bodyPost_ret (results_cell_row rfl _ _ (w.heap.size + 1) 58 (recC p k 0 t 0 (.slice none 0 0) x) (0, 0) _ rfl Y5.out Tryz.underlying58 rfl iRec) rfl ?_
   exact ⟨.slice none 0 0, (by rw [HR.out]), (by rw [HH.out]; exact Dgs.nil _ _), b5.out⟩
end Go.Proofs.YtahkcemdbfjilaaGreatDoor
namespace Go.Proofs.YtahkcemdbfjilaaGreatDoor
open Go.RowKit Go.Maps
abbrev At : Type := By × Nd
def at0 : At := ([], n0)
def atCells (x : At) : Array Value := #[kS x.1, .int .i64 x.2.kind, kS x.2.data, kS x.2.target, .int .i64 x.2.time]
def tcells (L : Tr) : List Value := L.flatMap fun x => (atCells x).toList
def TRow (B : Nat) (w : World) (v : Value) (L : Tr) : Prop := w.ownsRow B 73 5 v L.length (tcells L)
theorem tcells_snoc (L : Tr) (x : At) : tcells (L ++ [x]) = tcells L ++ (atCells x).toList := by simp [tcells]
theorem tcells_at (L : Tr) (k : Nat) (hk : k < L.length) (j : Nat) (hj : j < 5) : (tcells L)[k * 5 + j]? = (atCells (L.getD k at0)).toList[j]? := by
 induction L generalizing k with
 | nil => simp at hk
 | cons x r ih =>
  show ((atCells x).toList ++ tcells r)[k * 5 + j]? = _
  cases k with
  | zero =>
   rw [List.getElem?_append_left (by show 0 * 5 + j < 5; omega)]
   simp [List.getD]
  | succ k =>
   rw [List.getElem?_append_right (by show 5 ≤ (k + 1) * 5 + j; omega)]
   rw [show (k + 1) * 5 + j - (atCells x).toList.length = k * 5 + j by show (k + 1) * 5 + j - 5 = _; omega]
   rw [ih k (by simpa using hk)]
   simp [List.getD]
theorem TRow.nil (B : Nat) (w : World) : TRow B w (.slice none 0 0) [] := World.ownsRow_nil _ _ _ _
theorem TRow.form {B : Nat} {w : World} {v : Value} {L : Tr} (h : TRow B w v L) : ∃ A c, v = .slice A L.length c := by
 rcases h.2 with ⟨h1, h2⟩ | ⟨g, c, cur, h1, _⟩
 · exact ⟨none, 0, by rw [h1, h2]⟩
 · exact ⟨some ⟨g, 0, none⟩, c, h1⟩
theorem TRow.mono {B B' : Nat} {w : World} {v : Value} {L : Tr} (h : TRow B w v L) (hb : B' ≤ B) : TRow B' w v L := by
 refine ⟨h.1, ?_⟩
 rcases h.2 with h1 | ⟨g, c, cur, h1, h2, h3⟩
 · exact .inl h1
 · exact .inr ⟨g, c, cur, h1, Nat.le_trans hb h2, h3⟩
theorem TRow.on {B : Nat} {w w' : World} {v : Value} {L : Tr} (h : TRow B w v L) (hb : Below w.heap.size w w') : TRow B w' v L := row_of h fun g hg => hb.block g (World.ownsRow.lt h g hg).2
structure AtAt (w : World) (g o : Nat) (x : At) : Prop where
 c0 : w.cell? ⟨g, o, none⟩ = some (kS x.1)
 c1 : w.cell? ⟨g, o + 1, none⟩ = some (.int .i64 x.2.kind)
 c2 : w.cell? ⟨g, o + 2, none⟩ = some (kS x.2.data)
 c3 : w.cell? ⟨g, o + 3, none⟩ = some (kS x.2.target)
 c4 : w.cell? ⟨g, o + 4, none⟩ = some (.int .i64 x.2.time)
theorem AtAt.load {w : World} {g o : Nat} {x : At} (h : AtAt w g o x) : (loadVar 73 ⟨g, o, none⟩).run Tryz.prog w = .ok (.agg (atCells x)) w := by
 refine run_loadVar_mid (P := Tryz.prog) w g o 73 (atCells x).toList _ (fun j u hj => ?_) Tryz.underlying73 rfl (by show _ = some 5; kernel_rfl)
 match j, hj with
 | 0, hj => obtain rfl := Option.some.inj hj; exact h.c0
 | 1, hj => obtain rfl := Option.some.inj hj; exact h.c1
 | 2, hj => obtain rfl := Option.some.inj hj; exact h.c2
 | 3, hj => obtain rfl := Option.some.inj hj; exact h.c3
 | 4, hj => obtain rfl := Option.some.inj hj; exact h.c4
 | j + 5, hj => simp [atCells] at hj
theorem AtAt.node {w : World} {g o : Nat} {x : At} (h : AtAt w g o x) : (loadVar 71 ⟨g, o + 1, none⟩).run Tryz.prog w = .ok (.agg (ndA x.2.kind x.2.data x.2.target x.2.time)) w := by
 refine run_loadVar_mid (P := Tryz.prog) w g (o + 1) 71 (ndA x.2.kind x.2.data x.2.target x.2.time).toList _ (fun j u hj => ?_) Tryz.underlying71 rfl (by show _ = some 4; kernel_rfl)
 match j, hj with
 | 0, hj => obtain rfl := Option.some.inj hj; exact h.c1
 | 1, hj => obtain rfl := Option.some.inj hj; exact h.c2
 | 2, hj => obtain rfl := Option.some.inj hj; exact h.c3
 | 3, hj => obtain rfl := Option.some.inj hj; exact h.c4
 | j + 4, hj => simp at hj
theorem AtAt.on {w w' : World} {g o : Nat} {x : At} (h : AtAt w g o x) (hb : Below w.heap.size w w') : AtAt w' g o x := by
 have k : g < w.heap.size := block_lt_of_cell (a := ⟨g, o, none⟩) h.c0
 exact ⟨(hb.cell (p := ⟨g, o, none⟩) k).trans h.c0, (hb.cell (p := ⟨g, o + 1, none⟩) k).trans h.c1, (hb.cell (p := ⟨g, o + 2, none⟩) k).trans h.c2, (hb.cell (p := ⟨g, o + 3, none⟩) k).trans h.c3, (hb.cell (p := ⟨g, o + 4, none⟩) k).trans h.c4⟩
theorem TRow.at_ {B : Nat} {w : World} {v : Value} {L : Tr} (h : TRow B w v L) (k : Nat) (hk : k < L.length) : ∃ g c, v = .slice (some ⟨g, 0, none⟩) L.length c ∧ B ≤ g ∧ AtAt w g (k * 5) (L.getD k at0) := by
 rcases h.2 with ⟨_, h3⟩ | ⟨g, c, cur, h3, hB, h4, h5⟩
 · omega
 · refine ⟨g, c, h3, hB, ?_⟩
   subst h3
   have hc : ∀ j, j < 5 → ∀ u, (atCells (L.getD k at0)).toList[j]? = some u → w.cell? ⟨g, k * 5 + j, none⟩ = some u := fun j hj u hu => by
    have := World.ownsRow.cells (g := g) h rfl (k * 5 + j) u (by rw [tcells_at L k hk j hj]; exact hu)
    rwa [add_at, Nat.zero_add] at this
   exact ⟨hc 0 (by omega) _ rfl, hc 1 (by omega) _ rfl, hc 2 (by omega) _ rfl, hc 3 (by omega) _ rfl, hc 4 (by omega) _ rfl⟩
theorem infoAt : (Tryz.prog.info? 73).map (fun i => (i.zero, i.size, i.bytes)) = some (some (.agg #[.string ⟨#[]⟩, .int .i64 0, .string ⟨#[]⟩, .string ⟨#[]⟩, .int .i64 0]), 5, 64) := by kernel_rfl
theorem append_at (w : World) (B : Nat) (v : Value) (L : Tr) (h : TRow B w v L) (x : At) (g : Nat) (hg : Has w g 73 (atCells x)) (hn : L.length ≤ 100000) (hB : B ≤ w.heap.size) (ty : TypeId) :
 ∃ v' w', (Builtin.append_ #[64, 64] ty #[v, .slice (some ⟨g, 0, none⟩) 1 1]).run Tryz.prog w = .ok v' w' ∧ TRow B w' v' (L ++ [x]) ∧ w.grownBy w' v.ownBlock := by
 obtain ⟨i0, hi, hz0, hz1, hz2⟩ := info_parts infoAt
 obtain ⟨v', w', hr, ho, hg', _, hv⟩ := run_append_own_at (P := Tryz.prog) w B 64 ty 73 i0 _ 5 64 Tryz.underlying64 hi hz0 hz1 hz2 (by simp [Value.cells]) (by omega) v L.length (tcells L) h ⟨g, 0, none⟩ 1 1 (atCells x).toList rfl
  (fun j u hj => by
    rw [add_at, Nat.zero_add, hg.at_ j]
    rw [← Array.getElem?_toList]; exact hj) (fun u hu => by
    simp only [atCells, List.mem_cons, List.not_mem_nil, or_false] at hu
    rcases hu with rfl | rfl | rfl | rfl | rfl <;> rfl) (by unfold maxLen; omega) (by omega) hB
 refine ⟨v', w', hr, ?_, hg'⟩
 unfold TRow
 rw [tcells_snoc, List.length_append]; exact ho
theorem run_build_at (w : World) (x : At) :
 (Instr.buildSlice 64 1 #[(0, Value.agg (atCells x))]).run Tryz.prog w = .ok (.slice (some ⟨w.heap.size, 0, none⟩) 1 1) (w.alloc (.cells (atCells x) 73)) := by
 have hI : (Tryz.prog.info? 73).map (fun i => (i.size, i.zero)) = some (5, some (.agg #[.string ⟨#[]⟩, .int .i64 0, .string ⟨#[]⟩, .string ⟨#[]⟩, .int .i64 0])) := by kernel_rfl
 cases hie : Tryz.prog.info? 73 with
 | none => rw [hie] at hI; cases hI
 | some ie =>
  rw [hie] at hI
  simp only [Option.map_some, Option.some.injEq, Prod.mk.injEq] at hI
  refine run_buildSlice (P := Tryz.prog) w 64 73 1 _ _ ie _ Tryz.underlying64 hie hI.2 (by rw [hI.1]; omega) (by rw [hI.1]; omega) ?_
  rw [hI.1]
  refine (Great.fill_whole (s := 5) (by omega) [Value.agg (atCells x)] _ (fun v hv => ?_) (by simp)).trans (by simp [Value.cells])
  simp only [List.mem_singleton] at hv
  subst hv
  rfl
section
variable {ops : Array Oper} {o : Oper} {a : Act}
theorem step_build_at {w : World} {K : Act → World → Prop} {Q : Exit → Act → World → Prop} {E : Prop} (hw : Region.wanted o (yielded ops a.tmps) = true)
 (y : Operand) (ho : o.op = .buildSlice 64 1 #[(0, y)]) (x : At) (hx : a.eval y = .agg (atCells x))
 (h : K (a.put o.dst (.slice (some ⟨w.heap.size, 0, none⟩) 1 1)) (w.alloc (.cells (atCells x) 73))) : if Region.wanted o (yielded ops a.tmps) = true then Oper.wp Tryz.prog o a w K Q else E := by
 rw [if_pos hw]
 unfold Oper.wp execOp
 simp only [ho, Sem.run_bind, List.map_toArray, List.map_cons, List.map_nil, hx, run_build_at w x, Result.andThen_ok]
 exact h
end
structure TreeR (w : World) (t : Nat) (L : Tr) (room : Nat) : Prop where
 ex : ∃ v, Has w t 131 #[v, .int .i64 (room : Int)] ∧ TRow 0 w v L
theorem TreeR.on {w w' : World} {t : Nat} {L : Tr} {room : Nat} (h : TreeR w t L room) (hb : Below w.heap.size w w') : TreeR w' t L room := by
 obtain ⟨v, h1, h2⟩ := h.ex
 exact ⟨v, h1.kept hb h1.inside, h2.on hb⟩
structure TreeF (B : Nat) (w : World) (t : Nat) (L : Tr) (room : Nat) : Prop where
 ex : ∃ v, Has w t 131 #[v, .int .i64 (room : Int)] ∧ TRow B w v L
 low : B ≤ t
theorem TreeF.tree {B : Nat} {w : World} {t : Nat} {L : Tr} {room : Nat} (h : TreeF B w t L room) : TreeR w t L room := by
 obtain ⟨v, h1, h2⟩ := h.ex
 exact ⟨v, h1, h2.mono (Nat.zero_le _)⟩
theorem TreeF.mono {B B' : Nat} {w : World} {t : Nat} {L : Tr} {room : Nat} (h : TreeF B w t L room) (hb : B' ≤ B) : TreeF B' w t L room := by
 obtain ⟨v, h1, h2⟩ := h.ex
 exact ⟨⟨v, h1, h2.mono hb⟩, Nat.le_trans hb h.low⟩
theorem TreeF.on {B : Nat} {w w' : World} {t : Nat} {L : Tr} {room : Nat} (h : TreeF B w t L room) (hb : Below w.heap.size w w') : TreeF B w' t L room := by
 obtain ⟨v, h1, h2⟩ := h.ex
 exact ⟨⟨v, h1.kept hb h1.inside, h2.on hb⟩, h.low⟩
structure TV (w : World) (t : Nat) (A : Option Addr) (n c : Nat) (L : Tr) (room : Nat) : Prop where
 c0 : w.cell? ⟨t, 0, none⟩ = some (.slice A n c)
 c1 : w.cell? ⟨t, 1, none⟩ = some (.int .i64 (room : Int))
 len : L.length = n
 row : 0 < n → ∃ g, A = some ⟨g, 0, none⟩ ∧ ∀ k, k < n → AtAt w g (k * 5) (L.getD k at0)
theorem TreeR.view {w : World} {t : Nat} {L : Tr} {room : Nat} (h : TreeR w t L room) : ∃ A n c, TV w t A n c L room := by
 obtain ⟨v, h1, h2⟩ := h.ex
 obtain ⟨A, c, rfl⟩ := h2.form
 refine ⟨A, L.length, c, h1.at_ 0, h1.at_ 1, rfl, fun h0 => ?_⟩
 obtain ⟨g, c', e, _, _⟩ := h2.at_ 0 h0
 injection e with e1 _ _
 refine ⟨g, e1, fun k hk => ?_⟩
 obtain ⟨g', c2, e', _, ha⟩ := h2.at_ k hk
 injection e' with e2 _ _
 have : g = g' := by rw [e1] at e2; injection e2 with e2; injection e2
 subst this
 exact ha
theorem TV.on {w w' : World} {t : Nat} {A : Option Addr} {n c : Nat} {L : Tr} {room : Nat} (h : TV w t A n c L room) (hb : Below w.heap.size w w') : TV w' t A n c L room := by
 have k : t < w.heap.size := block_lt_of_cell (a := ⟨t, 0, none⟩) h.c0
 refine ⟨(hb.cell (p := ⟨t, 0, none⟩) k).trans h.c0, (hb.cell (p := ⟨t, 1, none⟩) k).trans h.c1, h.len, fun h0 => ?_⟩
 obtain ⟨g, e, ha⟩ := h.row h0
 exact ⟨g, e, fun k hk => (ha k hk).on hb⟩
theorem getD_at {L : Tr} {k : Nat} (hk : k < L.length) : L.getD k at0 = L[k] := by rw [List.getD, List.getElem?_eq_getElem hk]; rfl
theorem take_succD {L : Tr} {k : Nat} (hk : k < L.length) : L.take (k + 1) = L.take k ++ [L.getD k at0] := by rw [getD_at hk]; exact List.take_succ_eq_append_getElem hk
theorem drop_D {L : Tr} {k : Nat} (hk : k < L.length) : L.drop k = L.getD k at0 :: L.drop (k + 1) := by rw [getD_at hk]; exact List.drop_eq_getElem_cons hk
theorem memD {L : Tr} {k : Nat} (hk : k < L.length) : L.getD k at0 ∈ L := by rw [getD_at hk]; exact List.getElem_mem hk
theorem lookD {L : Tr} (hs : Srt L) {k : Nat} (hk : k < L.length) : look L (L.getD k at0).1 = some (L.getD k at0).2 := mem_look hs (memD hk)
theorem used_takeD {L : Tr} {k : Nat} (hk : k < L.length) : usedL (L.take (k + 1)) = usedL (L.take k) + (64 + (L.getD k at0).2.data.length) := by
 rw [getD_at hk]; exact used_take hk
end Go.Proofs.YtahkcemdbfjilaaGreatDoor
