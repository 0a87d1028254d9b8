/- path.Temp: what it answers of any text. Conditions: a world in which the listed variables lie, at most 300 bytes. -/
import Derived.Test.YtoeomghebgbniaaDoorPI
import Derived.Test.YtoeomghebgbniaaDoorSN
import Derived.Laws.IdiomStrings
import Derived.Deep.RegionHeld3
namespace Go.Proofs.YtoeomghebgbniaaDoor
open Go.RowKit
/-- The world that the calls lean on, with the table of the digests. -/
def Gr (w : World) : Prop := Gd w ∧ Sha.Tab w
theorem Gr.kept {w w' : World} (h : Gr w) (hb : Below w.heap.size w w') : Gr w' := ⟨h.1.kept hb, h.2.kept hb h.2.pos⟩
def hexL (l : List UInt8) : List UInt8 := Sha.textL (Sha.shaL l)
def tempPart (l : List UInt8) (p : List UInt8) : List UInt8 := [126, 116, 126] ++ l.take 12 ++ (hexL p).take 8
def tempL (p : List UInt8) : List UInt8 := besideL (aheadL p) (tempPart (lastP p) p)
theorem bytes_cell (s : ByteArray) (c : Nat) (w : World) (fr : Nat × Nat) (j : Nat) (hj : j < s.size) : (w.alloc (.cells (bytesRow s c) 5 fr)).cell? ⟨w.heap.size, 0 + j, none⟩ = some (.int .u8 (Sha.b8 (Sha.at8 (tl s) j))) := by
  rw [cell_of_row (w.alloc (.cells (bytesRow s c) 5 fr)) w.heap.size (0 + j) (bytesRow s c) 5 fr (heap_alloc_new w _)]
  have h2 : j < s.data.size := hj
  have h3 : j < (tl s).length := by rw [tl_length]; exact hj
  simp only [bytesRow, Nat.zero_add]
  rw [Array.getElem?_append_left (by simpa using h2)]
  simp only [Array.getElem?_map, Array.getElem?_eq_getElem h2, Option.map_some, Sha.b8, Sha.at8, List.getD, List.getElem?_eq_getElem h3, Option.getD_some]
  rfl
theorem temp_no (s : ByteArray) (h : mayB (tl s) = false) (w : World) (hG : Gd w) (hs : s.size ≤ 4000) :
    Calls Tryd.prog 5 #[.string s] w fun e w' => e = .returned (.tuple #[.string ⟨#[]⟩, .bool false]) ∧ Below w.heap.size w w' := by
  have HM := hid h
  have HG := hid hG
  clear h hG
  go_enter Tryd.func5, Tryd.ntmps5
  go_wp2_with (go_at_call 14; refine (find_no s HM.out _ HG.out hs).mono ?_; rintro e1 w1 ⟨rfl, hb1⟩; have B1 := hid hb1; clear hb1)
  go_ret2
  exact ⟨rfl, B1.out.alloc B1.out.size _⟩
set_option maxRecDepth 100000 in
set_option maxHeartbeats 1000000 in
theorem temp_yes (s : ByteArray) (h : mayB (tl s) = true) (w : World) (hG : Gr w) (hs : s.size ≤ 300) :
    Calls Tryd.prog 5 #[.string s] w fun e w' => e = .returned (.tuple #[.string (ba (tempL (tl s))), .bool true]) ∧ Below w.heap.size w w' := by
  have HG := hid hG
  obtain ⟨a, b, HV⟩ : ∃ a b, Hid (mayB (tl s) = true ∧ ba (aheadL (tl s)) = a ∧ ba (lastP (tl s)) = b) := ⟨_, _, h, rfl, rfl⟩
  have hbn : ¬ b.toList = [] := last_ne h HV.out.2.2
  have has : a.size ≤ 300 := by rw [← HV.out.2.1, ba_size]; have := aheadL_len (tl s); rw [tl_length] at this; omega
  have hbs : b.size ≤ 300 := by rw [← HV.out.2.2, ba_size]; have := lastP_len (tl s); rw [tl_length] at this; omega
  obtain ⟨hx, HX⟩ : ∃ x, Hid (Sha.shaL (tl s) = x) := ⟨_, rfl⟩
  obtain ⟨t, HT⟩ : ∃ t, Hid (ba (hexL (tl s)) = t) := ⟨_, rfl⟩
  have hts : t.size = 64 := by rw [← HT.out, ba_size]; exact Sha.textUp_len _ 32
  have CS : Hid (∀ (W : World) (bb c : Nat), Gr W → bb < W.heap.size → s.size ≤ c → (∀ j, j < s.size → W.cell? ⟨bb, 0 + j, none⟩ = some (.int .u8 (Sha.b8 (Sha.at8 (tl s) j)))) →
      Calls Tryd.prog 16 #[.slice (some ⟨bb, 0, none⟩) s.size c] W fun e w' => e = .returned (.agg (Sha.bvec hx)) ∧ Below W.heap.size W w') := by
    intro W bb c hW h1 h2 h3
    have := Sha.sum_any bb 0 s.size c (some ⟨bb, 0, none⟩) (tl s) W hW.2 h1 (tl_length s) h2 (by omega) h3 (fun _ => rfl)
    rw [HX.out] at this; exact this
  have CT : Hid (∀ W, Calls Tryd.prog 15 #[.agg (Sha.bvec hx)] W fun e w' => e = .returned (.string t) ∧ Below W.heap.size W w') := by
    intro W
    have := Sha.text_any hx (by rw [← HX.out]; exact Sha.fin_len _) W
    rw [← HT.out, hexL, HX.out]; exact this
  have HCV := fun w : World => run_bytes_of_string (P := Tryd.prog) w 9 36 5 s Tryd.underlying9 Tryd.underlying36 Tryd.underlying5
  obtain ⟨x, HX2⟩ : ∃ x, Hid (ba ((tl b).take 12) = x) := ⟨_, rfl⟩
  have hxs : x.size ≤ 12 := by rw [← HX2.out, ba_size, List.length_take]; omega
  obtain ⟨y, HY⟩ : ∃ y, Hid (ba ((tl t).take 8) = y) := ⟨_, rfl⟩
  have hys : y.size ≤ 8 := by rw [← HY.out, ba_size, List.length_take]; omega
  have F1 : Hid (∀ W, Calls Tryd.prog 18 #[.string b, .int .i64 12] W fun e w' => e = .returned (.string x) ∧ w' = W) := by
    intro W; rw [← HX2.out]; exact (first_any b 12 W (by omega) (by omega) (by omega)).mono fun _ _ ⟨p, q⟩ => ⟨p, q.symm⟩
  have F2 : Hid (∀ W, Calls Tryd.prog 18 #[.string t, .int .i64 8] W fun e w' => e = .returned (.string y) ∧ w' = W) := by
    intro W; rw [← HY.out]; exact (first_any t 8 W (by omega) (by omega) (by omega)).mono fun _ _ ⟨p, q⟩ => ⟨p, q.symm⟩
  have z1 : ¬ 9223372036854775807 < 3 + x.size := by omega
  have z2 : ¬ 9223372036854775807 < 3 + x.size + y.size := by omega
  clear h hG
  by_cases ha : a.toList = []
  all_goals
    go_enter Tryd.func5, Tryd.ntmps5
    go_wp2_with fail
    refine (find_yes s a b HV _ HG.out.1 (by omega)).mono ?_; rintro e1 w1 ⟨rfl, hb1⟩; have B1 := hid hb1; clear hb1
    have A1 : Hid (Has (w1.alloc (.cells #[.string a, .string b] 30)) w1.heap.size 30 #[.string a, .string b]) := Has.fresh _ _ _
    have B2 : Hid (Below w.heap.size w (w1.alloc (.cells #[.string a, .string b] 30))) := B1.out.alloc B1.out.size _
    go_wp2_with fail
    have K1 : Hid (∀ c fr, ∀ j, j < s.size → (((w1.alloc (.cells #[.string a, .string b] 30)).alloc (.cells (bytesRow s c) 5 fr)).drew).cell? ⟨w1.heap.size + 1, 0 + j, none⟩ = some (.int .u8 (Sha.b8 (Sha.at8 (tl s) j)))) := by
      intro c fr j hj
      have := bytes_cell s c (w1.alloc (.cells #[.string a, .string b] 30)) fr j hj
      simpa using this
    have K2 : Hid (∀ c fr, Gr (((w1.alloc (.cells #[.string a, .string b] 30)).alloc (.cells (bytesRow s c) 5 fr)).drew)) := fun c fr => HG.out.kept ((B2.out.alloc B2.out.size _).drew)
    have K3 : Hid (∀ c fr, w1.heap.size + 1 < (((w1.alloc (.cells #[.string a, .string b] 30)).alloc (.cells (bytesRow s c) 5 fr)).drew).heap.size) := by intro c fr; simp
    have K4 : Hid (∀ c fr, Below w.heap.size w (((w1.alloc (.cells #[.string a, .string b] 30)).alloc (.cells (bytesRow s c) 5 fr)).drew)) := fun c fr => (B2.out.alloc B2.out.size _).drew
    have K5 : Hid (∀ c fr, Has (((w1.alloc (.cells #[.string a, .string b] 30)).alloc (.cells (bytesRow s c) 5 fr)).drew) w1.heap.size 30 #[.string a, .string b]) := fun c fr => Has.drawn (A1.out.more _) 1
    refine (CS.out _ _ _ (K2.out _ _) (K3.out _ _) (grownCap_ge _ _ _ _) (K1.out _ _)).mono ?_; rintro e2 w2 ⟨rfl, hb2⟩
    have B3 : Hid (Below w.heap.size w w2) := (K4.out _ _).trans (hb2.mono (K4.out _ _).size)
    have A3 : Hid (Has w2 w1.heap.size 30 #[.string a, .string b]) := (K5.out _ _).kept hb2 (K5.out _ _).inside
    clear hb2
    go_wp2_with fail
    refine (CT.out _).mono ?_; rintro e3 w3 ⟨rfl, hb3⟩
    have B4 : Hid (Below w.heap.size w w3) := B3.out.trans (hb3.mono B3.out.size)
    have A4 : Hid (Has w3 w1.heap.size 30 #[.string a, .string b]) := A3.out.kept hb3 A3.out.inside
    have c0 : w3.cell? ⟨w1.heap.size, 0, none⟩ = some (.string a) := A4.out.at_ 0
    have c1 : w3.cell? ⟨w1.heap.size, 1, none⟩ = some (.string b) := A4.out.at_ 1
    have s0 : w3.drew.cell? ⟨w1.heap.size, 0, none⟩ = some (.string a) ∧ w3.drew.cell? ⟨w1.heap.size, 1, none⟩ = some (.string b) := ⟨c0, c1⟩
    have B5 : Hid (Below w.heap.size w w3.drew) := B4.out.drewN' 1
    clear hb3
    go_wp2
    refine wp_region_noPanic ?_
    refine wp_region_held_drew (S := fun w' => w'.cell? ⟨w1.heap.size, 0, none⟩ = some (.string a) ∧ w'.cell? ⟨w1.heap.size, 1, none⟩ = some (.string b)) (by kernel_rfl) s0 (fun hS => ?_)
    refine wpAnyH_take (i := 0) (v := ?_) (by simp only [List.getElem?_toArray, List.getElem?_cons_zero]; rfl) (by kernel_rfl) (by kernel_rfl) (by kernel_rfl) (fun _ _ _ h => h) (Or.inl ⟨by rfl, ?_⟩) (by assumption) ?_
    rotate_left 1
    · intro w hSw
      (try dsimp only at hSw)
      go_simp
      with_reducible rfl
    simp only [Act.put, List.setIfInBounds_toArray, List.set_cons_zero, List.set_cons_succ]
    refine wpAnyH_take (i := 1) (v := ?_) (by simp only [List.getElem?_toArray, List.getElem?_cons_zero, List.getElem?_cons_succ]; rfl) (by kernel_rfl) (by kernel_rfl) (by kernel_rfl) (fun _ _ _ h => h) (Or.inl ⟨by rfl, ?_⟩) (by assumption) ?_
    rotate_left 1
    · intro w hSw
      (try dsimp only at hSw)
      go_simp
      with_reducible rfl
    simp only [Act.put, List.setIfInBounds_toArray, List.set_cons_zero, List.set_cons_succ]
    refine wpAnyH_take (i := 2) (v := ?_) (by simp only [List.getElem?_toArray, List.getElem?_cons_zero, List.getElem?_cons_succ]; rfl) (by kernel_rfl) (by kernel_rfl) (by kernel_rfl) (fun _ _ _ h => h) (Or.inl ⟨by rfl, ?_⟩) (by assumption) ?_
    rotate_left 1
    · intro w hSw
      (try dsimp only at hSw)
      go_simp
      with_reducible rfl
    simp only [Act.put, List.setIfInBounds_toArray, List.set_cons_zero, List.set_cons_succ]
    refine wpAnyH_take (i := 5) (v := ?_) (by simp only [List.getElem?_toArray, List.getElem?_cons_zero, List.getElem?_cons_succ]; rfl) (by kernel_rfl) (by kernel_rfl) (by kernel_rfl) (fun _ _ _ h => h) (Or.inl ⟨by rfl, ?_⟩) (by assumption) ?_
    rotate_left 1
    · intro w hSw
      (try dsimp only at hSw)
      go_simp
      with_reducible rfl
    simp only [Act.put, List.setIfInBounds_toArray, List.set_cons_zero, List.set_cons_succ]
    refine wpAnyH_ready (rs := [3]) (by kernel_rfl) (by simp) ?_
    refine AllReadyH.cons (by simp only [List.getElem?_toArray, List.getElem?_cons_zero, List.getElem?_cons_succ]; rfl) (fun K hK => ?_) AllReadyH.nil
    go_simp
    refine (F1.out _).mono ?_
    rintro e4 w4 ⟨rfl, rfl⟩
    refine hK.out _ _ s0 (fun hS => ?_)
    clear hK K
    refine wpAnyH_take (i := 4) (v := ?_) (by simp only [List.getElem?_toArray, List.getElem?_cons_zero, List.getElem?_cons_succ]; rfl) (by kernel_rfl) (by kernel_rfl) (by kernel_rfl) (fun _ _ _ h => h) (Or.inl ⟨by rfl, ?_⟩) (by assumption) ?_
    rotate_left 1
    · intro w hSw
      (try dsimp only at hSw)
      go_simp
      with_reducible rfl
    simp only [Act.put, List.setIfInBounds_toArray, List.set_cons_zero, List.set_cons_succ]
    refine wpAnyH_ready (rs := [6]) (by kernel_rfl) (by simp) ?_
    refine AllReadyH.cons (by simp only [List.getElem?_toArray, List.getElem?_cons_zero, List.getElem?_cons_succ]; rfl) (fun K hK => ?_) AllReadyH.nil
    go_simp
    refine (F2.out _).mono ?_
    rintro e5 w5 ⟨rfl, rfl⟩
    refine hK.out _ _ s0 (fun hS => ?_)
    clear hK K
    refine wpAnyH_take (i := 7) (v := ?_) (by simp only [List.getElem?_toArray, List.getElem?_cons_zero, List.getElem?_cons_succ]; rfl) (by kernel_rfl) (by kernel_rfl) (by kernel_rfl) (fun _ _ _ h => h) (Or.inl ⟨by rfl, ?_⟩) (by assumption) ?_
    rotate_left 1
    · intro w hSw
      (try dsimp only at hSw)
      go_simp
      with_reducible rfl
    simp only [Act.put, List.setIfInBounds_toArray, List.set_cons_zero, List.set_cons_succ]
    refine wpAnyH_ready (rs := [8]) (by kernel_rfl) (by simp) ?_
    refine AllReadyH.cons (by simp only [List.getElem?_toArray, List.getElem?_cons_zero, List.getElem?_cons_succ]; rfl) (fun K hK => ?_) AllReadyH.nil
    go_simp
    refine (beside_any a b _ _ (by omega) (by
      have k1 : (⟨#[126, 116, 126]⟩ : ByteArray).size = 3 := rfl
      simp only [ByteArray.size_append, k1]; omega)).mono ?_
    rintro e6 w6 ⟨rfl, hb6⟩
    have B6 : Hid (Below w.heap.size w w6) := B5.out.trans (hb6.mono B5.out.size)
    have A6 : Hid (Has w6 w1.heap.size 30 #[.string a, .string b]) := Has.kept (A4.out.drawn 1) hb6 A4.out.inside
    have s6 : w6.cell? ⟨w1.heap.size, 0, none⟩ = some (.string a) ∧ w6.cell? ⟨w1.heap.size, 1, none⟩ = some (.string b) := ⟨A6.out.at_ 0, A6.out.at_ 1⟩
    clear hb6
    refine hK.out _ _ s6 (fun hS => ?_)
    clear hK K
    refine wpAnyH_take (i := 9) (v := ?_) (by simp only [List.getElem?_toArray, List.getElem?_cons_zero, List.getElem?_cons_succ]; rfl) (by kernel_rfl) (by kernel_rfl) (by kernel_rfl) (fun _ _ _ h => h) (Or.inl ⟨by rfl, ?_⟩) (by assumption) ?_
    rotate_left 1
    · intro w hSw
      (try dsimp only at hSw)
      go_simp
      with_reducible rfl
    simp only [Act.put, List.setIfInBounds_toArray, List.set_cons_zero, List.set_cons_succ]
    refine wpAnyH_take (i := 10) (v := ?_) (by simp only [List.getElem?_toArray, List.getElem?_cons_zero, List.getElem?_cons_succ]; rfl) (by kernel_rfl) (by kernel_rfl) (by kernel_rfl) (fun _ _ _ h => h) (Or.inl ⟨by rfl, ?_⟩) (by assumption) ?_
    rotate_left 1
    · intro w hSw
      (try dsimp only at hSw)
      go_simp
      with_reducible rfl
    simp only [Act.put, List.setIfInBounds_toArray, List.set_cons_zero, List.set_cons_succ]
    refine wpAnyH_done (by kernel_rfl) ?_ _
    refine NoPanic.normal ?_
    go_wp2
    go_ret2
    refine ⟨ret_str2 ?_, B6.out⟩
    rw [tempL, tempPart, ← HV.out.2.1, ← HX2.out, ← HY.out, ← HT.out, ← HV.out.2.2]
    simp only [tl_ba]
    congr 2
end Go.Proofs.YtoeomghebgbniaaDoor
