/- caravanlaw12.one: one call of both links: what it does. Conditions: both links, of one state, in blocks of their own. -/
import Derived.Test.YtcfmjebnjjpajaaNP
import Derived.Test.YtcfmjebnjjpajaaNTB
namespace Go.Proofs.Ytcfmjebnjjpajaa
open Go.RowKit
/-- So many bytes lie there, and may be written. -/
def Wri (w : World) (g L : Nat) : Prop := ∃ (cs : Array Value) (lo hi : Nat), w.heap[g]? = some (.cells cs 5 (lo, hi)) ∧ L ≤ lo ∧ ∀ j, j < L → ∃ z : Int, cs[j]? = some (.int .u8 z) ∧ 0 ≤ z ∧ z ≤ 255
theorem Wri.cell {w : World} {g L : Nat} (h : Wri w g L) (j : Nat) (hj : j < L) : ∃ z : Int, w.cell? ⟨g, j, none⟩ = some (.int .u8 z) ∧ w.frozen? ⟨g, j, none⟩ = false ∧ 0 ≤ z ∧ z ≤ 255 := by
  obtain ⟨cs, lo, hi, hh, hl, hc⟩ := h
  obtain ⟨z, h1, h2, h3⟩ := hc j hj
  refine ⟨z, (cell_of_row w g j cs 5 (lo, hi) hh).trans h1, ?_, h2, h3⟩
  simp only [World.frozen?, hh]
  rw [decide_eq_false (by omega : ¬ lo ≤ j)]; rfl
theorem Wri.put {w : World} {g L : Nat} (h : Wri w g L) (j : Nat) (z : Int) (h0 : 0 ≤ z) (h1 : z ≤ 255) : Wri (w.setCell ⟨g, j, none⟩ (.int .u8 z)) g L := by
  obtain ⟨cs, lo, hi, hh, hl, hc⟩ := h
  refine ⟨cs.setIfInBounds j (.int .u8 z), lo, hi, ?_, hl, fun i hi2 => ?_⟩
  · simp [World.setCell, Array.getElem?_modify, hh]
  · obtain ⟨y, h2, h3, h4⟩ := hc i hi2
    have hlt : i < cs.size := (Array.getElem?_eq_some_iff.1 h2).1
    rw [Array.getElem?_setIfInBounds]
    by_cases e : j = i
    · subst e
      rw [if_pos rfl, if_pos hlt]
      exact ⟨z, rfl, h0, h1⟩
    · rw [if_neg e]
      exact ⟨y, h2, h3, h4⟩
theorem Wri.same {w w' : World} {g L : Nat} (h : Wri w g L) (hb : w'.heap[g]? = w.heap[g]?) : Wri w' g L := by
  obtain ⟨cs, lo, hi, hh, h2⟩ := h
  exact ⟨cs, lo, hi, hb.trans hh, h2⟩
theorem wri_of_text (s : ByteArray) (w : World) : Wri (Lib.bytesWorld w 5 s) w.heap.size s.size := by
  refine ⟨_, _, _, Lib.bytesWorld_at_new w 5 s, by simp [Lib.bytesCells], fun j hj => ?_⟩
  have h := Lib.bytesWorld_cell w 5 s j hj
  rw [cell_of_row _ _ _ _ _ _ (Lib.bytesWorld_at_new w 5 s)] at h
  refine ⟨_, h, by omega, ?_⟩
  have := (s.data.toList.getD j 0).toNat_lt
  omega
section
variable {w0 w w' : World} {p q : Nat} {xs ys : Nat → List UInt8} {e f : Nat} {o o' : Nat → Option Nat} {b b' : Nat → Nat} {y : Nat × Nat}
theorem Two.part (h : Two w0 w p q xs e o y ys f b) (ho : ∃ k, k < 2 ∧ o k = some y.1) {i : Nat} (hi : i < y.2) (v : Value) : Two w0 (w.setCell ⟨y.1, i, none⟩ v) p q xs e o y ys f b := by
  obtain ⟨h1, h2, h3, h4, h5, h6⟩ := h
  have hg := Grw.of_set y.1 i w v
  have hO : Owns p o y.1 := .inr ho
  obtain ⟨k, hk, hok⟩ := ho
  have hne : y.1 ≠ p := fun e => h1.lk.ne hk (by rw [hok, e])
  refine ⟨⟨Grw.below h1.1 hg (h1.2.2.1 k hk _ hok) h1.1.size, h1.2.1, h1.2.2.1, h1.lk.store hi hne v⟩, ?_, h3, h4, h5, h6⟩
  obtain ⟨v, k1, k2⟩ := h2
  exact ⟨v, k1.grw hg (fun e => h5 (by rw [e]; exact hO)), fun k hk => ⟨by obtain ⟨⟨A, c, i, h4⟩, _⟩ := k2 k hk; exact ⟨A, c, i, h4.grw hg (fun e => h6 k hk (by rw [e]; exact hO))⟩, (k2 k hk).2⟩⟩
theorem Kept.bytes (hk : Kept p q o b o' b' w w') {v : Value} {zs : List UInt8} {A : Option Addr} {cap bb off : Nat} (h : Bytes w v zs A cap bb off) (h0 : 0 < bb) (hf : Free p q o b bb) : Bytes w' v zs A cap bb off :=
  ⟨h.form, h.le, h.zero, fun a ha j hj => by
    have e := h.at_ a ha j hj
    have h2 := h.src (by omega)
    rw [ha] at h2
    obtain rfl := Option.some.inj h2
    rw [add_at] at e ⊢
    rw [← e]
    exact World.cell?_of_block (hk.2 bb h0 h.blk hf).1, Nat.lt_of_lt_of_le h.blk hk.1, h.src⟩
theorem Kept.cell (hk : Kept p q o b o' b' w w') {g : Nat} (i : Nat) {v : Value} (hc : w.cell? ⟨g, i, none⟩ = some v) (h0 : 0 < g) (hf : Free p q o b g) : w'.cell? ⟨g, i, none⟩ = some v :=
  (World.cell?_of_block (hk.2 g h0 (block_lt_of_cell (a := ⟨g, i, none⟩) hc) hf).1).trans hc
theorem Kept.wri (hk : Kept p q o b o' b' w w') {g L : Nat} (h : Wri w g L) (h0 : 0 < g) (hf : Free p q o b g) : Wri w' g L := by
  have hlt : g < w.heap.size := by obtain ⟨cs, lo, hi, hh, _⟩ := h; exact (Array.getElem?_eq_some_iff.1 hh).1
  exact h.same (hk.2 g h0 hlt hf).1
end
abbrev actA (x : AcT) : Array Value := #[.int .i64 x.1, .int .i64 x.2.1, .int .i64 x.2.2.1, .string x.2.2.2]
/-- What a call of 'one' leaves. -/
def OneP (w0 : World) (p q e : Nat) (w' : World) : Prop := ∃ xs' e' o' x' b', Two w0 w' p q xs' e' o' x' xs' e' b' ∧ e' ≤ e + 1
set_option maxRecDepth 100000 in
set_option maxHeartbeats 8000000 in
theorem one_send (wh en nn : Int) (sd : ByteArray) (h1 : I64 en) (hr : wh.tmod 3 = 0) (w0 w : World) (p q : Nat) (xs : Nat → List UInt8) (e : Nat) (o : Nat → Option Nat) (x : Nat × Nat) (b : Nat → Nat) (h : Two w0 w p q xs e o x xs e b) :
    Calls Try.prog 10 #[.pointer (some ⟨p, 0, none⟩), .pointer (some ⟨q, 0, none⟩), .agg (actA (wh, en, nn, sd))] w fun ex w' => ex = .returned (.bool true) ∧ OneP w0 p q e w' := by
  obtain ⟨t, ht, hct⟩ := cut_text sd 2000
  have KT := conv_string t
  have HT : Hid (t.size ≤ 2000) := ht
  have HI := hid h1
  have H0 : Hid (Two w0 (w.alloc (.cells #[.int .i64 wh, .int .i64 en, .int .i64 nn, .string sd] 31)) p q xs e o x xs e b) := h.kept ((Below.refl _ _).alloc (Nat.le_refl _) _)
  have HG : Hid (0 < w.heap.size ∧ Free p q o b w.heap.size) := ⟨Nat.lt_of_lt_of_le h.2.2.2.1 h.1.1.size, h.new (Nat.le_refl _)⟩
  have HS : Hid (w0.heap.size ≤ w.heap.size) := h.1.1.size
  have HX : Hid (Has (w.alloc (.cells #[.int .i64 wh, .int .i64 en, .int .i64 nn, .string sd] 31)) w.heap.size 31 #[.int .i64 wh, .int .i64 en, .int .i64 nn, .string sd]) := Has.fresh w 31 _
  have HZ : Hid ((w.alloc (.cells #[.int .i64 wh, .int .i64 en, .int .i64 nn, .string sd] 31)).heap.size = w.heap.size + 1) := by show _ = _; simp
  generalize hW : w.alloc (.cells #[.int .i64 wh, .int .i64 en, .int .i64 nn, .string sd] 31) = w1 at H0 HX HZ
  have c0 : w1.cell? ⟨w.heap.size, 0, none⟩ = some (.int .i64 wh) := HX.out.at_ 0
  have c1 : w1.cell? ⟨w.heap.size, 1, none⟩ = some (.int .i64 en) := HX.out.at_ 1
  have c3 : w1.cell? ⟨w.heap.size, 3, none⟩ = some (.string sd) := HX.out.at_ 3
  have HN : Hid (Free p q o b w1.heap.size) := H0.out.new (Nat.le_refl _)
  clear h ht h1
  rcases hct with ⟨rfl, hsd⟩ | ⟨hsd, e9⟩
  all_goals
    go_enter Try.func10, Try.ntmps10
    go_wp2
    obtain ⟨cp, hcp⟩ : ∃ cp, grownCap w1 t.size 0 5 = cp := ⟨_, rfl⟩
    have y2 := conv_bytes t w1
    have wr2 := wri_of_text t w1
    have b2 := conv_below t w1
    have g2 : w1.heap.size < (Lib.bytesWorld w1 5 t).heap.size := y2.blk
    rw [hcp] at y2 ⊢
    obtain ⟨W2, hW2⟩ : ∃ W2, (Lib.bytesWorld w1 5 t).drew = W2 := ⟨_, rfl⟩
    have TD : Hid (Two w0 W2 p q xs e o x xs e b) := hW2 ▸ (H0.out.kept b2).kept (Below.refl _ _).drew
    have YD : Hid (Bytes W2 (.slice (some ⟨w1.heap.size, 0, none⟩) t.size cp) (tl t) (some ⟨w1.heap.size, 0, none⟩) cp w1.heap.size 0) := hW2 ▸ y2.kept (Below.refl _ _).drew (Nat.le_refl _)
    have WD : Hid (Wri W2 w1.heap.size t.size) := hW2 ▸ wr2.same rfl
    have CD : Hid (W2.cell? ⟨w.heap.size, 1, none⟩ = some (.int .i64 en)) := by rw [← hW2]; exact (b2.cell (p := ⟨w.heap.size, 1, none⟩) (by show w.heap.size < _; rw [HZ.out]; exact Nat.lt_succ_self _)).trans c1
    have GD : Hid (w1.heap.size < W2.heap.size) := hW2 ▸ g2
    have VD : Hid ((convert 26 9 (.slice (some ⟨w1.heap.size, 0, none⟩) t.size cp)).run Try.prog W2 = .ok (.string t) W2) := by
      have := conv_back YD.out
      rw [ba_tl] at this
      exact this
    have HTL : Hid ((tl t).length ≤ 500000) := by show _ ≤ _; rw [tl_length]; have := HT.out; omega
    have H1 : Hid (0 < w1.heap.size ∧ w0.heap.size ≤ w1.heap.size) := by have := HG.out.1; have := HZ.out; have := HS.out; exact ⟨by omega, by omega⟩
    clear y2 wr2 b2 g2 hcp
    have CD0 : (Lib.bytesWorld w1 5 t).drew.cell? ⟨w.heap.size, 1, none⟩ = some (.int .i64 en) := by rw [hW2]; exact CD.out
    have VD0 : (convert 26 9 (.slice (some ⟨w1.heap.size, 0, none⟩) t.size cp)).run Try.prog (Lib.bytesWorld w1 5 t).drew = .ok (.string t) (Lib.bytesWorld w1 5 t).drew := by rw [hW2]; exact VD.out
    refine wp_region_noPanic ?_
    refine wp_region_held_drew (S := fun W => W.cell? ⟨w.heap.size, 1, none⟩ = some (.int .i64 en) ∧ (convert 26 9 (.slice (some ⟨w1.heap.size, 0, none⟩) t.size cp)).run Try.prog W = .ok (.string t) W) (by kernel_rfl) (⟨CD0, VD0⟩) (fun hS => ?_)
    refine wpAnyH_take (i := 0) (v := ?_) (by simp only [List.getElem?_toArray, List.getElem?_cons_zero]; rfl) (by kernel_rfl) (by kernel_rfl) (by kernel_rfl) (fun _ _ _ h => h) (Or.inl ⟨by rfl, ?_⟩) (by assumption) ?_
    rotate_left 1
    · intro w hSw
      go_simp
      with_reducible rfl
    simp only [Act.put, List.setIfInBounds_toArray, List.set_cons_zero, List.set_cons_succ]
    refine wpAnyH_take (i := 1) (v := ?_) (by simp only [List.getElem?_toArray, List.getElem?_cons_zero, List.getElem?_cons_succ]; rfl) (by kernel_rfl) (by kernel_rfl) (by kernel_rfl) (fun _ _ _ h => h) (Or.inl ⟨by rfl, ?_⟩) (by assumption) ?_
    rotate_left 1
    · intro w hSw
      go_simp
      with_reducible rfl
    simp only [Act.put, List.setIfInBounds_toArray, List.set_cons_zero, List.set_cons_succ]
    refine wpAnyH_take (i := 2) (v := ?_) (by simp only [List.getElem?_toArray, List.getElem?_cons_zero, List.getElem?_cons_succ]; rfl) (by kernel_rfl) (by kernel_rfl) (by kernel_rfl) (fun _ _ _ h => h) (Or.inl ⟨by rfl, ?_⟩) (by assumption) ?_
    rotate_left 1
    · intro w hSw
      have u1 := hSw.1
      go_simp
      with_reducible rfl
    simp only [Act.put, List.setIfInBounds_toArray, List.set_cons_zero, List.set_cons_succ]
    refine wpAnyH_take (i := 3) (v := ?_) (by simp only [List.getElem?_toArray, List.getElem?_cons_zero, List.getElem?_cons_succ]; rfl) (by kernel_rfl) (by kernel_rfl) (by kernel_rfl) (fun _ _ _ h => h) (Or.inl ⟨by rfl, ?_⟩) (by assumption) ?_
    rotate_left 1
    · intro w hSw
      go_simp
      with_reducible rfl
    simp only [Act.put, List.setIfInBounds_toArray, List.set_cons_zero, List.set_cons_succ]
    refine wpAnyH_take (i := 5) (v := ?_) (by simp only [List.getElem?_toArray, List.getElem?_cons_zero, List.getElem?_cons_succ]; rfl) (by kernel_rfl) (by kernel_rfl) (by kernel_rfl) (fun _ _ _ h => h) (Or.inl ⟨by rfl, ?_⟩) (by assumption) ?_
    rotate_left 1
    · intro w hSw
      go_simp
      with_reducible rfl
    simp only [Act.put, List.setIfInBounds_toArray, List.set_cons_zero, List.set_cons_succ]
    refine wpAnyH_take (i := 6) (v := ?_) (by simp only [List.getElem?_toArray, List.getElem?_cons_zero, List.getElem?_cons_succ]; rfl) (by kernel_rfl) (by kernel_rfl) (by kernel_rfl) (fun _ _ _ h => h) (Or.inl ⟨by rfl, ?_⟩) (by assumption) ?_
    rotate_left 1
    · intro w hSw
      go_simp
      with_reducible rfl
    simp only [Act.put, List.setIfInBounds_toArray, List.set_cons_zero, List.set_cons_succ]
    refine wpAnyH_take (i := 7) (v := ?_) (by simp only [List.getElem?_toArray, List.getElem?_cons_zero, List.getElem?_cons_succ]; rfl) (by kernel_rfl) (by kernel_rfl) (by kernel_rfl) (fun _ _ _ h => h) (Or.inl ⟨by rfl, ?_⟩) (by assumption) ?_
    rotate_left 1
    · intro w hSw
      have u1 := hSw.1
      go_simp
      with_reducible rfl
    simp only [Act.put, List.setIfInBounds_toArray, List.set_cons_zero, List.set_cons_succ]
    refine wpAnyH_take (i := 8) (v := ?_) (by simp only [List.getElem?_toArray, List.getElem?_cons_zero, List.getElem?_cons_succ]; rfl) (by kernel_rfl) (by kernel_rfl) (by kernel_rfl) (fun _ _ _ h => h) (Or.inl ⟨by rfl, ?_⟩) (by assumption) ?_
    rotate_left 1
    · intro w hSw
      go_simp
      with_reducible rfl
    simp only [Act.put, List.setIfInBounds_toArray, List.set_cons_zero, List.set_cons_succ]
    refine wpAnyH_take (i := 9) (v := ?_) (by simp only [List.getElem?_toArray, List.getElem?_cons_zero, List.getElem?_cons_succ]; rfl) (by kernel_rfl) (by kernel_rfl) (by kernel_rfl) (fun _ _ _ h => h) (Or.inl ⟨by rfl, ?_⟩) (by assumption) ?_
    rotate_left 1
    · intro w hSw
      have u2 := hSw.2
      go_simp
      with_reducible rfl
    simp only [Act.put, List.setIfInBounds_toArray, List.set_cons_zero, List.set_cons_succ]
    refine wpAnyH_ready (rs := [4, 10]) (by kernel_rfl) (by simp) ?_
    refine AllReadyH.cons (by simp only [List.getElem?_toArray, List.getElem?_cons_zero, List.getElem?_cons_succ]; rfl) (fun K hK => ?_) (AllReadyH.cons (by simp only [List.getElem?_toArray, List.getElem?_cons_zero, List.getElem?_cons_succ]; rfl) (fun K hK => ?_) (AllReadyH.nil))
    · simp only [hW2]
      go_simp
      refine (two_sendA en HI.out TD.out YD.out HTL.out).mono ?_
      rintro e3 w3 ⟨rfl, o3, t3, k3⟩
      have u3 := k3.cell 1 CD.out HG.out.1 HG.out.2
      have y3 := k3.bytes YD.out H1.out.1 HN.out
      have v3 : (convert 26 9 (.slice (some ⟨w1.heap.size, 0, none⟩) t.size cp)).run Try.prog w3 = .ok (.string t) w3 := by have := conv_back y3; rw [ba_tl] at this; exact this
      have wr3 := k3.wri WD.out H1.out.1 HN.out
      have fb3 : Free p q o3 b w.heap.size := (k3.2 _ HG.out.1 (block_lt_of_cell (a := ⟨w.heap.size, 1, none⟩) CD.out) HG.out.2).2
      have fo3 : Free p q o3 b w1.heap.size := (k3.2 _ H1.out.1 GD.out HN.out).2
      have hz1 := And.intro u3 v3
      refine hK.out _ _ hz1 (fun hS => ?_)
      clear hK K hS
      refine wpAnyH_ready (rs := [10]) (by kernel_rfl) (by simp) ?_
      refine AllReadyH.cons (by simp only [List.getElem?_toArray, List.getElem?_cons_zero, List.getElem?_cons_succ]; rfl) (fun K hK => ?_) AllReadyH.nil
      go_simp
      have b4 := conv_below t w3
      have u4 := (b4.cell (p := ⟨w.heap.size, 1, none⟩) (block_lt_of_cell (a := ⟨w.heap.size, 1, none⟩) u3)).trans u3
      have y4 := y3.kept b4 (Nat.le_refl _)
      have v4 : (convert 26 9 (.slice (some ⟨w1.heap.size, 0, none⟩) t.size cp)).run Try.prog (Lib.bytesWorld w3 5 t) = .ok (.string t) (Lib.bytesWorld w3 5 t) := by have := conv_back y4; rw [ba_tl] at this; exact this
      have wr4 := wr3.same (b4.block _ y3.blk)
      refine hK.out _ _ (And.intro u4 v4) (fun hS => ?_)
      clear hK K hS
      refine wpAnyH_ready (rs := [11]) (by kernel_rfl) (by simp) ?_
      refine AllReadyH.cons (by simp only [List.getElem?_toArray, List.getElem?_cons_zero, List.getElem?_cons_succ]; rfl) (fun K hK => ?_) (AllReadyH.nil)
      go_simp
      refine (two_sendB en (t3.kept b4) (conv_bytes t w3) HTL.out).mono ?_
      rintro e5 w5 ⟨rfl, b5, t5, k5⟩
      have u5 := k5.cell 1 u4 HG.out.1 fb3
      have y5 := k5.bytes y4 H1.out.1 fo3
      have v5 : (convert 26 9 (.slice (some ⟨w1.heap.size, 0, none⟩) t.size cp)).run Try.prog w5 = .ok (.string t) w5 := by have := conv_back y5; rw [ba_tl] at this; exact this
      have wr5 := k5.wri wr4 H1.out.1 fo3
      have fo5 : Free p q o3 b5 w1.heap.size := (k5.2 _ H1.out.1 y4.blk fo3).2
      obtain ⟨o5, ho5⟩ : ∃ o5, o5 = o3 := ⟨_, rfl⟩
      subst ho5
      have hz3 := And.intro u5 v5
      refine hK.out _ _ hz3 (fun hS => ?_)
      clear hK K hS
      refine wpAnyH_take (i := 12) (v := ?_) (by simp only [List.getElem?_toArray, List.getElem?_cons_zero, List.getElem?_cons_succ]; rfl) (by kernel_rfl) (by kernel_rfl) (by kernel_rfl) (fun _ _ _ h => h) (Or.inl ⟨by rfl, ?_⟩) (by assumption) ?_
      rotate_left 1
      · intro w hSw
        go_simp
        with_reducible rfl
      simp only [Act.put, List.setIfInBounds_toArray, List.set_cons_zero, List.set_cons_succ]
      refine wpAnyH_take (i := 13) (v := ?_) (by simp only [List.getElem?_toArray, List.getElem?_cons_zero, List.getElem?_cons_succ]; rfl) (by kernel_rfl) (by kernel_rfl) (by kernel_rfl) (fun _ _ _ h => h) (Or.inl ⟨by rfl, ?_⟩) (by assumption) ?_
      rotate_left 1
      · intro w hSw
        go_simp
        with_reducible rfl
      simp only [Act.put, List.setIfInBounds_toArray, List.set_cons_zero, List.set_cons_succ]
      refine wpAnyH_done (by kernel_rfl) ?_ _
      refine NoPanic.normal ?_
      have T5 := hid t5
      have WR5 := hid wr5
      have F5 := hid fo5
      clear t5 wr5 fo5 u5 y5 v5 k5 u3 y3 v3 wr3 fb3 b4 u4 y4 v4 wr4 k3 t3 fo3
      go_wp2_with (fail)
      go_loopw [10] (fun i wr => ∃ (m : Nat), m ≤ t.size ∧ i = .int .i64 (m : Int) ∧ Hid (Wri wr w1.heap.size t.size) ∧ Hid (Two w0 wr p q (sendP en xs (tl t)).2 e o5 (0, 0) (sendP en xs (tl t)).2 e b5)) (fun i _ => t.size - (intOf i).toNat)
      case atStart => exact ⟨0, by omega, rfl, WR5, T5⟩
      case round =>
        obtain ⟨m, hm, rfl, HW, HT6⟩ := hrel
        by_cases hml : m < t.size
        · obtain ⟨z, d1, f1, z0, z1⟩ := HW.out.cell m hml
          have wz : IntKind.u8.wrap (255 - z) = 255 - z := by
            simp [IntKind.wrap, IntKind.signed, IntKind.bits]; omega
          have hs9 : t.size ≤ 2000 := HT.out
          go_wp2
          go_roundw
          case rel => exact ⟨m + 1, by omega, by go_num, HW.out.put m _ (by omega) (by omega), HT6.out.free F5.out H1.out.2 (Grw.of_set w1.heap.size m _ _)⟩
          case measure => simp [intOf]; omega
        · have gm : ¬ (m : Int) < (t.size : Int) := by omega
          clear hm hml
          go_wp2
          go_ret
          exact ⟨rfl, _, _, _, _, _, HT6.out, Nat.le_succ _⟩
    · simp only [hW2]
      go_simp
      have b3 := conv_below t W2
      have u3 := (b3.cell (p := ⟨w.heap.size, 1, none⟩) (block_lt_of_cell (a := ⟨w.heap.size, 1, none⟩) CD.out)).trans CD.out
      have y3 := YD.out.kept b3 (Nat.le_refl _)
      have v3 : (convert 26 9 (.slice (some ⟨w1.heap.size, 0, none⟩) t.size cp)).run Try.prog (Lib.bytesWorld W2 5 t) = .ok (.string t) (Lib.bytesWorld W2 5 t) := by have := conv_back y3; rw [ba_tl] at this; exact this
      have wr3 := WD.out.same (b3.block _ GD.out)
      have c3y := conv_bytes t W2
      have t3 := TD.out.kept b3
      have fn3 : Free p q o b W2.heap.size := TD.out.new (Nat.le_refl _)
      have gn3 : 0 < W2.heap.size := Nat.lt_of_le_of_lt (Nat.zero_le _) GD.out
      refine hK.out _ _ (And.intro u3 v3) (fun hS => ?_)
      clear hK K hS
      refine wpAnyH_ready (rs := [4]) (by kernel_rfl) (by simp) ?_
      refine AllReadyH.cons (by simp only [List.getElem?_toArray, List.getElem?_cons_zero, List.getElem?_cons_succ]; rfl) (fun K hK => ?_) (AllReadyH.nil)
      go_simp
      refine (two_sendA en HI.out t3 y3 HTL.out).mono ?_
      rintro e4 w4 ⟨rfl, o5, t4, k4⟩
      have u4 := k4.cell 1 u3 HG.out.1 HG.out.2
      have y4 := k4.bytes y3 H1.out.1 HN.out
      have v4 : (convert 26 9 (.slice (some ⟨w1.heap.size, 0, none⟩) t.size cp)).run Try.prog w4 = .ok (.string t) w4 := by have := conv_back y4; rw [ba_tl] at this; exact this
      have wr4 := k4.wri wr3 H1.out.1 HN.out
      have d4 := k4.bytes c3y gn3 fn3
      have fb4 : Free p q o5 b w.heap.size := (k4.2 _ HG.out.1 (block_lt_of_cell (a := ⟨w.heap.size, 1, none⟩) u3) HG.out.2).2
      have fo4 : Free p q o5 b w1.heap.size := (k4.2 _ H1.out.1 y3.blk HN.out).2
      have hz2 := And.intro u4 v4
      refine hK.out _ _ hz2 (fun hS => ?_)
      clear hK K hS
      refine wpAnyH_ready (rs := [11]) (by kernel_rfl) (by simp) ?_
      refine AllReadyH.cons (by simp only [List.getElem?_toArray, List.getElem?_cons_zero, List.getElem?_cons_succ]; rfl) (fun K hK => ?_) (AllReadyH.nil)
      go_simp
      refine (two_sendB en t4 d4 HTL.out).mono ?_
      rintro e5 w5 ⟨rfl, b5, t5, k5⟩
      have u5 := k5.cell 1 u4 HG.out.1 fb4
      have y5 := k5.bytes y4 H1.out.1 fo4
      have v5 : (convert 26 9 (.slice (some ⟨w1.heap.size, 0, none⟩) t.size cp)).run Try.prog w5 = .ok (.string t) w5 := by have := conv_back y5; rw [ba_tl] at this; exact this
      have wr5 := k5.wri wr4 H1.out.1 fo4
      have fo5 : Free p q o5 b5 w1.heap.size := (k5.2 _ H1.out.1 y4.blk fo4).2
      have hz3 := And.intro u5 v5
      refine hK.out _ _ hz3 (fun hS => ?_)
      clear hK K hS
      refine wpAnyH_take (i := 12) (v := ?_) (by simp only [List.getElem?_toArray, List.getElem?_cons_zero, List.getElem?_cons_succ]; rfl) (by kernel_rfl) (by kernel_rfl) (by kernel_rfl) (fun _ _ _ h => h) (Or.inl ⟨by rfl, ?_⟩) (by assumption) ?_
      rotate_left 1
      · intro w hSw
        go_simp
        with_reducible rfl
      simp only [Act.put, List.setIfInBounds_toArray, List.set_cons_zero, List.set_cons_succ]
      refine wpAnyH_take (i := 13) (v := ?_) (by simp only [List.getElem?_toArray, List.getElem?_cons_zero, List.getElem?_cons_succ]; rfl) (by kernel_rfl) (by kernel_rfl) (by kernel_rfl) (fun _ _ _ h => h) (Or.inl ⟨by rfl, ?_⟩) (by assumption) ?_
      rotate_left 1
      · intro w hSw
        go_simp
        with_reducible rfl
      simp only [Act.put, List.setIfInBounds_toArray, List.set_cons_zero, List.set_cons_succ]
      refine wpAnyH_done (by kernel_rfl) ?_ _
      refine NoPanic.normal ?_
      have T5 := hid t5
      have WR5 := hid wr5
      have F5 := hid fo5
      clear t5 wr5 fo5 u5 y5 v5 k5 b3 u3 y3 v3 wr3 c3y t3 fn3 gn3 u4 y4 v4 wr4 d4 k4 t4 fb4 fo4
      go_wp2_with (fail)
      go_loopw [10] (fun i wr => ∃ (m : Nat), m ≤ t.size ∧ i = .int .i64 (m : Int) ∧ Hid (Wri wr w1.heap.size t.size) ∧ Hid (Two w0 wr p q (sendP en xs (tl t)).2 e o5 (0, 0) (sendP en xs (tl t)).2 e b5)) (fun i _ => t.size - (intOf i).toNat)
      case atStart => exact ⟨0, by omega, rfl, WR5, T5⟩
      case round =>
        obtain ⟨m, hm, rfl, HW, HT6⟩ := hrel
        by_cases hml : m < t.size
        · obtain ⟨z, d1, f1, z0, z1⟩ := HW.out.cell m hml
          have wz : IntKind.u8.wrap (255 - z) = 255 - z := by
            simp [IntKind.wrap, IntKind.signed, IntKind.bits]; omega
          have hs9 : t.size ≤ 2000 := HT.out
          go_wp2
          go_roundw
          case rel => exact ⟨m + 1, by omega, by go_num, HW.out.put m _ (by omega) (by omega), HT6.out.free F5.out H1.out.2 (Grw.of_set w1.heap.size m _ _)⟩
          case measure => simp [intOf]; omega
        · have gm : ¬ (m : Int) < (t.size : Int) := by omega
          clear hm hml
          go_wp2
          go_ret
          exact ⟨rfl, _, _, _, _, _, HT6.out, Nat.le_succ _⟩
end Go.Proofs.Ytcfmjebnjjpajaa
