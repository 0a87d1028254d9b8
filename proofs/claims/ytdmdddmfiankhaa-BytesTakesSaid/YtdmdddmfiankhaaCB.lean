/- The law BytesTakes: what its call does. Conditions: a heap that has a block. -/
import Derived.Test.YtdmdddmfiankhaaCA
import Derived.Test.YtdmdddmfiankhaaBO
namespace Go.Proofs.Ytdmdddmfiankhaa
open Go.RowKit
/-- So many bytes lie there, and may be written. -/
def Own (w : World) (g L : Nat) : Prop := ∃ (cs : Array Value) (lo hi : Nat), w.heap[g]? = some (.cells cs 5 (lo, hi)) ∧ L ≤ lo ∧ ∀ j, j < L → ∃ z : Int, cs[j]? = some (.int .u8 z) ∧ 0 ≤ z ∧ z ≤ 255
theorem Own.cell {w : World} {g L : Nat} (h : Own w g L) (j : Nat) (hj : j < L) : ∃ z : Int, w.cell? ⟨g, j, none⟩ = some (.int .u8 z) ∧ w.frozen? ⟨g, j, none⟩ = false ∧ 0 ≤ z ∧ z ≤ 255 := by
  obtain ⟨cs, lo, hi, hh, hl, hc⟩ := h
  obtain ⟨z, h1, h2, h3⟩ := hc j hj
  refine ⟨z, (cell_of_row w g j cs 5 (lo, hi) hh).trans h1, ?_, h2, h3⟩
  simp only [World.frozen?, hh]
  rw [decide_eq_false (by omega : ¬ lo ≤ j)]; rfl
theorem Own.put {w : World} {g L : Nat} (h : Own w g L) (j : Nat) (z : Int) (h0 : 0 ≤ z) (h1 : z ≤ 255) : Own (w.setCell ⟨g, j, none⟩ (.int .u8 z)) g L := by
  obtain ⟨cs, lo, hi, hh, hl, hc⟩ := h
  refine ⟨cs.setIfInBounds j (.int .u8 z), lo, hi, ?_, hl, fun i hi2 => ?_⟩
  · simp [World.setCell, Array.getElem?_modify, hh]
  · obtain ⟨y, h2, h3, h4⟩ := hc i hi2
    have hlt : i < cs.size := (Array.getElem?_eq_some_iff.1 h2).1
    rw [Array.getElem?_setIfInBounds]
    by_cases e : j = i
    · subst e
      rw [if_pos rfl, if_pos hlt]
      exact ⟨z, rfl, h0, h1⟩
    · rw [if_neg e]; exact ⟨y, h2, h3, h4⟩
theorem Own.kept {w w' : World} {g L : Nat} (h : Own w g L) (hb : Below w.heap.size w w') : Own w' g L := by
  obtain ⟨cs, lo, hi, hh, h2⟩ := h
  exact ⟨cs, lo, hi, (hb.block g (Array.getElem?_eq_some_iff.1 hh).1).trans hh, h2⟩
theorem own_of_text (s : ByteArray) (w : World) : Own (Lib.bytesWorld w 5 s) w.heap.size s.size := by
  refine ⟨_, _, _, Lib.bytesWorld_at_new w 5 s, by simp [Lib.bytesCells], fun j hj => ?_⟩
  have h := Lib.bytesWorld_cell w 5 s j hj
  rw [cell_of_row _ _ _ _ _ _ (Lib.bytesWorld_at_new w 5 s)] at h
  refine ⟨_, h, by omega, ?_⟩
  have := (s.data.toList.getD j 0).toNat_lt
  omega
set_option maxRecDepth 100000 in
set_option maxHeartbeats 400000 in
/-- A new tape stays where older memory is written to. -/
theorem newTape_low (v : Value) (xs : List UInt8) (A : Option Addr) (cap bb off : Nat) (hl : xs.length ≤ 100000) (w : World) (h : Bytes w v xs A cap bb off) :
    Calls Try.prog 20 #[v] w fun e w' => ∃ g, e = .returned (.pointer (some ⟨g, 0, none⟩)) ∧ w.heap.size ≤ g ∧ Tp w' g (false, xs) ∧ Below w.heap.size w w' ∧ ∀ b w2, 0 < b → b < w.heap.size → Grw b w' w2 → Tp w2 g (false, xs) := by
  have CC := hid (clone_any v xs A cap bb off hl w h)
  have HP : Hid (0 < w.heap.size) := Nat.lt_of_le_of_lt (Nat.zero_le _) h.blk
  have HL := hid hl
  obtain rfl := h.form
  clear h hl
  go_enter Try.func20, Try.ntmps20
  go_wp2_with (first
    | (go_at_call 46; refine CC.out.mono ?_; rintro e1 w1 ⟨v1, rfl, ho1, hb1⟩
       obtain ⟨A1, c1, b1, hy1, hb, hb2⟩ := ho1.bytes (Nat.lt_of_lt_of_le HP.out hb1.size)
       obtain rfl := hy1.form
       have B1 := hid hb1
       have Y1 := hid hy1
       have Z1 := hid hb
       clear ho1 hb1 hy1 hb2))
  go_ret
  have hh := Has.fresh w1 76 #[.bool true, .bool false, .slice A1 xs.length c1]
  have hk := Y1.out.kept ((Below.refl _ _).alloc (Nat.le_refl _) (.cells #[.bool true, .bool false, .slice A1 xs.length c1] 76)) (Nat.le_refl _)
  have hp1 : 0 < w1.heap.size := Nat.lt_of_lt_of_le HP.out B1.out.size
  refine ⟨w1.heap.size, rfl, B1.out.size, ⟨A1, c1, b1, 0, hh, hk, Nat.ne_of_lt Y1.out.blk, HL.out, hp1⟩, B1.out.alloc B1.out.size _, fun b w2 hb0 hbw hg => ?_⟩
  have hne : w1.heap.size ≠ b := by have := B1.out.size; omega
  have hz := hk.zero
  rcases Nat.eq_zero_or_pos xs.length with h0 | h0
  · obtain rfl : xs = [] := List.eq_nil_of_length_eq_zero h0
    refine ⟨A1, c1, 0, 0, hh.grw hg hne, Bytes.empty hz (Nat.lt_of_le_of_lt (Nat.zero_le _) (Nat.lt_of_lt_of_le hh.inside hg.size)), Nat.ne_of_lt hp1, HL.out, hp1⟩
  · exact ⟨A1, c1, b1, 0, hh.grw hg hne, hk.grw hg (by have := Z1.out h0; omega), Nat.ne_of_lt Y1.out.blk, HL.out, hp1⟩
theorem Both.trans {w0 w w' : World} {gt gq : Nat} {s s' : St} (h : Both w0 w gt gq s) (k : Both w w' gt gq s') : Both w0 w' gt gq s' :=
  ⟨k.t, k.q, fun B h1 h2 h3 => (h.far B h1 h2 h3).trans (k.far B h1 h2 (Nat.le_trans h3 (h.far B h1 h2 h3).size))⟩
/-- The document's tape, laid over a text's bytes. -/
theorem box_q (s : ByteArray) (w : World) (hs : s.size ≤ 100000) (hp : 0 < w.heap.size) :
    Tq ((Lib.bytesWorld w 5 s).alloc (.cells #[.slice (some ⟨w.heap.size, 0, none⟩) s.size (grownCap w s.size 0 5), .bool false] 45)) (Lib.bytesWorld w 5 s).heap.size (false, tl s) ∧
    Below w.heap.size w ((Lib.bytesWorld w 5 s).alloc (.cells #[.slice (some ⟨w.heap.size, 0, none⟩) s.size (grownCap w s.size 0 5), .bool false] 45)) := by
  have hb := conv_below s w
  have hy := conv_bytes s w
  have hB : Below (Lib.bytesWorld w 5 s).heap.size (Lib.bytesWorld w 5 s) ((Lib.bytesWorld w 5 s).alloc (.cells #[.slice (some ⟨w.heap.size, 0, none⟩) s.size (grownCap w s.size 0 5), .bool false] 45)) := (Below.refl _ _).alloc (Nat.le_refl _) _
  have hh := Has.fresh (Lib.bytesWorld w 5 s) 45 #[.slice (some ⟨w.heap.size, 0, none⟩) s.size (grownCap w s.size 0 5), .bool false]
  rw [← tl_length s] at hh hy hB ⊢
  exact ⟨⟨_, _, _, _, hh, hy.kept hB (Nat.le_refl _), Nat.ne_of_lt hy.blk, by show (tl s).length ≤ _; rw [tl_length]; exact hs, Nat.lt_of_lt_of_le hp hb.size⟩, hb.trans (hB.mono hb.size)⟩
set_option maxRecDepth 100000 in
set_option maxHeartbeats 2000000 in
theorem takes_any (s0 : ByteArray) (A : Option Addr) (n cap bb off : Nat) (l : List (Int × Int × Nat)) (w : World) (hp : 0 < w.heap.size) (hl : AsksIn w A n bb off l) :
    Calls Try.prog 6 #[.string s0, .slice A n cap] w fun e w' => e = .returned (.bool true) ∧ Below w.heap.size w w' := by
  have HP := hid hp
  have HA := hid hl
  obtain ⟨s, HS⟩ : ∃ s, Hid (ba ((tl s0).take 2000) = s) := ⟨_, rfl⟩
  have CA := hid (cut_any s0 2000 (by omega) w)
  rw [HS.out] at CA
  have hsz : s.size ≤ 2000 := by rw [← HS.out, ba_size, List.length_take]; omega
  obtain ⟨wa, HWA⟩ : ∃ wa, Lib.bytesWorld w 5 s = wa := ⟨_, rfl⟩
  obtain ⟨co, HCO⟩ : ∃ co, grownCap w s.size 0 5 = co := ⟨_, rfl⟩
  have yo : Bytes wa (.slice (some ⟨w.heap.size, 0, none⟩) s.size co) (tl s) (some ⟨w.heap.size, 0, none⟩) co w.heap.size 0 := by rw [← HWA, ← HCO]; exact conv_bytes s w
  have OW : Hid (Own wa w.heap.size s.size) := by rw [← HWA]; exact own_of_text s w
  have BA : Hid (Below w.heap.size w wa) := by rw [← HWA]; exact conv_below s w
  have KC : (convert 9 24 (.string s)).run Try.prog w = .ok (.slice (some ⟨w.heap.size, 0, none⟩) s.size co) wa := by rw [← HWA, ← HCO]; exact conv_string s w
  have GA : Hid (w.heap.size < wa.heap.size) := yo.blk
  have CT := hid (newTape_low _ (tl s) _ _ _ _ (by rw [tl_length]; omega) wa yo)
  have HSZ := hid hsz
  clear hp hl yo HWA HCO hsz
  go_enter Try.func6, Try.ntmps6
  go_wp2_with (first
    | (go_at_call 12; refine CA.out.mono ?_; rintro e1 w1 ⟨rfl, rfl⟩)
    | (go_at_call 20; refine CT.out.mono ?_; rintro e2 w2 ⟨gt, rfl, hg, ht, hb2, hlow⟩
       have G2 : Hid (wa.heap.size ≤ gt) := hg
       have T2 := hid ht
       have B2 : Hid (Below w.heap.size w w2) := BA.out.trans (hb2.mono BA.out.size)
       have O2 := hid (OW.out.kept hb2)
       have LOW := hid hlow
       clear hg ht hb2 hlow))
  clear KC
  go_loopw [7] (fun i wr => ∃ j : Nat, j ≤ s.size ∧ i = .int .i64 (j : Int) ∧ Hid (Own wr w.heap.size s.size) ∧ Hid (Grw w.heap.size w2 wr)) (fun i _ => s.size - (intOf i).toNat)
  case atStart => exact ⟨0, by omega, rfl, O2, Grw.refl _ _⟩
  case round =>
    obtain ⟨j, hj, rfl, HO, HG⟩ := hrel
    by_cases hlt : j < s.size
    · obtain ⟨z, c1, f1, z0, z1⟩ := HO.out.cell j hlt
      have wz : IntKind.u8.wrap (255 - z) = 255 - z := by
        simp [IntKind.wrap, IntKind.signed, IntKind.bits]; omega
      have hs9 : s.size ≤ 2000 := HSZ.out
      go_wp2
      go_roundw
      case rel => exact ⟨j + 1, by omega, by go_num, HO.out.put j _ (by omega) (by omega), HG.out.trans (Grw.of_set _ _ _ _)⟩
      case measure => simp [intOf]; omega
    · obtain rfl : j = s.size := by omega
      have TR : Hid (Tp wr gt (false, tl s)) := LOW.out _ wr HP.out GA.out HG.out
      have BR : Hid (Below w.heap.size w wr) := Grw.below B2.out HG.out (Nat.le_refl _) B2.out.size
      have KC2 := conv_string s wr
      obtain ⟨hq, hbq⟩ := box_q s wr (Nat.le_trans HSZ.out (by decide)) (Nat.lt_of_lt_of_le HP.out BR.out.size)
      have GQ : Hid (wr.heap.size ≤ (Lib.bytesWorld wr 5 s).heap.size) := (conv_below s wr).size
      generalize Lib.bytesWorld wr 5 s = wb at KC2 hq hbq GQ
      generalize grownCap wr s.size 0 5 = cq at KC2 hq hbq
      obtain ⟨gq, hgq⟩ : ∃ gq, wb.heap.size = gq := ⟨_, rfl⟩
      rw [hgq] at hq GQ
      have HNE : Hid (gt ≠ gq) := Nat.ne_of_lt (Nat.lt_of_lt_of_le TR.out.inside GQ.out)
      have HB0 : Hid (Both w (wb.alloc (.cells #[.slice (some ⟨wr.heap.size, 0, none⟩) s.size cq, .bool false] 45)) gt gq (false, tl s)) :=
        ⟨TR.out.kept hbq, hq, fun B h1 h2 h3 => (BR.out.trans (hbq.mono BR.out.size)).mono h3⟩
      have LT : Hid (w.heap.size ≤ gt) := Nat.le_trans (Nat.le_of_lt GA.out) G2.out
      have LQ : Hid (w.heap.size ≤ gq) := Nat.le_trans BR.out.size GQ.out
      clear hq hbq hlt hj
      go_wp2
      clear KC2 hgq
      go_loopw [9] (fun i w3 => ∃ (j2 : Nat) (st : St), j2 ≤ n ∧ i = .int .i64 (j2 : Int) ∧ Hid (Both w w3 gt gq st)) (fun i _ => n - (intOf i).toNat)
      case atStart => exact ⟨0, _, by omega, rfl, HB0⟩
      case round =>
        obtain ⟨j2, st, hj2, rfl, HB⟩ := hrel
        have BW : Hid (∀ w3 st, Both w w3 gt gq st → Below w.heap.size w w3) := fun w3 st h => h.far _ LT.out LQ.out (Nat.le_refl _)
        by_cases hlt : j2 < n
        · by_cases h60 : (j2 : Int) < 60
          · obtain ⟨hAe, _⟩ := HA.out.2.1 (by omega)
            subst hAe
            obtain ⟨x0, x1, x2, HXJ⟩ : ∃ x0 x1 x2, Hid (l.getD j2 (0, 0, 0) = (x0, x1, x2)) := ⟨_, _, _, rfl⟩
            have HAT := hid (HA.out.at_ (BW.out _ _ HB.out) j2 hlt HXJ.out)
            have HLD := hid (load_ask_at HAT.out)
            have CS := hid (step_any gt gq HNE.out st x0 x1 x2 HAT.out.2.2.2.2.1 _ HB.out.t HB.out.q)
            have C1 : Hid (∀ w1 s1, Tp w1 gt s1 → Calls Try.prog 25 #[.pointer (some ⟨gt, 0, none⟩)] w1 fun e w' => e = .returned (.int .i64 (s1.2.length : Int)) ∧ w1 = w') := fun w1 s1 h => left_any gt s1 w1 h
            have C2 : Hid (∀ w1 s1, Tq w1 gq s1 → Calls Try.prog 26 #[.pointer (some ⟨gq, 0, none⟩)] w1 fun e w' => e = .returned (.int .i64 (s1.2.length : Int)) ∧ w1 = w') := fun w1 s1 h => qLeft_any gq s1 w1 h
            have C3 : Hid (∀ w1 s1, Tp w1 gt s1 → Calls Try.prog 27 #[.pointer (some ⟨gt, 0, none⟩)] w1 fun e w' => e = .returned (.int .i64 (errS s1)) ∧ w1 = w') := fun w1 s1 h => err_any gt s1 w1 h
            have C4 : Hid (∀ w1 s1, Tq w1 gq s1 → Calls Try.prog 28 #[.pointer (some ⟨gq, 0, none⟩)] w1 fun e w' => e = .returned (.int .i64 (errS s1)) ∧ w1 = w') := fun w1 s1 h => qErr_any gq s1 w1 h
            go_wp2_with (first
              | (refine wpList_load_g (by rfl) 57 (.tmp 48) rfl bb (off + j2 * 3) rfl (ask x0 x1 x2) HLD.out ?_)
              | (go_at_call 29; refine CS.out.mono ?_; rintro e4 w4 ⟨rfl, s4, hb4⟩
                 have B4 := hid (HB.out.trans hb4)
                 clear hb4)
              | (go_at_call 25; refine (C1.out _ _ B4.out.t).mono ?_; rintro e5 w5 ⟨rfl, rfl⟩)
              | (go_at_call 26; refine (C2.out _ _ B4.out.q).mono ?_; rintro e5 w5 ⟨rfl, rfl⟩)
              | (go_at_call 27; refine (C3.out _ _ B4.out.t).mono ?_; rintro e5 w5 ⟨rfl, rfl⟩)
              | (go_at_call 28; refine (C4.out _ _ B4.out.q).mono ?_; rintro e5 w5 ⟨rfl, rfl⟩))
            go_roundw
            case rel => exact ⟨j2 + 1, s4, by omega, by go_num, B4⟩
            case measure => simp [intOf]; omega
          · have B3 := hid (BW.out _ _ HB.out)
            have CW := hid (works_any _ (Nat.lt_of_lt_of_le HP.out B3.out.size))
            go_wp2_with (first
              | (go_at_call 17; refine CW.out.mono ?_; rintro e8 w8 ⟨rfl, hb8⟩))
            go_ret
            exact ⟨rfl, B3.out.trans (hb8.mono B3.out.size)⟩
        · obtain rfl : n = j2 := by omega
          have B3 := hid (BW.out _ _ HB.out)
          have CW := hid (works_any _ (Nat.lt_of_lt_of_le HP.out B3.out.size))
          clear hlt
          go_wp2_with (first
            | (go_at_call 17; refine CW.out.mono ?_; rintro e8 w8 ⟨rfl, hb8⟩))
          go_ret
          exact ⟨rfl, B3.out.trans (hb8.mono B3.out.size)⟩
end Go.Proofs.Ytdmdddmfiankhaa
