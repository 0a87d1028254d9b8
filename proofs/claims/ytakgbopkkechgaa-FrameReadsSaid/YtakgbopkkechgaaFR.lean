/- (*caravanref10.Reader).Next: what each call does. Conditions: a reader. -/
import Derived.Test.YtakgbopkkechgaaFQ
namespace Go.Proofs.Ytakgbopkkechgaa
open Go.RowKit
theorem results_tmp4 {fn : Func} {t u v x : Tmp} (h : fn.results = #[.tmp t, .tmp u, .tmp v, .tmp x]) (tmps : Array Value) (P : Program) (w : World) :
    (results fn tmps).run P w = .ok (.tuple #[tmps.getD t undef, tmps.getD u undef, tmps.getD v undef, tmps.getD x undef]) w := by
  simp [results, h]
/-- What a call of the document's Next does, by what the bytes tell. -/
def RPost (w w' : World) (p bq : Nat) (xs : List UInt8) (e : Ending) : Prop :=
  (outL xs = .wait ∧ e = .returned (.tuple #[.int .i64 0, .slice none 0 0, .bool false, .int .i64 0]) ∧ w = w') ∨
  (outL xs = .bad ∧ e = .returned (.tuple #[.int .i64 0, .slice none 0 0, .bool false, .int .i64 4]) ∧ Qr w' p (true, xs) bq ∧ Grw p w w') ∨
  ∃ k body rest v A cap bb, outL xs = .one k body rest ∧ e = .returned (.tuple #[.int .i64 (b8 k), v, .bool true, .int .i64 0]) ∧ Bytes w' v body A cap bb 0 ∧ (bb = 0 ∨ w.heap.size ≤ bb) ∧ (∃ bb', Qr w' p (false, rest) bb' ∧ Ny bq bb' w) ∧ Grw p w w'
theorem up_next (y : Nat) (x : UInt8) (h : y < 16777216) : wrap64 (256 * (y : Int)) = 256 * (y : Int) ∧ wrap64 (256 * (y : Int) + b8 x) = ((256 * y + x.toNat : Nat) : Int) := by
  have hx := x.toNat_lt
  have e : 256 * (y : Int) + b8 x = ((256 * y + x.toNat : Nat) : Int) := by unfold b8; omega
  rw [e]
  constructor
  · simp [wrap64]; omega
  · simp [wrap64]; omega
theorem val_small (xs : List UInt8) (j : Nat) (hj : j ≤ 3) : valL (xs.take j) < 16777216 := by
  refine Nat.lt_of_lt_of_le (valL_lt _) ?_
  have : (xs.take j).length ≤ 3 := by rw [List.length_take]; omega
  exact Nat.le_trans (Nat.pow_le_pow_right (by omega) this) (by decide)
set_option maxRecDepth 100000 in
set_option maxHeartbeats 4000000 in
theorem rnext_any (p bq : Nat) (xs : List UInt8) (w : World) (h : Qr w p (false, xs) bq) : Calls Try.prog 18 #[.pointer (some ⟨p, 0, none⟩)] w fun e w' => RPost w w' p bq xs e := by
  have HR := hid h
  obtain ⟨bb, hbb⟩ : ∃ b, b = bq := ⟨_, rfl⟩
  rw [← hbb] at h HR
  rw [← hbb]
  clear hbb
  obtain ⟨A, cap, off, h1, h2, hne, hl, hp⟩ := h
  have c0 : w.cell? ⟨p, 0, none⟩ = some (.slice A xs.length cap) := h1.at_ 0
  have c1 : w.cell? ⟨p, 1, none⟩ = some (.bool false) := h1.at_ 1
  have f0 := h1.free 0
  have f1 := h1.free 1
  have H1 : Hid (Has w p 37 #[.slice A xs.length cap, .bool false]) := h1
  have HQY : Hid (Bytes w (.slice A xs.length cap) xs A cap bb off) := h2
  have HL : Hid (xs.length ≤ 131072) := hl
  have HPW : Hid (0 < p ∧ p < w.heap.size) := ⟨hp, h1.inside⟩
  clear h1 hne hp
  by_cases h4 : xs.length < 4
  · have g4 : (xs.length : Int) < 4 := by omega
    have HO : Hid (outL xs = .wait) := out_short h4
    clear h4 hl h2
    go_enter Try.func18, Try.ntmps18
    go_wp2
    refine bodyPost_ret (results_tmp4 rfl _ _ _) rfl ?_
    exact .inl ⟨HO.out, rfl, rfl⟩
  · have g4 : ¬ (xs.length : Int) < 4 := by omega
    have HC := hid h2.cells
    obtain rfl := h2.src (by show 0 < xs.length; omega)
    have H4 : Hid (4 ≤ xs.length) := by show _ ≤ _; omega
    clear h4 hl h2
    go_enter Try.func18, Try.ntmps18
    go_wp2
    go_loopw [6, 7] (fun n i wr => ∃ (j y : Nat), j ≤ 4 ∧ i = .int .i64 (j : Int) ∧ n = .int .i64 (y : Int) ∧ Hid (y = valL (xs.take j)) ∧ w = wr) (fun _ i _ => 4 - (intOf i).toNat)
    case atStart => exact ⟨0, 0, by omega, rfl, rfl, rfl, rfl⟩
    case round =>
      obtain ⟨j, y, hj, rfl, rfl, HY, rfl⟩ := hrel
      by_cases hlt : j < 4
      · have d1 : w.cell? ⟨bb, off + j, none⟩ = some (.int .u8 (b8 (at8 xs j))) := HC.out j (by have := H4.out; omega)
        have hb0 := b8_nonneg (at8 xs j)
        have hb1 := b8_lt (at8 xs j)
        have hjl : (j : Int) < (xs.length : Int) := by have := H4.out; omega
        have hj0 : (0 : Int) ≤ (j : Int) := by omega
        obtain ⟨u1, u2⟩ := up_next y (at8 xs j) (by rw [HY.out]; exact val_small xs j (by omega))
        have wb : IntKind.i64.wrap (b8 (at8 xs j)) = b8 (at8 xs j) := i64in _ (by omega) (by omega)
        have HN : Hid (256 * y + (at8 xs j).toNat = valL (xs.take (j + 1))) := by
          show _ = _
          rw [take_snoc _ _ (by have := H4.out; omega), valL_snoc, HY.out]
        go_wp2
        go_roundw
        case rel => exact ⟨j + 1, 256 * y + (at8 xs j).toNat, by omega, by go_num, by rw [u2], HN, trivial⟩
        case measure => simp [intOf]; omega
      · have hj4 : j = 4 := by omega
        have HY4 : Hid (cnt xs = y) := by show _ = _; rw [HY.out, hj4]; rfl
        have gj : ¬ (j : Int) < 4 := by omega
        clear hlt hj hj4 HY
        by_cases hb : y = 0 ∨ 16385 < y
        · have HO : Hid (outL xs = .bad) := by show _ = _; rw [outL, if_neg (by have := H4.out; omega), HY4.out, if_pos hb]
          have hb' : (y : Int) = 0 ∨ (¬ (y : Int) = 0 ∧ 16385 < (y : Int)) := by omega
          clear hb
          rcases hb' with hb | ⟨hb, hb2⟩
          all_goals
            go_wp2
            refine bodyPost_ret (results_tmp4 rfl _ _ _) rfl ?_
            exact .inr (.inl ⟨HO.out, rfl, qr_break HR.out⟩)
        · have y1 : ¬ (y : Int) = 0 := by omega
          have y2 : ¬ 16385 < (y : Int) := by omega
          have y0 : (0 : Int) ≤ (y : Int) := by omega
          have w4 : wrap64 (4 + (y : Int)) = 4 + (y : Int) := by clear g4 gj y1; simp [wrap64]; omega
          by_cases h5 : xs.length = 4
          · have HO : Hid (outL xs = .wait) := by show _ = _; rw [outL, if_neg (by omega), HY4.out, if_neg hb, if_pos h5]
            have g5 : ¬ 4 < (xs.length : Int) := by omega
            have g6 : (xs.length : Int) < 4 + (y : Int) := by omega
            clear hb h5
            go_wp2
            refine bodyPost_ret (results_tmp4 rfl _ _ _) rfl ?_
            exact .inl ⟨HO.out, rfl, rfl⟩
          · have g5 : 4 < (xs.length : Int) := by have := H4.out; omega
            have d4 : w.cell? ⟨bb, off + 4, none⟩ = some (.int .u8 (b8 (at8 xs 4))) := HC.out 4 (by omega)
            have hb0 := b8_nonneg (at8 xs 4)
            have hb1 := b8_lt (at8 xs 4)
            by_cases hk : okKind (at8 xs 4)
            · have k1 : ¬ b8 (at8 xs 4) < 1 := by have := hk.1; unfold b8; omega
              have k2 : ¬ 9 < b8 (at8 xs 4) := by have := hk.2; unfold b8; omega
              have wk : IntKind.i64.wrap (b8 (at8 xs 4)) = b8 (at8 xs 4) := i64in _ (by omega) (by omega)
              by_cases h6 : xs.length < 4 + y
              · have HO : Hid (outL xs = .wait) := by
                  show _ = _
                  rw [outL, if_neg (by omega), HY4.out, if_neg hb, if_neg h5, if_neg (by simpa using hk), if_pos h6]
                have g6 : (xs.length : Int) < 4 + (y : Int) := by omega
                clear hb h5 hk h6 wk
                go_wp2
                refine bodyPost_ret (results_tmp4 rfl _ _ _) rfl ?_
                exact .inl ⟨HO.out, rfl, rfl⟩
              · have HO : Hid (outL xs = .one (at8 xs 4) ((xs.drop 5).take (y - 1)) (xs.drop (4 + y))) := by
                  show _ = _
                  rw [outL, if_neg (by omega), HY4.out, if_neg hb, if_neg h5, if_neg (by simpa using hk), if_neg h6]
                have g6 : ¬ (xs.length : Int) < 4 + (y : Int) := by omega
                obtain ⟨A3, hr3, hy3⟩ := HQY.out.mid 5 (4 + y) (by omega) (by omega)
                obtain ⟨A4, hr4, hy4⟩ := HQY.out.rest (4 + y) (by omega)
                have eb : (xs.take (4 + y)).drop 5 = (xs.drop 5).take (y - 1) := by rw [List.drop_take]; congr 1; omega
                rw [eb] at hy3
                have HY3 := hid hy3
                have HY5 := hid hy4
                have HLB : Hid (((xs.drop 5).take (y - 1)).length ≤ 100000) := by show _ ≤ _; rw [List.length_take]; omega
                have HLR : Hid ((xs.drop (4 + y)).length ≤ 131072) := by show _ ≤ _; rw [List.length_drop]; have := HL.out; omega
                have hc4 : ((4 + y : Nat) : Int) = 4 + (y : Int) := by omega
                have hr3' : ∀ w : World, (Instr.slice 22 (.slice (some ⟨bb, off, none⟩) xs.length cap) (some (.int .i64 5)) (some (.int .i64 (4 + (y : Int)))) none).run Try.prog w = .ok (.slice A3 (4 + y - 5) (cap - 5)) w := by rw [← hc4]; exact hr3
                rw [hc4] at hr4
                obtain ⟨body, hbody⟩ : ∃ b, (xs.drop 5).take (y - 1) = b := ⟨_, rfl⟩
                obtain ⟨rest, hrest⟩ : ∃ b, xs.drop (4 + y) = b := ⟨_, rfl⟩
                rw [hbody] at HY3 HLB HO
                rw [hrest] at HY5 HLR HO hr4
                obtain ⟨k, hkk⟩ : ∃ k, at8 xs 4 = k := ⟨_, rfl⟩
                rw [hkk] at HO d4 hb0 hb1 k1 k2 wk
                clear hb h5 hk h6 hr3 hy3 hy4 hc4 eb hbody hrest hkk HC
                go_wp2_with (first
                  | (at_builtin; refine wpList_append_run (by rfl) _ _ 22 22 (by rfl) ?_
                     obtain ⟨v', w5, A', cap', bb', hr, hy, hbb, hb⟩ := append_none _ none HY3.out HLB.out
                     refine ⟨v', w5, hr, ?_⟩
                     have Y5 := hid hy
                     have N5 : Hid (bb' = 0 ∨ w.heap.size ≤ bb') := hbb
                     have B5 : Hid (Below w.heap.size w w5) := hb
                     have R5 := hid (HY5.out.kept hb (Nat.le_refl _))
                     have K5 := hid (H1.out.kept hb HPW.out.2)
                     have m0 : w5.cell? ⟨p, 0, none⟩ = some (.slice (some ⟨bb, off, none⟩) xs.length cap) := K5.out.at_ 0
                     clear hr hy hbb hb HY3 HY5)
                  | (at_builtin; refine wpList_append_run (by rfl) _ _ 22 22 (by rfl) ?_
                     obtain ⟨v6, w6, hr, ho, hg, _, _⟩ := append_bytes w5 w.heap.size (.slice none 0 0) 0 [] (World.ownsRow_nil _ _ _ _) R5.out (by have := HLR.out; simp; omega) B5.out.size
                     refine ⟨v6, w6, hr, ?_⟩
                     rw [List.nil_append, Nat.zero_add] at ho
                     have B56 : Hid (Below w5.heap.size w5 w6) := (Below.refl _ _).grown hg (Nat.le_refl _) (fun k hk => by cases hk)
                     have B6 : Hid (Below w.heap.size w w6) := B5.out.trans (B56.out.mono B5.out.size)
                     have hlt2 := ho.lt
                     obtain ⟨A6, c6, b6, y6, _, hob⟩ := own_bytes rfl (by have := HPW.out; have := B6.out.size; omega) ho
                     obtain rfl := y6.form
                     have Y6 := hid y6
                     have N6 : Hid (b6 ≠ p) := by
                       show _ ≠ _
                       rcases hob with e | ⟨_, e⟩
                       · have := (hlt2 _ e).1; have := HPW.out; omega
                       · have := HPW.out; omega
                     have M6 : Hid (b6 = 0 ∨ w.heap.size ≤ b6) := by
                       rcases hob with e | ⟨_, e⟩
                       · exact .inr (hlt2 _ e).1
                       · exact .inl e
                     have K6 := hid (H1.out.kept B6.out HPW.out.2)
                     have Z6 := hid (Y5.out.kept B56.out (Nat.le_refl _))
                     have m6 : w6.cell? ⟨p, 0, none⟩ = some (.slice (some ⟨bb, off, none⟩) xs.length cap) := K6.out.at_ 0
                     have n6 := K6.out.free 0
                     clear hr ho hg hlt2 hob y6 R5))
                refine bodyPost_ret (results_tmp4 rfl _ _ _) rfl ?_
                have HZ := qr_store K6.out Y6.out rfl N6.out HLR.out HPW.out.1
                refine .inr (.inr ⟨k, body, rest, _, _, _, bb', HO.out, rfl, Z6.out.grw HZ.2 ?_, N5.out, ⟨b6, HZ.1, .inr M6.out⟩, (Grw.of_below B6.out).trans HZ.2⟩)
                have := N5.out; have := HPW.out
                omega
            · have HO : Hid (outL xs = .bad) := by
                show _ = _
                rw [outL, if_neg (by omega), HY4.out, if_neg hb, if_neg h5, if_pos hk]
              have hk' : b8 (at8 xs 4) < 1 ∨ (¬ b8 (at8 xs 4) < 1 ∧ 9 < b8 (at8 xs 4)) := by unfold okKind at hk; unfold b8; omega
              clear hb h5 hk
              rcases hk' with hk | ⟨hk, hk2⟩
              all_goals
                go_wp2
                refine bodyPost_ret (results_tmp4 rfl _ _ _) rfl ?_
                exact .inr (.inl ⟨HO.out, rfl, qr_break HR.out⟩)
theorem rnext_broken (p bq : Nat) (xs : List UInt8) (w : World) (h : Qr w p (true, xs) bq) : Calls Try.prog 18 #[.pointer (some ⟨p, 0, none⟩)] w fun e w' => e = .returned (.tuple #[.int .i64 0, .slice none 0 0, .bool false, .int .i64 4]) ∧ w = w' := by
  obtain ⟨A, cap, off, h1, _⟩ := h
  have c1 : w.cell? ⟨p, 1, none⟩ = some (.bool true) := h1.at_ 1
  clear h1
  go_enter Try.func18, Try.ntmps18
  go_wp2
  refine bodyPost_ret (results_tmp4 rfl _ _ _) rfl ?_
  exact ⟨rfl, rfl⟩
end Go.Proofs.Ytakgbopkkechgaa
