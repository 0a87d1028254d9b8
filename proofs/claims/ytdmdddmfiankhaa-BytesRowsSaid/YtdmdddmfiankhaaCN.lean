/- The document's tape whose bytes lie below a bound; its Row: what the call does. Conditions: a tape that lies there. -/
import Derived.Test.YtdmdddmfiankhaaCM
namespace Go.Proofs.Ytdmdddmfiankhaa.Low
open Go.RowKit
/-- A tape of the document's lies in block g, its bytes below N. -/
def Tq (N : Nat) (w : World) (g : Nat) (s : St) : Prop := ∃ A cap bb off, Has w g 45 #[.slice A s.2.length cap, .bool s.1] ∧ Bytes w (.slice A s.2.length cap) s.2 A cap bb off ∧ bb ≠ g ∧ s.2.length ≤ 100000 ∧ 0 < g ∧ (0 < s.2.length → bb < N)
theorem Tq.inside {w : World} {N g : Nat} {s : St} (h : Tq N w g s) : g < w.heap.size := by obtain ⟨A, cap, bb, off, h1, _⟩ := h; exact h1.inside
theorem Tq.kept {w w' : World} {N g : Nat} {s : St} (h : Tq N w g s) (hb : Below w.heap.size w w') : Tq N w' g s := by
  obtain ⟨A, cap, bb, off, h1, h2, h3, h4⟩ := h
  exact ⟨A, cap, bb, off, h1.kept hb h1.inside, h2.kept hb (Nat.le_refl _), h3, h4⟩
theorem tearq_at {w : World} {N g : Nat} {s : St} (h : Tq N w g s) : Tq N (w.setCell ⟨g, 1, none⟩ (.bool true)) g (tear s) ∧ Grw g w (w.setCell ⟨g, 1, none⟩ (.bool true)) := by
  obtain ⟨A, cap, bb, off, h1, h2, h3, h4⟩ := h
  have hg := Grw.of_set g 1 w (.bool true)
  exact ⟨⟨A, cap, bb, off, h1.put 1 (.bool true), h2.grw hg h3, h3, h4⟩, hg⟩
theorem tq_pass {w : World} {N g : Nat} {t : Bool} {xs : List UInt8} (h : Tq N w g (t, xs)) (m : Nat) (hm : m ≤ xs.length) : ∃ A L cap A2 L2 cap2 bb off, w.cell? ⟨g, 0, none⟩ = some (.slice A L cap) ∧ Hid (xs.length = L) ∧ Hid (Bytes w (.slice A L cap) xs A cap bb off) ∧
    (∀ w : World, (Instr.slice 24 (.slice A L cap) (some (.int .i64 (m : Int))) none none).run Try.prog w = .ok (.slice A2 L2 cap2) w) ∧
    Hid (∀ w', Below w.heap.size w w' → Tq N (w'.setCell ⟨g, 0, none⟩ (.slice A2 L2 cap2)) g (t, xs.drop m) ∧ Grw g w (w'.setCell ⟨g, 0, none⟩ (.slice A2 L2 cap2)) ∧ w'.cell? ⟨g, 0, none⟩ = some (.slice A L cap) ∧ w'.frozen? ⟨g, 0, none⟩ = false) := by
  obtain ⟨A, cap, bb, off, h1, h2, h3, h4, h5⟩ := h
  obtain ⟨A2, hr2, hb2⟩ := h2.rest m hm
  refine ⟨A, _, cap, A2, _, cap - m, bb, off, h1.at_ 0, rfl, h2, hr2, fun w' hb => ?_⟩
  have hh := h1.kept hb h1.inside
  have hg := Grw.of_set g 0 w' (.slice A2 (xs.drop m).length (cap - m))
  exact ⟨⟨A2, cap - m, bb, off + m, hh.put 0 _, (hb2.kept hb (Nat.le_refl _)).grw hg h3, h3, by show (xs.drop m).length ≤ _; have : xs.length ≤ 100000 := h4; rw [List.length_drop]; omega, h5.1, fun h0 => h5.2 (by have h0 : 0 < (xs.drop m).length := h0; rw [List.length_drop] at h0; show 0 < xs.length; omega)⟩, (Grw.of_below hb).trans hg, hh.at_ 0, hh.free 0⟩
set_option maxRecDepth 100000 in
set_option maxHeartbeats 1000000 in
theorem qstep_any {N : Nat} (g : Nat) (s : St) (n : Int) (w : World) (h : Tq N w g s) :
    Calls Try.prog 63 #[.pointer (some ⟨g, 0, none⟩), .int .i64 n] w fun e w' => ∃ v A cap bb, e = .returned v ∧ Bytes w' v (bytesS s n).1 A cap bb 0 ∧ Apart w.heap.size bb ∧ Tq N w' g (bytesS s n).2 ∧ Grw g w w' := by
  have HT := hid (tearq_at h)
  have HI := hid h.inside
  have HH := hid h
  have ⟨A, cap, bb, off, h1, _⟩ := h
  have c0 : w.cell? ⟨g, 0, none⟩ = some (.slice A s.2.length cap) := h1.at_ 0
  have c1 : w.cell? ⟨g, 1, none⟩ = some (.bool s.1) := h1.at_ 1
  have f1 := h1.free 1
  clear h1
  by_cases hc : s.1 = false ∧ 0 ≤ n ∧ n ≤ (s.2.length : Int)
  · have e : bytesS s n = (s.2.take n.toNat, (s.1, s.2.drop n.toNat)) := by rw [bytesS, if_pos hc]
    rw [e]
    obtain ⟨h0, hn0, hn1⟩ := hc
    obtain ⟨m, rfl⟩ : ∃ m : Nat, n = (m : Int) := ⟨n.toNat, by omega⟩
    rw [Int.toNat_natCast]
    obtain ⟨t, xs⟩ := s
    obtain rfl : t = false := h0
    have hn1 : (m : Int) ≤ (xs.length : Int) := hn1
    obtain ⟨A1, L, cap1, A2, L2, cap2, bb1, off1, d0, HLE, HB0, hr2, HP⟩ := tq_pass h m (by omega)
    have hL : xs.length ≤ 100000 := by obtain ⟨_, _, _, _, _, _, _, h4, _⟩ := h; exact h4
    have h0g : 0 < g := by obtain ⟨_, _, _, _, _, _, _, _, h5, _⟩ := h; exact h5
    have kp := HB0.out.preRun m (by omega)
    have hb1 := HB0.out.pre m (by omega)
    have ho := World.ownsRow_nil w w.heap.size 5 1
    have hl2 : (xs.take m).length ≤ 100000 := by rw [List.length_take]; omega
    obtain ⟨v', w1, hr, ho1, hg1, _, _⟩ := append_bytes w w.heap.size _ 0 [] ho hb1 (by omega) (Nat.le_refl _)
    have HR := hid hr
    have B1 : Hid (Below w.heap.size w w1) := (Below.refl _ _).grown hg1 (Nat.le_refl _) (fun _ h => by cases h)
    obtain ⟨A3, c3, b3, y3, hb3, hv3⟩ := own_bytes (ys := xs.take m) (by rw [Nat.zero_add]) (Nat.lt_of_le_of_lt (Nat.zero_le _) (Nat.lt_of_lt_of_le HI.out B1.out.size)) ho1
    have Y3 := hid y3
    have HAP : Hid (Apart w.heap.size b3) := by
      rcases hv3 with h | ⟨_, h⟩
      · exact .inr ((ho1.lt _ h).1)
      · exact .inl h
    have HQ := hid (HP.out w1 B1.out)
    have e2 := HQ.out.2.2.2
    have d2 := HQ.out.2.2.1
    have hL2 : (m : Int) ≤ (L : Int) := by have := HLE.out; omega
    have HG0 := hid h0g
    have c1' : w.cell? ⟨g, 1, none⟩ = some (.bool false) := c1
    have hm0 : ¬ (m : Int) < 0 := by omega
    clear h hn1 hL h0g hb1 ho hl2 hr ho1 hg1 y3 hb3 hv3 e c0 c1
    go_enter Try.func63, Try.ntmps63
    go_wp2_with (at_builtin; refine wpList_append_run rfl (.tmp 24) (.tmp 30) 24 24 rfl ⟨v', w1, HR.out, ?_⟩)
    go_ret
    refine ⟨v', rfl, A3, c3, b3, Y3.out.grw (Grw.of_set g 0 w1 _) ?_, HAP.out, HQ.out.1, HQ.out.2.1⟩
    have h1 := HG0.out; have h2 := HI.out
    rcases HAP.out with h | h
    · omega
    · omega
  · have e : bytesS s n = ([], tear s) := by rw [bytesS, if_neg hc]
    rw [e]
    clear e
    obtain ⟨t, xs⟩ := s
    cases t
    · have c1' : w.cell? ⟨g, 1, none⟩ = some (.bool false) := c1
      clear h c1
      by_cases h1 : n < 0
      · clear hc
        go_enter Try.func63, Try.ntmps63
        go_wp2
        go_ret
        exact ⟨_, rfl, none, 0, 0, Bytes.nil _ (Nat.lt_of_le_of_lt (Nat.zero_le _) (Nat.lt_of_lt_of_le HI.out HT.out.2.size)), .inl rfl, HT.out.1, HT.out.2⟩
      · have h2 : (xs.length : Int) < n := by simp only [true_and] at hc; omega
        clear hc
        go_enter Try.func63, Try.ntmps63
        go_wp2
        go_ret
        exact ⟨_, rfl, none, 0, 0, Bytes.nil _ (Nat.lt_of_le_of_lt (Nat.zero_le _) (Nat.lt_of_lt_of_le HI.out HT.out.2.size)), .inl rfl, HT.out.1, HT.out.2⟩
    · have c1' : w.cell? ⟨g, 1, none⟩ = some (.bool true) := c1
      clear h hc c1
      go_enter Try.func63, Try.ntmps63
      go_wp2
      go_ret
      exact ⟨_, rfl, none, 0, 0, Bytes.nil _ (Nat.lt_of_le_of_lt (Nat.zero_le _) HI.out), .inl rfl, HH.out, Grw.refl _ _⟩
set_option maxRecDepth 100000 in
set_option maxHeartbeats 1000000 in
theorem qNum_any {N : Nat} (g : Nat) (s : St) (k : Int) (w : World) (h : Tq N w g s) :
    Calls Try.prog 50 #[.pointer (some ⟨g, 0, none⟩), .int .i64 k] w fun e w' => e = .returned (.int .u64 ((numS s k).1 : Nat)) ∧ Tq N w' g (numS s k).2 ∧ Grw g w w' := by
  obtain ⟨he, hl8⟩ := num_bytes s k
  rw [he]
  have CS := hid (qstep_any g s (ownK k) w h)
  have CM := hid (may_any k w)
  generalize bytesS s (ownK k) = q at CS hl8 ⊢
  obtain ⟨ys, s2⟩ := q
  simp only at CS hl8 ⊢
  have H8 := hid hl8
  have fin : ∀ (v : Value) (A : Option Addr) (cap bb : Nat) (w' : World), Bytes w' v ys A cap bb 0 → ∃ L, v = .slice A L cap ∧ Hid (ys.length = L) ∧ Hid (∀ j, j < L → A = some ⟨bb, 0, none⟩ ∧ w'.cell? ⟨bb, j, none⟩ = some (.int .u8 (b8 (at8 ys j)))) := fun v A cap bb w' hy =>
    ⟨_, hy.form, rfl, fun j hj => ⟨hy.src (by omega), by have := hy.cells j hj; rw [Nat.zero_add] at this; exact this⟩⟩
  have FIN := hid fin
  clear h he hl8 fin
  rcases hw : wid k with _ | _
  all_goals
    rw [hw] at CM
    unfold ownK at CS
    rw [hw] at CS
    simp only [Bool.false_eq_true, if_true, if_false] at CS
    clear hw
    go_enter Try.func50, Try.ntmps50
    go_wp2_with (first
      | (go_at_call 44; refine CM.out.mono ?_; rintro e w' ⟨rfl, rfl⟩)
      | (go_at_call 63; refine CS.out.mono ?_; rintro e w1 ⟨v, A', cap', bb', rfl, hy, hap, ht, hg⟩
         obtain ⟨L, rfl, HL, HC⟩ := FIN.out _ _ _ _ _ hy
         have HT := hid ht
         have HG := hid hg
         clear hy hap ht hg))
    go_loopw [6, 7] (fun n i wr => ∃ (j y : Nat), j ≤ L ∧ i = .int .i64 (j : Int) ∧ n = .int .u64 (y : Int) ∧ Hid (y = valL (ys.take j)) ∧ w1 = wr) (fun _ i _ => L - (intOf i).toNat)
    case atStart => exact ⟨0, 0, by omega, rfl, rfl, rfl, rfl⟩
    case round =>
      obtain ⟨j, y, hj, rfl, rfl, HY, rfl⟩ := hrel
      by_cases hlt : j < L
      · obtain ⟨hA, c1⟩ := HC.out j hlt
        subst hA
        have hb0 := b8_nonneg (at8 ys j)
        have hb1 := b8_lt (at8 ys j)
        have HYB : Hid (y < 72057594037927936) := by
          show _ < _
          rw [HY.out]
          refine Nat.lt_of_lt_of_le (valL_lt _) ?_
          have : (ys.take j).length ≤ 7 := by rw [List.length_take]; have h1 := H8.out; have h2 := HL.out; omega
          exact Nat.le_trans (Nat.pow_le_pow_right (by omega) this) (by decide)
        obtain ⟨hm1, hm2⟩ := mul_next y (at8 ys j) HYB.out
        have HN : Hid (256 * y + (at8 ys j).toNat = valL (ys.take (j + 1))) := by
          show _ = _
          rw [take_snoc _ _ (by have := HL.out; omega), valL_snoc, HY.out]
        have hL8 : L ≤ 8 := by have h1 := H8.out; have h2 := HL.out; omega
        go_wp2
        go_roundw
        case rel => exact ⟨j + 1, 256 * y + (at8 ys j).toNat, by omega, by go_num, by first | rfl | (push_cast; rfl), HN, trivial⟩
        case measure => simp [intOf]; omega
      · obtain rfl : j = L := by omega
        have e : ys.take j = ys := List.take_of_length_le (Nat.le_of_eq HL.out)
        rw [e] at HY
        go_wp2
        go_ret
        exact ⟨by rw [HY.out]; rfl, HT.out, HG.out⟩
theorem Tq.up {w : World} {g : Nat} {s : St} (h : Go.Proofs.Ytdmdddmfiankhaa.Tq w g s) : Tq w.heap.size w g s := by
  obtain ⟨A, cap, bb, off, h1, h2, h3, h4, h5⟩ := h
  exact ⟨A, cap, bb, off, h1, h2, h3, h4, h5, fun _ => h2.blk⟩
theorem Tq.down {N : Nat} {w : World} {g : Nat} {s : St} (h : Tq N w g s) : Go.Proofs.Ytdmdddmfiankhaa.Tq w g s := by
  obtain ⟨A, cap, bb, off, h1, h2, h3, h4, h5, _⟩ := h
  exact ⟨A, cap, bb, off, h1, h2, h3, h4, h5⟩
theorem Tq.low {N : Nat} {w w' : World} {g : Nat} {s : St} (h : Tq N w g s) (hg : g < N) (hb : Below N w w') : Tq N w' g s := by
  obtain ⟨A, cap, bb, off, h1, h2, h3, h4, h5, h6⟩ := h
  have hz := h2.zero
  obtain ⟨t, xs⟩ := s
  have k1 := h1.kept hb hg
  rcases Nat.eq_zero_or_pos xs.length with h0 | h0
  · obtain rfl : xs = [] := List.eq_nil_of_length_eq_zero h0
    exact ⟨A, cap, 0, 0, k1, Bytes.empty hz (Nat.lt_of_le_of_lt (Nat.zero_le _) k1.inside), Nat.ne_of_lt h5, h4, h5, fun h => absurd h (by simp)⟩
  · refine ⟨A, cap, bb, off, k1, ⟨h2.form, h2.le, h2.zero, fun a ha j hj => ?_, Nat.lt_of_lt_of_le h2.blk hb.size, h2.src⟩, h3, h4, h5, h6⟩
    have e := h2.at_ a ha j hj
    have h7 := h2.src h0
    rw [ha] at h7
    obtain rfl := Option.some.inj h7
    rw [add_at] at e ⊢
    exact (hb.cell (p := ⟨bb, off + j, none⟩) (h6 h0)).trans e
end Go.Proofs.Ytdmdddmfiankhaa.Low
namespace Go.Proofs.Ytdmdddmfiankhaa
open Go.RowKit
theorem own_mono {B B' n : Nat} {t : TypeId} {w : World} {v : Value} {xs : List Value} (h : w.ownsRow B t 1 v n xs) (hb : B' ≤ B) : w.ownsRow B' t 1 v n xs := by
  refine ⟨h.1, ?_⟩
  rcases h.2 with ⟨h1, h2⟩ | ⟨g, c, cur, h1, h2, h3⟩
  · exact .inl ⟨h1, h2⟩
  · exact .inr ⟨g, c, cur, h1, Nat.le_trans hb h2, h3⟩
set_option maxRecDepth 100000 in
set_option maxHeartbeats 1000000 in
theorem qRow_less (g : Nat) (s : St) (most width : Int) (hm : most < 0) (w : World) (h : Tq w g s) :
    Calls Try.prog 24 #[.pointer (some ⟨g, 0, none⟩), .int .i64 most, .int .i64 width] w fun e w' => ∃ v, e = .returned v ∧ w'.ownsRow w.heap.size 22 1 v (rowS s most width).1.length ((rowS s most width).1.map V64) ∧ Tq w' g (rowS s most width).2 ∧ Grw g w w' := by
  have he : rowS s most width = ([], tear s) := by rw [rowS, if_pos hm]
  rw [he]
  have HT := hid (tearq_at h)
  obtain ⟨A, cap, bb, off, h1, _⟩ := h
  have c1 : w.cell? ⟨g, 1, none⟩ = some (.bool s.1) := h1.at_ 1
  have f1 := h1.free 1
  clear h1 he
  go_enter Try.func24, Try.ntmps24
  go_wp2
  go_ret
  exact ⟨_, rfl, World.ownsRow_nil _ _ _ _, HT.out.1, HT.out.2⟩
set_option maxRecDepth 100000 in
set_option maxHeartbeats 1000000 in
theorem qRow_more (g : Nat) (s : St) (m : Nat) (him : m < 9223372036854775808) (width : Int) (w : World) (h : Tq w g s) :
    Calls Try.prog 24 #[.pointer (some ⟨g, 0, none⟩), .int .i64 (m : Int), .int .i64 width] w fun e w' => ∃ v, e = .returned v ∧ w'.ownsRow w.heap.size 22 1 v (rowS s (m : Int) width).1.length ((rowS s (m : Int) width).1.map V64) ∧ Tq w' g (rowS s (m : Int) width).2 ∧ Grw g w w' := by
  obtain ⟨i0, hi, hz0, hz1, hz2⟩ := info_parts info64
  have CB := hid (qBelow_any g s 2 m w h)
  have he : rowS s (m : Int) width = rowL width (belowS s 2 m).1 (belowS s 2 m).2 [] := by rw [rowS, if_neg (by omega), Int.toNat_natCast]
  rw [he]
  obtain ⟨h65, htn⟩ := below_small s m
  generalize belowS s 2 m = q at CB h65 htn ⊢
  obtain ⟨c, s1⟩ := q
  simp only at CB h65 htn ⊢
  have w1 : IntKind.u64.wrap (m : Int) = m := u64in _ (by omega)
  have hm0 : ¬ (m : Int) < 0 := by omega
  have HI0 := hid h.inside
  have H65 := hid h65
  have HTN := hid htn
  clear h he him htn
  obtain ⟨R, HR⟩ : ∃ R, Hid (rowL width c s1 [] = R) := ⟨_, rfl⟩
  rw [HR.out]
  go_enter Try.func24, Try.ntmps24
  go_wp2_with (go_at_call 49; refine CB.out.mono ?_; rintro e1 w1 ⟨rfl, ht, hg⟩)
  have T1 := hid (Low.Tq.up ht)
  have G1 := hid hg
  have BS : Hid (w.heap.size ≤ w1.heap.size) := hg.size
  have HI : Hid (g < w1.heap.size) := Nat.lt_of_lt_of_le HI0.out hg.size
  clear ht hg
  have HSTART : Hid (s1.1 = false ∧ rowL width (c - 0) s1 [] = R ∨ s1.1 = true ∧ R = ([], s1)) := by
    rcases h1 : s1.1 with _ | _
    · exact .inl ⟨rfl, HR.out⟩
    · refine .inr ⟨rfl, ?_⟩
      have h2 := HR.out
      rw [HTN.out h1, rowL] at h2
      exact h2.symm
  go_loopw [8, 9] (fun v i wr => ∃ (j : Nat) (st : St) (acc : List Nat), j ≤ c ∧ i = .int .i64 (j : Int) ∧ Hid (st.1 = false ∧ rowL width (c - j) st acc = R ∨ st.1 = true ∧ R = ([], st)) ∧ Hid (wr.ownsRow w1.heap.size 22 1 v j (acc.map V64)) ∧ Hid (Low.Tq w1.heap.size wr g st) ∧ Hid (Grw g w1 wr)) (fun _ i _ => c - (intOf i).toNat)
  case atStart => exact ⟨0, s1, [], by omega, rfl, HSTART, World.ownsRow_nil _ _ _ _, T1, Grw.refl _ _⟩
  case round =>
    obtain ⟨j, st, acc, hj, rfl, HL, HO, HT, HG⟩ := hrel
    obtain ⟨A9, cap9, bb9, off9, h1, _⟩ := id HT.out
    have d1 : wr.cell? ⟨g, 1, none⟩ = some (.bool st.1) := h1.at_ 1
    clear h1
    rcases ht : st.1 with _ | _
    · rw [ht] at d1
      have hl : rowL width (c - j) st acc = R := by
        rcases HL.out with h | h
        · exact h.2
        · rw [ht] at h; cases h.1
      by_cases hlt : j < c
      · have CK := hid (Low.qNum_any g st width _ HT.out)
        obtain ⟨d, hd⟩ : ∃ d, c - j = d + 1 := ⟨c - j - 1, by omega⟩
        rw [hd, rowL] at hl
        generalize numS st width = q at CK hl
        obtain ⟨x, st2⟩ := q
        simp only at CK hl
        have hd2 : c - (j + 1) = d := by omega
        have HL2 : Hid (st2.1 = false ∧ rowL width (c - (j + 1)) st2 (acc ++ [x]) = R ∨ st2.1 = true ∧ R = ([], st2)) := by
          show _ ∨ _
          rcases h2 : st2.1 with _ | _
          · rw [h2] at hl
            rw [hd2]
            exact .inl ⟨rfl, by simpa using hl⟩
          · rw [h2] at hl
            exact .inr ⟨rfl, by simpa using hl.symm⟩
        have N1 : Hid (∀ u ∈ [Value.int .u64 (x : Int)], u.oneCell' = true) := by
          intro u hu
          rw [List.mem_singleton] at hu
          subst hu; rfl
        have hj9 : j < 65535 := by have := H65.out; omega
        have N2 : Hid (j + 1 ≤ maxLen) := by show _ ≤ _; unfold maxLen; omega
        have N3 : Hid ((j + 1) * 8 ≤ 140737488355328) := by show _ ≤ _; omega
        have N5 : Hid ((acc ++ [x]).map V64 = acc.map V64 ++ [Value.int .u64 (x : Int)]) := by show _ = _; rw [List.map_append]; rfl
        have NW : Hid (∀ w2 : World, Grw g wr w2 → ∀ o, w1.heap.size ≤ (w2.alloc o).heap.size) := by
          intro w2 hg o
          have h1 := HG.out.size; have h2 := hg.size
          simp; omega
        clear hl hd hd2 ht
        go_wp2_with (first
          | (go_at_call 50; refine CK.out.mono ?_; rintro e2 w2 ⟨rfl, ht, hg⟩
             have T2 := hid ht
             have G2 := hid hg
             have O2 := hid (own_aside HO.out hg HI.out)
             clear ht hg)
          | (at_builtin; refine wpList_append_own _ rfl _ _ 46 rfl w1.heap.size 22 i0 (.int .u64 0) 1 8 Try.underlying46 hi hz0 hz1 hz2 rfl (by omega) _ _ _ rfl (O2.out.alloc _) ⟨w2.heap.size, 0, none⟩ 1 1 [Value.int .u64 (x : Int)] rfl rfl (cell_one_new _ _ _) N1.out N2.out N3.out (NW.out _ G2.out _) ?_; intro v' w4 hown' hgrow _))
        have O4 : Hid (w4.ownsRow w1.heap.size 22 1 v' (j + 1) ((acc ++ [x]).map V64)) := by rw [N5.out]; exact hown'
        have B4 : Hid (Below w1.heap.size w2 w4) := ((Below.refl _ _).alloc (Nat.le_trans HG.out.size G2.out.size) _).grown hgrow (NW.out _ G2.out _) (fun z hz => (O2.out.lt z hz).1)
        have T4 : Hid (Low.Tq w1.heap.size w4 g st2) := T2.out.low HI.out B4.out
        have G4 : Hid (Grw g w1 w4) := (HG.out.trans G2.out).low B4.out
        clear hown' hgrow
        go_wp2
        go_roundw
        case rel => exact ⟨j + 1, st2, acc ++ [x], by omega, by go_num, HL2, O4, T4, G4⟩
        case measure => simp [intOf]; omega
      · obtain rfl : j = c := by omega
        rw [Nat.sub_self, rowL] at hl
        have HRE : Hid (R = (acc, st)) := hl.symm
        have HAL : Hid (acc.length = j) := by
          have := HO.out.1
          show _ = _
          simpa using this
        clear hl hlt ht
        go_wp2
        go_ret
        rw [HRE.out]
        refine ⟨_, rfl, ?_, HT.out.down, G1.out.trans HG.out⟩
        show World.ownsRow _ _ _ _ _ acc.length _
        rw [HAL.out]
        exact own_mono HO.out BS.out
    · rw [ht] at d1
      have HRE : Hid (R = ([], st)) := by
        rcases HL.out with h | h
        · rw [ht] at h; cases h.1
        · exact h.2
      clear ht
      by_cases hlt : (j : Int) < (c : Int)
      · go_wp2
        go_ret
        rw [HRE.out]
        exact ⟨_, rfl, World.ownsRow_nil _ _ _ _, HT.out.down, G1.out.trans HG.out⟩
      · go_wp2
        go_ret
        rw [HRE.out]
        exact ⟨_, rfl, World.ownsRow_nil _ _ _ _, HT.out.down, G1.out.trans HG.out⟩
end Go.Proofs.Ytdmdddmfiankhaa
