/- caravanlaw10.cut, laid: what each call does. Conditions: frames that come in; a heap that has a block. -/
import Derived.Test.YtakgbopkkechgaaFX
namespace Go.Proofs.Ytakgbopkkechgaa
open Go.RowKit
theorem up_row (V : World) (x : Obj) : Below V.heap.size V (V.alloc x) := (Below.refl _ _).alloc (Nat.le_refl _) _
def cutB (s : ByteArray) : ByteArray := ba ((tl s).take 2000)
theorem cutB_size (s : ByteArray) : (cutB s).size ≤ 2000 := by rw [cutB, ba_size, List.length_take]; omega
set_option maxRecDepth 100000 in
set_option maxHeartbeats 400000 in
theorem cut10_any (s : ByteArray) (w : World) : Calls Try.prog 28 #[.string s] w fun e w' => e = .returned (.string (cutB s)) ∧ w = w' := by
  obtain ⟨t, ht, hc⟩ := cut_text s 2000
  have e : cutB s = t := by
    rcases hc with ⟨rfl, h⟩ | ⟨_, h⟩
    · rw [cutB, List.take_of_length_le (by rw [tl_length]; omega), ba_tl]
    · rw [cutB, ← h, ba_take]
  rw [e]
  clear e ht
  rcases hc with ⟨rfl, hs⟩ | ⟨hs, e0⟩
  all_goals
    go_enter Try.func28, Try.ntmps28
    go_wp2
    go_ret
    exact ⟨rfl, rfl⟩
/-- What laid hands back. -/
def Laid (w w' : World) (v1 v2 : Value) (ws : List Fr) : Prop := FRow w.heap.size w' v1 ws ∧ w'.ownsRow w.heap.size 5 1 v2 (flat ws).length ((flat ws).map V8) ∧ Below w.heap.size w w' ∧ (∀ f ∈ ws, okW f) ∧ ws.length ≤ 20
set_option maxRecDepth 100000 in
set_option maxHeartbeats 8000000 in
theorem laid_any (A : Option Addr) (n cap bp off : Nat) (xs : List (Int × ByteArray)) (w : World) (hp : 0 < w.heap.size) (hr : FrmsIn w A n bp off xs) :
    Calls Try.prog 21 #[.slice A n cap] w fun e w' => ∃ v1 v2, e = .returned (.tuple #[v1, v2]) ∧ ∃ ws, Laid w w' v1 v2 ws := by
  have HP := hid hp
  have HR := hid hr
  clear hp hr
  go_enter Try.func21, Try.ntmps21
  go_wp2_with (fail)
  go_loopw [4, 5, 6] (fun v1 v2 i wr => ∃ (j : Nat) (ws : List Fr), j ≤ 20 ∧ i = .int .i64 (j : Int) ∧ Hid (ws.length ≤ j) ∧ Hid (∀ f ∈ ws, okW f) ∧ Hid (FRow w.heap.size wr v1 ws) ∧ Hid (wr.ownsRow w.heap.size 5 1 v2 (flat ws).length ((flat ws).map V8)) ∧ Hid (Below w.heap.size w wr)) (fun _ _ i _ => 20 - (intOf i).toNat)
  case atStart => exact ⟨0, [], by omega, rfl, Nat.le_refl _, (fun f hf => by cases hf), FRow.nil _ _, World.ownsRow_nil _ _ _ _, Below.refl _ _⟩
  case round =>
    obtain ⟨j, ws, hj, rfl, HL, HK, H1, H2, HB⟩ := hrel
    by_cases hlt : j < n
    · by_cases hlt2 : j < 20
      · obtain ⟨x, hx⟩ : ∃ x, xs.getD j (0, ⟨#[]⟩) = x := ⟨_, rfl⟩
        obtain rfl := (HR.out.2.1 (by omega)).1
        have HPA : Hid (∀ W, Below w.heap.size w W → FrmAt W bp (off + j * 2) x) := fun W hb => by rw [← hx]; exact (HR.out.kept hb (Nat.le_refl _)).2.2 j hlt
        obtain ⟨kind, s⟩ := x
        obtain ⟨c0, c1⟩ := HPA.out _ HB.out
        simp only at c0 c1
        have g0 : (0 : Int) ≤ (j : Int) := by omega
        have g1 : (j : Int) < (n : Int) := by omega
        have g2 : (j : Int) < 20 := by omega
        have CC := hid (cut10_any s wr)
        obtain ⟨t, het⟩ : ∃ t, cutB s = t := ⟨_, rfl⟩
        have HTS : Hid (t.size ≤ 2000) := by show _ ≤ _; rw [← het]; exact cutB_size s
        rw [het] at CC
        have KC := conv_string t
        have CP : Hid (Calls Try.prog 11 #[.int .i64 kind, .slice (some ⟨wr.heap.size, 0, none⟩) t.size (grownCap wr t.size 0 5)] (Lib.bytesWorld wr 5 t) fun e w' => ∃ v', e = .returned (.tuple #[v', .int .i64 (putE kind (tl t))]) ∧ Fresh wr.heap.size w' v' (putL kind (tl t)) ∧ Below wr.heap.size wr w') := by
          refine (fput_any kind _ (tl t) _ _ _ _ _ (conv_bytes t wr)).mono ?_
          rintro e w' ⟨v', rfl, hf, hb⟩
          exact ⟨v', rfl, hf.mono (conv_below t wr).size, (conv_below t wr).trans (hb.mono (conv_below t wr).size)⟩
        clear hlt hlt2 het hx
        rcases hk : kindOk kind with _ | _
        · have E1 : putE kind (tl t) = 2 := by simp [putE, hk]
          rw [E1] at CP
          clear hk E1
          go_wp2_with (fail)
          refine CC.out.mono ?_
          rintro e1 w1 ⟨rfl, rfl⟩
          go_wp2_with (fail)
          refine CP.out.mono ?_
          rintro e2 w2 ⟨v2', rfl, hf2, hb2⟩
          have B2 := hid hb2
          obtain ⟨A2, c2, b2, y2, _, _⟩ := hf2.bytes (Nat.lt_of_lt_of_le HP.out (Nat.le_trans HB.out.size B2.out.size))
          have ey := y2.form
          obtain ⟨nn, hnn⟩ : ∃ nn, (putL kind (tl t)).length = nn := ⟨_, rfl⟩
          rw [hnn] at ey
          subst ey
          clear hf2 hb2 y2 hnn CP CC
          go_wp2
          go_roundw
          case rel => exact ⟨j + 1, ws, by omega, by go_num, by have := HL.out; show _ ≤ _; omega, HK, H1.out.kept B2.out, own_same H2.out (fun k hk => B2.out.block k (H2.out.lt k hk).2), HB.out.trans (B2.out.mono HB.out.size)⟩
          case measure => simp [intOf]; omega
        · obtain ⟨k, rfl, hkk, hok⟩ := kind_byte hk
          have hb8 : (tl t).length ≤ 16384 := by rw [tl_length]; have := HTS.out; omega
          rw [(put_back k (tl t) hok hb8).1, (put_back k (tl t) hok hb8).2] at CP
          have HOK : Hid (okKind k) := hok
          have HFL : Hid ((frL k (tl t)).length ≤ 2005) := by show _ ≤ _; rw [frL_len, tl_length]; have := HTS.out; omega
          clear hk hkk hok hb8
          go_wp2_with (fail)
          refine CC.out.mono ?_
          rintro e1 w1 ⟨rfl, rfl⟩
          go_wp2_with (fail)
          refine CP.out.mono ?_
          rintro e2 w2 ⟨v2', rfl, hf2, hb2⟩
          have B2 := hid hb2
          obtain ⟨A2, c2, b2, y2, _, _⟩ := hf2.bytes (Nat.lt_of_lt_of_le HP.out (Nat.le_trans HB.out.size B2.out.size))
          have ey := y2.form
          have HY2 := hid y2
          have HF2 := hid hf2
          obtain ⟨nn, hnn⟩ : ∃ nn, (frL k (tl t)).length = nn := ⟨_, rfl⟩
          rw [hnn] at ey
          subst ey
          have HBW : Hid (Below w.heap.size w w2) := HB.out.trans (B2.out.mono HB.out.size)
          have H1b := hid (H1.out.kept B2.out)
          have H2b := hid (own_same H2.out (fun k hk => B2.out.block k (H2.out.lt k hk).2))
          obtain ⟨d0, d1⟩ := HPA.out _ HBW.out
          simp only at d0 d1
          have HWL : Hid (ws.length ≤ 20) := by show _ ≤ _; have := HL.out; omega
          clear hf2 hb2 y2 hnn CP CC H1 H2 HB c0 c1
          go_wp2_with (first
            | (at_builtin; refine wpList_append_run (by rfl) _ _ 48 48 (by rfl) ?_
               obtain ⟨v6, w6, hr6, ho6, hg6⟩ := H1b.out.append k t (by have := HWL.out; omega) HBW.out.size
               refine ⟨v6, w6, hr6, ?_⟩
               have ba := HBW.out.alloc HBW.out.size (.cells #[.int .i64 (b8 k), .string t] 52)
               have B6 : Hid (Below w.heap.size w w6) := ba.grown hg6 (by have := HBW.out.size; simp; omega) (fun g hg => (H1b.out.lt hg).1)
               have H1c := hid ho6
               have up := up_row w2 (.cells #[.int .i64 (b8 k), .string t] 52)
               have H2c : Hid (w6.ownsRow w.heap.size 5 1 _ (flat ws).length ((flat ws).map V8)) := own_same H2b.out (fun g hg => (hg6.block g (Nat.lt_of_lt_of_le (H2b.out.lt g hg).2 up.size) (fun e => H1b.out.bytes H2b.out e.symm hg)).trans (up.block g (H2b.out.lt g hg).2))
               have F6 : w6.ownsRow wr.heap.size 5 1 (.slice A2 nn c2) (frL k (tl t)).length ((frL k (tl t)).map V8) := own_same HF2.out (fun g hg => (hg6.block g (Nat.lt_of_lt_of_le (World.ownsRow.lt HF2.out g hg).2 up.size) (fun e => H1b.out.bytes HF2.out e.symm hg)).trans (up.block g (World.ownsRow.lt HF2.out g hg).2))
               have Y6 : Hid (∃ A' c' b', Bytes w6 (.slice A2 nn c2) (frL k (tl t)) A' c' b' 0) := by
                 obtain ⟨A', c', b', y6, _⟩ := own_bytes rfl (Nat.lt_of_lt_of_le HP.out B6.out.size) F6
                 exact ⟨A', c', b', y6⟩
               clear hr6 ho6 hg6 ba up H1b H2b F6 HF2)
            | (at_builtin; refine wpList_append_run (by rfl) _ _ 22 22 (by rfl) ?_
               obtain ⟨A', c', b', y6⟩ := Y6.out
               obtain ⟨v7, w7, hr7, ho7, hg7, _, _⟩ := append_bytes w6 w.heap.size _ _ _ H2c.out y6 (by have := HFL.out; have h1 := flat_len ws HK.out; have := HWL.out; omega) B6.out.size
               refine ⟨v7, w7, hr7, ?_⟩
               have B7 : Hid (Below w.heap.size w w7) := B6.out.grown hg7 B6.out.size (fun g hg => (H2c.out.lt g hg).1)
               have H1d := hid (H1c.out.same (fun g hg => hg7.block g (H1c.out.lt hg).2 (fun e => H1c.out.bytes H2c.out hg e.symm)))
               rw [← List.map_append, ← flat_snoc ws (k, t), ← List.length_append, ← flat_snoc ws (k, t)] at ho7
               have H2d := hid ho7
               clear hr7 ho7 hg7 H1c H2c))
          go_roundw
          case rel => exact ⟨j + 1, ws ++ [(k, t)], by omega, by go_num, by have := HL.out; show _ ≤ _; rw [List.length_append]; simp; omega, (fun f hf => by
            rcases List.mem_append.1 hf with h | h
            · exact HK.out f h
            · rw [List.mem_singleton] at h
              subst h
              exact ⟨HOK.out, HTS.out⟩), H1d, H2d, B7⟩
          case measure => simp [intOf]; omega
      · have g1 : (j : Int) < (n : Int) := by omega
        have g2 : ¬ (j : Int) < 20 := by omega
        have HJ : Hid (ws.length ≤ 20) := by show _ ≤ _; have := HL.out; omega
        clear hlt hlt2 hj
        go_wp2
        go_ret2
        exact ⟨_, _, rfl, ws, H1.out, H2.out, HB.out, HK.out, HJ.out⟩
    · have g1 : ¬ (j : Int) < (n : Int) := by omega
      have HJ : Hid (ws.length ≤ 20) := by show _ ≤ _; have := HL.out; omega
      clear hlt hj
      go_wp2
      go_ret2
      exact ⟨_, _, rfl, ws, H1.out, H2.out, HB.out, HK.out, HJ.out⟩
end Go.Proofs.Ytakgbopkkechgaa
