/- The document's digest: Sum (caravanref01). Conditions: bytes that lie in a block, at most 100000. -/
import Derived.Test.YtoeomghebgbniaaDoorZM
import Derived.Test.YtoeomghebgbniaaDoorSK
namespace Go.Proofs.YtoeomghebgbniaaDoor.Sha
open Go.RowKit
@[irreducible] def IsSum (ys r : List UInt8) : Prop := shaL ys = r
theorem IsSum.mk {ys r : List UInt8} (h : shaL ys = r) : IsSum ys r := by unfold IsSum; exact h
theorem IsSum.eq {ys r : List UInt8} (h : IsSum ys r) : shaL ys = r := by unfold IsSum at h; exact h
@[irreducible] def IsDig (r P : List UInt8) (m : Nat) : Prop := r = dig (stAt P m) 8
theorem IsDig.mk {r P : List UInt8} {m : Nat} (h : r = dig (stAt P m) 8) : IsDig r P m := by unfold IsDig; exact h
theorem IsDig.eq {r P : List UInt8} {m : Nat} (h : IsDig r P m) : r = dig (stAt P m) 8 := by unfold IsDig at h; exact h
@[irreducible] def IsDigN (st : List (BitVec 32)) (r : List UInt8) : Prop := digN st 32 = r
theorem IsDigN.mk {st : List (BitVec 32)} {r : List UInt8} (h : digN st 32 = r) : IsDigN st r := by unfold IsDigN; exact h
theorem IsDigN.eq {st : List (BitVec 32)} {r : List UInt8} (h : IsDigN st r) : digN st 32 = r := by unfold IsDigN at h; exact h
theorem sum_primes (w w1 : World) (z : Array Value) (hb : Below (w.alloc (.cells z 34)).heap.size (w.alloc (.cells z 34)) w1) (hz : z = zero32) : Hid (Below w.heap.size w w1) ∧ Hid (Has w1 w.heap.size 34 zero32) ∧ Hid (w.heap.size < w1.heap.size) := by
  subst hz
  have := hb.size
  simp at this
  exact ⟨((Below.refl _ _).alloc (Nat.le_refl _) _).trans (hb.mono (by simp)), (Has.fresh w 34 zero32).kept hb (by simp), by show _ < _; omega⟩
set_option maxRecDepth 100000 in
set_option maxHeartbeats 2000000 in
theorem refSum_any (ys : List UInt8) (A : Option Addr) (n cap bb off : Nat) (w : World) (hn : ys.length = n) (hm : n ≤ 100000) (hs : Bytes w (.slice A n cap) ys A cap bb off) :
    Calls Tryd.prog 21 #[.slice A n cap] w fun e w' => e = .returned (.agg (bvec (shaL ys))) ∧ Below w.heap.size w w' := by
  obtain ⟨i0, hi, hz0, hz1, hz2⟩ := info_parts infoU32
  have HS := hid hs
  have HN := hid hn
  obtain ⟨r, HR0⟩ : ∃ r, shaL ys = r := ⟨_, rfl⟩
  have HR := IsSum.mk HR0
  rw [HR0]
  clear HR0
  clear hs hn
  go_enter Tryd.func21, Tryd.ntmps21
  go_wp2_with fail
  refine (primes_any _).mono ?_
  rintro e1 w1 ⟨v, rfl, hown, hb1⟩
  obtain ⟨g3, c3, rfl, h3a, h3b, h3c⟩ := primes_cells hown
  obtain ⟨B1, R1, L1⟩ := sum_primes w w1 _ hb1 rfl
  have P3 := hid h3c
  have G3 := hid h3a
  clear hown hb1 h3a h3b h3c
  go_wp2
  go_loopw [5, 6] (fun v i wr => ∃ (k : Nat) (B : Option Addr) (c : Nat), k ≤ 64 ∧ v = .slice B k c ∧ i = .int .i64 (k : Int) ∧ Hid (wr.ownsRow w1.heap.size 54 1 (.slice B k c) k ((kList.take k).map V32)) ∧ Hid (Below w1.heap.size w1 wr))
    (fun _ i _ => 64 - (intOf i).toNat)
  case atStart => exact ⟨0, none, 0, by omega, rfl, rfl, World.ownsRow_nil _ _ _ _, Below.refl _ _⟩
  case round =>
    obtain ⟨k, B, c, hk, rfl, rfl, HO, HB⟩ := hrel
    by_cases hlt : k < 64
    · as_aux_lemma =>
      have ck := (HB.out.cell (p := ⟨g3, k, none⟩) G3.out).trans (P3.out k hlt)
      have CC : Hid (∀ W, Calls Tryd.prog 44 #[.int .u64 (prm k : Nat)] W fun e w' => e = .returned (.int .u32 (u (at32 kList k))) ∧ W = w') := fun W => by rw [← cube_at k hlt]; exact cube_any (prm k) (prm_lt k hlt) W
      have N2 : Hid (k + 1 ≤ maxLen) := by show _ ≤ _; unfold maxLen; omega
      have N3 : Hid ((k + 1) * 4 ≤ 140737488355328) := by show _ ≤ _; omega
      have N4 : Hid (∀ o, w1.heap.size ≤ (wr.alloc o).heap.size) := by intro o; have := HB.out.size; simp; omega
      go_wp2_with fail
      refine (CC.out _).mono ?_; rintro ee ww ⟨rfl, rfl⟩
      go_wp2_with (at_builtin; refine wpList_append_own _ rfl _ _ 53 rfl w1.heap.size 54 i0 (.int .u32 0) 1 4 Tryd.underlying53 hi hz0 hz1 hz2 rfl (by omega) _ _ _ rfl (HO.out.alloc _) ⟨wr.heap.size, 0, none⟩ 1 1 [Value.int .u32 (u (at32 kList k))] rfl rfl (cell_one_new _ _ _) (one_u32 _) N2.out N3.out (N4.out _) ?_; intro v3 w3 hown hgrow _)
      have HB3 : Hid (Below w1.heap.size w1 w3) :=
        ((HB.out.alloc HB.out.size _).grown hgrow (N4.out _) (fun g hk => (HO.out.lt g hk).1))
      obtain ⟨g5, c5, rfl⟩ := ownsRow_succ hown
      have HO3 : Hid (w3.ownsRow w1.heap.size 54 1 (.slice (some ⟨g5, 0, none⟩) (k + 1) c5) (k + 1) ((kList.take (k + 1)).map V32)) := by
        rw [take_next _ _ hlt]; exact hown
      clear hown hgrow
      go_wp2
      go_roundw
      case rel => exact ⟨k + 1, _, _, by omega, rfl, rfl, HO3, HB3⟩
      case measure => simp [intOf]; omega
    · obtain rfl : k = 64 := by omega
      as_aux_lemma =>
      obtain ⟨g5, rfl, K2, _⟩ := row_own (l := kList) (n := 64) rfl (by omega) HO.out
      have B2 : Hid (Below w.heap.size w wr) := B1.out.trans (HB.out.mono (Nat.le_of_lt L1.out))
      have R2 : Hid (Has wr w.heap.size 34 zero32) := R1.out.kept HB.out L1.out
      have P2 : Hid (∀ i, i < 64 → wr.cell? ⟨g3, i, none⟩ = some (.int .u64 (prm i : Nat))) := fun i hi => (HB.out.cell (p := ⟨g3, i, none⟩) G3.out).trans (P3.out i hi)
      have G2 : Hid (g3 < wr.heap.size) := Nat.lt_of_lt_of_le G3.out HB.out.size
      have K2 := hid K2
      clear P3 G3 HO HB B1 R1 L1
      generalize wr = w2 at *
      rw [show ((64 : Nat) : Int) = 64 from rfl]
      go_wp2
      go_loopw [4, 8] (fun v i wr => ∃ (k : Nat) (B : Option Addr) (c : Nat), k ≤ 8 ∧ v = .slice B k c ∧ i = .int .i64 (k : Int) ∧ Hid (wr.ownsRow w2.heap.size 54 1 (.slice B k c) k ((hList.take k).map V32)) ∧ Hid (Below w2.heap.size w2 wr))
        (fun _ i _ => 8 - (intOf i).toNat)
      case atStart => exact ⟨0, none, 0, by omega, rfl, rfl, World.ownsRow_nil _ _ _ _, Below.refl _ _⟩
      case round =>
        obtain ⟨k, B, cc, hk, rfl, rfl, HO, HB⟩ := hrel
        by_cases hlt : k < 8
        · as_aux_lemma =>
          have ck := (HB.out.cell (p := ⟨g3, k, none⟩) G2.out).trans (P2.out k (by omega))
          have CC : Hid (∀ W, Calls Tryd.prog 45 #[.int .u64 (prm k : Nat)] W fun e w' => e = .returned (.int .u32 (u (at32 hList k))) ∧ W = w') := fun W => by rw [← square_at k hlt]; exact square_any (prm k) (prm_lt k (by omega)) W
          have N2 : Hid (k + 1 ≤ maxLen) := by show _ ≤ _; unfold maxLen; omega
          have N3 : Hid ((k + 1) * 4 ≤ 140737488355328) := by show _ ≤ _; omega
          have N4 : Hid (∀ o, w2.heap.size ≤ (wr.alloc o).heap.size) := by intro o; have := HB.out.size; simp; omega
          go_wp2_with fail
          refine (CC.out _).mono ?_; rintro ee ww ⟨rfl, rfl⟩
          go_wp2_with (at_builtin; refine wpList_append_own _ rfl _ _ 53 rfl w2.heap.size 54 i0 (.int .u32 0) 1 4 Tryd.underlying53 hi hz0 hz1 hz2 rfl (by omega) _ _ _ rfl (HO.out.alloc _) ⟨wr.heap.size, 0, none⟩ 1 1 [Value.int .u32 (u (at32 hList k))] rfl rfl (cell_one_new _ _ _) (one_u32 _) N2.out N3.out (N4.out _) ?_; intro v3 w3 hown hgrow _)
          have HB3 : Hid (Below w2.heap.size w2 w3) :=
            ((HB.out.alloc HB.out.size _).grown hgrow (N4.out _) (fun g hk => (HO.out.lt g hk).1))
          obtain ⟨g4, c4, rfl⟩ := ownsRow_succ hown
          have HO3 : Hid (w3.ownsRow w2.heap.size 54 1 (.slice (some ⟨g4, 0, none⟩) (k + 1) c4) (k + 1) ((hList.take (k + 1)).map V32)) := by
            rw [take_next _ _ hlt]; exact hown
          clear hown hgrow
          go_wp2
          go_roundw
          case rel => exact ⟨k + 1, _, _, by omega, rfl, rfl, HO3, HB3⟩
          case measure => simp [intOf]; omega
        · obtain rfl : k = 8 := by omega
          as_aux_lemma =>
          obtain ⟨g4, rfl, S3, S3b⟩ := row_own (l := hList) (n := 8) rfl (by omega) HO.out
          have B3 : Hid (Below w.heap.size w wr) := B2.out.trans (HB.out.mono B2.out.size)
          have R3 : Hid (Has wr w.heap.size 34 zero32) := R2.out.kept HB.out R2.out.inside
          have K3 : Hid (Row wr g5 kList) := K2.out.kept HB.out K2.out.inside
          have D3 : Hid (g4 ≠ g5) := by show _ ≠ _; have := K2.out.inside; omega
          have D4 : Hid (w.heap.size < g4) := by show _ < _; have := R2.out.inside; omega
          have S3 := hid S3
          clear P2 G2 HO HB B2 R2 K2 S3b
          generalize wr = w3 at *
          have E3 : Hid (Env0 w g4 g5 w3) := ⟨S3.out, K3.out, R3.out, B3.out⟩
          clear S3 K3 R3 B3
          rw [show ((8 : Nat) : Int) = 8 from rfl]
          go_wp2_with fail
          refine (padded_any ys A cap bb off _ n HN.out hm (HS.out.kept E3.out.below (Nat.le_refl _))).mono ?_
          rintro ee w4 ⟨v, rfl, hown, hb⟩
          obtain ⟨P, HP⟩ : ∃ P, Hid (ys ++ padL n = P) := ⟨_, rfl⟩
          rw [HP.out] at hown
          obtain ⟨m, HM⟩ : ∃ m, Hid (P.length = 64 * m) := ⟨P.length / 64, by
            show _ = _
            have := padL_mod n
            rw [← HP.out, List.length_append, HN.out]; omega⟩
          have hm0 : 0 < m := by
            have := HM.out
            rw [← HP.out, List.length_append] at this
            have := padL_pos n; omega
          rw [HM.out] at hown
          obtain ⟨gp, cp, rfl, hcp, hgp, hgq, hpc⟩ := bytes_owned (by omega) hown
          have E4 : Hid (Env w g4 g5 gp (stAt P 0) P w4) := E3.out.env hb hgq hpc
          have D6 : Hid (gp ≠ g4 ∧ gp ≠ g5 ∧ gp ≠ w.heap.size) := by
            have h1 := E3.out.st.inside; have h2 := E3.out.k.inside; have h3 := E3.out.res.inside
            exact ⟨by omega, by omega, by omega⟩
          have HSH : IsDig r P m := IsDig.mk (by
            rw [← HR.eq, sha_blocks ys m (by rw [HN.out, HP.out, HM.out]), HN.out, HP.out])
          have ML : Hid (64 * m ≤ 110000) := by
            show _ ≤ _
            have := HM.out; rw [← HP.out, List.length_append, HN.out] at this
            have := padL_len n; omega
          have HC := hid hcp
          clear E3 hb hown hgp hgq hpc hcp hm HP HN HS HR
          go_wp2
          obtain ⟨L, HL⟩ : ∃ L, Hid (64 * m = L) := ⟨_, rfl⟩
          rw [HL.out]
          go_loopw [11] (fun i wr => ∃ q, q ≤ m ∧ i = .int .i64 ((64 * q : Nat) : Int) ∧ Hid (Env w g4 g5 gp (stAt P q) P wr))
            (fun i _ => L - (intOf i).toNat)
          case atStart => exact ⟨0, by omega, rfl, E4⟩
          case round =>
            obtain ⟨q, hq, rfl, J⟩ := hrel
            by_cases hlt : q < m
            · obtain ⟨a, HA⟩ : ∃ a, Hid (64 * q = a) := ⟨_, rfl⟩
              rw [HA.out]
              have ha0 : a + 64 ≤ L := by have := HA.out; have := HL.out; omega
              have ha1 : (a : Int) < (L : Int) := by omega
              have hLm : L ≤ 110000 := by have := ML.out; have := HL.out; omega
              have hc1 : L ≤ cp := by have := HC.out; have := HL.out; omega
              have hca : ¬ cp = a := by omega
              have hcb : ¬ cp - a = 0 := by omega
              go_wp2_with fail
              have QL : Hid (64 * (q + 1) ≤ P.length) := by show _ ≤ _; rw [HM.out]; omega
              have hBB : Bytes wr (.slice (some ⟨gp, a, none⟩) 64 (cp - a)) (blk P q) (some ⟨gp, a, none⟩) (cp - a) gp a := by
                have := blk_bytes J.out q (cp - a) QL.out (by omega)
                rw [HA.out] at this; exact this
              refine (refWords_any (blk P q) _ (cp - a) gp a wr (blk_len P q QL.out) hBB).mono ?_
              rintro ee w6 ⟨v12, rfl, hown, hb⟩
              rw [w64_row] at hown
              have h64 : ∃ A c, v12 = .slice A 64 c := by
                rcases hown.2 with ⟨_, h⟩ | ⟨g, c, _, h, _⟩
                · omega
                · exact ⟨_, _, h⟩
              obtain ⟨A12, c12, rfl⟩ := h64
              obtain ⟨g12, rfl, hW, hg12⟩ := row_own (w64_len _) (by omega) hown
              have D12 : Hid (g12 ≠ g4) := by show _ ≠ _; have := J.out.st.inside; omega
              have J6 := J.out.step hb
              have AP := hid (Env2.apart J6 hW)
              obtain ⟨st, HST⟩ : ∃ st, Hid (stAt P q = st) := ⟨_, rfl⟩
              rw [HST.out] at J6
              have STL : Hid (st.length = 8) := by show _ = _; rw [← HST.out]; exact stAt_len P q
              have J6 := hid J6
              have hW := hid hW
              clear hBB hown hb J hca hcb hg12
              go_wp2
              generalize hG : World.alloc w6 _ = W7
              obtain ⟨W8, hG0, F⟩ := Env2.start (l := st) J6.out hW.out _ rfl
              obtain rfl : W8 = W7 := hG0.symm.trans hG
              have F := hid F
              obtain ⟨N, HNN⟩ : ∃ N, Hid (w6.heap.size = N) := ⟨_, rfl⟩
              rw [HNN.out] at F AP ⊢
              clear hG hG0 J6 hW HNN
              as_aux_lemma =>
              go_loopw [14] (fun i wr => ∃ k : Nat, k ≤ 8 ∧ i = .int .i64 (k : Int) ∧ Hid (Env2 w g4 g5 gp N g12 st P (w64 (blk P q)) (copied st k) wr))
                (fun i _ => 8 - (intOf i).toNat)
              case atStart => exact ⟨0, by omega, rfl, F⟩
              case round =>
                obtain ⟨k, hk, rfl, F⟩ := hrel
                by_cases hlt8 : k < 8
                · as_aux_lemma =>
                  have ck := F.out.env.st.cell k (by rw [STL.out]; exact hlt8)
                  have cv := (F.out.v.at_ k).trans (vec_get _ k (by rw [copied_len]; exact hlt8))
                  have fv := F.out.v.free k
                  go_wp2
                  go_roundw
                  case rel => exact ⟨k + 1, by omega, by go_num, F.out.put AP.out k _⟩
                  case measure => simp [intOf]; omega
                · obtain rfl : k = 8 := by omega
                  as_aux_lemma =>
                  rw [copied_all] at F
                  rw [show ((8 : Nat) : Int) = 8 from rfl]
                  go_wp2
                  go_loopw [15] (fun i wr => ∃ k : Nat, k ≤ 64 ∧ i = .int .i64 (k : Int) ∧ Hid (Env2 w g4 g5 gp N g12 st P (w64 (blk P q)) (lst8 (run8 (words (blk P q) 16) (start8 st) k)) wr))
                    (fun i _ => 64 - (intOf i).toNat)
                  case atStart => exact ⟨0, by omega, rfl, F⟩
                  case round =>
                    obtain ⟨k, hk, rfl, F⟩ := hrel
                    by_cases hlt6 : k < 64
                    · as_aux_lemma =>
                      have HN8 := hid (run8_at (blk P q) (start8 st) k hlt6)
                      obtain ⟨s, HSS⟩ : ∃ s, Hid (run8 (words (blk P q) 16) (start8 st) k = s) := ⟨_, rfl⟩
                      rw [HSS.out] at F HN8
                      have ck := F.out.env.k.cell k hlt6
                      have cw := F.out.row.cell k (by rw [w64_len]; exact hlt6)
                      obtain ⟨kk, HKK⟩ : ∃ x, Hid (at32 kList k = x) := ⟨_, rfl⟩
                      obtain ⟨ww, HWW⟩ : ∃ x, Hid (at32 (w64 (blk P q)) k = x) := ⟨_, rfl⟩
                      rw [HKK.out] at ck HN8
                      rw [HWW.out] at cw HN8
                      have v0 : wr.cell? ⟨N, 0, none⟩ = some (.int .u32 (u s.a)) := F.out.v.at_ 0
                      have v1 : wr.cell? ⟨N, 1, none⟩ = some (.int .u32 (u s.b)) := F.out.v.at_ 1
                      have v2 : wr.cell? ⟨N, 2, none⟩ = some (.int .u32 (u s.c)) := F.out.v.at_ 2
                      have v4 : wr.cell? ⟨N, 4, none⟩ = some (.int .u32 (u s.e)) := F.out.v.at_ 4
                      have v5 : wr.cell? ⟨N, 5, none⟩ = some (.int .u32 (u s.f)) := F.out.v.at_ 5
                      have v6 : wr.cell? ⟨N, 6, none⟩ = some (.int .u32 (u s.g)) := F.out.v.at_ 6
                      have v7 : wr.cell? ⟨N, 7, none⟩ = some (.int .u32 (u s.h)) := F.out.v.at_ 7
                      go_wp2
                      go_quiet ((go_at_call 48; exact Calls.quiet_of_same (turned_s _ _ (by decide) _)))
                      go_wp2
                      generalize hwq : World.drewN wr _ = wq
                      have FQ : Hid (Env2 w g4 g5 gp N g12 st P (w64 (blk P q)) (lst8 s) wq) := by rw [← hwq]; exact F.out.drawn _
                      clear hwq v0 v1 v2 v4 v5 v6 v7 ck cw F
                      have v0 : wq.cell? ⟨N, 0, none⟩ = some (.int .u32 (u s.a)) := FQ.out.v.at_ 0
                      have v1 : wq.cell? ⟨N, 1, none⟩ = some (.int .u32 (u s.b)) := FQ.out.v.at_ 1
                      have v2 : wq.cell? ⟨N, 2, none⟩ = some (.int .u32 (u s.c)) := FQ.out.v.at_ 2
                      go_quiet ((go_at_call 48; exact Calls.quiet_of_same (turned_s _ _ (by decide) _)))
                      go_wp2
                      generalize hwq : World.drewN wq _ = wz
                      have FZ : Hid (Env2 w g4 g5 gp N g12 st P (w64 (blk P q)) (lst8 s) wz) := by rw [← hwq]; exact FQ.out.drawn _
                      clear hwq v0 v1 v2 FQ
                      rw [sx_num2, sy_num]
                      obtain ⟨X, HX⟩ : ∃ x, Hid (sx s kk ww = x) := ⟨_, rfl⟩
                      obtain ⟨Y, HY⟩ : ∃ y, Hid (sy s = y) := ⟨_, rfl⟩
                      rw [HX.out, HY.out]
                      go_loopw [18] (fun i wr => ∃ j d : Nat, i = .int .i64 (d : Int) ∧ Hid (j + d = 7) ∧ Hid (Env2 w g4 g5 gp N g12 st P (w64 (blk P q)) (moved (lst8 s) j) wr))
                        (fun i _ => (intOf i).toNat)
                      case atStart => exact ⟨0, 7, rfl, rfl, FZ⟩
                      case round =>
                        obtain ⟨j, d, rfl, HD, F⟩ := hrel
                        by_cases hd0 : 0 < d
                        · as_aux_lemma =>
                          obtain ⟨d1, e1, E1⟩ : ∃ d1 : Nat, (d : Int) - 1 = (d1 : Int) ∧ Hid (d = d1 + 1) := ⟨d - 1, by omega, by show _ = _; omega⟩
                          have hd8 : (d : Int) < 8 := by have := HD.out; omega
                          have hl : Hid ((moved (lst8 s) j).length = 8) := moved_len _ _
                          have c1 := (F.out.v.at_ d1).trans (vec_get _ d1 (by rw [hl.out]; have := E1.out; omega))
                          have c2 := (F.out.v.at_ d).trans (vec_get _ d (by rw [hl.out]; omega))
                          have f2 := F.out.v.free d
                          have hdd : (0 : Int) < (d : Int) := by omega
                          have hMV : Hid (moved (lst8 s) (j + 1) = (moved (lst8 s) j).set d (at32 (moved (lst8 s) j) d1)) := by
                            have h1 : 7 - j = d := by have := HD.out; omega
                            have h2 : 6 - j = d1 := by have := HD.out; have := E1.out; omega
                            show _ = _
                            rw [moved, h1, h2]
                          go_wp2
                          go_roundw
                          case rel => exact ⟨j + 1, d1, rfl, by show _ = _; have := HD.out; have := E1.out; omega, by rw [hMV.out]; exact F.out.put AP.out d _⟩
                          case measure => simp [intOf]; have := E1.out; omega
                        · obtain rfl : d = 0 := by omega
                          as_aux_lemma =>
                          have hj7 : j = 7 := by have := HD.out; omega
                          subst hj7
                          rw [moved_all] at F
                          have c4 : wr.cell? ⟨N, 4, none⟩ = some (.int .u32 (u s.d)) := F.out.v.at_ 4
                          have c0 : wr.cell? ⟨N, 0, none⟩ = some (.int .u32 (u s.a)) := F.out.v.at_ 0
                          have f4 := F.out.v.free 4
                          have f0 := F.out.v.free 0
                          go_wp2
                          go_roundw
                          case rel =>
                            refine ⟨k + 1, by omega, by go_num, ?_⟩
                            rw [HN8.out, ← moved_step, moved_all, add32, add32, HX.out, HY.out]
                            exact (F.out.put AP.out 4 _).put AP.out 0 _
                          case measure => simp [intOf]; omega
                    · obtain rfl : k = 64 := by omega
                      as_aux_lemma =>
                      obtain ⟨vv, HVV⟩ : ∃ vv, Hid (lst8 (run8 (words (blk P q) 16) (start8 st) 64) = vv) := ⟨_, rfl⟩
                      have HVL : Hid (vv.length = 8) := by show _ = _; rw [← HVV.out]; rfl
                      have HFD : Hid (raisedTo st vv 8 = stAt P (q + 1)) := by
                        show _ = _
                        rw [← HVV.out, raised_all st STL.out, stAt, HST.out]
                      rw [HVV.out] at F
                      rw [show ((64 : Nat) : Int) = 64 from rfl]
                      clear HVV
                      go_wp2
                      go_loopw [19] (fun i wr => ∃ k : Nat, k ≤ 8 ∧ i = .int .i64 (k : Int) ∧ Hid (Env2 w g4 g5 gp N g12 (raisedTo st vv k) P (w64 (blk P q)) vv wr))
                        (fun i _ => 8 - (intOf i).toNat)
                      case atStart => exact ⟨0, by omega, rfl, F⟩
                      case round =>
                        obtain ⟨k, hk, rfl, F⟩ := hrel
                        by_cases hlt8 : k < 8
                        · as_aux_lemma =>
                          have c1 := F.out.env.st.cell k (by rw [raisedTo_len, STL.out]; exact hlt8)
                          have f1 := F.out.env.st.free k
                          have c2 := (F.out.v.at_ k).trans (vec_get _ k (by rw [HVL.out]; exact hlt8))
                          go_wp2
                          go_region
                          rw [add32]
                          have F2 : Hid (Env2 w g4 g5 gp N g12 (raisedTo st vv (k + 1)) P (w64 (blk P q)) vv (wr.setCell ⟨g4, k, none⟩ (.int .u32 (u (at32 (raisedTo st vv k) k + at32 vv k)))).drew) :=
                            (F.out.raise D3.out.symm D4.out D6.out.1 D12.out AP.out.1.symm k _).drawn 1
                          clear c1 c2 f1 F
                          go_wp2
                          go_roundw
                          case rel => exact ⟨k + 1, by omega, by go_num, F2⟩
                          case measure => simp [intOf]; omega
                        · obtain rfl : k = 8 := by omega
                          as_aux_lemma =>
                          rw [HFD.out] at F
                          go_wp2
                          go_roundw
                          case rel => exact ⟨q + 1, by omega, by have := HA.out; rw [show 64 * (q + 1) = a + 64 by omega]; go_num, F.out.env⟩
                          case measure => simp [intOf]; omega
            · obtain rfl : q = m := by omega
              as_aux_lemma =>
              rw [HL.out]
              obtain ⟨st, HST⟩ : ∃ st, Hid (stAt P q = st) := ⟨_, rfl⟩
              have STL : Hid (st.length = 8) := by show _ = _; rw [← HST.out]; exact stAt_len P q
              have HD2 : IsDigN st r := IsDigN.mk (by rw [HSH.eq, HST.out, ← digYtoeomghebgbniaaDoorfour])
              rw [HST.out] at J
              go_wp2
              generalize hG : World.alloc wr _ = W9
              obtain ⟨N2, W8, hN2, hG0, Q1, Q2, Q3, Q4, Q5⟩ := last_box J.out _ rfl
              obtain rfl : W8 = W9 := hG0.symm.trans hG
              rw [hN2]
              clear hG hG0 hN2 J
              go_loopw [21] (fun i wr => ∃ k : Nat, k ≤ 32 ∧ i = .int .i64 (k : Int) ∧ Hid (Row wr g4 st) ∧ Hid (Has wr w.heap.size 34 zero32) ∧ Hid (Has wr N2 34 (bvec (digN st k))) ∧ Hid (Below w.heap.size w wr))
                (fun i _ => 32 - (intOf i).toNat)
              case atStart => exact ⟨0, by omega, rfl, Q1, Q2, Q3, Q4⟩
              case round =>
                obtain ⟨k, hk, rfl, J1, J2, J3, J4⟩ := hrel
                by_cases hlt : k < 32
                · as_aux_lemma =>
                  obtain ⟨k4, e4, E4⟩ : ∃ a : Nat, (k : Int) / 4 = (a : Int) ∧ Hid (k / 4 = a) := ⟨k / 4, by omega, rfl⟩
                  obtain ⟨k5, e5, E5⟩ : ∃ a : Nat, (k : Int) % 4 = (a : Int) ∧ Hid (k % 4 = a) := ⟨k % 4, by omega, rfl⟩
                  obtain ⟨k6, e6, E6⟩ : ∃ a : Nat, (24 : Int) - 8 * (k5 : Int) = (a : Int) ∧ Hid (24 - 8 * k5 = a) := ⟨24 - 8 * k5, by have := E5.out; omega, rfl⟩
                  have c1 := J1.out.cell k4 (by rw [STL.out]; have := E4.out; omega)
                  have c2 := (J3.out.at_ k).trans (bvec_get _ k (by rw [digYtoeomghebgbniaaDoorlen]; exact hlt))
                  have f2 := J3.out.free k
                  have b1 : (k4 : Int) < 8 := by have := E4.out; omega
                  have b2 : (0 : Int) ≤ (k6 : Int) := by omega
                  have b3 : (k6 : Int) ≤ 24 := by have := E6.out; omega
                  have b4 : (k5 : Int) ≤ 3 := by have := E5.out; omega
                  have b5 : (0 : Int) ≤ (k5 : Int) := by omega
                  go_wp2
                  rw [byte_num]
                  have HW : Hid ((digN st k).set k (byteOf (at32 st k4) k6) = digN st (k + 1)) := by
                    show _ = _
                    rw [digN, E4.out, E5.out, E6.out]
                  have K3 : Hid (Has (wr.setCell ⟨N2, k, none⟩ (.int .u8 (b8 (byteOf (at32 st k4) k6)))) N2 34 (bvec (digN st (k + 1)))) := by
                    rw [← HW.out, ← bvec_set]; exact J3.out.put k _
                  go_roundw
                  case rel => exact ⟨k + 1, by omega, by go_num, J1.out.other (p := ⟨N2, k, none⟩) Q5.out.1 _, J2.out.other (p := ⟨N2, k, none⟩) (Nat.ne_of_lt Q5.out.2) _, K3, J4.out.setCell (p := ⟨N2, k, none⟩) (Nat.le_of_lt Q5.out.2) _⟩
                  case measure => simp [intOf]; omega
                · obtain rfl : k = 32 := by omega
                  as_aux_lemma =>
                  rw [HD2.eq] at J3
                  have HRL : Hid (r.length = 32) := by show _ = _; rw [← HD2.eq]; exact digYtoeomghebgbniaaDoorlen _ _
                  have Y1 := size_dig r HRL.out
                  have Y2 := size_zero r HRL.out
                  go_wp2_with (first
                    | (refine wpList_load_row rfl 34 (.tmp 20) rfl N2 rfl 34 (bvec r) (0, 0) _ J3.out Tryd.underlying34 rfl Y1.out ?_)
                    | (refine wpList_store_row rfl 34 (.tmp 2) (.tmp 195) rfl w.heap.size (bvec r) rfl rfl 34 zero32 J2.out Y1.out Y2.out (bvec_one _) ?_))
                  exact bodyPost_ret (results_cell_row rfl _ _ w.heap.size 34 (bvec r) (0, 0) _ rfl J2.out.row Tryd.underlying34 rfl Y1.out) rfl ⟨rfl, J4.out.rowK (Nat.le_refl _) _⟩
end Go.Proofs.YtoeomghebgbniaaDoor.Sha
