/- (*sha.State).Sum, sha.Sum: the digest. Conditions: a state in a block of its own, the listed table, at most 2 to the 40 bytes. -/
import Derived.Test.YtoeomghebgbniaaDoorSI
namespace Go.Proofs.YtoeomghebgbniaaDoor.Sha
open Go.RowKit
def byteOf (x : BitVec 32) (k : Nat) : UInt8 := UInt8.ofNat (x.toNat / 2 ^ k)
def dig (ws : List (BitVec 32)) : Nat → List UInt8
  | 0 => List.replicate 32 0
  | k + 1 => ((((dig ws k).set (4 * k) (byteOf (at32 ws k) 24)).set (4 * k + 1) (byteOf (at32 ws k) 16)).set (4 * k + 2) (byteOf (at32 ws k) 8)).set (4 * k + 3) (byteOf (at32 ws k) 0)
theorem dig_len (ws : List (BitVec 32)) (k : Nat) : (dig ws k).length = 32 := by
  induction k with
  | zero => simp [dig]
  | succ k ih => simp [dig, ih]
theorem byte_num (x : BitVec 32) (k : Nat) : u x / 2 ^ k % 256 = b8 (byteOf x k) := by
  rw [byteOf, b8_ofNat, u, Int.natCast_emod, Int.natCast_ediv, Int.natCast_pow]; rfl
set_option maxRecDepth 100000 in
theorem index_word (ws : List (BitVec 32)) (h : ws.length = 8) (i : Nat) (hi : i < 8) (w : World) :
    (Instr.index 59 (.agg (ws.map V32).toArray) (.int .i64 (i : Int))).run Tryd.prog w = .ok (.int .u32 (u (at32 ws i))) w := by
  match ws, h with
  | [a, b, c, d, e, f, g, h], _ =>
    obtain rfl | rfl | rfl | rfl | rfl | rfl | rfl | rfl : i = 0 ∨ i = 1 ∨ i = 2 ∨ i = 3 ∨ i = 4 ∨ i = 5 ∨ i = 6 ∨ i = 7 := by omega
    all_goals rfl
/-- The digest of what a state was fed. -/
def fin (s : SS) : List UInt8 := dig (feed s (padL s.n)).ws 8
theorem padL_pos (n : Nat) : 0 < (padL n).length := by simp [padL, padHead]
theorem padding_slice (n : Nat) (hn : n ≤ 1099511627776) (w : World) :
    Calls Tryd.prog 58 #[.int .i64 (n : Int)] w fun e w' => ∃ gp cap, e = .returned (.slice (some ⟨gp, 0, none⟩) (padL n).length cap) ∧
      Hid (w.heap.size ≤ gp ∧ (padL n).length ≤ cap ∧ (∀ j, j < (padL n).length → w'.cell? ⟨gp, 0 + j, none⟩ = some (.int .u8 (b8 (at8 (padL n) j)))) ∧ Below w.heap.size w w') :=
  (padding_any n hn w).mono fun e w' ⟨v, he, ho, hb⟩ => by
    rcases ho.2 with ⟨_, h0⟩ | ⟨gp, cap, cur, hv, hle, hh, hc, _, _, htk⟩
    · have := padL_pos n; omega
    · refine ⟨gp, cap, by rw [he, hv], hle, hc, fun j hj => ?_, hb⟩
      rw [Nat.zero_add, cell_of_row w' gp j cur 5 (0, 0) hh]
      have h1 : (cur.toList.take ((padL n).length * 1))[j]? = ((padL n).map V8)[j]? := by rw [htk]
      rw [List.getElem?_take, if_pos (by omega), List.getElem?_map, List.getElem?_eq_getElem hj] at h1
      rw [← Array.getElem?_toList, h1]
      simp [V8, at8, List.getD, List.getElem?_eq_getElem hj]
def zeroS : Array Value := (Value.bool false :: (List.replicate 8 (Value.int .u32 0) ++ (List.replicate 64 (Value.int .u8 0) ++ [Value.int .i64 0]))).toArray
theorem zero_run (w : World) : (zeroValue 68).run Tryd.prog w = .ok (.agg zeroS) w := by kernel_rfl
theorem sum_start (w : World) (s : SS) : ∃ W1, ((w.alloc (.cells (bvec (List.replicate 32 0)) 34)).alloc (.cells zeroS 68)).setRow (w.heap.size + 1) s.cells.toArray = W1 ∧
    Hid (Sta W1 (w.heap.size + 1) s) ∧ Hid (Below w.heap.size w W1) ∧ Hid (Has W1 w.heap.size 34 (bvec (List.replicate 32 0))) ∧ Hid (W1.heap.size = w.heap.size + 2) := by
  refine ⟨_, rfl, ?_, ?_, ?_, ?_⟩
  · exact Has.row (Has.fresh' (w.alloc _) 68 zeroS (by simp))
  · exact (((Below.refl _ _).alloc (Nat.le_refl _) _).alloc (by simp) _).rowK (by omega) _
  · exact ((Has.fresh w 34 (bvec (List.replicate 32 0))).more _).rowOther (by omega)
  · show _ = _; simp
theorem below_of_grw {g B : Nat} {a b : World} (h : Grw g a b) (h1 : B ≤ g) (h2 : B ≤ a.heap.size) : Below B a b :=
  ⟨h.os, h.tape, h.output, h.size, fun k hk => h.block k (by omega) (fun e => by have := Option.some.inj e; omega)⟩
theorem size_words {l : List (BitVec 32)} (h : l.length = 8) : Hid ((Tryd.prog.info? 59).map (·.size) = some (l.map V32).length) := by
  show _ = _
  rw [List.length_map, h]; exact i34
theorem fits_pad {n : Nat} (h : n ≤ 1099511627776) (hp : (padL n).length ≤ 72) : n + (padL n).length ≤ 4611686018427387904 := by omega
def zero32 : Array Value := #[.int .u8 0, .int .u8 0, .int .u8 0, .int .u8 0, .int .u8 0, .int .u8 0, .int .u8 0, .int .u8 0, .int .u8 0, .int .u8 0, .int .u8 0, .int .u8 0, .int .u8 0, .int .u8 0, .int .u8 0, .int .u8 0,
  .int .u8 0, .int .u8 0, .int .u8 0, .int .u8 0, .int .u8 0, .int .u8 0, .int .u8 0, .int .u8 0, .int .u8 0, .int .u8 0, .int .u8 0, .int .u8 0, .int .u8 0, .int .u8 0, .int .u8 0, .int .u8 0]
theorem zero32_b : zero32 = bvec (List.replicate 32 0) := rfl
theorem zero32_one : Hid (zero32.all (·.oneCell') = true) := by show _ = _; rw [zero32_b]; exact bvec_one _
theorem sum_mid (w w3 : World) (B : Nat) (vs : List Value) (h1 : Hid (Below B w w3)) (h2 : Hid (Has w3 B 34 (bvec (List.replicate 32 0)))) (h3 : Hid (w3.rangeAt (B + 1) 1 vs)) :
    ∃ W5, (w3.alloc (.cells zero32 34)).setRow w3.heap.size zero32 = W5 ∧
      Hid (Below B w W5) ∧ Hid (Has W5 B 34 (bvec (List.replicate 32 0))) ∧ Hid (Has W5 w3.heap.size 34 (bvec (List.replicate 32 0))) ∧ Hid (vs ≠ [] → W5.rangeAt (B + 1) 1 vs) := by
  have hB : B < w3.heap.size := Has.inside h2.out
  refine ⟨_, rfl, ?_, ?_, ?_, ?_⟩
  · exact (h1.out.alloc (by omega) _).rowK (by omega) _
  · exact (Has.more h2.out _).rowOther (by omega)
  · exact Has.row (Has.fresh w3 34 zero32)
  · intro hv j x hx
    have hc := h3.out j x hx
    have hlt := block_lt_of_cell hc
    have e : ((w3.alloc (.cells zero32 34)).setRow w3.heap.size zero32).cell? ⟨B + 1, 1 + j, none⟩ = w3.cell? ⟨B + 1, 1 + j, none⟩ :=
      World.cell?_of_block ((setRow_other _ _ (B + 1) _ (by simp at hlt; omega)).trans (Below.heap_alloc w3 _ (B + 1) hlt))
    rw [e]; exact hc
theorem words_ne {l : List (BitVec 32)} (h : l.length = 8) : l.map V32 ≠ [] := by
  intro e
  have := congrArg List.length e
  simp [h] at this
theorem padL_len (n : Nat) : (padL n).length ≤ 72 := by simp [padL, padHead, lenBytes]; omega
set_option maxRecDepth 100000 in
set_option maxHeartbeats 400000 in
theorem ssum_any (g : Nat) (s : SS) (w : World) (hok : s.Ok) (hst : Sta w g s) (hn : s.n ≤ 1099511627776) (hT : Tab w) :
    Calls Tryd.prog 40 #[.pointer (some ⟨g, 0, none⟩)] w fun e w' => e = .returned (.agg (bvec (fin s))) ∧ Below w.heap.size w w' := by
  have c0 : w.cell? ⟨g, 0, none⟩ = some (.bool true) := (Has.at_ hst 0).trans rfl
  have c1 : w.cell? ⟨g, 73, none⟩ = some (.int .i64 (s.n : Int)) := (Has.at_ hst 73).trans (cells_get_count s hok)
  have HK := hid hok; have HS := hid hst; have HT := hid hT; have HI := hid (Has.inside hst)
  have Z1 : Hid ((Tryd.prog.info? 68).map (·.size) = some s.cells.toArray.size) := by rw [List.size_toArray, SS.cells_len s hok]; exact i37
  have Z2 : Hid (zeroS.size = s.cells.toArray.size) := (show zeroS.size = 74 from rfl).trans (List.size_toArray.trans (SS.cells_len s hok)).symm
  have Z3 : Hid (s.cells.toArray.all (·.oneCell') = true) := Array.all_eq_true_iff_forall_mem.2 fun v hv => cells_one s v (by simpa using hv)
  have g0 : ¬ g = w.heap.size := by have := Has.inside hst; omega
  have g1 : ¬ g = w.heap.size + 1 := by have := Has.inside hst; omega
  have c0a : ∀ o, (w.alloc o).cell? ⟨g, 0, none⟩ = some (.bool true) := fun o => (World.cell?_alloc_lt w o ⟨g, 0, none⟩ (Has.inside hst)).trans c0
  have hg3 : Hid (g < w.heap.size) := Has.inside hst
  have hp0 := hid hT.pos
  have hpl := hid (padL_len s.n)
  have hc1 := hid c1
  have hzr := zero_run
  have Z4 : ∀ {o}, Hid (w.heap.size + 1 = (w.alloc o).heap.size) := fun {o} => by show _ = _; simp
  clear hok hst hT c1
  go_enter Tryd.func40, Tryd.ntmps40
  go_wp2_with (first
    | (refine wpList_load_row rfl 68 _ rfl g rfl 68 s.cells.toArray (0, 0) _ (Has.more HS.out _) Tryd.underlying68 rfl Z1.out ?_)
    | (refine wpList_store_row rfl 68 (.tmp 3) (.tmp 19) rfl (w.heap.size + 1) s.cells.toArray rfl rfl 68 zeroS (Has.fresh' (w.alloc _) 68 zeroS Z4.out) Z1.out Z2.out Z3.out ?_
       generalize hG : World.setRow _ _ _ = W1
       obtain ⟨W0, hG0, T1, B1, R1, S1⟩ := sum_start w s
       obtain rfl : W0 = W1 := hG0.symm.trans hG
       clear hG0
       have c1 : W0.cell? ⟨g, 73, none⟩ = some (.int .i64 (s.n : Int)) := (B1.out.cell (p := ⟨g, 73, none⟩) hg3.out).trans hc1.out
       clear hG)
    | (go_at_call 58; refine (padding_slice s.n hn _).mono ?_; rintro e1 w2 ⟨gp, cap, rfl, H2⟩
       have T2 : Hid (Sta w2 (w.heap.size + 1) s) := Has.kept T1.out H2.out.2.2.2 (Has.inside T1.out)
       have B2 : Hid (Below w.heap.size w w2) := B1.out.trans (H2.out.2.2.2.mono B1.out.size)
       have R2 : Hid (Has w2 w.heap.size 34 (bvec (List.replicate 32 0))) := Has.kept R1.out H2.out.2.2.2 (Has.inside R1.out)
       have D2 : Hid (gp ≠ w.heap.size + 1 ∧ gp ≠ w.heap.size) := by have h1 := H2.out.1; have h2 := S1.out; exact ⟨by omega, by omega⟩
       have E2 : Hid (Tab w2) := HT.out.kept B2.out hp0.out)
    | (go_at_call 39; refine (take_any (w.heap.size + 1) s gp 0 (padL s.n).length cap _ (padL s.n) w2 HK.out T2.out (Nat.succ_ne_zero _) E2.out rfl H2.out.2.1 (fits_pad hn hpl.out) H2.out.2.2.1 D2.out.1 (fun _ => rfl)).mono ?_; rintro e3 w3 ⟨rfl, T3, G3⟩
       have HF : Hid (feed s (padL s.n)).Ok := feed_ok _ _ HK.out
       have RW := hid (range_words T3 HF.out)
       have B3 : Hid (Below w.heap.size w w3) := B2.out.trans (below_of_grw G3 (Nat.le_succ _) B2.out.size)
       have R3 : Hid (Has w3 w.heap.size 34 (bvec (List.replicate 32 0))) := Has.grw R2.out G3 (Nat.ne_of_lt (Nat.lt_succ_self _))
       have S3 : Hid (w.heap.size < w3.heap.size) := Has.inside R3.out
       have Z5 : Hid ((Tryd.prog.info? 59).map (·.size) = some ((feed s (padL s.n)).ws.map V32).length) := size_words HF.out.1
       clear T3 G3)
    | (refine wpList_store_row rfl 34 (.tmp 4) (.tmp 26) rfl w3.heap.size zero32 rfl rfl 34 zero32 (Has.fresh w3 34 zero32) i25 rfl zero32_one.out ?_
       generalize hG : World.setRow _ _ _ = W5
       obtain ⟨W6, hG0, B5, R5, N5, RW5⟩ := sum_mid w w3 w.heap.size _ B3 R3 RW
       obtain rfl : W6 = W5 := hG0.symm.trans hG
       clear hG0 hG)
    | (refine wpList_load_mid rfl 59 (.tmp 27) rfl (w.heap.size + 1) 1 rfl ((feed s (padL s.n)).ws.map V32) _ (RW5.out (words_ne HF.out.1)) Tryd.underlying59 rfl Z5.out ?_))
  obtain ⟨N, HN⟩ : ∃ N, Hid (N = w3.heap.size) := ⟨_, rfl⟩
  obtain ⟨ws, HW⟩ : ∃ ws, Hid ((feed s (padL s.n)).ws = ws) := ⟨_, rfl⟩
  rw [HW.out, ← HN.out]
  have hix := index_word ws (by rw [← HW.out]; exact HF.out.1)
  clear RW RW5 B2 R2 H2 T2 D2 E2 T1 B1 R1 S1 c1 Z5
  go_loopw [29] (fun i wr => ∃ k : Nat, k ≤ 8 ∧ i = .int .i64 (k : Int) ∧ Hid (Has wr N 34 (bvec (dig ws k))) ∧ Hid (Has wr w.heap.size 34 (bvec (List.replicate 32 0))) ∧ Hid (Below w.heap.size w wr))
    (fun i _ => 8 - (intOf i).toNat)
  case atStart =>
    refine ⟨0, by omega, rfl, ?_, R5, B5⟩
    rw [HN.out]
    exact N5
  case round =>
    obtain ⟨k, hk, rfl, J1, J2, J3⟩ := hrel
    have hNn : Hid (w.heap.size < N) := by show _ < _; rw [HN.out]; exact S3.out
    by_cases hlt : k < 8
    · obtain ⟨q0, e0, E0⟩ : ∃ q : Nat, 4 * (k : Int) = (q : Int) ∧ Hid (4 * k = q) := ⟨4 * k, by omega, rfl⟩
      have hi1 := hix k hlt
      have f3 := J1.out.free
      have hl : Hid ((dig ws k).length = 32) := dig_len ws k
      have d0 := (J1.out.at_ q0).trans (bvec_get _ q0 (by rw [hl.out]; have := E0.out; omega))
      have d1 := (J1.out.at_ (q0 + 1)).trans (bvec_get _ (q0 + 1) (by rw [hl.out]; have := E0.out; omega))
      have d2 := (J1.out.at_ (q0 + 2)).trans (bvec_get _ (q0 + 2) (by rw [hl.out]; have := E0.out; omega))
      have d3 := (J1.out.at_ (q0 + 3)).trans (bvec_get _ (q0 + 3) (by rw [hl.out]; have := E0.out; omega))
      have g4 : (q0 : Int) + 3 < 32 := by have := E0.out; omega
      have n0 : (0 : Int) ≤ (q0 : Int) := by omega
      clear hix
      go_wp2
      go_roundw
      case rel =>
        refine ⟨k + 1, by omega, by go_num, ?_, ?_, ?_⟩
        · have b0 := byte_num (at32 ws k) 24
          have b1 := byte_num (at32 ws k) 16
          have b2 := byte_num (at32 ws k) 8
          have b3 := byte_num (at32 ws k) 0
          simp only [show (2 : Int) ^ 24 = 16777216 from rfl, show (2 : Int) ^ 16 = 65536 from rfl, show (2 : Int) ^ 8 = 256 from rfl, Int.pow_zero, Int.ediv_one] at b0 b1 b2 b3
          rw [b0, b1, b2, b3]
          have h := (((Has.put J1.out q0 (V8 (byteOf (at32 ws k) 24))).put (q0 + 1) (V8 (byteOf (at32 ws k) 16))).put (q0 + 2) (V8 (byteOf (at32 ws k) 8))).put (q0 + 3) (V8 (byteOf (at32 ws k) 0))
          have e : dig ws (k + 1) = ((((dig ws k).set q0 (byteOf (at32 ws k) 24)).set (q0 + 1) (byteOf (at32 ws k) 16)).set (q0 + 2) (byteOf (at32 ws k) 8)).set (q0 + 3) (byteOf (at32 ws k) 0) := by
            rw [dig, E0.out]
          rw [e, ← bvec_set, ← bvec_set, ← bvec_set, ← bvec_set]
          exact h
        · have hne : w.heap.size ≠ N := by have := hNn.out; omega
          exact (((Has.other (p := ⟨N, q0, none⟩) J2.out hne _).other (p := ⟨N, q0 + 1, none⟩) hne _).other (p := ⟨N, q0 + 2, none⟩) hne _).other (p := ⟨N, q0 + 3, none⟩) hne _
        · have hle : w.heap.size ≤ N := by have := hNn.out; omega
          exact (((J3.out.setCell (p := ⟨N, q0, none⟩) hle _).setCell (p := ⟨N, q0 + 1, none⟩) hle _).setCell (p := ⟨N, q0 + 2, none⟩) hle _).setCell (p := ⟨N, q0 + 3, none⟩) hle _
      case measure => simp [intOf]; omega
    · obtain rfl : k = 8 := by omega
      have Z8 : Hid ((Tryd.prog.info? 34).map (·.size) = some (bvec (dig ws 8)).size) := by rw [bvec_size, dig_len]; exact i25
      have Z9 : Hid ((bvec (List.replicate 32 0)).size = (bvec (dig ws 8)).size) := by rw [bvec_size, bvec_size, dig_len]; rfl
      clear hix
      go_wp2_with (first
        | (refine wpList_load_row rfl 34 (.tmp 4) rfl N rfl 34 (bvec (dig ws 8)) (0, 0) _ J1.out Tryd.underlying34 rfl Z8.out ?_)
        | (refine wpList_store_row rfl 34 (.tmp 2) (.tmp 60) rfl w.heap.size (bvec (dig ws 8)) rfl rfl 34 _ J2.out Z8.out Z9.out (bvec_one _) ?_))
      refine bodyPost_ret (results_cell_row rfl _ _ w.heap.size 34 (bvec (dig ws 8)) (0, 0) _ rfl J2.out.row Tryd.underlying34 rfl Z8.out) rfl ⟨?_, J3.out.rowK (Nat.le_refl _) _⟩
      rw [fin, HW.out]
set_option maxHeartbeats 400000 in
theorem ssum_zero (g : Nat) (w : World) (hg : g < w.heap.size) (c0 : w.cell? ⟨g, 0, none⟩ = some (.bool false)) :
    Calls Tryd.prog 40 #[.pointer (some ⟨g, 0, none⟩)] w fun e w' => e = .returned (.agg zero32) ∧ Below w.heap.size w w' := by
  have c0a : ∀ o, (w.alloc o).cell? ⟨g, 0, none⟩ = some (.bool false) := fun o => (World.cell?_alloc_lt w o ⟨g, 0, none⟩ hg).trans c0
  have HB : Hid (w.heap.size = w.heap.size) := rfl
  go_enter Tryd.func40, Tryd.ntmps40
  go_wp2_with (refine wpList_store_row rfl 34 (.tmp 2) (.tmp 16) rfl w.heap.size zero32 rfl rfl 34 zero32 (Has.fresh w 34 zero32) i25 rfl zero32_one.out ?_)
  refine bodyPost_ret (results_cell_row rfl _ _ w.heap.size 34 zero32 (0, 0) _ rfl (Has.row (Has.fresh w 34 zero32)) Tryd.underlying34 rfl i25) rfl ⟨rfl, ?_⟩
  exact ((Below.refl _ _).alloc (Nat.le_refl _) _).rowK (Nat.le_refl _) _
set_option maxHeartbeats 400000 in
theorem ssum_nil (w : World) :
    Calls Tryd.prog 40 #[.pointer none] w fun e w' => e = .returned (.agg zero32) ∧ Below w.heap.size w w' := by
  go_enter Tryd.func40, Tryd.ntmps40
  go_wp2_with (refine wpList_store_row rfl 34 (.tmp 2) (.tmp 16) rfl w.heap.size zero32 rfl rfl 34 zero32 (Has.fresh w 34 zero32) i25 rfl zero32_one.out ?_)
  refine bodyPost_ret (results_cell_row rfl _ _ w.heap.size 34 zero32 (0, 0) _ rfl (Has.row (Has.fresh w 34 zero32)) Tryd.underlying34 rfl i25) rfl ⟨rfl, ?_⟩
  exact ((Below.refl _ _).alloc (Nat.le_refl _) _).rowK (Nat.le_refl _) _
/-- The digest of bytes. -/
def shaL (xs : List UInt8) : List UInt8 := fin (feed newS xs)
end Go.Proofs.YtoeomghebgbniaaDoor.Sha
