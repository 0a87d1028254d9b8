/- The document's Of (caravanref01): what the call does is what Of does. No conditions but what every string meets. -/
import Derived.Test.YtmdlahmcdgkhkaaDoorX
namespace Go.Proofs.YtmdlahmcdgkhkaaDoor
open Go.RowKit
def refN (c : UInt8) : UInt8 := if 97 ≤ c.toNat then c - 97 + 10 else c - 48
def refUp (l : List UInt8) : Nat → List UInt8
  | 0 => List.replicate 32 0
  | k + 1 => (refUp l k).set (k / 2) (16 * at8 (refUp l k) (k / 2) + refN (at8 l k))
theorem refUp_len (l : List UInt8) (k : Nat) : (refUp l k).length = 32 := by
  induction k with
  | zero => simp [refUp]
  | succ k ih => simp [refUp, ih]
theorem refN_dC (x : UInt8) (h : x.toNat < 16) : refN (dC x) = x := by
  have : ∀ m : Fin 16, refN (dC (UInt8.ofNat m.val)) = UInt8.ofNat m.val := by decide
  have e : UInt8.ofNat x.toNat = x := by simp
  have := this ⟨x.toNat, h⟩
  simpa [e] using this
theorem refUp_text (h : List UInt8) (hl : h.length = 32) : refUp (textL h) 64 = h := by
  have key : ∀ k, k ≤ 32 → refUp (textL h) (2 * k) = h.take k ++ List.replicate (32 - k) 0 := by
    intro k
    induction k with
    | zero => intro _; simp [refUp]
    | succ k ih =>
      intro hk
      have e1 : at8 (textL h) (2 * k) = _ := (textUp_get h 32 k (by omega)).1
      have e2 : at8 (textL h) (2 * k + 1) = _ := (textUp_get h 32 k (by omega)).2
      have hlen := refUp_len (textL h) (2 * k)
      have hx := (at8 h k).toNat_lt
      have z : at8 (refUp (textL h) (2 * k)) k = 0 := by
        rw [ih (by omega)]
        have : k < h.length := by omega
        simp only [at8, List.getD]
        rw [List.getElem?_append_right (by simp; omega)]
        rw [show 32 - k = (31 - k) + 1 by omega, List.replicate_succ]
        simp [Nat.min_eq_left (Nat.le_of_lt this)]
      rw [show 2 * (k + 1) = 2 * k + 1 + 1 by omega, refUp, refUp, show 2 * k / 2 = k by omega, show (2 * k + 1) / 2 = k by omega, z, e1, e2, refN_dC _ (by simp [hi4]; omega), refN_dC _ (by simp [lo4]; omega)]
      have s : at8 ((refUp (textL h) (2 * k)).set k (16 * 0 + hi4 (at8 h k))) k = hi4 (at8 h k) := by
        simp [at8, List.getD, show k < (refUp (textL h) (2 * k)).length by omega]
      have m : (16 : UInt8) * hi4 (at8 h k) + lo4 (at8 h k) = at8 h k := by rw [UInt8.mul_comm]; exact hilo _
      rw [s, m, List.set_set, ih (by omega)]
      have hk2 : k < h.length := by omega
      rw [List.set_append, if_neg (by simp; omega), List.length_take, Nat.min_eq_left (by omega), Nat.sub_self]
      rw [show 32 - k = (32 - (k + 1)) + 1 by omega, List.replicate_succ, List.set_cons_zero]
      simp [at8, List.getD, List.getElem?_eq_getElem hk2]
      rw [List.take_succ_eq_append_getElem hk2, List.append_assoc]; rfl
  have := key 32 (by omega)
  rw [show 2 * 32 = 64 from rfl] at this
  rw [this]
  simp [List.take_of_length_le (show h.length ≤ 32 by omega)]
theorem ref_of (l : List UInt8) (m : Nat) (hm : (m = 64 ∧ m ≤ l.length) ∨ (m = l.length ∧ m ≤ 64)) :
    (textL (refUp l m) = l → ofL l = some (refUp l m)) ∧ (textL (refUp l m) ≠ l → ofL l = none) := by
  constructor
  · intro h
    have := of_text (refUp l m) (refUp_len l m)
    rwa [h] at this
  · intro h
    cases ho : ofL l with
    | none => rfl
    | some x =>
      exfalso
      have e := text_of_of l x ho
      have hl : x.length = 32 := by have := ofL_len l; rw [ho] at this; exact this
      have hll : l.length = 64 := by rw [← e]; exact textUp_len x 32
      have hm64 : m = 64 := by omega
      apply h
      rw [hm64]
      conv => lhs; rw [← e]
      rw [refUp_text x hl, e]
theorem num_n1 (x : UInt8) (h : (97 : Int) ≤ b8 x) : (b8 x - 97 + 10) % 256 = b8 (refN x) := by
  have hx := x.toNat_lt
  unfold b8 at h ⊢
  rw [refN, if_pos (by omega)]
  simp [UInt8.toNat_add, UInt8.toNat_sub]; omega
theorem num_n2 (x : UInt8) (h : ¬ (97 : Int) ≤ b8 x) : (b8 x - 48) % 256 = b8 (refN x) := by
  have hx := x.toNat_lt
  unfold b8 at h ⊢
  rw [refN, if_neg (by omega)]
  simp [UInt8.toNat_sub]; omega
theorem num_d (y n : UInt8) : (16 * b8 y % 256 + b8 n) % 256 = b8 (16 * y + n) := by
  unfold b8
  simp [UInt8.toNat_add, UInt8.toNat_mul]
theorem num_d2 (y n : UInt8) : (16 * b8 y + b8 n) % 256 = b8 (16 * y + n) := by
  unfold b8
  simp [UInt8.toNat_add, UInt8.toNat_mul]
theorem rof_next {l : List UInt8} {w wr : World} {k q : Nat} {x y : UInt8} (hlt : k < 64) (hlt2 : k < l.length) (HX2 : Hid (at8 l k = x)) (HQ : Hid (k / 2 = q)) (HY : Hid (at8 (refUp l k) q = y))
    (J1 : Hid (Has wr (w.heap.size + 1) 25 (bvec (refUp l k)))) (J2 : Hid (Has wr w.heap.size 25 zero32)) (J3 : Hid (Below w.heap.size w wr)) :
    ∃ k1 : Nat, k1 ≤ 64 ∧ k1 ≤ l.length ∧ Value.int .i64 ((k : Int) + 1) = .int .i64 (k1 : Int) ∧
      Hid (Has (wr.setCell ⟨w.heap.size + 1, q, none⟩ (.int .u8 ((16 * b8 y + b8 (refN x)) % 256))) (w.heap.size + 1) 25 (bvec (refUp l k1))) ∧
      Hid (Has (wr.setCell ⟨w.heap.size + 1, q, none⟩ (.int .u8 ((16 * b8 y + b8 (refN x)) % 256))) w.heap.size 25 zero32) ∧
      Hid (Below w.heap.size w (wr.setCell ⟨w.heap.size + 1, q, none⟩ (.int .u8 ((16 * b8 y + b8 (refN x)) % 256)))) := by
  refine ⟨k + 1, by omega, by omega, by simp, ?_, ?_, ?_⟩
  · show Has _ _ _ _
    rw [num_d2, refUp, HQ.out, HY.out, HX2.out, ← bvec_set]
    exact Has.put J1.out q _
  · exact Has.other (p := ⟨w.heap.size + 1, q, none⟩) J2.out (by show w.heap.size ≠ w.heap.size + 1; omega) _
  · exact J3.out.setCell (p := ⟨w.heap.size + 1, q, none⟩) (by show w.heap.size ≤ w.heap.size + 1; omega) _
set_option maxRecDepth 100000 in
set_option maxHeartbeats 1000000 in
theorem rof_any (s : ByteArray) (l : List UInt8) (hs : s.data.toList = l) (w : World) :
    Calls Tryd.prog 12 #[.string s] w fun e w' => e = .returned (.tuple #[.agg (bvec (hexV (ofL l))), .bool (ofL l).isSome]) ∧ Below w.heap.size w w' := by
  have HS := hid hs
  have HX : Hid (∀ i : Nat, i < l.length → ∀ w, (Instr.index 9 (.string s) (.int .i64 (i : Int))).run Tryd.prog w = .ok (.int .u8 (b8 (at8 l i))) w) := by
    intro i hi w
    rw [← hs]
    exact index_text s i (by rw [hs]; exact hi) w
  have hsz : (s.size : Int) = (l.length : Int) := by rw [← hs, size_list]
  have Z1 := size1 w
  clear hs
  go_enter Tryd.func12, Tryd.ntmps12
  go_wp2
  go_loopw [5] (fun i wr => ∃ k : Nat, k ≤ 64 ∧ k ≤ l.length ∧ i = .int .i64 (k : Int) ∧ Hid (Has wr (w.heap.size + 1) 25 (bvec (refUp l k))) ∧ Hid (Has wr w.heap.size 25 zero32) ∧ Hid (Below w.heap.size w wr))
    (fun i _ => 64 - (intOf i).toNat)
  case atStart => 
    refine ⟨0, by omega, by omega, rfl, ?_, ?_, ?_⟩
    · exact Has.fresh' (w.alloc _) 25 zero32 (Z1.out _)
    · exact Has.more (Has.fresh w 25 zero32) _
    · exact ((Below.refl _ _).alloc (Nat.le_refl _) _).alloc (by simp) _
  case round =>
    obtain ⟨k, hk, hk2, rfl, J1, J2, J3⟩ := hrel
    by_cases hlt : k < 64
    · by_cases hlt2 : k < l.length
      · have hik := HX.out k hlt2
        obtain ⟨x, HX2⟩ : ∃ x, Hid (at8 l k = x) := ⟨_, rfl⟩
        rw [HX2.out] at hik
        obtain ⟨q, hq, HQ⟩ : ∃ q : Nat, (k : Int).tdiv 2 = (q : Int) ∧ Hid (k / 2 = q) := ⟨k / 2, by rw [Int.tdiv_eq_ediv_of_nonneg (by omega)]; omega, rfl⟩
        obtain ⟨y, HY⟩ : ∃ y, Hid (at8 (refUp l k) q = y) := ⟨_, rfl⟩
        have dq := (J1.out.at_ q).trans (bvec_get (refUp l k) q (by rw [refUp_len]; have := HQ.out; omega))
        rw [HY.out] at dq
        have fq := J1.out.free q
        have hlt3 : (k : Int) < (s.size : Int) := by omega
        have hqw : wrap64 (q : Int) = (q : Int) := by have := HQ.out; unfold wrap64; omega
        have hq32 : (q : Int) < 32 := by have := HQ.out; omega
        by_cases ha : (97 : Int) ≤ b8 x
        · have hn := num_n1 x ha
          go_wp2
          go_roundw
          case rel => exact rof_next hlt hlt2 HX2 HQ HY J1 J2 J3
          case measure => simp [intOf]; omega
        · have hn := num_n2 x ha
          go_wp2
          go_roundw
          case rel => exact rof_next hlt hlt2 HX2 HQ HY J1 J2 J3
          case measure => simp [intOf]; omega
      · have hlt3 : ¬ (k : Int) < (s.size : Int) := by omega
        obtain ⟨h, HH⟩ : ∃ h, Hid (refUp l k = h) := ⟨_, rfl⟩
        have hl := refUp_len l k
        have HR := hid (ref_of l k (by omega))
        rw [HH.out] at J1 hl HR
        have RT := hid (rtext_any h hl)
        have Z8 := size_dig h hl
        have Z9 : Hid (zero32.size = (bvec h).size) := by show _ = _; rw [bvec_size, hl]; rfl
        have HL := hid hl
        have BB := hid J3.out.size
        have I1 := hid J1.out.inside
        clear hl
        have hst : s.toList = l := by rw [ByteArray.toList_eq]; exact HS.out
        by_cases he : textL h = l
        · have HO := hid (HR.out.1 he)
          have heb : (textL h == l) = true := by rw [he]; simp
          clear HR he
          go_wp2_with (first
            | (refine wpList_load_row rfl 25 (.tmp 4) rfl (w.heap.size + 1) rfl 25 (bvec h) (0, 0) _ J1.out Tryd.underlying25 rfl Z8.out ?_)
            | (go_at_call 14
               (with_reducible refine (RT.out _).mono ?_)
               rintro e2 w2 ⟨rfl, hb2⟩
               have J1b : Hid (Has w2 (w.heap.size + 1) 25 (bvec h)) := J1.out.kept hb2 I1.out
               have J2b : Hid (Has w2 w.heap.size 25 zero32) := J2.out.kept hb2 (Nat.lt_of_succ_lt I1.out)
               have J3b : Hid (Below w.heap.size w w2) := J3.out.trans (hb2.mono BB.out)
               clear hb2)
            | (refine wpList_load_row rfl 25 (.tmp 4) rfl (w.heap.size + 1) rfl 25 (bvec h) (0, 0) _ J1b.out Tryd.underlying25 rfl Z8.out ?_)
            | (refine wpList_store_row rfl 25 (.tmp 2) (.tmp 45) rfl w.heap.size (bvec h) rfl rfl 25 _ J2b.out Z8.out Z9.out (bvec_one _) ?_))
          refine bodyPost_ret (run_cell_tmp rfl _ _ _ w.heap.size 25 (bvec h) (0, 0) _ (load_hash (Has.row J2b.out) HL.out) rfl rfl) rfl ⟨?_, J3b.out.rowK (Nat.le_refl _) _⟩
          rw [HO.out]; rfl
        · have HO := hid (HR.out.2 he)
          have heb : (textL h == l) = false := by simp [he]
          clear HR he
          go_wp2_with (first
            | (refine wpList_load_row rfl 25 (.tmp 4) rfl (w.heap.size + 1) rfl 25 (bvec h) (0, 0) _ J1.out Tryd.underlying25 rfl Z8.out ?_)
            | (go_at_call 14
               (with_reducible refine (RT.out _).mono ?_)
               rintro e2 w2 ⟨rfl, hb2⟩
               have J2b : Hid (Has w2 w.heap.size 25 zero32) := J2.out.kept hb2 (Nat.lt_of_succ_lt I1.out)
               have J3b : Hid (Below w.heap.size w w2) := J3.out.trans (hb2.mono BB.out)
               clear hb2)
            | (refine wpList_store_row rfl 25 (.tmp 2) (.tmp 44) rfl w.heap.size zero32 rfl rfl 25 _ J2b.out i25 rfl zero32_one.out ?_))
          refine bodyPost_ret (run_cell_tmp rfl _ _ _ w.heap.size 25 (bvec (List.replicate 32 0)) (0, 0) _ (load_hash (Has.row J2b.out) (by simp)) rfl rfl) rfl ⟨?_, J3b.out.rowK (Nat.le_refl _) _⟩
          rw [HO.out]; rfl
    · have hlt3 : ¬ (k : Int) < 64 := by omega
      obtain ⟨h, HH⟩ : ∃ h, Hid (refUp l k = h) := ⟨_, rfl⟩
      have hl := refUp_len l k
      have HR := hid (ref_of l k (by omega))
      rw [HH.out] at J1 hl HR
      have RT := hid (rtext_any h hl)
      have Z8 := size_dig h hl
      have Z9 : Hid (zero32.size = (bvec h).size) := by show _ = _; rw [bvec_size, hl]; rfl
      have HL := hid hl
      have BB := hid J3.out.size
      have I1 := hid J1.out.inside
      clear hl
      have hst : s.toList = l := by rw [ByteArray.toList_eq]; exact HS.out
      by_cases he : textL h = l
      · have HO := hid (HR.out.1 he)
        have heb : (textL h == l) = true := by rw [he]; simp
        clear HR he
        go_wp2_with (first
          | (refine wpList_load_row rfl 25 (.tmp 4) rfl (w.heap.size + 1) rfl 25 (bvec h) (0, 0) _ J1.out Tryd.underlying25 rfl Z8.out ?_)
          | (go_at_call 14
             (with_reducible refine (RT.out _).mono ?_)
             rintro e2 w2 ⟨rfl, hb2⟩
             have J1b : Hid (Has w2 (w.heap.size + 1) 25 (bvec h)) := J1.out.kept hb2 I1.out
             have J2b : Hid (Has w2 w.heap.size 25 zero32) := J2.out.kept hb2 (Nat.lt_of_succ_lt I1.out)
             have J3b : Hid (Below w.heap.size w w2) := J3.out.trans (hb2.mono BB.out)
             clear hb2)
          | (refine wpList_load_row rfl 25 (.tmp 4) rfl (w.heap.size + 1) rfl 25 (bvec h) (0, 0) _ J1b.out Tryd.underlying25 rfl Z8.out ?_)
          | (refine wpList_store_row rfl 25 (.tmp 2) (.tmp 45) rfl w.heap.size (bvec h) rfl rfl 25 _ J2b.out Z8.out Z9.out (bvec_one _) ?_))
        refine bodyPost_ret (run_cell_tmp rfl _ _ _ w.heap.size 25 (bvec h) (0, 0) _ (load_hash (Has.row J2b.out) HL.out) rfl rfl) rfl ⟨?_, J3b.out.rowK (Nat.le_refl _) _⟩
        rw [HO.out]; rfl
      · have HO := hid (HR.out.2 he)
        have heb : (textL h == l) = false := by simp [he]
        clear HR he
        go_wp2_with (first
          | (refine wpList_load_row rfl 25 (.tmp 4) rfl (w.heap.size + 1) rfl 25 (bvec h) (0, 0) _ J1.out Tryd.underlying25 rfl Z8.out ?_)
          | (go_at_call 14
             (with_reducible refine (RT.out _).mono ?_)
             rintro e2 w2 ⟨rfl, hb2⟩
             have J2b : Hid (Has w2 w.heap.size 25 zero32) := J2.out.kept hb2 (Nat.lt_of_succ_lt I1.out)
             have J3b : Hid (Below w.heap.size w w2) := J3.out.trans (hb2.mono BB.out)
             clear hb2)
          | (refine wpList_store_row rfl 25 (.tmp 2) (.tmp 44) rfl w.heap.size zero32 rfl rfl 25 _ J2b.out i25 rfl zero32_one.out ?_))
        refine bodyPost_ret (run_cell_tmp rfl _ _ _ w.heap.size 25 (bvec (List.replicate 32 0)) (0, 0) _ (load_hash (Has.row J2b.out) (by simp)) rfl rfl) rfl ⟨?_, J3b.out.rowK (Nat.le_refl _) _⟩
        rw [HO.out]; rfl
end Go.Proofs.YtmdlahmcdgkhkaaDoor
