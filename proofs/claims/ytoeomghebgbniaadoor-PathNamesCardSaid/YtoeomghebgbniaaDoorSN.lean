/- sha.Text: the text of a digest. Conditions: thirty-two bytes. -/
import Derived.Test.YtoeomghebgbniaaDoorSK
namespace Go.Proofs.YtoeomghebgbniaaDoor.Sha
open Go.RowKit
theorem index_byte (h : List UInt8) (hl : h.length = 32) (i : Nat) (hi : i < 32) (w : World) :
    (Instr.index 34 (.agg (bvec h)) (.int .i64 (i : Int))).run Tryd.prog w = .ok (.int .u8 (b8 (at8 h i))) w := by
  have hs : (sizeOf 5).run Tryd.prog w = .ok 1 w := by kernel_rfl
  have ha : (isAgg 5).run Tryd.prog w = .ok false w := by kernel_rfl
  have hg := bvec_get h i (by omega)
  have hc : (0 : Int) ≤ (i : Int) ∧ (i : Int) < (32 : Nat) := ⟨by omega, by omega⟩
  simp [Instr.index, asIntOf, run_underlying Tryd.underlying34, Sem.run_bind, part, hs, hg]
  omega
/-- A digit's sign. -/
def dC (x : UInt8) : UInt8 := if x.toNat < 10 then UInt8.ofNat (x.toNat + 48) else UInt8.ofNat (x.toNat + 87)
abbrev hexDigits : ByteArray := ⟨#[48, 49, 50, 51, 52, 53, 54, 55, 56, 57, 97, 98, 99, 100, 101, 102]⟩
def hi4 (x : UInt8) : UInt8 := UInt8.ofNat (x.toNat / 16)
def lo4 (x : UInt8) : UInt8 := UInt8.ofNat (x.toNat % 16)
/-- The text's first 2 k signs. -/
def textUp (h : List UInt8) (k : Nat) : List UInt8 := (List.range k).flatMap fun i => [dC (hi4 (at8 h i)), dC (lo4 (at8 h i))]
def textL (h : List UInt8) : List UInt8 := textUp h 32
theorem textUp_next (h : List UInt8) (k : Nat) : textUp h (k + 1) = textUp h k ++ [dC (hi4 (at8 h k)), dC (lo4 (at8 h k))] := by
  simp [textUp, List.range_succ, List.flatMap_append]
theorem textUp_len (h : List UInt8) (k : Nat) : (textUp h k).length = 2 * k := by
  induction k with
  | zero => rfl
  | succ k ih => rw [textUp_next]; simp [ih]; omega
theorem dig_sign (n : Nat) (hn : n < 16) (w : World) : (Instr.index 9 (.string ⟨#[48, 49, 50, 51, 52, 53, 54, 55, 56, 57, 97, 98, 99, 100, 101, 102]⟩) (.int .u8 (n : Int))).run Tryd.prog w = .ok (.int .u8 (b8 (dC (UInt8.ofNat n)))) w := by
  rw [show (⟨#[48, 49, 50, 51, 52, 53, 54, 55, 56, 57, 97, 98, 99, 100, 101, 102]⟩ : ByteArray) = hexDigits from rfl, run_index_string (P := Tryd.prog) w 9 hexDigits .u8 (n : Int) Tryd.underlying9, dif_pos ⟨by omega, by show (n : Int) < 16; omega⟩]
  have e : ∀ m : Fin 16, hexDigits[m.val]'(m.isLt) = dC (UInt8.ofNat m.val) := by decide
  have := e ⟨n, hn⟩
  have e2 : hexDigits[(n : Int).toNat]'(by simp; exact hn) = dC (UInt8.ofNat n) := this
  rw [e2]; rfl
theorem hi_num (x : UInt8) : b8 x / 16 = ((x.toNat / 16 : Nat) : Int) := by unfold b8; omega
theorem lo_num (x : UInt8) : bits .and .u8 (b8 x) 15 = ((x.toNat % 16 : Nat) : Int) := by
  have h : ∀ x : Fin 256, bits .and .u8 ((x.val : Nat) : Int) 15 = ((x.val % 16 : Nat) : Int) := by decide +kernel
  exact h ⟨x.toNat, x.toNat_lt⟩
def zero64 : List UInt8 := List.replicate 64 0
def textRow (h : List UInt8) (k : Nat) : List UInt8 := textUp h k ++ List.replicate (64 - 2 * k) 0
theorem textRow_len (h : List UInt8) (k : Nat) (hk : k ≤ 32) : (textRow h k).length = 64 := by simp [textRow, textUp_len]; omega
theorem textRow_next (h : List UInt8) (k : Nat) (hk : k < 32) : splice (textRow h k) (2 * k) [dC (hi4 (at8 h k)), dC (lo4 (at8 h k))] = textRow h (k + 1) := by
  have hl := textUp_len h k
  unfold splice textRow
  rw [textUp_next, List.take_left' hl, List.append_assoc]
  congr 2
  have e : (textUp h k ++ List.replicate (64 - 2 * k) (0 : UInt8)).drop (2 * k + 2) = List.replicate (64 - 2 * (k + 1)) 0 := by
    rw [List.drop_append, hl, List.drop_of_length_le (by rw [hl]; omega), List.nil_append, List.drop_replicate]
    congr 1; omega
  exact e
theorem bvec_splice (l : List UInt8) (o : Nat) (c : List UInt8) : (splice (l.map V8) o (c.map V8)).toArray = bvec (splice l o c) := by
  rw [bvec_V8]; simp [splice]
theorem news_two (w : World) (v1 v2 : Value) : Hid (∀ j u, [v1, v2][j]? = some u → (w.alloc (.cells #[v1, v2] 5)).cell? ((⟨w.heap.size, 0, none⟩ : Addr).add j) = some u) := by
  intro j u hj
  have e : (⟨w.heap.size, 0, none⟩ : Addr).add j = ⟨w.heap.size, j, none⟩ := by unfold Addr.add; split <;> simp_all
  rw [e, (Has.fresh w 5 #[v1, v2]).at_ j]
  simpa using hj
set_option maxRecDepth 100000 in
set_option maxHeartbeats 400000 in
theorem text_any (h : List UInt8) (hl : h.length = 32) (w : World) :
    Calls Tryd.prog 15 #[.agg (bvec h)] w fun e w' => e = .returned (.string ⟨(textL h).toArray⟩) ∧ Below w.heap.size w w' := by
  obtain ⟨i0, hi, hz0, hz1, hz2⟩ := info_parts info5
  have hmk : ∀ w : World, (Instr.makeSlice 36 (.int .i64 0) (.int .i64 64)).run Tryd.prog w = .ok (.slice (some ⟨w.heap.size, 0, none⟩) 0 64) (w.alloc (.cells (bvec zero64) 5)) := by
    intro w
    have := run_make (P := Tryd.prog) w 36 5 i0 (.int .u8 0) Tryd.underlying36 hi hz0 .i64 .i64 0 64 (by omega) (by omega) (by rw [hz2]; omega) (by omega)
    rw [this, hz1]
    rw [show (Value.int IntKind.u8 0).cells = #[Value.int .u8 0] from rfl, made_bytes]
    rfl
  have Z1 := size_dig h hl
  have HX : Hid (∀ i : Nat, i < 32 → ∀ w, (Instr.index 34 (.agg (bvec h)) (.int .i64 (i : Int))).run Tryd.prog w = .ok (.int .u8 (b8 (at8 h i))) w) := fun i hi w => index_byte h hl i hi w
  clear hl
  go_enter Tryd.func15, Tryd.ntmps15
  go_wp2_with (first
    | (refine wpList_load_row rfl 34 (.tmp 1) rfl w.heap.size rfl 34 (bvec h) (0, 0) _ (Has.more (Has.fresh w 34 (bvec h)) _) Tryd.underlying34 rfl Z1.out ?_))
  go_loopw [3, 8] (fun v i wr => ∃ k : Nat, k ≤ 32 ∧ i = .int .i64 (k : Int) ∧ v = .slice (some ⟨w.heap.size + 1, 0, none⟩) (2 * k) 64 ∧ Hid (Has wr (w.heap.size + 1) 5 (bvec (textRow h k))) ∧ Hid (Below w.heap.size w wr))
    (fun _ i _ => 32 - (intOf i).toNat)
  case atStart =>
    refine ⟨0, by omega, rfl, rfl, ?_, ?_⟩
    · exact Has.fresh' (w.alloc _) 5 (bvec zero64) (by simp)
    · exact ((Below.refl _ _).alloc (Nat.le_refl _) _).alloc (by simp) _
  case round =>
    obtain ⟨k, hk, rfl, rfl, J1, J2⟩ := hrel
    by_cases hlt : k < 32
    · obtain ⟨x, HX2⟩ : ∃ x, Hid (at8 h k = x) := ⟨_, rfl⟩
      have hi1 := HX.out k hlt
      rw [HX2.out] at hi1
      obtain ⟨n1, hn1, HN1⟩ : ∃ n : Nat, b8 x / 16 = (n : Int) ∧ Hid (x.toNat / 16 = n ∧ n < 16) := ⟨x.toNat / 16, hi_num x, rfl, by have := x.toNat_lt; omega⟩
      obtain ⟨n2, hn2, HN2⟩ : ∃ n : Nat, bits .and .u8 (b8 x) 15 = (n : Int) ∧ Hid (x.toNat % 16 = n ∧ n < 16) := ⟨x.toNat % 16, lo_num x, rfl, by omega⟩
      have hd1 := dig_sign n1 HN1.out.2
      have hd2 := dig_sign n2 HN2.out.2
      obtain ⟨s1, HS1⟩ : ∃ s, Hid (dC (UInt8.ofNat n1) = s) := ⟨_, rfl⟩
      obtain ⟨s2, HS2⟩ : ∃ s, Hid (dC (UInt8.ofNat n2) = s) := ⟨_, rfl⟩
      rw [HS1.out] at hd1
      rw [HS2.out] at hd2
      have hn16 : (n1 : Int) < 16 := by have := HN1.out; omega
      have HR : Hid (2 * k + 2 ≤ 64) := by show _ ≤ _; omega
      have HI : Hid (w.heap.size + 1 < wr.heap.size) := Has.inside J1.out
      have HSP : Hid (∀ W : World, Has W (w.heap.size + 1) 5 (bvec (textRow h k)) → ∀ j, j < [V8 s1, V8 s2].length → (W.cell? ⟨w.heap.size + 1, 0 + 2 * k * 1 + j, none⟩).isSome = true ∧ W.frozen? ⟨w.heap.size + 1, 0 + 2 * k * 1 + j, none⟩ = false) := by
        intro W hW j hj
        simp only [List.length_cons, List.length_nil] at hj
        exact ⟨by rw [hW.at_, bvec_get _ _ (by rw [textRow_len h k hk]; omega)]; rfl, hW.free _⟩
      have HON : Hid (∀ v ∈ [V8 s1, V8 s2], v.oneCell' = true) := by
        intro v hv
        simp only [List.mem_cons, List.not_mem_nil, or_false] at hv
        rcases hv with rfl | rfl <;> rfl
      go_wp2
      go_region_law (refine step_append_room (by rfl) (.tmp 11) (.tmp 18) 36 (by rfl) 5 i0 1 Tryd.underlying36 hi hz1 (w.heap.size + 1) 0 (2 * k) 64 (by rfl) ⟨wr.heap.size, 0, none⟩ 2 2 [V8 s1, V8 s2] (by rfl) (by rfl) (news_two wr.drew _ _).out HON.out HR.out (HSP.out _ (Has.more (J1.out.drawn 1) _)) ?_)
      all_goals
        go_wp2
        go_roundw
        case rel =>
          have e : textRow h (k + 1) = splice (textRow h k) (2 * k) [s1, s2] := by
            rw [← textRow_next h k hlt, HX2.out, hi4, lo4, HN1.out.1, HN2.out.1, HS1.out, HS2.out]
          refine ⟨k + 1, by omega, by go_num, by rw [Nat.mul_add], ?_, ?_⟩
          · rw [e]
            have h3 := Has.sets [V8 s1, V8 s2] (2 * k) _ _ ((Has.more J1.out (.cells #[Value.int .u8 (b8 s1), Value.int .u8 (b8 s2)] 5)).drawn 1) (by simp [textRow_len h k hk]; omega)
            show Has _ _ _ _
            rw [← bvec_splice]
            exact h3
          · exact (((J2.out.alloc J2.out.size (.cells #[Value.int .u8 (b8 s1), Value.int .u8 (b8 s2)] 5)).drewN' 1).trans (below_of_grw (Grw.of_sets _ _ _ _) (Nat.le_succ _) (by have := J2.out.size; show _ ≤ (World.alloc _ _).heap.size; simp; omega)))
        case measure => simp [intOf]; omega
    · obtain rfl : k = 32 := by omega
      have hcv : (convert 36 9 (.slice (some ⟨w.heap.size + 1, 0, none⟩) 64 64)).run Tryd.prog wr = .ok (.string ⟨(textL h).toArray⟩) wr := by
        have hl : (textL h).length = 64 := textUp_len h 32
        have := run_convert_bytes_back (P := Tryd.prog) wr 36 9 5 ⟨w.heap.size + 1, 0, none⟩ 64 (textL h) Tryd.underlying36 Tryd.underlying5 Tryd.underlying9 (fun j hj => by
          have e : (⟨w.heap.size + 1, 0, none⟩ : Addr).add j = ⟨w.heap.size + 1, j, none⟩ := by unfold Addr.add; split <;> simp_all
          rw [e, J1.out.at_, bvec_get _ j (by rw [textRow_len h 32 (by omega)]; omega)]
          have e2 : textRow h 32 = textL h := by simp [textRow, textL]
          rw [e2, at8, List.getD, List.getElem?_eq_getElem hj]; rfl)
        rw [hl] at this
        exact this
      rw [show 2 * 32 = 64 from rfl]
      go_wp2
      go_ret
      exact ⟨rfl, J2.out⟩
end Go.Proofs.YtoeomghebgbniaaDoor.Sha
