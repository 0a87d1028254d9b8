/- '==' on digests; the string's bytes; text, awake of the laws. Conditions: the listed table. -/
import Derived.Test.YthhclcjocakdlaaDoorSM
import Derived.ChangeKeysEq
import Derived.Lib.SlBytesConst
namespace Go.Proofs.YthhclcjocakdlaaDoor.Sha
open Go.RowKit
def sameL (xs ys : List UInt8) : Bool := decide (xs = ys)
theorem sameL_refl (xs : List UInt8) : sameL xs xs = true := by simp [sameL]
theorem b8_inj {x y : UInt8} (h : b8 x = b8 y) : x = y := by unfold b8 at h; exact UInt8.toNat_inj.1 (by omega)
theorem part_byte (xs : List UInt8) (i : Nat) (hi : i < xs.length) (w : World) : (part 5 (bvec xs) (i * 1)).run Tryd.prog w = .ok (.int .u8 (b8 (at8 xs i))) w := by
  have ha : (isAgg 5).run Tryd.prog w = .ok false w := by kernel_rfl
  simp only [part, Sem.run_bind, ha, Result.andThen_ok, Nat.mul_one, Bool.false_eq_true, if_false, bvec_get xs i hi, Sem.run_pure]
theorem eqItems_bytes (d : Nat) (xs ys : List UInt8) (w : World) (is : List Nat) : (∀ i ∈ is, i < xs.length ∧ i < ys.length) →
    (Op.eqItems (d + 1) 5 1 (bvec xs) (bvec ys) is).run Tryd.prog w = .ok (is.all fun i => decide (at8 xs i = at8 ys i)) w := by
  induction is with
  | nil => intro _; simp [Op.eqItems]
  | cons j is ih =>
    intro h
    have hj := h j (by simp)
    have he : (Op.equalIn (d + 1) 5 (.int .u8 (b8 (at8 xs j))) (.int .u8 (b8 (at8 ys j)))).run Tryd.prog w = .ok (b8 (at8 xs j) == b8 (at8 ys j)) w :=
      run_equalIn_int (P := Tryd.prog) w d 5 .u8 .u8 _ _ Tryd.underlying5
    simp only [Op.eqItems, Sem.run_bind, part_byte xs j hj.1 w, part_byte ys j hj.2 w, Result.andThen_ok, he]
    by_cases hq : at8 xs j = at8 ys j
    · rw [hq]; simp [ih (fun i hi => h i (by simp [hi]))]; simp [hq]
    · have : b8 (at8 xs j) ≠ b8 (at8 ys j) := fun e => hq (b8_inj e)
      simp [this, hq]
set_option maxRecDepth 100000 in
theorem run_hash_eql (xs ys : List UInt8) (hx : xs.length = 32) (hy : ys.length = 32) (w : World) :
    (binOp .eql 25 (.agg (bvec xs)) (.agg (bvec ys))).run Tryd.prog w = .ok (.bool (sameL xs ys)) w := by
  obtain ⟨i5, hi5⟩ : ∃ i, Tryd.prog.info? 5 = some i := by obtain ⟨i0, hi, _⟩ := info_parts info5; exact ⟨i0, hi⟩
  rw [run_eql_struct, run_equalIn_array (P := Tryd.prog) (w := w) 9999 (bvec xs) (bvec ys) Tryd.underlying25 hi5]
  have hc : Tryd.prog.cellsOf 5 = 1 := by kernel_rfl
  rw [hc, eqItems_bytes 9998 xs ys w _ (fun i hi => by simp at hi; omega)]
  simp only [Result.andThen_ok]
  congr 2
  rw [sameL, Bool.eq_iff_iff]
  simp only [List.all_eq_true, List.mem_range, decide_eq_true_eq]
  constructor
  · intro h
    apply List.ext_getElem (by omega)
    intro i h1 h2
    have := h i (by omega)
    simpa [at8, List.getD, List.getElem?_eq_getElem h1, List.getElem?_eq_getElem h2] using this
  · intro h i _; rw [h]
/-- The bytes of a string, laid anew. -/
theorem conv_bytes (s : ByteArray) (l : List UInt8) (hs : s.data.toList = l) (w : World) :
    ∃ cap W, (convert 9 22 (.string s)).run Tryd.prog w = .ok (.slice (some ⟨w.heap.size, 0, none⟩) l.length cap) W ∧ Hid (l.length ≤ cap) ∧ Hid (Below w.heap.size w W) ∧ Hid (w.heap.size < W.heap.size) ∧
      Hid (∀ j, j < l.length → W.cell? ⟨w.heap.size, 0 + j, none⟩ = some (.int .u8 (b8 (at8 l j)))) := by
  have hz : s.size = l.length := by rw [← hs, size_list]
  refine ⟨_, _, (run_bytes_of_string w 9 22 5 s Tryd.underlying9 Tryd.underlying22 Tryd.underlying5).trans (by rw [hz]), ?_, ?_, ?_, ?_⟩
  · show _ ≤ _; rw [← hz]; exact grownCap_ge _ _ _ _
  · exact ((Below.refl _ _).drewN' 1).alloc (Nat.le_refl _) _
  · show _ < (World.alloc _ _).heap.size; simp
  · intro j hj
    rw [Nat.zero_add, cell_of_row _ w.heap.size j _ 5 _ (heap_alloc_new w.drew _)]
    have hj2 : j < s.data.size := by rw [← hs, Array.length_toList] at hj; exact hj
    rw [bytesRow_at s _ j hj2]
    have e : at8 l j = s.data[j] := by
      rw [← hs, at8, List.getD, List.getElem?_eq_getElem (by rw [Array.length_toList]; exact hj2)]; rfl
    rw [e]; rfl
set_option maxHeartbeats 400000 in
theorem text_of (s : ByteArray) (l t : List UInt8) (hs : s.data.toList = l) (hn : l.length ≤ 1099511627776) (ht : textL (shaL l) = t) (w : World) (hT : Tab w) :
    Calls Tryd.prog 45 #[.string s] w fun e w' => e = .returned (.string ⟨t.toArray⟩) ∧ Below w.heap.size w w' := by
  obtain ⟨cap, W, hcv, C1, C2, C3, C4⟩ := conv_bytes s l hs w
  have T1 : Hid (Tab W) := hT.kept C2.out hT.pos
  have HT := hid ht
  have HL : Hid (∀ x : Int, x = (l.length : Int) → x = (l.length : Int)) := fun _ h => h
  clear hs hT ht
  go_enter Tryd.func45, Tryd.ntmps45
  go_wp2_with (first
    | (go_at_call 15; refine (sum_any w.heap.size 0 l.length cap _ l W T1.out C3.out rfl C1.out hn C4.out (fun _ => rfl)).mono ?_; rintro e1 w1 ⟨rfl, hb1⟩
       have B1 : Hid (Below w.heap.size w w1) := C2.out.trans (hb1.mono C2.out.size)
       clear hb1)
    | (go_at_call 67; refine (text_any (shaL l) (fin_len _) w1).mono ?_; rintro e2 w2 ⟨rfl, hb2⟩
       have B2 : Hid (Below w.heap.size w w2) := B1.out.trans (hb2.mono B1.out.size)
       clear hb2))
  go_ret
  exact ⟨by rw [HT.out]; rfl, B2.out⟩
theorem ofAbc_text : textL (shaL [97, 98, 99]) = [98, 97, 55, 56, 49, 54, 98, 102, 56, 102, 48, 49, 99, 102, 101, 97, 52, 49, 52, 49, 52, 48, 100, 101, 53, 100, 97, 101, 50, 50, 50, 51, 98, 48, 48, 51, 54, 49, 97, 51, 57, 54, 49, 55, 55, 97, 57, 99, 98, 52, 49, 48, 102, 102, 54, 49, 102, 50, 48, 48, 49, 53, 97, 100] := by decide +kernel
theorem ofNone_text : textL (shaL []) = [101, 51, 98, 48, 99, 52, 52, 50, 57, 56, 102, 99, 49, 99, 49, 52, 57, 97, 102, 98, 102, 52, 99, 56, 57, 57, 54, 102, 98, 57, 50, 52, 50, 55, 97, 101, 52, 49, 101, 52, 54, 52, 57, 98, 57, 51, 52, 99, 97, 52, 57, 53, 57, 57, 49, 98, 55, 56, 53, 50, 98, 56, 53, 53] := by decide +kernel
theorem ofAbc_of : ofL [98, 97, 55, 56, 49, 54, 98, 102, 56, 102, 48, 49, 99, 102, 101, 97, 52, 49, 52, 49, 52, 48, 100, 101, 53, 100, 97, 101, 50, 50, 50, 51, 98, 48, 48, 51, 54, 49, 97, 51, 57, 54, 49, 55, 55, 97, 57, 99, 98, 52, 49, 48, 102, 102, 54, 49, 102, 50, 48, 48, 49, 53, 97, 100] = some (shaL [97, 98, 99]) := by decide +kernel
end Go.Proofs.YthhclcjocakdlaaDoor.Sha
