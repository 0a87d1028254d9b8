/- sha.padding: what stands behind so many bytes. Conditions: at most 2 to the 40 bytes. -/
import Derived.Test.YtoeomghebgbniaaDoorSF
namespace Go.Proofs.YtoeomghebgbniaaDoor.Sha
open Go.RowKit

/-- Byte j of the eight of the length. -/
def lenByte (n j : Nat) : UInt8 := UInt8.ofNat (n * 8 / 2 ^ (56 - 8 * j))
def lenBytes (n j : Nat) : List UInt8 := (List.range j).map (lenByte n)
def padHead (n : Nat) : List UInt8 := 128 :: List.replicate ((119 - n % 64) % 64) 0
def padL (n : Nat) : List UInt8 := padHead n ++ lenBytes n 8
theorem lenBytes_next (n j : Nat) : lenBytes n (j + 1) = lenBytes n j ++ [lenByte n j] := by simp [lenBytes, List.range_succ]
theorem b8_ofNat (m : Nat) : b8 (UInt8.ofNat m) = ((m % 256 : Nat) : Int) := by simp [b8]
theorem info5 : (Tryd.prog.info? 5).map (fun i => (i.zero, i.size, i.bytes)) = some (some (.int .u8 0), 1, 1) := by kernel_rfl
theorem made_bytes (m : Nat) : madeCells #[Value.int .u8 0] m = bvec (List.replicate m 0) := by
  apply Array.ext
  · simp [madeCells, bvec]
  · intro i h1 h2
    simp [madeCells, bvec, Nat.mod_one]; rfl
set_option maxRecDepth 100000 in
set_option maxHeartbeats 400000 in
theorem padding_any (n : Nat) (hn : n ≤ 1099511627776) (w : World) :
    Calls Tryd.prog 58 #[.int .i64 (n : Int)] w fun e w' => ∃ v, e = .returned v ∧ w'.ownsRow w.heap.size 5 1 v (padL n).length ((padL n).map V8) ∧ Below w.heap.size w w' := by
  obtain ⟨i0, hi, hz0, hz1, hz2⟩ := info_parts info5
  obtain ⟨r, r1, r2, HR⟩ : ∃ r : Nat, (n : Int).tmod 64 = (r : Int) ∧ (n : Int) % 64 = (r : Int) ∧ Hid (n % 64 = r ∧ r < 64) :=
    ⟨n % 64, by rw [Int.tmod_eq_emod_of_nonneg (by omega)]; omega, by omega, rfl, by omega⟩
  obtain ⟨k, k1, k2, HK⟩ : ∃ k : Nat, (119 - (r : Int)).tmod 64 = (k : Int) ∧ (119 - (r : Int)) % 64 = (k : Int) ∧ Hid ((119 - n % 64) % 64 = k ∧ k < 64) := by
    have := HR.out
    exact ⟨(119 - n % 64) % 64, by rw [Int.tmod_eq_emod_of_nonneg (by omega)]; omega, by omega, rfl, by omega⟩
  obtain ⟨a, a1, HA⟩ : ∃ a : Nat, 1 + (k : Int) = (a : Int) ∧ Hid (1 + k = a) := ⟨1 + k, by omega, rfl⟩
  obtain ⟨c, c1, HC⟩ : ∃ c : Nat, (a : Int) + 8 = (c : Int) ∧ Hid (a + 8 = c) := ⟨a + 8, by omega, rfl⟩
  have hr0 : (0 : Int) ≤ (r : Int) := by omega
  have hr64 : (r : Int) < 64 := by have := HR.out; omega
  have hk64 : (k : Int) < 64 := by have := HK.out; omega
  have ha66 : (a : Int) < 66 := by omega
  have ha0 : (0 : Int) < (a : Int) := by omega
  have hmk : ∀ w : World, (Instr.makeSlice 36 (.int .i64 (a : Int)) (.int .i64 (c : Int))).run Tryd.prog w = .ok (.slice (some ⟨w.heap.size, 0, none⟩) a c) (w.alloc (.cells (bvec (List.replicate c 0)) 5)) := by
    intro w
    have := run_make (P := Tryd.prog) w 36 5 i0 (.int .u8 0) Tryd.underlying36 hi hz0 .i64 .i64 (a : Int) (c : Int) (by omega) (by omega) (by rw [hz2]; omega) (by omega)
    rw [this]
    simp only [Int.toNat_natCast, hz1, Nat.mul_one]
    rw [show (Value.int IntKind.u8 0).cells = #[Value.int .u8 0] from rfl, made_bytes]
  have hc0 : (bvec (List.replicate c 0))[0]? = some (Value.int .u8 (b8 (at8 (List.replicate c 0) 0))) := bvec_get _ 0 (by rw [List.length_replicate]; have := HC.out; omega)
  go_enter Tryd.func58, Tryd.ntmps58
  go_wp2
  go_loopw [4, 5] (fun v i wr => ∃ (j : Nat) (q : Int), j ≤ 8 ∧ i = .int .i64 q ∧ Hid (q = 56 - 8 * (j : Int)) ∧ Hid (wr.ownsRow w.heap.size 5 1 v (a + j) ((padHead n ++ lenBytes n j).map V8)) ∧ Hid (Below w.heap.size w wr))
    (fun _ i _ => (intOf i + 8).toNat)
  case atStart =>
    refine ⟨0, 56, by omega, rfl, rfl, ?_, ?_⟩
    · have e1 : (padHead n).length = a := by have h1 := HK.out; have h2 := HA.out; simp [padHead]; omega
      refine ⟨by simp [lenBytes, e1], .inr ⟨w.heap.size, c, (bvec (List.replicate c 0)).setIfInBounds 0 (.int .u8 (b8 128)), rfl, Nat.le_refl _, heap_alloc_new w _, by have := HC.out; omega, by have := HC.out; unfold maxLen; omega, by simp [bvec], ?_⟩⟩
      rw [bvec_set, bvec]
      show List.take _ (List.map _ _) = _
      rw [← List.map_take]
      have h1 := HK.out; have h2 := HA.out; have h3 := HC.out
      have e2 : ((List.replicate c (0 : UInt8)).set 0 128).take ((a + 0) * 1) = padHead n ++ lenBytes n 0 := by
        obtain ⟨c', rfl⟩ : ∃ c', c = c' + 1 := ⟨c - 1, by omega⟩
        rw [List.replicate_succ, List.set_cons_zero]
        obtain ⟨a', rfl⟩ : ∃ a', a = a' + 1 := ⟨a - 1, by omega⟩
        simp [padHead, lenBytes, List.take_replicate]
        omega
      rw [e2]; rfl
    · exact (Below.refl _ _).alloc (Nat.le_refl _) _
  case round =>
    obtain ⟨j, q, hj, rfl, HQ, HO, HB⟩ := hrel
    by_cases hlt : j < 8
    · obtain ⟨sh, rfl⟩ : ∃ sh : Nat, q = (sh : Int) := ⟨56 - 8 * j, by have := HQ.out; omega⟩
      have hsh : (0 : Int) ≤ (sh : Int) := by omega
      have hsh2 : (sh : Int) ≤ 56 := by have := HQ.out; omega
      have N1 : Hid (∀ u ∈ [Value.int .u8 ((n : Int) * 8 / 2 ^ sh % 256)], u.oneCell' = true) := by
        intro u hu
        rw [List.mem_singleton] at hu
        subst hu; rfl
      have N2 : Hid (a + j + 1 ≤ maxLen) := by show _ ≤ _; unfold maxLen; omega
      have N3 : Hid ((a + j + 1) * 1 ≤ 140737488355328) := by show _ ≤ _; omega
      have N4 : Hid (∀ o, w.heap.size ≤ (wr.alloc o).heap.size) := by intro o; have := HB.out.size; simp; omega
      have N5 : Hid (Value.int .u8 ((n : Int) * 8 / 2 ^ sh % 256) = V8 (lenByte n j)) := by
        have e : sh = 56 - 8 * j := by have := HQ.out; omega
        show Value.int _ _ = Value.int _ _
        rw [lenByte, b8_ofNat, e]
        norm_cast
      go_wp2_with (at_builtin; refine wpList_append_own _ rfl _ _ 36 rfl w.heap.size 5 i0 (.int .u8 0) 1 1 Tryd.underlying36 hi hz0 hz1 hz2 rfl (by omega) _ _ _ rfl (HO.out.alloc _) ⟨wr.heap.size, 0, none⟩ 1 1 [Value.int .u8 ((n : Int) * 8 / 2 ^ sh % 256)] rfl rfl (cell_one_new _ _ _) N1.out N2.out N3.out (N4.out _) ?_; intro v' w1 hown' hgrow _)
      have HO2 : Hid (w1.ownsRow w.heap.size 5 1 v' (a + (j + 1)) ((padHead n ++ lenBytes n (j + 1)).map V8)) := by
        rw [N5.out] at hown'
        rw [lenBytes_next, ← List.append_assoc, List.map_append]
        exact hown'
      have HB2 : Hid (Below w.heap.size w w1) :=
        ((HB.out.alloc HB.out.size _).grown hgrow (N4.out _) (fun g hg => by
          rcases HO.out.2 with ⟨rfl, _⟩ | ⟨g', _, _, rfl, hle, _⟩
          · cases hg
          · obtain rfl := Option.some.inj hg; exact hle))
      clear hown' hgrow
      go_wp2
      go_roundw
      case rel => exact ⟨j + 1, (sh : Int) - 8, by omega, rfl, by show _ = _; have := HQ.out; omega, HO2, HB2⟩
      case measure => simp [intOf]; omega
    · obtain rfl : j = 8 := by omega
      have hq : q < 0 := by have := HQ.out; omega
      go_wp2
      go_ret
      refine ⟨_, rfl, ?_, HB.out⟩
      have e1 : (padL n).length = a + 8 := by have h1 := HK.out; have h2 := HA.out; simp [padL, padHead, lenBytes]; omega
      rw [e1]; exact HO.out
end Go.Proofs.YtoeomghebgbniaaDoor.Sha
