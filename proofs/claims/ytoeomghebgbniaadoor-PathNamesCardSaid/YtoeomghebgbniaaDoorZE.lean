/- The document's digest: Padded (caravanref01). Conditions: bytes in a block of the world, at most 100000. -/
import Derived.Test.YtoeomghebgbniaaDoorSAA
import Derived.RangeFuncBox
namespace Go.Proofs.YtoeomghebgbniaaDoor.Sha
open Go.RowKit
theorem one_u8 (z : Int) : ∀ u ∈ [Value.int .u8 z], u.oneCell' = true := by
  intro u hu
  rw [List.mem_singleton] at hu
  subst hu; rfl
theorem own_step {w w1 wr : World} {o : Obj} {v : Value} {n : Nat} {xs : List Value} (HB : Below w.heap.size w wr) (HO : wr.ownsRow w.heap.size 5 1 v n xs) (hg : (wr.alloc o).grownBy w1 v.ownBlock) : Below w.heap.size w w1 :=
  (HB.alloc HB.size _).grown hg (by have := HB.size; simp; omega) (fun g hk => (HO.lt g hk).1)
set_option maxRecDepth 100000 in
set_option maxHeartbeats 1000000 in
theorem padded_any (ys : List UInt8) (A : Option Addr) (cap bb off : Nat) (w : World) (n : Nat) (hn : ys.length = n) (hn2 : n ≤ 100000) (hs : Bytes w (.slice A n cap) ys A cap bb off) :
    Calls Tryd.prog 46 #[.slice A n cap] w fun e w' => ∃ v, e = .returned v ∧ w'.ownsRow w.heap.size 5 1 v (ys ++ padL n).length ((ys ++ padL n).map V8) ∧ Below w.heap.size w w' := by
  obtain ⟨i0, hi, hz0, hz1, hz2⟩ := info_parts info5
  obtain ⟨K, HK⟩ : ∃ K, Hid ((119 - n % 64) % 64 = K ∧ K < 64) := ⟨_, rfl, by omega⟩
  obtain ⟨v1, w1, hr1, ho1, hg1, _, _⟩ := append_bytes w w.heap.size (.slice none 0 0) 0 [] (World.ownsRow_nil _ _ _ _) hs (by omega) (Nat.le_refl _)
  rw [Nat.zero_add, List.nil_append, hn] at ho1
  have HO1 := hid ho1
  have HB1 : Hid (Below w.heap.size w w1) := (Below.refl _ _).grown hg1 (Nat.le_refl _) (fun g hk => by cases hk)
  have HR := hid hr1
  have HN := hid hn
  clear hr1 ho1 hg1 hs hn
  have N2 : Hid (n + 1 ≤ maxLen) := by show _ ≤ _; unfold maxLen; omega
  have N3 : Hid ((n + 1) * 1 ≤ 140737488355328) := by show _ ≤ _; omega
  have N4 : Hid (∀ o, w.heap.size ≤ (w1.alloc o).heap.size) := by intro o; have := HB1.out.size; simp; omega
  go_enter Tryd.func46, Tryd.ntmps46
  go_wp2_with (first
    | (refine wpList_append_run rfl (.tmp 6) (.tmp 7) 36 rfl ?_
       refine ⟨v1, w1, HR.out, ?_⟩)
    | (at_builtin; refine wpList_append_own _ rfl _ _ 36 rfl w.heap.size 5 i0 (.int .u8 0) 1 1 Tryd.underlying36 hi hz0 hz1 hz2 rfl (by omega) _ _ _ rfl (HO1.out.alloc _) ⟨w1.heap.size, 0, none⟩ 1 1 [Value.int .u8 128] rfl rfl (cell_one_new _ _ _) (one_u8 128) N2.out N3.out (N4.out _) ?_
       intro v2 w2 hown hgrow _
       have HB2 : Hid (Below w.heap.size w w2) := own_step HB1.out HO1.out hgrow
       obtain ⟨g2, c2, rfl⟩ := ownsRow_succ hown
       have HO2 : Hid (w2.ownsRow w.heap.size 5 1 (.slice (some ⟨g2, 0, none⟩) (n + 1) c2) (n + 1) ((ys ++ 128 :: List.replicate 0 0).map V8)) := by
         rw [List.map_append]; exact hown
       clear hown hgrow))
  clear HR HO1 HB1 N4
  go_loopw [3] (fun v wr => ∃ (L j : Nat) (B : Option Addr) (c : Nat), v = .slice B L c ∧ Hid (L = n + 1 + j) ∧ j ≤ K ∧ L ≤ 200000 ∧ Hid (wr.ownsRow w.heap.size 5 1 (.slice B L c) L ((ys ++ 128 :: List.replicate j 0).map V8)) ∧ Hid (Below w.heap.size w wr))
    (fun v _ => match v with | .slice _ L _ => n + 1 + K - L | _ => 0)
  case atStart => exact ⟨n + 1, 0, _, _, rfl, rfl, by omega, by omega, HO2, HB2⟩
  case round =>
    obtain ⟨L, j, B, c, rfl, HL, hj, hL, HO, HB⟩ := hrel
    obtain ⟨r, Hr⟩ : ∃ r, Hid (L % 64 = r) := ⟨_, rfl⟩
    have t1 : (L : Int) % 64 = (r : Int) := by rw [← Hr.out]; rfl
    have t2 : (L : Int).tmod 64 = (r : Int) := by rw [Int.tmod_eq_emod_of_nonneg (by omega)]; exact t1
    by_cases hlt : j < K
    · have t3 : ((r : Int) != 56) = true := by
        have h1 := HK.out; have h2 := HL.out; have h3 := Hr.out
        rw [bne_iff_ne]; omega
      have t4 : ((r : Int) == 56) = false := by simpa [bne] using t3
      have N2 : Hid (L + 1 ≤ maxLen) := by show _ ≤ _; unfold maxLen; omega
      have N3 : Hid ((L + 1) * 1 ≤ 140737488355328) := by show _ ≤ _; omega
      have N4 : Hid (∀ o, w.heap.size ≤ (wr.alloc o).heap.size) := by intro o; have := HB.out.size; simp; omega
      go_wp2_with (at_builtin; refine wpList_append_own _ rfl _ _ 36 rfl w.heap.size 5 i0 (.int .u8 0) 1 1 Tryd.underlying36 hi hz0 hz1 hz2 rfl (by omega) _ _ _ rfl (HO.out.alloc _) ⟨wr.heap.size, 0, none⟩ 1 1 [Value.int .u8 0] rfl rfl (cell_one_new _ _ _) (one_u8 0) N2.out N3.out (N4.out _) ?_; intro v3 w3 hown hgrow _)
      have HB3 : Hid (Below w.heap.size w w3) := own_step HB.out HO.out hgrow
      obtain ⟨g3, c3, rfl⟩ := ownsRow_succ hown
      have HO3 : Hid (w3.ownsRow w.heap.size 5 1 (.slice (some ⟨g3, 0, none⟩) (L + 1) c3) (L + 1) ((ys ++ 128 :: List.replicate (j + 1) 0).map V8)) := by
        rw [List.replicate_succ', ← List.cons_append, ← List.append_assoc, List.map_append]; exact hown
      clear hown hgrow
      go_wp2
      go_roundw
      case rel => exact ⟨L + 1, j + 1, _, _, rfl, by show _ = _; have := HL.out; omega, by omega, by have := HL.out; have := HK.out; omega, HO3, HB3⟩
      case measure => have := HL.out; simp; omega
    · obtain rfl : K = j := by omega
      have t3 : ((r : Int) != 56) = false := by
        have h1 := HK.out; have h2 := HL.out; have h3 := Hr.out
        have : (r : Int) = 56 := by omega
        rw [this]; rfl
      have HO4 : Hid (wr.ownsRow w.heap.size 5 1 (.slice B L c) (L + 0) ((ys ++ padHead n ++ lenBytes n 0).map V8)) := by
        show World.ownsRow _ _ _ _ _ _ _
        rw [padHead, HK.out.1]
        have : lenBytes n 0 = [] := rfl
        rw [this, List.append_nil]; exact HO.out
      obtain ⟨z, HZ⟩ : ∃ z, Hid (n * 8 = z) := ⟨_, rfl⟩
      have w8 : IntKind.u64.wrap ((n : Int) * 8) = (z : Int) := by
        rw [← HZ.out]; simp [IntKind.wrap, IntKind.signed, IntKind.bits]; omega
      clear HO
      obtain ⟨wo, rfl⟩ : ∃ wo, wo = wr := ⟨_, rfl⟩
      go_wp2
      go_loopw [3, 5] (fun v i wr => ∃ (j L : Nat) (q : Int) (B : Option Addr) (c : Nat), j ≤ 8 ∧ v = .slice B L c ∧ i = .int .i64 q ∧ Hid (q = 7 - (j : Int)) ∧ Hid (L = n + 1 + K + j) ∧ Hid (wr.ownsRow w.heap.size 5 1 (.slice B L c) L ((ys ++ padHead n ++ lenBytes n j).map V8)) ∧ Hid (Below w.heap.size w wr))
        (fun _ i _ => (intOf i + 1).toNat)
      case atStart => exact ⟨0, L, 7, B, c, by omega, rfl, rfl, rfl, HL, HO4, HB⟩
      case round =>
        obtain ⟨j, L2, q, B2, cc, hj8, rfl, rfl, HQ, HL2, HO5, HB5⟩ := hrel
        by_cases hlt8 : j < 8
        · obtain ⟨sh, rfl⟩ : ∃ sh : Nat, q = (sh : Int) := ⟨7 - j, by have := HQ.out; omega⟩
          have hsh : (0 : Int) ≤ (sh : Int) := by omega
          have hsh2 : (sh : Int) ≤ 7 := by have := HQ.out; omega
          have M1 : Hid (∀ u ∈ [Value.int .u8 ((z : Int) / 2 ^ (8 * sh) % 256)], u.oneCell' = true) := one_u8 _
          have hb : L2 ≤ 200000 := by have := HL2.out; have := HK.out; omega
          have M2 : Hid (L2 + 1 ≤ maxLen) := by show _ ≤ _; unfold maxLen; omega
          have M3 : Hid ((L2 + 1) * 1 ≤ 140737488355328) := by show _ ≤ _; omega
          have M4 : Hid (∀ o, w.heap.size ≤ (wr.alloc o).heap.size) := by intro o; have := HB5.out.size; simp; omega
          have M5 : Hid (Value.int .u8 ((z : Int) / 2 ^ (8 * sh) % 256) = V8 (lenByte n j)) := by
            have e : 8 * sh = 56 - 8 * j := by have := HQ.out; omega
            show Value.int _ _ = Value.int _ _
            rw [lenByte, b8_ofNat, e, ← HZ.out]
            norm_cast
          go_wp2_with (at_builtin; refine wpList_append_own _ rfl _ _ 36 rfl w.heap.size 5 i0 (.int .u8 0) 1 1 Tryd.underlying36 hi hz0 hz1 hz2 rfl (by omega) _ _ _ rfl (HO5.out.alloc _) ⟨wr.heap.size, 0, none⟩ 1 1 [Value.int .u8 ((z : Int) / 2 ^ (8 * sh) % 256)] rfl rfl (cell_one_new _ _ _) M1.out M2.out M3.out (M4.out _) ?_; intro v6 w6 hown hgrow _)
          have HB6 : Hid (Below w.heap.size w w6) := own_step HB5.out HO5.out hgrow
          obtain ⟨g6, c6, rfl⟩ := ownsRow_succ hown
          have HO6 : Hid (w6.ownsRow w.heap.size 5 1 (.slice (some ⟨g6, 0, none⟩) (L2 + 1) c6) (L2 + 1) ((ys ++ padHead n ++ lenBytes n (j + 1)).map V8)) := by
            rw [lenBytes_next, ← List.append_assoc, List.map_append, List.map_cons, ← M5.out]; exact hown
          clear hown hgrow
          go_wp2
          go_roundw
          case rel => exact ⟨j + 1, L2 + 1, (sh : Int) - 1, _, _, by omega, rfl, rfl, by show _ = _; have := HQ.out; omega, by show _ = _; have := HL2.out; omega, HO6, HB6⟩
          case measure => simp [intOf]
        · obtain rfl : j = 8 := by omega
          have hq : q < 0 := by have := HQ.out; omega
          go_wp2
          go_ret
          refine ⟨_, rfl, ?_, HB5.out⟩
          have e : (ys ++ padL n).length = L2 := by
            have h1 := HK.out; have h2 := HL2.out; have h3 := HN.out
            simp [padL, padHead, lenBytes]; omega
          have e2 : ys ++ padL n = ys ++ padHead n ++ lenBytes n 8 := by rw [padL, List.append_assoc]
          rw [e, e2]; exact HO5.out
end Go.Proofs.YtoeomghebgbniaaDoor.Sha
