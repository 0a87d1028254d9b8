/- Several texts in one: SN, SAA, ZF, ZE, ZD, ZH, ZG, ZI, ZJ. Conditions: those said at each. -/
import Derived.Test.YtlcdkponegmcdaaDoorSK
import Derived.Maps.AppendAt
import Derived.Deep.Matrix
import Derived.Test.YtlcdkponegmcdaaDoorSD
import Derived.RangeFuncBox
import Derived.Test.YtlcdkponegmcdaaDoorSH
import Derived.Deep.RegionHeld3
import Derived.Test.YtlcdkponegmcdaaDoorSJ
/- A stand-in: nothing of the text of a digest is needed here. No conditions. -/

/- Parts of bytes that come in; bytes appended; two states side by side. No conditions but the ones said. -/
namespace Go.Proofs.YtlcdkponegmcdaaDoor.Sha
open Go.RowKit
/-- The value is a slice over just these bytes. -/
structure Bytes (w : World) (v : Value) (xs : List UInt8) (A : Option Addr) (cap bb off : Nat) : Prop where
  form : v = .slice A xs.length cap
  le : xs.length ≤ cap
  zero : A = none → cap = 0
  at_ : ∀ a, A = some a → ∀ j, j < xs.length → w.cell? (a.add j) = some (V8 (at8 xs j))
  blk : bb < w.heap.size
  src : 0 < xs.length → A = some ⟨bb, off, none⟩
theorem Bytes.cells {w : World} {v : Value} {xs : List UInt8} {A : Option Addr} {cap bb off : Nat} (h : Bytes w v xs A cap bb off) (j : Nat) (hj : j < xs.length) : w.cell? ⟨bb, off + j, none⟩ = some (V8 (at8 xs j)) := by
  have e := h.at_ _ (h.src (by omega)) j hj
  have : (⟨bb, off, none⟩ : Addr).add j = ⟨bb, off + j, none⟩ := by unfold Addr.add; split <;> simp_all
  rwa [this] at e
theorem Bytes.kept {w w' : World} {B : Nat} {v : Value} {xs : List UInt8} {A : Option Addr} {cap bb off : Nat} (h : Bytes w v xs A cap bb off) (hb : Below B w w') (hB : w.heap.size ≤ B) : Bytes w' v xs A cap bb off :=
  ⟨h.form, h.le, h.zero, fun a ha j hj => by
    have e := h.at_ a ha j hj
    exact (hb.cell (Nat.lt_of_lt_of_le (block_lt_of_cell e) hB)).trans e, Nat.lt_of_lt_of_le h.blk hb.size, h.src⟩
theorem V8_one (xs : List UInt8) : ∀ u ∈ xs.map V8, u.oneCell' = true := by
  intro u hu
  obtain ⟨x, _, rfl⟩ := List.mem_map.1 hu
  rfl
theorem map_get {xs : List UInt8} {j : Nat} {u : Value} (h : (xs.map V8)[j]? = some u) : j < xs.length ∧ u = V8 (at8 xs j) := by
  have hj : j < xs.length := by
    have := (List.getElem?_eq_some_iff.1 h).1
    simpa using this
  refine ⟨hj, ?_⟩
  rw [List.getElem?_map, List.getElem?_eq_getElem hj] at h
  simp at h
  rw [← h, at8, List.getD, List.getElem?_eq_getElem hj]; rfl
/-- Bytes appended to a row that the call owns. -/
theorem append_bytes (w : World) (B : Nat) (v : Value) (n : Nat) (xs : List Value) (hown : w.ownsRow B 5 1 v n xs) {src : Value} {ys : List UInt8} {A : Option Addr} {cap bb off : Nat} (hs : Bytes w src ys A cap bb off)
    (hn : n + ys.length ≤ 1000000) (hB : B ≤ w.heap.size) :
    ∃ v' w', (Builtin.append_ #[25, 25] 25 #[v, src]).run Tryd.prog w = .ok v' w' ∧ w'.ownsRow B 5 1 v' (n + ys.length) (xs ++ ys.map V8) ∧ w.grownBy w' v.ownBlock ∧
      (v' = .slice none 0 0 ↔ v = .slice none 0 0 ∧ ys.length = 0) ∧ (v'.ownBlock = v.ownBlock ∨ v'.ownBlock = some w.heap.size) := by
  obtain ⟨i0, hi, hz0, hz1, hz2⟩ := info_parts info5
  cases A with
  | none =>
    have hc := hs.zero rfl
    have hl := hs.le
    have h0 : ys.length = 0 := by omega
    have hy : ys = [] := List.eq_nil_of_length_eq_zero h0
    have e := hs.form
    rw [hc, h0] at e
    rw [e]
    refine ⟨v, w, run_append_owned_none (P := Tryd.prog) w B 25 25 5 i0 1 Tryd.underlying25 hi v n xs hown, ?_, ⟨rfl, rfl, rfl, Nat.le_refl _, fun _ _ _ => rfl⟩, by simp [h0], .inl rfl⟩
    rw [h0, hy]; simpa using hown
  | some a =>
    rw [hs.form]
    exact run_append_own_at (P := Tryd.prog) w B 25 25 5 i0 (.int .u8 0) 1 1 Tryd.underlying25 hi hz0 hz1 hz2 rfl (by omega) v n xs hown a ys.length cap (ys.map V8) (by simp)
      (fun j u hj => by obtain ⟨h1, rfl⟩ := map_get hj; exact hs.at_ a rfl j h1) (V8_one ys) (by unfold maxLen; omega) (by omega) hB
/-- A fresh copy. -/
theorem own_append (w : World) {src : Value} {ys : List UInt8} {A : Option Addr} {cap bb off : Nat} (hs : Bytes w src ys A cap bb off) (hn : ys.length ≤ 100000) :
    ∃ g c w', (Builtin.append_ #[25, 25] 25 #[.slice (some ⟨w.heap.size, 0, none⟩) 0 0, src]).run Tryd.prog (w.alloc (.cells #[] 5)) = .ok (.slice (some ⟨g, 0, none⟩) ys.length c) w' ∧
      w'.ownsRow w.heap.size 5 1 (.slice (some ⟨g, 0, none⟩) ys.length c) ys.length (ys.map V8) ∧ Below w.heap.size w w' ∧ w.heap.size ≤ g ∧ g < w'.heap.size := by
  have h0 : (w.alloc (.cells #[] 5)).ownsRow w.heap.size 5 1 (.slice (some ⟨w.heap.size, 0, none⟩) 0 0) 0 [] := World.ownsRow_made w #[] 0 (Nat.le_refl _) (by unfold maxLen; omega) rfl
  have hb0 : Below w.heap.size w (w.alloc (.cells #[] 5)) := (Below.refl _ _).alloc (Nat.le_refl _) _
  obtain ⟨v', w', hr, ho, hg, hnil, hblk⟩ := append_bytes _ _ _ _ _ h0 (hs.kept hb0 (Nat.le_refl _)) (by omega) (by simp)
  have hne : v' ≠ .slice none 0 0 := fun e => by have := (hnil.1 e).1; simp at this
  rw [Nat.zero_add, List.nil_append] at ho
  rcases ho.2 with ⟨h1, _⟩ | ⟨g, c, cur, rfl, hbg, hgg, _⟩
  · exact (hne h1).elim
  · refine ⟨g, c, w', hr, ho, hb0.grown hg (by simp) (fun k hk => by simp [Value.ownBlock] at hk; omega), hbg, (Array.getElem?_eq_some_iff.1 hgg).1⟩
/-- At the list of a plain region's operations. -/
theorem wpList_append_run {P : Program} {ops : Array Oper} {rest : List Oper} {o : Oper} {a : Act} {w : World} {Q : Exit → Act → World → Prop} (hgd : o.guard = none) (s x : Operand) (t : TypeId)
    (ho : o.op = .call { callee := .builtin .append, args := #[s, x], argTypes := #[t, t] })
    (h : ∃ v' w', (Builtin.append_ #[t, t] o.type #[a.eval s, a.eval x]).run P w = .ok v' w' ∧ wpList P ops Q rest (a.put o.dst v') w') : wpList P ops Q (o :: rest) a w :=
  wpList_plain hgd fun _ hK => by
    obtain ⟨v', w', hr, h⟩ := h
    unfold Oper.wp execOp
    simp only [ho, resolve, invoke, builtin, Sem.run_bind, Sem.run_pure, Result.andThen_ok, List.map_toArray, List.map_cons, List.map_nil, hr]
    exact hK _ _ h
end Go.Proofs.YtlcdkponegmcdaaDoor.Sha
/- The document's digest: its words as a row by number, against the schedule of one block (SD's sched). Plain. -/
namespace Go.Proofs.YtlcdkponegmcdaaDoor.Sha
open Go.RowKit
/-- The word of number t: sixteen as they come, each other one from four ahead of it. -/
def wAt (l : List (BitVec 32)) (t : Nat) : BitVec 32 :=
  if _h : t < 16 then at32 l t else wAt l (t - 16) + sig0 (wAt l (t - 15)) + wAt l (t - 7) + sig1 (wAt l (t - 2))
termination_by t
theorem wAt_low (l : List (BitVec 32)) (t : Nat) (h : t < 16) : wAt l t = at32 l t := by rw [wAt, dif_pos h]
theorem wAt_high (l : List (BitVec 32)) (t : Nat) (h : 16 ≤ t) : wAt l t = wAt l (t - 16) + sig0 (wAt l (t - 15)) + wAt l (t - 7) + sig1 (wAt l (t - 2)) := by
  rw [wAt, dif_neg (by omega)]
theorem at32_set_same (l : List (BitVec 32)) (i : Nat) (x : BitVec 32) (h : i < l.length) : at32 (l.set i x) i = x := by
  simp [at32, List.getD, List.getElem?_set_self h]
theorem at32_set_other (l : List (BitVec 32)) (i j : Nat) (x : BitVec 32) (h : i ≠ j) : at32 (l.set i x) j = at32 l j := by
  simp [at32, List.getD, List.getElem?_set_ne h]
theorem sched_at (l : List (BitVec 32)) (hl : l.length = 16) : ∀ k t, (t < 16 ∨ t < k) → k ≤ t + 16 → at32 (sched l k) (t % 16) = wAt l t := by
  intro k
  induction k with
  | zero =>
    intro t h1 h2
    have h : t < 16 := by omega
    rw [wAt_low _ _ h, Nat.mod_eq_of_lt h]; rfl
  | succ k ih =>
    intro t h1 h2
    by_cases hk : 16 ≤ k
    · rw [sched_high _ _ hk]
      by_cases ht : t = k
      · subst ht
        rw [at32_set_same _ _ _ (by rw [sched_len l hl]; omega), nextW, wAt_high _ _ hk]
        have e1 := ih (t - 16) (by omega) (by omega)
        have e2 := ih (t - 15) (by omega) (by omega)
        have e3 := ih (t - 7) (by omega) (by omega)
        have e4 := ih (t - 2) (by omega) (by omega)
        rw [← e1, ← e2, ← e3, ← e4]
        have m1 : (t - 16) % 16 = t % 16 := by omega
        have m2 : (t - 15) % 16 = (t + 1) % 16 := by omega
        have m3 : (t - 7) % 16 = (t + 9) % 16 := by omega
        have m4 : (t - 2) % 16 = (t + 14) % 16 := by omega
        rw [m1, m2, m3, m4]
      · rw [at32_set_other _ _ _ _ (by omega)]
        exact ih t (by omega) (by omega)
    · rw [sched_low _ _ (by omega)]
      exact ih t (by omega) (by omega)
/-- The word that round k of a block takes. -/
theorem sched_word (l : List (BitVec 32)) (hl : l.length = 16) (k : Nat) : at32 (sched l (k + 1)) (k % 16) = wAt l k :=
  sched_at l hl (k + 1) k (by omega) (by omega)
theorem run8_word (l : List (BitVec 32)) (hl : l.length = 16) (s : S8) (k : Nat) : run8 l s (k + 1) = stepS (run8 l s k) (at32 kList k) (wAt l k) := by
  rw [run8, sched_word l hl]
end Go.Proofs.YtlcdkponegmcdaaDoor.Sha
/- The document's digest: Padded (caravanref01). Conditions: bytes in a block of the world, at most 100000. -/
namespace Go.Proofs.YtlcdkponegmcdaaDoor.Sha
open Go.RowKit
theorem one_u8 (z : Int) : ∀ u ∈ [Value.int .u8 z], u.oneCell' = true := by
  intro u hu
  rw [List.mem_singleton] at hu
  subst hu; rfl
theorem own_step {w w1 wr : World} {o : Obj} {v : Value} {n : Nat} {xs : List Value} (HB : Below w.heap.size w wr) (HO : wr.ownsRow w.heap.size 5 1 v n xs) (hg : (wr.alloc o).grownBy w1 v.ownBlock) : Below w.heap.size w w1 :=
  (HB.alloc HB.size _).grown hg (by have := HB.size; simp; omega) (fun g hk => (HO.lt g hk).1)
set_option maxRecDepth 100000 in
set_option maxHeartbeats 1000000 in
theorem padded_any (ys : List UInt8) (A : Option Addr) (cap bb off : Nat) (w : World) (n : Nat) (hn : ys.length = n) (hn2 : n ≤ 100000) (hs : Bytes w (.slice A n cap) ys A cap bb off) :
    Calls Tryd.prog 40 #[.slice A n cap] w fun e w' => ∃ v, e = .returned v ∧ w'.ownsRow w.heap.size 5 1 v (ys ++ padL n).length ((ys ++ padL n).map V8) ∧ Below w.heap.size w w' := by
  obtain ⟨i0, hi, hz0, hz1, hz2⟩ := info_parts info5
  obtain ⟨K, HK⟩ : ∃ K, Hid ((119 - n % 64) % 64 = K ∧ K < 64) := ⟨_, rfl, by omega⟩
  obtain ⟨v1, w1, hr1, ho1, hg1, _, _⟩ := append_bytes w w.heap.size (.slice none 0 0) 0 [] (World.ownsRow_nil _ _ _ _) hs (by omega) (Nat.le_refl _)
  rw [Nat.zero_add, List.nil_append, hn] at ho1
  have HO1 := hid ho1
  have HB1 : Hid (Below w.heap.size w w1) := (Below.refl _ _).grown hg1 (Nat.le_refl _) (fun g hk => by cases hk)
  have HR := hid hr1
  have HN := hid hn
  clear hr1 ho1 hg1 hs hn
  have N2 : Hid (n + 1 ≤ maxLen) := by show _ ≤ _; unfold maxLen; omega
  have N3 : Hid ((n + 1) * 1 ≤ 140737488355328) := by show _ ≤ _; omega
  have N4 : Hid (∀ o, w.heap.size ≤ (w1.alloc o).heap.size) := by intro o; have := HB1.out.size; simp; omega
  go_enter Tryd.func40, Tryd.ntmps40
  go_wp2_with (first
    | (refine wpList_append_run rfl (.tmp 6) (.tmp 7) 25 rfl ?_
       refine ⟨v1, w1, HR.out, ?_⟩)
    | (at_builtin; refine wpList_append_own _ rfl _ _ 25 rfl w.heap.size 5 i0 (.int .u8 0) 1 1 Tryd.underlying25 hi hz0 hz1 hz2 rfl (by omega) _ _ _ rfl (HO1.out.alloc _) ⟨w1.heap.size, 0, none⟩ 1 1 [Value.int .u8 128] rfl rfl (cell_one_new _ _ _) (one_u8 128) N2.out N3.out (N4.out _) ?_
       intro v2 w2 hown hgrow _
       have HB2 : Hid (Below w.heap.size w w2) := own_step HB1.out HO1.out hgrow
       obtain ⟨g2, c2, rfl⟩ := ownsRow_succ hown
       have HO2 : Hid (w2.ownsRow w.heap.size 5 1 (.slice (some ⟨g2, 0, none⟩) (n + 1) c2) (n + 1) ((ys ++ 128 :: List.replicate 0 0).map V8)) := by
         rw [List.map_append]; exact hown
       clear hown hgrow))
  clear HR HO1 HB1 N4
  go_loopw [3] (fun v wr => ∃ (L j : Nat) (B : Option Addr) (c : Nat), v = .slice B L c ∧ Hid (L = n + 1 + j) ∧ j ≤ K ∧ L ≤ 200000 ∧ Hid (wr.ownsRow w.heap.size 5 1 (.slice B L c) L ((ys ++ 128 :: List.replicate j 0).map V8)) ∧ Hid (Below w.heap.size w wr))
    (fun v _ => match v with | .slice _ L _ => n + 1 + K - L | _ => 0)
  case atStart => exact ⟨n + 1, 0, _, _, rfl, rfl, by omega, by omega, HO2, HB2⟩
  case round =>
    obtain ⟨L, j, B, c, rfl, HL, hj, hL, HO, HB⟩ := hrel
    obtain ⟨r, Hr⟩ : ∃ r, Hid (L % 64 = r) := ⟨_, rfl⟩
    have t1 : (L : Int) % 64 = (r : Int) := by rw [← Hr.out]; rfl
    have t2 : (L : Int).tmod 64 = (r : Int) := by rw [Int.tmod_eq_emod_of_nonneg (by omega)]; exact t1
    by_cases hlt : j < K
    · have t3 : ((r : Int) != 56) = true := by
        have h1 := HK.out; have h2 := HL.out; have h3 := Hr.out
        rw [bne_iff_ne]; omega
      have t4 : ((r : Int) == 56) = false := by simpa [bne] using t3
      have N2 : Hid (L + 1 ≤ maxLen) := by show _ ≤ _; unfold maxLen; omega
      have N3 : Hid ((L + 1) * 1 ≤ 140737488355328) := by show _ ≤ _; omega
      have N4 : Hid (∀ o, w.heap.size ≤ (wr.alloc o).heap.size) := by intro o; have := HB.out.size; simp; omega
      go_wp2_with (at_builtin; refine wpList_append_own _ rfl _ _ 25 rfl w.heap.size 5 i0 (.int .u8 0) 1 1 Tryd.underlying25 hi hz0 hz1 hz2 rfl (by omega) _ _ _ rfl (HO.out.alloc _) ⟨wr.heap.size, 0, none⟩ 1 1 [Value.int .u8 0] rfl rfl (cell_one_new _ _ _) (one_u8 0) N2.out N3.out (N4.out _) ?_; intro v3 w3 hown hgrow _)
      have HB3 : Hid (Below w.heap.size w w3) := own_step HB.out HO.out hgrow
      obtain ⟨g3, c3, rfl⟩ := ownsRow_succ hown
      have HO3 : Hid (w3.ownsRow w.heap.size 5 1 (.slice (some ⟨g3, 0, none⟩) (L + 1) c3) (L + 1) ((ys ++ 128 :: List.replicate (j + 1) 0).map V8)) := by
        rw [List.replicate_succ', ← List.cons_append, ← List.append_assoc, List.map_append]; exact hown
      clear hown hgrow
      go_wp2
      go_roundw
      case rel => exact ⟨L + 1, j + 1, _, _, rfl, by show _ = _; have := HL.out; omega, by omega, by have := HL.out; have := HK.out; omega, HO3, HB3⟩
      case measure => have := HL.out; simp; omega
    · obtain rfl : K = j := by omega
      have t3 : ((r : Int) != 56) = false := by
        have h1 := HK.out; have h2 := HL.out; have h3 := Hr.out
        have : (r : Int) = 56 := by omega
        rw [this]; rfl
      have HO4 : Hid (wr.ownsRow w.heap.size 5 1 (.slice B L c) (L + 0) ((ys ++ padHead n ++ lenBytes n 0).map V8)) := by
        show World.ownsRow _ _ _ _ _ _ _
        rw [padHead, HK.out.1]
        have : lenBytes n 0 = [] := rfl
        rw [this, List.append_nil]; exact HO.out
      obtain ⟨z, HZ⟩ : ∃ z, Hid (n * 8 = z) := ⟨_, rfl⟩
      have w8 : IntKind.u64.wrap ((n : Int) * 8) = (z : Int) := by
        rw [← HZ.out]; simp [IntKind.wrap, IntKind.signed, IntKind.bits]; omega
      clear HO
      obtain ⟨wo, rfl⟩ : ∃ wo, wo = wr := ⟨_, rfl⟩
      go_wp2
      go_loopw [3, 5] (fun v i wr => ∃ (j L : Nat) (q : Int) (B : Option Addr) (c : Nat), j ≤ 8 ∧ v = .slice B L c ∧ i = .int .i64 q ∧ Hid (q = 7 - (j : Int)) ∧ Hid (L = n + 1 + K + j) ∧ Hid (wr.ownsRow w.heap.size 5 1 (.slice B L c) L ((ys ++ padHead n ++ lenBytes n j).map V8)) ∧ Hid (Below w.heap.size w wr))
        (fun _ i _ => (intOf i + 1).toNat)
      case atStart => exact ⟨0, L, 7, B, c, by omega, rfl, rfl, rfl, HL, HO4, HB⟩
      case round =>
        obtain ⟨j, L2, q, B2, cc, hj8, rfl, rfl, HQ, HL2, HO5, HB5⟩ := hrel
        by_cases hlt8 : j < 8
        · obtain ⟨sh, rfl⟩ : ∃ sh : Nat, q = (sh : Int) := ⟨7 - j, by have := HQ.out; omega⟩
          have hsh : (0 : Int) ≤ (sh : Int) := by omega
          have hsh2 : (sh : Int) ≤ 7 := by have := HQ.out; omega
          have M1 : Hid (∀ u ∈ [Value.int .u8 ((z : Int) / 2 ^ (8 * sh) % 256)], u.oneCell' = true) := one_u8 _
          have hb : L2 ≤ 200000 := by have := HL2.out; have := HK.out; omega
          have M2 : Hid (L2 + 1 ≤ maxLen) := by show _ ≤ _; unfold maxLen; omega
          have M3 : Hid ((L2 + 1) * 1 ≤ 140737488355328) := by show _ ≤ _; omega
          have M4 : Hid (∀ o, w.heap.size ≤ (wr.alloc o).heap.size) := by intro o; have := HB5.out.size; simp; omega
          have M5 : Hid (Value.int .u8 ((z : Int) / 2 ^ (8 * sh) % 256) = V8 (lenByte n j)) := by
            have e : 8 * sh = 56 - 8 * j := by have := HQ.out; omega
            show Value.int _ _ = Value.int _ _
            rw [lenByte, b8_ofNat, e, ← HZ.out]
            norm_cast
          go_wp2_with (at_builtin; refine wpList_append_own _ rfl _ _ 25 rfl w.heap.size 5 i0 (.int .u8 0) 1 1 Tryd.underlying25 hi hz0 hz1 hz2 rfl (by omega) _ _ _ rfl (HO5.out.alloc _) ⟨wr.heap.size, 0, none⟩ 1 1 [Value.int .u8 ((z : Int) / 2 ^ (8 * sh) % 256)] rfl rfl (cell_one_new _ _ _) M1.out M2.out M3.out (M4.out _) ?_; intro v6 w6 hown hgrow _)
          have HB6 : Hid (Below w.heap.size w w6) := own_step HB5.out HO5.out hgrow
          obtain ⟨g6, c6, rfl⟩ := ownsRow_succ hown
          have HO6 : Hid (w6.ownsRow w.heap.size 5 1 (.slice (some ⟨g6, 0, none⟩) (L2 + 1) c6) (L2 + 1) ((ys ++ padHead n ++ lenBytes n (j + 1)).map V8)) := by
            rw [lenBytes_next, ← List.append_assoc, List.map_append, List.map_cons, ← M5.out]; exact hown
          clear hown hgrow
          go_wp2
          go_roundw
          case rel => exact ⟨j + 1, L2 + 1, (sh : Int) - 1, _, _, by omega, rfl, rfl, by show _ = _; have := HQ.out; omega, by show _ = _; have := HL2.out; omega, HO6, HB6⟩
          case measure => simp [intOf]
        · obtain rfl : j = 8 := by omega
          have hq : q < 0 := by have := HQ.out; omega
          go_wp2
          go_ret
          refine ⟨_, rfl, ?_, HB5.out⟩
          have e : (ys ++ padL n).length = L2 := by
            have h1 := HK.out; have h2 := HL2.out; have h3 := HN.out
            simp [padL, padHead, lenBytes]; omega
          have e2 : ys ++ padL n = ys ++ padHead n ++ lenBytes n 8 := by rw [padL, List.append_assoc]
          rw [e, e2]; exact HO5.out
end Go.Proofs.YtlcdkponegmcdaaDoor.Sha
/- The document's digest: turned (caravanref01), a word turned to the right. Conditions: from 1 to 31. -/
namespace Go.Proofs.YtlcdkponegmcdaaDoor.Sha
open Go.RowKit
set_option maxRecDepth 100000 in
set_option maxHeartbeats 400000 in
theorem turned_any (x : BitVec 32) (n : Nat) (h1 : 1 ≤ n) (h2 : n ≤ 31) (w : World) :
    Calls Tryd.prog 42 #[.int .u32 (u x), .int .i64 (n : Int)] w fun e w' => e = .returned (.int .u32 (u (rotR x n))) ∧ w = w' := by
  obtain ⟨m, HM⟩ : ∃ m, Hid (32 - n = m) := ⟨_, rfl⟩
  have w1 : (32 : Int) - (n : Int) = (m : Int) := by have := HM.out; omega
  have hm0 : (0 : Int) ≤ (m : Int) := by omega
  have hm : (m : Int) ≤ 31 := by have := HM.out; omega
  have hn : (n : Int) ≤ 31 := by omega
  go_enter Tryd.func42, Tryd.ntmps42
  go_wp2
  go_ret
  refine ⟨?_, rfl⟩
  show Ending.returned (.int .u32 (bits .or .u32 (u x / 2 ^ n) (u x * 2 ^ m % 4294967296))) = _
  rw [shl32, shr32, or32, ← rot32 x n h2, HM.out, BitVec.or_comm]
end Go.Proofs.YtlcdkponegmcdaaDoor.Sha
/- The document's digest: four bytes as a word, one by one. Plain. -/
namespace Go.Proofs.YtlcdkponegmcdaaDoor.Sha
open Go.RowKit
theorem k256 : (256 : BitVec 32).toNat = 256 := by decide
theorem k000 : (0 : BitVec 32).toNat = 0 := by decide
def hx (p : List UInt8) (t : Nat) : Nat → BitVec 32
  | 0 => 0
  | k + 1 => 256 * hx p t k + wd (at8 p (4 * t + k))
theorem hx_num (p : List UInt8) (t k : Nat) : (256 * u (hx p t k) % 4294967296 + u (wd (at8 p (4 * t + k)))) % 4294967296 = u (hx p t (k + 1)) := by
  have e : (256 * u (hx p t k)) % 4294967296 = u (256 * hx p t k) := by
    unfold u; rw [BitVec.toNat_mul, k256]; omega
  rw [e, add32]; rfl
theorem wd_lt (x : UInt8) : (wd x).toNat < 256 := by
  have h1 := b8_lt x
  have h2 := b8_u x
  unfold u at h2
  omega
theorem or_nat (h i r : Nat) (hr : r < 2 ^ i) : h * 2 ^ i ||| r = h * 2 ^ i + r := by
  rw [← Nat.shiftLeft_eq]; exact (Nat.shiftLeft_add_eq_or_of_lt hr h).symm
theorem four_nat (a b c d : Nat) (hb : b < 256) (hc : c < 256) (hd : d < 256) :
    ((a * 2 ^ 24 ||| b * 2 ^ 16) ||| c * 2 ^ 8) ||| d = a * 2 ^ 24 + b * 2 ^ 16 + c * 2 ^ 8 + d := by
  have e1 : a * 2 ^ 24 + b * 2 ^ 16 = (a * 2 ^ 8 + b) * 2 ^ 16 := by omega
  have e2 : a * 2 ^ 24 + b * 2 ^ 16 + c * 2 ^ 8 = (a * 2 ^ 16 + b * 2 ^ 8 + c) * 2 ^ 8 := by
    have q1 : (2 : Nat) ^ 24 = 2 ^ 16 * 2 ^ 8 := rfl
    have q2 : (2 : Nat) ^ 16 = 2 ^ 8 * 2 ^ 8 := rfl
    rw [Nat.add_mul, Nat.add_mul, Nat.mul_assoc, Nat.mul_assoc, ← q1, ← q2]
  have f1 := or_nat a 24 (b * 2 ^ 16) (by omega)
  have f2 := or_nat (a * 2 ^ 8 + b) 16 (c * 2 ^ 8) (by omega)
  have f3 := or_nat (a * 2 ^ 16 + b * 2 ^ 8 + c) 8 d (by omega)
  rw [← e1] at f2
  rw [← e2] at f3
  rw [f1, f2, f3]
theorem four_or (a b c d : BitVec 32) (ha : a.toNat < 256) (hb : b.toNat < 256) (hc : c.toNat < 256) (hd : d.toNat < 256) :
    256 * (256 * (256 * (256 * 0 + a) + b) + c) + d = shL a 24 ||| shL b 16 ||| shL c 8 ||| d := by
  apply BitVec.eq_of_toNat_eq
  have e1 : (shL a 24 ||| shL b 16 ||| shL c 8 ||| d).toNat = ((a.toNat * 2 ^ 24 ||| b.toNat * 2 ^ 16) ||| c.toNat * 2 ^ 8) ||| d.toNat := by
    simp only [shL, BitVec.toNat_or, BitVec.toNat_shiftLeft, Nat.shiftLeft_eq]
    rw [Nat.mod_eq_of_lt (by omega), Nat.mod_eq_of_lt (by omega), Nat.mod_eq_of_lt (by omega)]
  rw [e1, four_nat _ _ _ _ hb hc hd]
  simp only [BitVec.toNat_add, BitVec.toNat_mul, k256, k000]
  omega
theorem hx_four (p : List UInt8) (t : Nat) : hx p t 4 = be4 p t := by
  have e := four_or (wd (at8 p (4 * t))) (wd (at8 p (4 * t + 1))) (wd (at8 p (4 * t + 2))) (wd (at8 p (4 * t + 3))) (wd_lt _) (wd_lt _) (wd_lt _) (wd_lt _)
  exact e
theorem at32_words (p : List UInt8) (t : Nat) (h : t < 16) : at32 (words p 16) t = hx p t 4 := by
  rw [hx_four]
  simp [at32, words, List.getD, h]
end Go.Proofs.YtlcdkponegmcdaaDoor.Sha
/- The document's digest: Words (caravanref01): what its walk needs. -/
namespace Go.Proofs.YtlcdkponegmcdaaDoor.Sha
open Go.RowKit
theorem infoU32 : (Tryd.prog.info? 77).map (fun i => (i.zero, i.size, i.bytes)) = some (some (.int .u32 0), 1, 4) := by kernel_rfl
theorem one_u32 (z : Int) : ∀ u ∈ [Value.int .u32 z], u.oneCell' = true := by
  intro u hu
  rw [List.mem_singleton] at hu
  subst hu; rfl
def wRow (l : List (BitVec 32)) (t : Nat) : List Value := (List.range t).map fun i => .int .u32 (u (wAt l i))
theorem wRow_next (l : List (BitVec 32)) (t : Nat) : wRow l (t + 1) = wRow l t ++ [.int .u32 (u (wAt l t))] := by simp [wRow, List.range_succ]
theorem turn7 (x : BitVec 32) (w : World) : Calls Tryd.prog 42 #[.int .u32 (u x), .int .i64 7] w fun e w' => e = .returned (.int .u32 (u (rotR x 7))) ∧ w = w' := turned_any x 7 (by omega) (by omega) w
theorem turn18 (x : BitVec 32) (w : World) : Calls Tryd.prog 42 #[.int .u32 (u x), .int .i64 18] w fun e w' => e = .returned (.int .u32 (u (rotR x 18))) ∧ w = w' := turned_any x 18 (by omega) (by omega) w
theorem turn17 (x : BitVec 32) (w : World) : Calls Tryd.prog 42 #[.int .u32 (u x), .int .i64 17] w fun e w' => e = .returned (.int .u32 (u (rotR x 17))) ∧ w = w' := turned_any x 17 (by omega) (by omega) w
theorem turn19 (x : BitVec 32) (w : World) : Calls Tryd.prog 42 #[.int .u32 (u x), .int .i64 19] w fun e w' => e = .returned (.int .u32 (u (rotR x 19))) ∧ w = w' := turned_any x 19 (by omega) (by omega) w
theorem row_word {w : World} {B : Nat} {A : Option Addr} {n c : Nat} {l : List (BitVec 32)} (h : w.ownsRow B 77 1 (.slice A n c) n (wRow l n)) (hn : 0 < n) :
    ∃ g, A = some ⟨g, 0, none⟩ ∧ ∀ i, i < n → w.cell? ⟨g, i, none⟩ = some (.int .u32 (u (wAt l i))) := by
  have hc := fun g hg => h.cells (g := g) hg
  rcases h.2 with ⟨h1, h2⟩ | ⟨g, c', cs, h1, _⟩
  · omega
  · cases h1
    refine ⟨g, rfl, fun i hi => ?_⟩
    have := hc g rfl i (.int .u32 (u (wAt l i))) (by simp [wRow, hi])
    have e : (⟨g, 0, none⟩ : Addr).add i = ⟨g, i, none⟩ := by unfold Addr.add; split <;> simp_all
    rwa [e] at this
/- Words' walk, begun, not a proof: all but the last part (regions 13, 14, 15 of the code) went through in 8 s. There the four arms under 'first' run out of time; try one go_at_call at a time.
set_option maxRecDepth 100000 in
set_option maxHeartbeats 2000000 in
theorem refWords_any (p : List UInt8) (A : Option Addr) (cap bb off : Nat) (w : World) (hn : p.length = 64) (hs : Bytes w (.slice A 64 cap) p A cap bb off) :
    Calls Tryd.prog 41 #[.slice A 64 cap] w fun e w' => ∃ v, e = .returned v ∧ w'.ownsRow w.heap.size 77 1 v 64 (wRow (words p 16) 64) ∧ Below w.heap.size w w' := by
  obtain ⟨i0, hi, hz0, hz1, hz2⟩ := info_parts infoU32
  go_enter Tryd.func41, Tryd.ntmps41
  go_wp2
  have HP := hid hs
  have HN := hid hn
  clear hs hn
  go_loopw [3, 4] (fun v i wr => ∃ (t : Nat) (B : Option Addr) (c : Nat), t ≤ 64 ∧ v = .slice B t c ∧ i = .int .i64 (t : Int) ∧ Hid (wr.ownsRow w.heap.size 77 1 (.slice B t c) t (wRow (words p 16) t)) ∧ Hid (Below w.heap.size w wr))
    (fun _ i _ => 64 - (intOf i).toNat)
  case atStart => exact ⟨0, none, 0, by omega, rfl, rfl, World.ownsRow_nil _ _ _ _, Below.refl _ _⟩
  case round =>
    obtain ⟨t, B, c, ht, rfl, rfl, HO, HB⟩ := hrel
    by_cases hlt : t < 64
    · by_cases h16 : t < 16
      · go_wp2
        go_loopw [5, 6] (fun x i w2 => ∃ k : Nat, k ≤ 4 ∧ i = .int .i64 (k : Int) ∧ x = .int .u32 (u (hx p t k)) ∧ w2 = wr)
          (fun _ i _ => 4 - (intOf i).toNat)
        case atStart => exact ⟨0, by omega, rfl, rfl, rfl⟩
        case round =>
          obtain ⟨k, hk, rfl, rfl, rfl⟩ := hrel
          by_cases hk4 : k < 4
          · obtain ⟨q0, e0, E0⟩ : ∃ q : Nat, 4 * (t : Int) = (q : Int) ∧ Hid (4 * t = q) := ⟨4 * t, by omega, rfl⟩
            obtain ⟨q1, e1, E1⟩ : ∃ q : Nat, (q0 : Int) + (k : Int) = (q : Int) ∧ Hid (q0 + k = q) := ⟨q0 + k, by omega, rfl⟩
            have hq : (q1 : Int) < 64 := by have := E0.out; have := E1.out; omega
            have hA := HP.out.src (by rw [HN.out]; omega)
            have hc := (HP.out.kept HB.out (Nat.le_refl _)).cells q1 (by rw [HN.out]; omega)
            subst hA
            have hc' : wr.cell? ⟨bb, off + q1, none⟩ = some (.int .u8 (b8 (at8 p q1))) := hc
            clear hc
            go_wp2
            go_roundw
            case rel =>
              refine ⟨k + 1, by omega, rfl, ?_, trivial⟩
              have e : at8 p q1 = at8 p (4 * t + k) := by rw [E0.out, E1.out]
              rw [← hx_num, ← e, b8m]
            case measure => simp [intOf]; omega
          · obtain rfl : k = 4 := by omega
            have N2 : Hid (t + 1 ≤ maxLen) := by show _ ≤ _; unfold maxLen; omega
            have N3 : Hid ((t + 1) * 4 ≤ 140737488355328) := by show _ ≤ _; omega
            have N4 : Hid (∀ o, w.heap.size ≤ (wr.alloc o).heap.size) := by intro o; have := HB.out.size; simp; omega
            go_wp2_with (at_builtin; refine wpList_append_own _ rfl _ _ 76 rfl w.heap.size 77 i0 (.int .u32 0) 1 4 Tryd.underlying76 hi hz0 hz1 hz2 rfl (by omega) _ _ _ rfl (HO.out.alloc _) ⟨wr.heap.size, 0, none⟩ 1 1 [Value.int .u32 (u (hx p t 4))] rfl rfl (cell_one_new _ _ _) (one_u32 _) N2.out N3.out (N4.out _) ?_; intro v3 w3 hown hgrow _)
            have HB3 : Hid (Below w.heap.size w w3) :=
              ((HB.out.alloc HB.out.size _).grown hgrow (N4.out _) (fun g hk => (HO.out.lt g hk).1))
            obtain ⟨g3, c3, rfl⟩ := ownsRow_succ hown
            have HO3 : Hid (w3.ownsRow w.heap.size 77 1 (.slice (some ⟨g3, 0, none⟩) (t + 1) c3) (t + 1) (wRow (words p 16) (t + 1))) := by
              rw [wRow_next, wAt_low _ _ h16, at32_words _ _ h16]; exact hown
            clear hown hgrow
            go_wp2
            go_roundw
            case rel => exact ⟨t + 1, _, _, by omega, rfl, rfl, HO3, HB3⟩
            case measure => simp [intOf]; omega
      · obtain ⟨g, rfl, hcell⟩ := row_word HO.out (by omega)
        obtain ⟨a2, e2, E2⟩ : ∃ q : Nat, (t : Int) - 2 = (q : Int) ∧ Hid (t - 2 = q) := ⟨t - 2, by omega, rfl⟩
        obtain ⟨a7, e7, E7⟩ : ∃ q : Nat, (t : Int) - 7 = (q : Int) ∧ Hid (t - 7 = q) := ⟨t - 7, by omega, rfl⟩
        obtain ⟨a15, e15, E15⟩ : ∃ q : Nat, (t : Int) - 15 = (q : Int) ∧ Hid (t - 15 = q) := ⟨t - 15, by omega, rfl⟩
        obtain ⟨a16, e16, E16⟩ : ∃ q : Nat, (t : Int) - 16 = (q : Int) ∧ Hid (t - 16 = q) := ⟨t - 16, by omega, rfl⟩
        have c2 := hcell a2 (by omega)
        have c7 := hcell a7 (by omega)
        have c15 := hcell a15 (by omega)
        have c16 := hcell a16 (by omega)
        have b2 : (a2 : Int) < (t : Int) := by omega
        have b7 : (a7 : Int) < (t : Int) := by omega
        have b15 : (a15 : Int) < (t : Int) := by omega
        have b16 : (a16 : Int) < (t : Int) := by omega
        clear hcell
        go_wp2
        go_region
        obtain ⟨x, HX⟩ : ∃ x, Hid (wAt (words p 16) a15 = x) := ⟨_, rfl⟩
        obtain ⟨y, HY⟩ : ∃ y, Hid (wAt (words p 16) a2 = y) := ⟨_, rfl⟩
        rw [HX.out, HY.out]
        obtain ⟨wo, HW⟩ : ∃ wo, Hid (wr = wo) := ⟨_, rfl⟩
        go_wp2_with (first
          | (go_at_call 42; refine (turn7 _ _).mono ?_; rintro ee ww ⟨rfl, rfl⟩)
          | (go_at_call 42; refine (turn18 _ _).mono ?_; rintro ee ww ⟨rfl, rfl⟩)
          | (go_at_call 42; refine (turn17 _ _).mono ?_; rintro ee ww ⟨rfl, rfl⟩)
          | (go_at_call 42; refine (turn19 _ _).mono ?_; rintro ee ww ⟨rfl, rfl⟩))
        go_outline
        (open)
    · obtain rfl : t = 64 := by omega
      go_wp2
      go_ret
      exact ⟨_, rfl, HO.out, HB.out⟩
-/
end Go.Proofs.YtlcdkponegmcdaaDoor.Sha
/- The document's digest: Words (caravanref01): the sixty-four words of a block. Conditions: sixty-four bytes. -/
namespace Go.Proofs.YtlcdkponegmcdaaDoor.Sha
open Go.RowKit
theorem cell_drew {w : World} {a : Addr} {v : Value} (h : w.cell? a = some v) : w.drew.cell? a = some v := h
theorem word_num (a b x y : BitVec 32) : IntKind.u32.wrap (IntKind.u32.wrap (IntKind.u32.wrap (u a + bits BinOp.xor IntKind.u32 (bits BinOp.xor IntKind.u32 (u (rotR x 7)) (u (rotR x 18))) (u x / 8)) + u b) + bits BinOp.xor IntKind.u32 (bits BinOp.xor IntKind.u32 (u (rotR y 17)) (u (rotR y 19))) (u y / 1024)) =
    u (a + sig0 x + b + sig1 y) := by
  have e1 : u x / 8 = u (shR x 3) := shr32 x 3
  have e2 : u y / 1024 = u (shR y 10) := shr32 y 10
  rw [e1, e2]
  simp only [wrap32, xor32, add32]
  rfl
theorem own_drew {w : World} {B n : Nat} {e : TypeId} {v : Value} {xs : List Value} (h : w.ownsRow B e 1 v n xs) : w.drew.ownsRow B e 1 v n xs := h
set_option maxRecDepth 100000 in
set_option maxHeartbeats 2000000 in
theorem refWords_any (p : List UInt8) (A : Option Addr) (cap bb off : Nat) (w : World) (hn : p.length = 64) (hs : Bytes w (.slice A 64 cap) p A cap bb off) :
    Calls Tryd.prog 41 #[.slice A 64 cap] w fun e w' => ∃ v, e = .returned v ∧ w'.ownsRow w.heap.size 77 1 v 64 (wRow (words p 16) 64) ∧ Below w.heap.size w w' := by
  obtain ⟨i0, hi, hz0, hz1, hz2⟩ := info_parts infoU32
  go_enter Tryd.func41, Tryd.ntmps41
  go_wp2
  have HP := hid hs
  have HN := hid hn
  clear hs hn
  go_loopw [3, 4] (fun v i wr => ∃ (t : Nat) (B : Option Addr) (c : Nat), t ≤ 64 ∧ v = .slice B t c ∧ i = .int .i64 (t : Int) ∧ Hid (wr.ownsRow w.heap.size 77 1 (.slice B t c) t (wRow (words p 16) t)) ∧ Hid (Below w.heap.size w wr))
    (fun _ i _ => 64 - (intOf i).toNat)
  case atStart => exact ⟨0, none, 0, by omega, rfl, rfl, World.ownsRow_nil _ _ _ _, Below.refl _ _⟩
  case round =>
    obtain ⟨t, B, c, ht, rfl, rfl, HO, HB⟩ := hrel
    by_cases hlt : t < 64
    · by_cases h16 : t < 16
      · go_wp2
        go_loopw [5, 6] (fun x i w2 => ∃ k : Nat, k ≤ 4 ∧ i = .int .i64 (k : Int) ∧ x = .int .u32 (u (hx p t k)) ∧ w2 = wr)
          (fun _ i _ => 4 - (intOf i).toNat)
        case atStart => exact ⟨0, by omega, rfl, rfl, rfl⟩
        case round =>
          obtain ⟨k, hk, rfl, rfl, rfl⟩ := hrel
          by_cases hk4 : k < 4
          · obtain ⟨q0, e0, E0⟩ : ∃ q : Nat, 4 * (t : Int) = (q : Int) ∧ Hid (4 * t = q) := ⟨4 * t, by omega, rfl⟩
            obtain ⟨q1, e1, E1⟩ : ∃ q : Nat, (q0 : Int) + (k : Int) = (q : Int) ∧ Hid (q0 + k = q) := ⟨q0 + k, by omega, rfl⟩
            have hq : (q1 : Int) < 64 := by have := E0.out; have := E1.out; omega
            have hA := HP.out.src (by rw [HN.out]; omega)
            have hc := (HP.out.kept HB.out (Nat.le_refl _)).cells q1 (by rw [HN.out]; omega)
            subst hA
            have hc' : wr.cell? ⟨bb, off + q1, none⟩ = some (.int .u8 (b8 (at8 p q1))) := hc
            clear hc
            go_wp2
            go_roundw
            case rel =>
              refine ⟨k + 1, by omega, rfl, ?_, trivial⟩
              have e : at8 p q1 = at8 p (4 * t + k) := by rw [E0.out, E1.out]
              rw [← hx_num, ← e, b8m]
            case measure => simp [intOf]; omega
          · obtain rfl : k = 4 := by omega
            have N2 : Hid (t + 1 ≤ maxLen) := by show _ ≤ _; unfold maxLen; omega
            have N3 : Hid ((t + 1) * 4 ≤ 140737488355328) := by show _ ≤ _; omega
            have N4 : Hid (∀ o, w.heap.size ≤ (wr.alloc o).heap.size) := by intro o; have := HB.out.size; simp; omega
            go_wp2_with (at_builtin; refine wpList_append_own _ rfl _ _ 76 rfl w.heap.size 77 i0 (.int .u32 0) 1 4 Tryd.underlying76 hi hz0 hz1 hz2 rfl (by omega) _ _ _ rfl (HO.out.alloc _) ⟨wr.heap.size, 0, none⟩ 1 1 [Value.int .u32 (u (hx p t 4))] rfl rfl (cell_one_new _ _ _) (one_u32 _) N2.out N3.out (N4.out _) ?_; intro v3 w3 hown hgrow _)
            have HB3 : Hid (Below w.heap.size w w3) :=
              ((HB.out.alloc HB.out.size _).grown hgrow (N4.out _) (fun g hk => (HO.out.lt g hk).1))
            obtain ⟨g3, c3, rfl⟩ := ownsRow_succ hown
            have HO3 : Hid (w3.ownsRow w.heap.size 77 1 (.slice (some ⟨g3, 0, none⟩) (t + 1) c3) (t + 1) (wRow (words p 16) (t + 1))) := by
              rw [wRow_next, wAt_low _ _ h16, at32_words _ _ h16]; exact hown
            clear hown hgrow
            go_wp2
            go_roundw
            case rel => exact ⟨t + 1, _, _, by omega, rfl, rfl, HO3, HB3⟩
            case measure => simp [intOf]; omega
      · obtain ⟨g, rfl, hcell⟩ := row_word HO.out (by omega)
        obtain ⟨a2, e2, E2⟩ : ∃ q : Nat, (t : Int) - 2 = (q : Int) ∧ Hid (t - 2 = q) := ⟨t - 2, by omega, rfl⟩
        obtain ⟨a7, e7, E7⟩ : ∃ q : Nat, (t : Int) - 7 = (q : Int) ∧ Hid (t - 7 = q) := ⟨t - 7, by omega, rfl⟩
        obtain ⟨a15, e15, E15⟩ : ∃ q : Nat, (t : Int) - 15 = (q : Int) ∧ Hid (t - 15 = q) := ⟨t - 15, by omega, rfl⟩
        obtain ⟨a16, e16, E16⟩ : ∃ q : Nat, (t : Int) - 16 = (q : Int) ∧ Hid (t - 16 = q) := ⟨t - 16, by omega, rfl⟩
        have c2 := hcell a2 (by omega)
        have c7 := hcell a7 (by omega)
        have c15 := hcell a15 (by omega)
        have c16 := hcell a16 (by omega)
        have b2 : (a2 : Int) < (t : Int) := by omega
        have b7 : (a7 : Int) < (t : Int) := by omega
        have b15 : (a15 : Int) < (t : Int) := by omega
        have b16 : (a16 : Int) < (t : Int) := by omega
        clear hcell
        obtain ⟨x, HX⟩ : ∃ x, Hid (wAt (words p 16) a15 = x) := ⟨_, rfl⟩
        obtain ⟨y, HY⟩ : ∃ y, Hid (wAt (words p 16) a2 = y) := ⟨_, rfl⟩
        obtain ⟨p16, H16⟩ : ∃ x, Hid (wAt (words p 16) a16 = x) := ⟨_, rfl⟩
        obtain ⟨p7, H7⟩ : ∃ x, Hid (wAt (words p 16) a7 = x) := ⟨_, rfl⟩
        rw [HX.out] at c15
        rw [HY.out] at c2
        rw [H16.out] at c16
        rw [H7.out] at c7
        have HNX : Hid (wAt (words p 16) t = p16 + sig0 x + p7 + sig1 y) := by
          show _ = _
          rw [wAt_high _ _ (by omega), E16.out, E15.out, E7.out, E2.out, HX.out, HY.out, H16.out, H7.out]
        go_wp2
        go_region
        have k16 := cell_drew c16
        have k7 := cell_drew c7
        have HOd : Hid (wr.drew.ownsRow w.heap.size 77 1 (.slice (some ⟨g, 0, none⟩) t c) t (wRow (words p 16) t)) := own_drew HO.out
        have HBd : Hid (Below w.heap.size w wr.drew) := HB.out.drew
        clear c2 c15 c16 c7 HO HB
        generalize wr.drew = w2 at *
        go_wp2_with fail
        refine (turn7 _ _).mono ?_; rintro ee ww ⟨rfl, rfl⟩
        go_wp2_with fail
        refine (turn18 _ _).mono ?_; rintro ee ww ⟨rfl, rfl⟩
        go_wp2_with fail
        refine (turn17 _ _).mono ?_; rintro ee ww ⟨rfl, rfl⟩
        go_wp2_with fail
        refine (turn19 _ _).mono ?_; rintro ee ww ⟨rfl, rfl⟩
        go_wp2
        have hw16 : IntKind.i64.wrap (a16 : Int) = (a16 : Int) := i64in _ (by omega) (by omega)
        have hw7 : IntKind.i64.wrap (a7 : Int) = (a7 : Int) := i64in _ (by omega) (by omega)
        have hz16 : (0 : Int) ≤ (a16 : Int) := by omega
        have hz7 : (0 : Int) ≤ (a7 : Int) := by omega
        have HOe : Hid (w2.drew.ownsRow w.heap.size 77 1 (.slice (some ⟨g, 0, none⟩) t c) t (wRow (words p 16) t)) := own_drew HOd.out
        have HBe : Hid (Below w.heap.size w w2.drew) := HBd.out.drew
        have N2 : Hid (t + 1 ≤ maxLen) := by show _ ≤ _; unfold maxLen; omega
        have N3 : Hid ((t + 1) * 4 ≤ 140737488355328) := by show _ ≤ _; omega
        have N4 : Hid (∀ o, w.heap.size ≤ (w2.drew.alloc o).heap.size) := by intro o; have := HBe.out.size; simp at this ⊢; omega
        clear HOd HBd
        refine wp_region_noPanic ?_
        refine wp_region_held_drew (S := fun _ => True) (by kernel_rfl) trivial (fun hS => ?_)
        have k16 := cell_drew k16
        have k7 := cell_drew k7
        generalize w2.drew = w3 at *
        clear hS
        refine wpAnyH_take (i := 0) (v := ?_) (by simp only [List.getElem?_toArray, List.getElem?_cons_zero]; rfl) (by kernel_rfl) (by kernel_rfl) (by kernel_rfl) (fun _ _ _ h => h) (Or.inl ⟨by rfl, ?_⟩) trivial ?_
        rotate_left 1
        · intro w hSw
          go_simp
          with_reducible rfl
        simp only [Act.put, List.setIfInBounds_toArray, List.set_cons_zero, List.set_cons_succ]
        refine wpAnyH_take (i := 1) (v := ?_) (by simp only [List.getElem?_toArray, List.getElem?_cons_zero, List.getElem?_cons_succ]; rfl) (by kernel_rfl) (by kernel_rfl) (by kernel_rfl) (fun _ _ _ h => h) (Or.inl ⟨by rfl, ?_⟩) trivial ?_
        rotate_left 1
        · intro w hSw
          go_simp
          with_reducible rfl
        simp only [Act.put, List.setIfInBounds_toArray, List.set_cons_zero, List.set_cons_succ]
        refine wpAnyH_take (i := 2) (v := ?_) (by simp only [List.getElem?_toArray, List.getElem?_cons_zero, List.getElem?_cons_succ]; rfl) (by kernel_rfl) (by kernel_rfl) (by kernel_rfl) (fun _ _ _ h => h) (Or.inl ⟨by rfl, ?_⟩) trivial ?_
        rotate_left 1
        · intro w hSw
          go_simp
          with_reducible rfl
        simp only [Act.put, List.setIfInBounds_toArray, List.set_cons_zero, List.set_cons_succ]
        refine wpAnyH_take (i := 3) (v := ?_) (by simp only [List.getElem?_toArray, List.getElem?_cons_zero, List.getElem?_cons_succ]; rfl) (by kernel_rfl) (by kernel_rfl) (by kernel_rfl) (fun _ _ _ h => h) (Or.inl ⟨by rfl, ?_⟩) trivial ?_
        rotate_left 1
        · intro w hSw
          go_simp
          with_reducible rfl
        simp only [Act.put, List.setIfInBounds_toArray, List.set_cons_zero, List.set_cons_succ]
        refine wpAnyH_take (i := 4) (v := ?_) (by simp only [List.getElem?_toArray, List.getElem?_cons_zero, List.getElem?_cons_succ]; rfl) (by kernel_rfl) (by kernel_rfl) (by kernel_rfl) (fun _ _ _ h => h) (Or.inl ⟨by rfl, ?_⟩) trivial ?_
        rotate_left 1
        · intro w hSw
          go_simp
          with_reducible rfl
        simp only [Act.put, List.setIfInBounds_toArray, List.set_cons_zero, List.set_cons_succ]
        refine wpAnyH_take (i := 6) (v := ?_) (by simp only [List.getElem?_toArray, List.getElem?_cons_zero, List.getElem?_cons_succ]; rfl) (by kernel_rfl) (by kernel_rfl) (by kernel_rfl) (fun _ _ _ h => h) (Or.inl ⟨by rfl, ?_⟩) trivial ?_
        rotate_left 1
        · intro w hSw
          go_simp
          with_reducible rfl
        simp only [Act.put, List.setIfInBounds_toArray, List.set_cons_zero, List.set_cons_succ]
        refine wpAnyH_take (i := 8) (v := ?_) (by simp only [List.getElem?_toArray, List.getElem?_cons_zero, List.getElem?_cons_succ]; rfl) (by kernel_rfl) (by kernel_rfl) (by kernel_rfl) (fun _ _ _ h => h) (Or.inl ⟨by rfl, ?_⟩) trivial ?_
        rotate_left 1
        · intro w hSw
          go_simp
          with_reducible rfl
        simp only [Act.put, List.setIfInBounds_toArray, List.set_cons_zero, List.set_cons_succ]
        refine wpAnyH_take (i := 9) (v := ?_) (by simp only [List.getElem?_toArray, List.getElem?_cons_zero, List.getElem?_cons_succ]; rfl) (by kernel_rfl) (by kernel_rfl) (by kernel_rfl) (fun _ _ _ h => h) (Or.inl ⟨by rfl, ?_⟩) trivial ?_
        rotate_left 1
        · intro w hSw
          go_simp
          with_reducible rfl
        simp only [Act.put, List.setIfInBounds_toArray, List.set_cons_zero, List.set_cons_succ]
        refine wpAnyH_take (i := 10) (v := ?_) (by simp only [List.getElem?_toArray, List.getElem?_cons_zero, List.getElem?_cons_succ]; rfl) (by kernel_rfl) (by kernel_rfl) (by kernel_rfl) (fun _ _ _ h => h) (Or.inl ⟨by rfl, ?_⟩) trivial ?_
        rotate_left 1
        · intro w hSw
          go_simp
          with_reducible rfl
        simp only [Act.put, List.setIfInBounds_toArray, List.set_cons_zero, List.set_cons_succ]
        refine wpAnyH_take (i := 11) (v := ?_) (by simp only [List.getElem?_toArray, List.getElem?_cons_zero, List.getElem?_cons_succ]; rfl) (by kernel_rfl) (by kernel_rfl) (by kernel_rfl) (fun _ _ _ h => h) (Or.inl ⟨by rfl, ?_⟩) trivial ?_
        rotate_left 1
        · intro w hSw
          go_simp
          with_reducible rfl
        simp only [Act.put, List.setIfInBounds_toArray, List.set_cons_zero, List.set_cons_succ]
        refine wpAnyH_take (i := 14) (v := ?_) (by simp only [List.getElem?_toArray, List.getElem?_cons_zero, List.getElem?_cons_succ]; rfl) (by kernel_rfl) (by kernel_rfl) (by kernel_rfl) (fun _ _ _ h => h) (Or.inl ⟨by rfl, ?_⟩) trivial ?_
        rotate_left 1
        · intro w hSw
          go_simp
          with_reducible rfl
        simp only [Act.put, List.setIfInBounds_toArray, List.set_cons_zero, List.set_cons_succ]
        refine wpAnyH_ready (rs := [5, 12]) (by kernel_rfl) (by simp) ?_
        refine (AllReadyH.cons (by simp only [List.getElem?_toArray, List.getElem?_cons_zero, List.getElem?_cons_succ]; rfl) (fun K hK => ?_) (AllReadyH.cons (by simp only [List.getElem?_toArray, List.getElem?_cons_zero, List.getElem?_cons_succ]; rfl) (fun K hK => ?_) AllReadyH.nil))
        · go_simp
          refine hK.out _ _ trivial (fun hS => ?_)
          clear hK K hS
          refine wpAnyH_take (i := 7) (v := ?_) (by simp only [List.getElem?_toArray, List.getElem?_cons_zero, List.getElem?_cons_succ]; rfl) (by kernel_rfl) (by kernel_rfl) (by kernel_rfl) (fun _ _ _ h => h) (Or.inl ⟨by rfl, ?_⟩) trivial ?_
          rotate_left 1
          · intro w hSw
            go_simp
            with_reducible rfl
          simp only [Act.put, List.setIfInBounds_toArray, List.set_cons_zero, List.set_cons_succ]
          refine wpAnyH_ready (rs := [12]) (by kernel_rfl) (by simp) ?_
          refine (AllReadyH.cons (by simp only [List.getElem?_toArray, List.getElem?_cons_zero, List.getElem?_cons_succ]; rfl) (fun K hK => ?_) AllReadyH.nil)
          go_simp
          refine hK.out _ _ trivial (fun hS => ?_)
          clear hK K hS
          refine wpAnyH_take (i := 13) (v := ?_) (by simp only [List.getElem?_toArray, List.getElem?_cons_zero, List.getElem?_cons_succ]; rfl) (by kernel_rfl) (by kernel_rfl) (by kernel_rfl) (fun _ _ _ h => h) (Or.inl ⟨by rfl, ?_⟩) trivial ?_
          rotate_left 1
          · intro w hSw
            go_simp
            with_reducible rfl
          simp only [Act.put, List.setIfInBounds_toArray, List.set_cons_zero, List.set_cons_succ]
          refine wpAnyH_take (i := 15) (v := ?_) (by simp only [List.getElem?_toArray, List.getElem?_cons_zero, List.getElem?_cons_succ]; rfl) (by kernel_rfl) (by kernel_rfl) (by kernel_rfl) (fun _ _ _ h => h) (Or.inl ⟨by rfl, ?_⟩) trivial ?_
          rotate_left 1
          · intro w hSw
            go_simp
            with_reducible rfl
          simp only [Act.put, List.setIfInBounds_toArray, List.set_cons_zero, List.set_cons_succ]
          clear hw16 hw7 hz16 hz7 k16 k7
          refine wpAnyH_ready (rs := [16]) (by kernel_rfl) (by simp) ?_
          refine (AllReadyH.cons (by simp only [List.getElem?_toArray, List.getElem?_cons_zero, List.getElem?_cons_succ]; rfl) (fun K hK => ?_) AllReadyH.nil)
          go_simp
          refine hK.out _ _ trivial (fun hS => ?_)
          clear hK K hS
          refine wpAnyH_ready (rs := [17]) (by kernel_rfl) (by simp) ?_
          refine (AllReadyH.cons (by simp only [List.getElem?_toArray, List.getElem?_cons_zero, List.getElem?_cons_succ]; rfl) (fun K hK => ?_) AllReadyH.nil)
          rw [if_pos (by rfl)]
          refine wp_append_own _ _ _ 76 rfl w.heap.size 77 i0 (.int .u32 0) 1 4 Tryd.underlying76 hi hz0 hz1 hz2 rfl (by omega) _ _ _ rfl (HOe.out.alloc _) ⟨w3.heap.size, 0, none⟩ 1 1 [_] rfl rfl (cell_one_new _ _ _) (one_u32 _) N2.out N3.out (N4.out _) ?_
          intro v4 w4 hown hgrow _
          rw [word_num, ← HNX.out, ← wRow_next] at hown
          have HB5 : Hid (Below w.heap.size w w4) := (HBe.out.alloc HBe.out.size _).grown hgrow (N4.out _) (fun g hk => (HOe.out.lt g hk).1)
          obtain ⟨g5, c5, rfl⟩ := ownsRow_succ hown
          have HO5 := hid hown
          clear hown hgrow
          refine hK.out _ _ trivial (fun hS => ?_)
          clear hK K hS
          simp only [Act.put, List.setIfInBounds_toArray, List.set_cons_zero, List.set_cons_succ]
          refine wpAnyH_take (i := 18) (v := ?_) (by simp only [List.getElem?_toArray, List.getElem?_cons_zero, List.getElem?_cons_succ]; rfl) (by kernel_rfl) (by kernel_rfl) (by kernel_rfl) (fun _ _ _ h => h) (Or.inl ⟨by rfl, ?_⟩) trivial ?_
          rotate_left 1
          · intro w hSw
            go_simp
            with_reducible rfl
          simp only [Act.put, List.setIfInBounds_toArray, List.set_cons_zero, List.set_cons_succ]
          refine wpAnyH_done (by kernel_rfl) ?_ _
          refine NoPanic.normal ?_
          go_wp2
          go_roundw
          case rel => exact ⟨t + 1, _, _, by omega, rfl, rfl, HO5, HB5⟩
          case measure => simp [intOf]; omega
        · go_simp
          refine hK.out _ _ trivial (fun hS => ?_)
          clear hK K hS
          refine wpAnyH_ready (rs := [5]) (by kernel_rfl) (by simp) ?_
          refine (AllReadyH.cons (by simp only [List.getElem?_toArray, List.getElem?_cons_zero, List.getElem?_cons_succ]; rfl) (fun K hK => ?_) AllReadyH.nil)
          go_simp
          refine hK.out _ _ trivial (fun hS => ?_)
          clear hK K hS
          refine wpAnyH_take (i := 7) (v := ?_) (by simp only [List.getElem?_toArray, List.getElem?_cons_zero, List.getElem?_cons_succ]; rfl) (by kernel_rfl) (by kernel_rfl) (by kernel_rfl) (fun _ _ _ h => h) (Or.inl ⟨by rfl, ?_⟩) trivial ?_
          rotate_left 1
          · intro w hSw
            go_simp
            with_reducible rfl
          simp only [Act.put, List.setIfInBounds_toArray, List.set_cons_zero, List.set_cons_succ]
          refine wpAnyH_take (i := 13) (v := ?_) (by simp only [List.getElem?_toArray, List.getElem?_cons_zero, List.getElem?_cons_succ]; rfl) (by kernel_rfl) (by kernel_rfl) (by kernel_rfl) (fun _ _ _ h => h) (Or.inl ⟨by rfl, ?_⟩) trivial ?_
          rotate_left 1
          · intro w hSw
            go_simp
            with_reducible rfl
          simp only [Act.put, List.setIfInBounds_toArray, List.set_cons_zero, List.set_cons_succ]
          refine wpAnyH_take (i := 15) (v := ?_) (by simp only [List.getElem?_toArray, List.getElem?_cons_zero, List.getElem?_cons_succ]; rfl) (by kernel_rfl) (by kernel_rfl) (by kernel_rfl) (fun _ _ _ h => h) (Or.inl ⟨by rfl, ?_⟩) trivial ?_
          rotate_left 1
          · intro w hSw
            go_simp
            with_reducible rfl
          simp only [Act.put, List.setIfInBounds_toArray, List.set_cons_zero, List.set_cons_succ]
          clear hw16 hw7 hz16 hz7 k16 k7
          refine wpAnyH_ready (rs := [16]) (by kernel_rfl) (by simp) ?_
          refine (AllReadyH.cons (by simp only [List.getElem?_toArray, List.getElem?_cons_zero, List.getElem?_cons_succ]; rfl) (fun K hK => ?_) AllReadyH.nil)
          go_simp
          refine hK.out _ _ trivial (fun hS => ?_)
          clear hK K hS
          refine wpAnyH_ready (rs := [17]) (by kernel_rfl) (by simp) ?_
          refine (AllReadyH.cons (by simp only [List.getElem?_toArray, List.getElem?_cons_zero, List.getElem?_cons_succ]; rfl) (fun K hK => ?_) AllReadyH.nil)
          rw [if_pos (by rfl)]
          refine wp_append_own _ _ _ 76 rfl w.heap.size 77 i0 (.int .u32 0) 1 4 Tryd.underlying76 hi hz0 hz1 hz2 rfl (by omega) _ _ _ rfl (HOe.out.alloc _) ⟨w3.heap.size, 0, none⟩ 1 1 [_] rfl rfl (cell_one_new _ _ _) (one_u32 _) N2.out N3.out (N4.out _) ?_
          intro v4 w4 hown hgrow _
          rw [word_num, ← HNX.out, ← wRow_next] at hown
          have HB5 : Hid (Below w.heap.size w w4) := (HBe.out.alloc HBe.out.size _).grown hgrow (N4.out _) (fun g hk => (HOe.out.lt g hk).1)
          obtain ⟨g5, c5, rfl⟩ := ownsRow_succ hown
          have HO5 := hid hown
          clear hown hgrow
          refine hK.out _ _ trivial (fun hS => ?_)
          clear hK K hS
          simp only [Act.put, List.setIfInBounds_toArray, List.set_cons_zero, List.set_cons_succ]
          refine wpAnyH_take (i := 18) (v := ?_) (by simp only [List.getElem?_toArray, List.getElem?_cons_zero, List.getElem?_cons_succ]; rfl) (by kernel_rfl) (by kernel_rfl) (by kernel_rfl) (fun _ _ _ h => h) (Or.inl ⟨by rfl, ?_⟩) trivial ?_
          rotate_left 1
          · intro w hSw
            go_simp
            with_reducible rfl
          simp only [Act.put, List.setIfInBounds_toArray, List.set_cons_zero, List.set_cons_succ]
          refine wpAnyH_done (by kernel_rfl) ?_ _
          refine NoPanic.normal ?_
          go_wp2
          go_roundw
          case rel => exact ⟨t + 1, _, _, by omega, rfl, rfl, HO5, HB5⟩
          case measure => simp [intOf]; omega
    · obtain rfl : t = 64 := by omega
      go_wp2
      go_ret
      exact ⟨_, rfl, HO.out, HB.out⟩
end Go.Proofs.YtlcdkponegmcdaaDoor.Sha
/- The document's digest: blocks after blocks against bytes that are fed one by one; its bytes by number. Plain. -/
namespace Go.Proofs.YtlcdkponegmcdaaDoor.Sha
open Go.RowKit
def blk (P : List UInt8) (k : Nat) : List UInt8 := (P.drop (64 * k)).take 64
/-- The eight words behind the first k blocks. -/
def stAt (P : List UInt8) : Nat → List (BitVec 32)
  | 0 => hList
  | k + 1 => foldL (stAt P k) (blk P k)
theorem stAt_len (P : List UInt8) (k : Nat) : (stAt P k).length = 8 := by
  cases k with
  | zero => rfl
  | succ k => exact sums_len _ _
theorem blk_len (P : List UInt8) (k : Nat) (h : 64 * (k + 1) ≤ P.length) : (blk P k).length = 64 := by simp [blk]; omega
theorem splice_whole (l c : List UInt8) (h : l.length = c.length) : splice l 0 c = c := by
  unfold splice
  simp [← h]
theorem feed_blocks (P : List UInt8) (k : Nat) : 64 * k ≤ P.length → (feed newS (P.take (64 * k))).ws = stAt P k ∧ (feed newS (P.take (64 * k))).n = 64 * k ∧ (feed newS (P.take (64 * k))).ps.length = 64 := by
  induction k with
  | zero => intro _; exact ⟨by simp [feed, newS, stAt], by simp [feed, newS], by simp [feed, newS]⟩
  | succ k ih =>
    intro h
    obtain ⟨h1, h2, h3⟩ := ih (by omega)
    have hb := blk_len P k h
    have e : P.take (64 * (k + 1)) = P.take (64 * k) ++ blk P k := by
      rw [blk, show 64 * (k + 1) = 64 * k + 64 by omega, List.take_add]
    have hm : (feed newS (P.take (64 * k))).n % 64 = 0 := by rw [h2]; omega
    have hf := feed_full (blk P k) (feed newS (P.take (64 * k))) h3 (by omega) (by omega)
    rw [e, feed_append, hf, hm, splice_whole _ _ (by rw [h3, hb]), h1, h2, hb]
    exact ⟨rfl, by show 64 * k + 64 = 64 * (k + 1); omega, by first | exact hb | rfl⟩
theorem padL_mod (n : Nat) : (n + (padL n).length) % 64 = 0 := by simp [padL, padHead, lenBytes]; omega
/-- The digest, by blocks. -/
theorem sha_blocks (xs : List UInt8) (m : Nat) (h : (xs ++ padL xs.length).length = 64 * m) : shaL xs = dig (stAt (xs ++ padL xs.length) m) 8 := by
  have hn : (feed newS xs).n = xs.length := by rw [feed_n]; show 0 + _ = _; omega
  unfold shaL fin
  rw [hn, ← feed_append]
  have := (feed_blocks (xs ++ padL xs.length) m (by omega)).1
  rw [List.take_of_length_le (by omega)] at this
  rw [this]
/-- Byte after byte. -/
def digN (ws : List (BitVec 32)) : Nat → List UInt8
  | 0 => List.replicate 32 0
  | k + 1 => (digN ws k).set k (byteOf (at32 ws (k / 4)) (24 - 8 * (k % 4)))
theorem digYtlcdkponegmcdaaDoorlen (ws : List (BitVec 32)) (k : Nat) : (digN ws k).length = 32 := by
  induction k with
  | zero => simp [digN]
  | succ k ih => rw [digN, List.length_set, ih]
theorem digYtlcdkponegmcdaaDoorfour (ws : List (BitVec 32)) (k : Nat) : digN ws (4 * k) = dig ws k := by
  induction k with
  | zero => rfl
  | succ k ih =>
    rw [show 4 * (k + 1) = 4 * k + 1 + 1 + 1 + 1 by omega]
    simp only [digN, dig, ih]
    rw [show 4 * k / 4 = k by omega, show (4 * k + 1) / 4 = k by omega, show (4 * k + 1 + 1) / 4 = k by omega, show (4 * k + 1 + 1 + 1) / 4 = k by omega,
      show 4 * k % 4 = 0 by omega, show (4 * k + 1) % 4 = 1 by omega, show (4 * k + 1 + 1) % 4 = 2 by omega, show (4 * k + 1 + 1 + 1) % 4 = 3 by omega]
/-- The eight words moved on by one, the last j of them. -/
def moved (l : List (BitVec 32)) : Nat → List (BitVec 32)
  | 0 => l
  | j + 1 => (moved l j).set (7 - j) (at32 (moved l j) (6 - j))
theorem moved_len (l : List (BitVec 32)) (j : Nat) : (moved l j).length = l.length := by
  induction j with
  | zero => rfl
  | succ j ih => rw [moved, List.length_set, ih]
def lst8 (s : S8) : List (BitVec 32) := [s.a, s.b, s.c, s.d, s.e, s.f, s.g, s.h]
theorem moved_all (s : S8) : moved (lst8 s) 7 = [s.a, s.a, s.b, s.c, s.d, s.e, s.f, s.g] := rfl
theorem moved_step (s : S8) (kk ww : BitVec 32) : ((moved (lst8 s) 7).set 4 (s.d + sx s kk ww)).set 0 (sx s kk ww + sy s) = lst8 (stepS s kk ww) := rfl
/-- The words of a state, each raised by one of another row, the first i of them. -/
def raisedTo (l v : List (BitVec 32)) : Nat → List (BitVec 32)
  | 0 => l
  | i + 1 => (raisedTo l v i).set i (at32 (raisedTo l v i) i + at32 v i)
theorem raisedTo_len (l v : List (BitVec 32)) (i : Nat) : (raisedTo l v i).length = l.length := by
  induction i with
  | zero => rfl
  | succ i ih => rw [raisedTo, List.length_set, ih]
def start8 (l : List (BitVec 32)) : S8 := ⟨at32 l 0, at32 l 1, at32 l 2, at32 l 3, at32 l 4, at32 l 5, at32 l 6, at32 l 7⟩
theorem raised_row (l : List (BitVec 32)) (hl : l.length = 8) (R : S8) : raisedTo l (lst8 R) 8 = sums l R := by
  match l, hl with
  | [a, b, c, d, e, f, g, h], _ => simp [raisedTo, lst8, sums, at32]
theorem raised_all (l : List (BitVec 32)) (hl : l.length = 8) (p : List UInt8) : raisedTo l (lst8 (run8 (words p 16) (start8 l) 64)) 8 = foldL l p := by
  have e : foldL l p = sums l (run8 (words p 16) (start8 l) 64) := by unfold foldL start8; rfl
  rw [e]
  generalize run8 (words p 16) (start8 l) 64 = R
  clear e
  exact raised_row l hl R
/-- The words laid one by one. -/
def copied (l : List (BitVec 32)) : Nat → List (BitVec 32)
  | 0 => List.replicate 8 0
  | i + 1 => (copied l i).set i (at32 l i)
theorem copied_len (l : List (BitVec 32)) (i : Nat) : (copied l i).length = 8 := by
  induction i with
  | zero => simp [copied]
  | succ i ih => rw [copied, List.length_set, ih]
theorem copied_all (l : List (BitVec 32)) : copied l 8 = lst8 (start8 l) := rfl
end Go.Proofs.YtlcdkponegmcdaaDoor.Sha
