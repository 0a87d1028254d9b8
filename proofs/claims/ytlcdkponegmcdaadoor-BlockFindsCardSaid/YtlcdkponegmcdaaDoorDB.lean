/- slices.Clone of bytes, bytes of texts, block.Part: what each call does. Conditions: at most 2 to the 40 bytes. -/
import Derived.Test.YtlcdkponegmcdaaDoorDA
namespace Go.Proofs.YtlcdkponegmcdaaDoor
open Go.RowKit
/-- A row of the call's own over just these bytes. -/
def Fresh (B : Nat) (w' : World) (v : Value) (xs : List UInt8) : Prop := w'.ownsRow B 5 1 v xs.length (xs.map V8)
theorem Fresh.bytes {B : Nat} {w : World} {v : Value} {xs : List UInt8} (h : Fresh B w v xs) (hw : 0 < w.heap.size) : ∃ A cap bb, Bytes w v xs A cap bb 0 ∧ (0 < xs.length → B ≤ bb) ∧ (v.ownBlock = some bb ∨ v.ownBlock = none ∧ bb = 0) := own_bytes rfl hw h
theorem Fresh.mono {B B' : Nat} {w : World} {v : Value} {xs : List UInt8} (h : Fresh B w v xs) (hb : B' ≤ B) : Fresh B' w v xs := by
  refine ⟨h.1, ?_⟩
  rcases h.2 with ⟨h1, h2⟩ | ⟨g, c, cur, h1, h2, h3⟩
  · exact .inl ⟨h1, h2⟩
  · exact .inr ⟨g, c, cur, h1, Nat.le_trans hb h2, h3⟩
set_option maxRecDepth 100000 in
set_option maxHeartbeats 400000 in
theorem clone_any (v : Value) (xs : List UInt8) (A : Option Addr) (cap bb off : Nat) (hn : xs.length ≤ 100000) (w : World) (h : Bytes w v xs A cap bb off) :
    Calls Tryd.prog 36 #[v] w fun e w' => ∃ v', e = .returned v' ∧ Fresh w.heap.size w' v' xs ∧ Below w.heap.size w w' := by
  have e0 := h.form
  have q22 : ∀ (w : World) (a : Option Addr) (n c n' c' : Nat), (binOp .eql 25 (.slice a n c) (.slice none n' c')).run Tryd.prog w = .ok (.bool a.isNone) w := fun w a n c n' c' => Lib.run_eql_slice_nil w _ _ a n c n' c' Tryd.underlying25
  cases A with
  | none =>
    have hc := h.zero rfl
    have hl := h.le
    obtain rfl : xs = [] := List.eq_nil_of_length_eq_zero (by omega)
    rw [e0, hc]
    clear e0 h hn
    go_enter Tryd.func36, Tryd.ntmps36
    go_wp2
    go_ret
    exact ⟨_, rfl, World.ownsRow_nil _ _ _ _, Below.refl _ _⟩
  | some a =>
    rw [e0]
    have hb0 : Below w.heap.size w (w.alloc (.cells #[] 5)) := (Below.refl _ _).alloc (Nat.le_refl _) _
    have h0 : (w.alloc (.cells #[] 5)).ownsRow w.heap.size 5 1 (.slice (some ⟨w.heap.size, 0, none⟩) 0 0) 0 [] := World.ownsRow_made w #[] 0 (Nat.le_refl _) (by unfold maxLen; omega) rfl
    have h1 := h.kept hb0 (Nat.le_refl _)
    rw [e0] at h1
    obtain ⟨v', w', hr, ho, hg, _, _⟩ := append_bytes _ _ _ _ _ h0 h1 (by omega) (by simp)
    have HRR := hid hr
    have HO : Hid (Fresh w.heap.size w' v' xs) := by
      rw [Nat.zero_add, List.nil_append] at ho; exact ho
    have HB : Hid (Below w.heap.size w w') := hb0.grown hg (by simp) (fun k hk => by simp [Value.ownBlock] at hk; omega)
    clear hr ho hg hb0 h0 h1 h hn e0
    go_enter Tryd.func36, Tryd.ntmps36
    go_wp2_with (refine wpList_append_run rfl (.tmp 5) (.tmp 6) 25 25 rfl ⟨v', w', HRR.out, ?_⟩)
    go_ret
    exact ⟨_, rfl, HO.out, HB.out⟩
theorem conv_string (s : ByteArray) (w : World) : (convert 9 25 (.string s)).run Tryd.prog w = .ok (.slice (some ⟨w.heap.size, 0, none⟩) s.size (grownCap w s.size 0 5)) (Lib.bytesWorld w 5 s) :=
  Lib.run_convert_string_bytes w 9 25 5 s Tryd.underlying9 Tryd.underlying25 Tryd.underlying5
theorem conv_below (s : ByteArray) (w : World) : Below w.heap.size w (Lib.bytesWorld w 5 s) :=
  ⟨rfl, rfl, rfl, by rw [Lib.bytesWorld_size]; omega, fun j hj => Lib.bytesWorld_at_old w 5 s j hj⟩
theorem conv_bytes (s : ByteArray) (w : World) : Bytes (Lib.bytesWorld w 5 s) (.slice (some ⟨w.heap.size, 0, none⟩) s.size (grownCap w s.size 0 5)) (tl s) (some ⟨w.heap.size, 0, none⟩) (grownCap w s.size 0 5) w.heap.size 0 := by
  refine ⟨by rw [tl_length], by rw [tl_length]; exact grownCap_ge _ _ _ _, (fun h => by cases h), fun a ha j hj => ?_, by rw [Lib.bytesWorld_size]; omega, fun _ => rfl⟩
  cases ha
  rw [tl_length] at hj
  rw [add_at, Nat.zero_add, Lib.bytesWorld_cell w 5 s j hj]; rfl
set_option maxRecDepth 100000 in
/-- Bytes from the place m on, k of them. -/
theorem Bytes.mid {w : World} {v : Value} {xs : List UInt8} {A : Option Addr} {cap bb off : Nat} (h : Bytes w v xs A cap bb off) (m k : Nat) (hm : m + k ≤ xs.length) (h0 : 0 < k) :
    (∀ w : World, (Instr.slice 25 v (some (.int .i64 (m : Int))) (some (.int .i64 ((m + k : Nat) : Int))) none).run Tryd.prog w = .ok (.slice (some ⟨bb, off + m, none⟩) k (cap - m)) w) ∧
      Bytes w (.slice (some ⟨bb, off + m, none⟩) k (cap - m)) ((xs.drop m).take k) (some ⟨bb, off + m, none⟩) (cap - m) bb (off + m) := by
  have he : Tryd.prog.elem 25 = 5 := by kernel_rfl
  have hs : ∀ w, (sizeOf (Tryd.prog.elem 25)).run Tryd.prog w = .ok 1 w := by intro w; rw [he]; kernel_rfl
  have hle := h.le
  have hsrc := h.src (by omega)
  have hl : ((xs.drop m).take k).length = k := by rw [List.length_take, List.length_drop]; omega
  refine ⟨?_, ?_⟩
  · intro w
    rw [h.form, hsrc, run_slice_lh (P := Tryd.prog) w 25 (some ⟨bb, off, none⟩) xs.length cap (by kernel_rfl) .i64 .i64 (m : Int) ((m + k : Nat) : Int) (by omega) (by omega) (by omega), hs]
    simp only [Result.andThen, sliced, Int.toNat_natCast, Nat.mul_one]
    rw [if_neg (by omega), show m + k - m = k by omega]
    simp only [Option.map_some, add_at]
  · refine ⟨by rw [hl], by rw [hl]; omega, (fun e => by cases e), fun a ha j hj => ?_, h.blk, fun _ => rfl⟩
    cases ha
    rw [hl] at hj
    rw [add_at, Nat.add_assoc, h.cells (m + j) (by omega)]
    congr 2
    simp [at8, List.getD, List.getElem?_drop, hj]
/-- The block k of a file. -/
def partL (xs : List UInt8) (k : Nat) : List UInt8 := (xs.drop (k * szL xs.length)).take (szL xs.length)
def partI (xs : List UInt8) (i : Int) : List UInt8 := if i < 0 ∨ (cntI xs.length : Int) ≤ i then [] else partL xs i.toNat
theorem cnt_lt {n k : Nat} (h : k < cntL n) : k * szL n < n := by
  unfold cntL at h
  have hp := szL_pos n
  have h1 : (k + 1) * szL n ≤ n + szL n - 1 := (Nat.le_div_iff_mul_le hp).1 h
  rw [Nat.add_mul] at h1
  omega
theorem cntL_le (n : Nat) (h : n ≤ 4096) : cntL n ≤ 32 := by
  unfold cntL
  have h1 : szL n = if n ≤ 512 then 16 else if n ≤ 1024 then 32 else if n ≤ 2048 then 64 else 128 := rfl
  by_cases a : n ≤ 512
  · rw [if_pos a] at h1; rw [h1]; omega
  · by_cases b : n ≤ 1024
    · rw [if_neg a, if_pos b] at h1; rw [h1]; omega
    · by_cases c : n ≤ 2048
      · rw [if_neg a, if_neg b, if_pos c] at h1; rw [h1]; omega
      · rw [if_neg a, if_neg b, if_neg c] at h1; rw [h1]; omega
theorem fresh_nil (B : Nat) (w : World) : Fresh B w (.slice none 0 0) [] := World.ownsRow_nil _ _ _ _
set_option maxRecDepth 100000 in
set_option maxHeartbeats 4000000 in
theorem part_any (v : Value) (xs : List UInt8) (A : Option Addr) (cap bb off : Nat) (i : Int) (w : World) (h : Bytes w v xs A cap bb off) :
    Calls Tryd.prog 17 #[v, .int .i64 i] w fun e w' => ∃ v', e = .returned v' ∧ Fresh w.heap.size w' v' (partI xs i) ∧ Below w.heap.size w w' := by
  obtain ⟨n, HN⟩ : ∃ n, Hid (xs.length = n) := ⟨_, rfl⟩
  by_cases h1 : i < 0
  · have HV : Hid (partI xs i = []) := by show _ = _; rw [partI, if_pos (.inl h1)]
    have e0 := h.form
    rw [HN.out] at e0
    rw [e0]
    clear h e0
    go_enter Tryd.func17, Tryd.ntmps17
    go_wp2
    go_ret
    exact ⟨_, rfl, by rw [HV.out]; exact fresh_nil _ _, Below.refl _ _⟩
  · obtain ⟨k, rfl⟩ := Int.eq_ofNat_of_zero_le (a := i) (by omega)
    have C1 := hid (count_any (n : Int))
    obtain ⟨c, HC⟩ : ∃ c, Hid (cntI (n : Int) = c) := ⟨_, rfl⟩
    rw [HC.out] at C1
    by_cases h2 : (c : Int) ≤ (k : Int)
    · have HV : Hid (partI xs (k : Int) = []) := by show _ = _; rw [partI, if_pos (.inr (by rw [HN.out, HC.out]; exact h2))]
      have e0 := h.form
      rw [HN.out] at e0
      rw [e0]
      clear h e0
      go_enter Tryd.func17, Tryd.ntmps17
      go_wp2_with (go_at_call 12; refine (C1.out _).mono ?_; rintro e1 w1 ⟨rfl, rfl⟩)
      go_ret
      exact ⟨_, rfl, by rw [HV.out]; exact fresh_nil _ _, Below.refl _ _⟩
    · have hn : n ≤ 4096 := by
        rcases Nat.lt_or_ge 4096 n with hx | hx
        · have := HC.out; rw [cntI_no _ (.inr (by omega))] at this; omega
        · exact hx
      have hc : cntL n = c := by rw [← HC.out, cntI_nat n hn]
      have hk := cnt_lt (n := n) (k := k) (by omega)
      have hc32 := cntL_le n hn
      have hs := szL_cases n
      have C2 := hid (size_any (n : Int))
      rw [sizeI_nat n hn] at C2
      obtain ⟨s, HS⟩ : ∃ s, Hid (szL n = s) := ⟨_, rfl⟩
      rw [HS.out] at C2 hk hs
      obtain ⟨m, HM⟩ : ∃ m, Hid (k * s = m) := ⟨_, rfl⟩
      obtain ⟨q, HQ⟩ : ∃ q, Hid ((k + 1) * s = q) := ⟨_, rfl⟩
      have hq : q = m + s := by rw [← HQ.out, ← HM.out, Nat.add_mul]; omega
      rw [HM.out] at hk
      obtain ⟨p, HP⟩ : ∃ p, Hid (min s (n - m) = p) := ⟨_, rfl⟩
      have hp := HP.out
      have hw1 : IntKind.i64.wrap ((k : Int) * (s : Int)) = (m : Int) := by rw [← HM.out, Int.natCast_mul]; refine i64in _ ?_ ?_ <;> rw [← Int.natCast_mul, HM.out] <;> omega
      have hw2 : IntKind.i64.wrap ((k : Int) + 1) = (k : Int) + 1 := i64in _ (by omega) (by omega)
      have hw3 : IntKind.i64.wrap (((k : Int) + 1) * (s : Int)) = (q : Int) := by
        have e : ((k : Int) + 1) * (s : Int) = (q : Int) := by rw [← HQ.out, Int.natCast_mul]; rfl
        rw [e]; exact i64in _ (by omega) (by omega)
      have hsrc := h.src (by rw [HN.out]; omega)
      subst hsrc
      have hcm : ¬ cap = m := by have := h.le; rw [HN.out] at this; omega
      have hmn : (m : Int) ≤ (n : Int) := by omega
      have hncap : (n : Int) ≤ (cap : Int) := by have := h.le; rw [HN.out] at this; omega
      have hmp : m + p = min q n := by omega
      have HMID := (h.mid m p (by rw [HN.out]; omega) (by omega)).2
      have HVS : Hid ((xs.drop m).take p = partI xs (k : Int)) := by
        show _ = _
        rw [partI, if_neg (by rw [HN.out, HC.out]; omega), partL, HN.out, HS.out, Int.toNat_natCast, HM.out, ← HP.out]
        have hl : (xs.drop m).length = n - m := by rw [List.length_drop, HN.out]
        rw [Nat.min_comm, ← hl, ← List.take_take]
        exact List.take_of_length_le (by rw [List.length_take]; omega)
      have HL : (partI xs (k : Int)).length ≤ 100000 := by rw [← HVS.out, List.length_take]; omega
      rw [HVS.out] at HMID
      have e0 := h.form
      rw [HN.out] at e0
      rw [e0]
      have HCL := hid (clone_any _ _ _ _ _ _ HL _ HMID)
      have h3 : ¬ (k : Int) < 0 := h1
      have h4 : ¬ (c : Int) ≤ (k : Int) := h2
      rcases Nat.lt_or_ge n q with hqn | hqn
      · have hp2 : p = n - m := by omega
        have h5 : (n : Int) < (q : Int) := by omega
        have h6 : ¬ (q : Int) ≤ (n : Int) := by omega
        have h8 : min (q : Int) (n : Int) = (n : Int) := by omega
        rw [hp2] at HCL
        clear HVS HL h e0 HMID hk hc hc32 hs hq hp hn hmp hp2 HP
        go_enter Tryd.func17, Tryd.ntmps17
        go_wp2_with (first
          | (go_at_call 12; refine (C1.out _).mono ?_; rintro e1 w1 ⟨rfl, rfl⟩)
          | (go_at_call 10; refine (C2.out _).mono ?_; rintro e2 w2 ⟨rfl, rfl⟩)
          | (go_at_call 36; refine HCL.out.mono ?_; rintro e3 w3 ⟨v3, rfl, hf3, hb3⟩))
        go_ret
        exact ⟨_, rfl, hf3, hb3⟩
      · have hp2 : p = q - m := by omega
        have h5 : (q : Int) ≤ (n : Int) := by omega
        have h6 : (m : Int) ≤ (q : Int) := by omega
        have h7 : (q : Int) ≤ (cap : Int) := by omega
        have h8 : min (q : Int) (n : Int) = (q : Int) := by omega
        rw [hp2] at HCL
        clear HVS HL h e0 HMID hk hc hc32 hs hq hp hn hmp hp2 HP
        go_enter Tryd.func17, Tryd.ntmps17
        go_wp2_with (first
          | (go_at_call 12; refine (C1.out _).mono ?_; rintro e1 w1 ⟨rfl, rfl⟩)
          | (go_at_call 10; refine (C2.out _).mono ?_; rintro e2 w2 ⟨rfl, rfl⟩)
          | (go_at_call 36; refine HCL.out.mono ?_; rintro e3 w3 ⟨v3, rfl, hf3, hb3⟩))
        go_ret
        exact ⟨_, rfl, hf3, hb3⟩
end Go.Proofs.YtlcdkponegmcdaaDoor
