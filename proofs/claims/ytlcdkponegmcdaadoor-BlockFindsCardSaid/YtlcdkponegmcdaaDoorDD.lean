/- block.List, block.Verify: what each call does. Conditions: the listed table; bytes in a block of the world. -/
import Derived.Test.YtlcdkponegmcdaaDoorDC
namespace Go.Proofs.YtlcdkponegmcdaaDoor
open Go.RowKit
/-- A file's list. -/
def listTo (xs : List UInt8) (k : Nat) : List (List UInt8) := (List.range k).map fun i => dg (partL xs i)
def hashes (xs : List UInt8) : List (List UInt8) := listTo xs (cntL xs.length)
theorem listTo_len (xs : List UInt8) (k : Nat) : (listTo xs k).length = k := by simp [listTo]
theorem listTo_next (xs : List UInt8) (k : Nat) : listTo xs (k + 1) = listTo xs k ++ [dg (partL xs k)] := by simp [listTo, List.range_succ]
theorem hashes_len (xs : List UInt8) : (hashes xs).length = cntL xs.length := listTo_len _ _
theorem hashes_at (xs : List UInt8) (k : Nat) (hk : k < cntL xs.length) : (hashes xs)[k]'(by rw [hashes_len]; exact hk) = dg (partL xs k) := by simp [hashes, listTo]
theorem partI_nat (xs : List UInt8) (k : Nat) (h : k < cntL xs.length) (hx : xs.length ≤ 4096) : partI xs (k : Int) = partL xs k := by
  rw [partI, if_neg (by rw [cntI_nat _ hx]; omega)]; rfl
theorem partL_le (xs : List UInt8) (k : Nat) : (partL xs k).length ≤ 128 := by
  rw [partL, List.length_take]; have := szL_cases xs.length; omega
set_option maxRecDepth 100000 in
set_option maxHeartbeats 4000000 in
theorem list_long (v : Value) (xs : List UInt8) (A : Option Addr) (cap bb off : Nat) (w : World) (h : Bytes w v xs A cap bb off) (hl : 4096 < xs.length) :
    Calls Tryd.prog 15 #[v] w fun e w' => e = .returned (.tuple #[.slice none 0 0, .int .i64 3]) ∧ w = w' := by
  have e0 := h.form
  rw [e0]
  obtain ⟨n, HN⟩ : ∃ n, Hid (xs.length = n) := ⟨_, rfl⟩
  rw [HN.out] at hl ⊢
  have h1 : (4096 : Int) < (n : Int) := by omega
  clear h e0 hl
  go_enter Tryd.func15, Tryd.ntmps15
  go_wp2
  go_ret2
  exact ⟨rfl, rfl⟩
set_option maxRecDepth 100000 in
set_option maxHeartbeats 4000000 in
theorem list_any (v : Value) (xs : List UInt8) (A : Option Addr) (cap bb off : Nat) (w : World) (hT : Sha.Tab w) (h : Bytes w v xs A cap bb off) (hl : xs.length ≤ 4096) :
    Calls Tryd.prog 15 #[v] w fun e w' => ∃ v', e = .returned (.tuple #[v', .int .i64 0]) ∧ Dgs w.heap.size w' v' (hashes xs) ∧ Below w.heap.size w w' := by
  have e0 := h.form
  obtain ⟨n, HN⟩ : ∃ n, Hid (xs.length = n) := ⟨_, rfl⟩
  obtain ⟨c, HC⟩ : ∃ c, Hid (cntL n = c) := ⟨_, rfl⟩
  have hc32 := cntL_le n (by rw [← HN.out]; exact hl)
  rw [HC.out] at hc32
  have C1 := hid (count_any (n : Int))
  rw [cntI_nat n (by rw [← HN.out]; exact hl), HC.out] at C1
  have HV : Hid (hashes xs = listTo xs c) := by show _ = _; rw [hashes, HN.out, HC.out]
  have HP : Hid (∀ k : Nat, k < c → partI xs (k : Int) = partL xs k) := fun k hk => partI_nat xs k (by rw [HN.out, HC.out]; exact hk) hl
  have HB := hid h
  have HT := hid hT
  have HPOS := hid hT.pos
  have h1 : ¬ (4096 : Int) < (n : Int) := by rw [← HN.out]; omega
  rw [HN.out] at e0
  rw [e0] at HB ⊢
  clear h e0 hl hT
  go_enter Tryd.func15, Tryd.ntmps15
  go_wp2_with (go_at_call 12; refine (C1.out _).mono ?_; rintro e1 w1 ⟨rfl, rfl⟩)
  go_loopw [4, 5, 12] (fun v4 _ v12 wr => ∃ k : Nat, k ≤ c ∧ v12 = .int .i64 (k : Int) ∧ Hid (Dgs w.heap.size wr v4 (listTo xs k)) ∧ Hid (Below w.heap.size w wr)) (fun _ _ v12 _ => c - (intOf v12).toNat)
  case atStart => exact ⟨0, by omega, rfl, Dgs.nil _ _, Below.refl _ _⟩
  case round =>
    obtain ⟨k, hk, rfl, J1, J2⟩ := hrel
    by_cases hlt : k < c
    · have hlt2 : (k : Int) < (c : Int) := by omega
      have w1 : IntKind.i64.wrap ((k : Int) + 1) = (k : Int) + 1 := i64in _ (by omega) (by omega)
      have HBk := hid (HB.out.kept J2.out (Nat.le_refl _))
      have CP := hid (part_any _ xs A cap bb off (k : Int) wr HBk.out)
      rw [HP.out k hlt] at CP
      obtain ⟨d, HD⟩ : ∃ d, Hid (dg (partL xs k) = d) := ⟨_, rfl⟩
      have HDL : Hid (d.length = 32) := by show _ = _; rw [← HD.out]; exact dg_len _
      have HNX : Hid (listTo xs (k + 1) = listTo xs k ++ [d]) := by show _ = _; rw [listTo_next, HD.out]
      have HPL := hid (partL_le xs k)
      go_wp2_with (first
        | (go_at_call 17; refine CP.out.mono ?_; rintro e2 w2 ⟨v2, rfl, hf2, hb2⟩
           obtain ⟨A2, c2, b2, hy2, _, _⟩ := hf2.bytes (Nat.lt_of_lt_of_le (Nat.lt_of_lt_of_le HPOS.out J2.out.size) hb2.size)
           have B2 : Hid (Below w.heap.size w w2) := J2.out.trans (hb2.mono J2.out.size)
           have D2 : Hid (Dgs w.heap.size w2 u4 (listTo xs k)) := J1.out.kept hb2 (Nat.le_refl _)
           have Y2 := hid hy2
           clear hf2 hb2 hy2)
        | (go_at_call 34; refine (sum_any _ _ _ _ _ _ _ (HT.out.kept B2.out HPOS.out) Y2.out (Nat.le_trans HPL.out (by omega))).mono ?_; rintro e3 w3 ⟨rfl, hb3⟩
           rw [HD.out]
           have B3 : Hid (Below w.heap.size w w3) := B2.out.trans (hb3.mono B2.out.size)
           have D3 : Hid (Dgs w.heap.size w3 u4 (listTo xs k)) := D2.out.kept hb3 (Nat.le_refl _)
           have AP := hid (append_dg (w3.alloc (.cells (hvec d) 27)) w.heap.size u4 (listTo xs k) (D3.out.kept ((Below.refl _ _).alloc (Nat.le_refl _) _) (Nat.le_refl _)) d HDL.out ⟨w3.heap.size, 0, none⟩ (fun j hj => by rw [add_at, Nat.zero_add, (Has.fresh w3 27 (hvec d)).at_ j, hvec, List.getElem?_toArray]; exact get_map (by rw [HDL.out]; exact hj)) (by rw [listTo_len]; omega) (by have := B3.out.size; simp; omega) 28)
           obtain ⟨v5, w5, hr5, hd5, hg5⟩ := AP.out
           have R5 := hid hr5
           have D5 : Hid (Dgs w.heap.size w5 v5 (listTo xs (k + 1))) := by show Dgs _ _ _ _; rw [HNX.out]; exact hd5
           have B5 : Hid (Below w.heap.size w w5) := (B3.out.alloc B3.out.size (.cells (hvec d) 27)).grown hg5 (by have := B3.out.size; simp; omega) (fun g hg => (D3.out.own.lt g hg).1)
           clear hb3 AP hr5 hd5 hg5)
        | (refine wpList_build_dg (by rfl) (.tmp 19) rfl d rfl HDL.out ?_)
        | (refine wpList_append_run rfl (.tmp 15) (.tmp 20) 28 28 rfl ⟨_, _, R5.out, ?_⟩))
      go_roundw
      case rel => exact ⟨k + 1, by omega, by go_num, D5.out, B5.out⟩
      case measure => simp [intOf]; omega
    · obtain rfl : k = c := by omega
      go_wp2
      go_ret2
      exact ⟨_, rfl, by rw [HV.out]; exact J1.out, J2.out⟩
/-- Are two digests the same? -/
@[irreducible] def same8 (xs ys : List UInt8) : Bool := decide (xs = ys)
theorem same8_iff (xs ys : List UInt8) : same8 xs ys = true ↔ xs = ys := by unfold same8; simp
theorem same8_refl (xs : List UInt8) : same8 xs xs = true := (same8_iff _ _).2 rfl
theorem same8_ne {xs ys : List UInt8} (h : xs ≠ ys) : same8 xs ys = false := by
  cases e : same8 xs ys with
  | false => rfl
  | true => exact absurd ((same8_iff _ _).1 e) h
end Go.Proofs.YtlcdkponegmcdaaDoor
