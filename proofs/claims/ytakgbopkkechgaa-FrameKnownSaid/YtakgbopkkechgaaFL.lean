/- The laws FramePuts, FrameLong: what their calls do. Conditions: a heap that has a block. -/
import Derived.Test.YtakgbopkkechgaaFK
namespace Go.Proofs.Ytakgbopkkechgaa
open Go.RowKit
theorem ret_str {a b : ByteArray} (h : a = b) : Ending.returned (.string a) = .returned (.string b) := by rw [h]
theorem ba_take (s : ByteArray) (k : Nat) : s.extract 0 k = ba ((tl s).take k) := by
  apply ByteArray.ext; apply Array.ext'; simp [ba, tl]
theorem conv_is {w : World} {v : Value} {ys : List UInt8} {A : Option Addr} {cap bb off : Nat} {s : ByteArray} (h : Bytes w v ys A cap bb off) (e : ba ys = s) : (convert 22 9 v).run Try.prog w = .ok (.string s) w := by rw [← e]; exact conv_back h
/-- A text that is cut. -/
theorem cut_text (s : ByteArray) (k : Nat) : ∃ t : ByteArray, t.size ≤ k ∧ ((t = s ∧ (s.size : Int) ≤ (k : Int)) ∨ ((k : Int) < (s.size : Int) ∧ s.extract 0 k = t)) := by
  by_cases h : s.size ≤ k
  · exact ⟨s, h, .inl ⟨rfl, by omega⟩⟩
  · exact ⟨s.extract 0 k, by rw [ByteArray.size_extract]; omega, .inr ⟨by omega, rfl⟩⟩
set_option maxRecDepth 100000 in
set_option maxHeartbeats 2000000 in
theorem puts_law (kind : Int) (s : ByteArray) (w : World) (hp : 0 < w.heap.size) : Calls Try.prog 3 #[.int .i64 kind, .string s] w fun e w' => e = .returned (.bool true) ∧ Below w.heap.size w w' := by
  obtain ⟨t, ht, hc⟩ := cut_text s 20000
  have KC := conv_string t
  have KY := hid (fun w => conv_bytes t w)
  have KB := hid (fun w => conv_below t w)
  have KT : Hid (ba (tl t) = t) := ba_tl t
  have HP := hid hp
  have C1 : Hid (∀ w1 v A c bb off, Bytes w1 v (tl t) A c bb off → Calls Try.prog 11 #[.int .i64 kind, v] w1 fun e w' => ∃ v', e = .returned (.tuple #[v', .int .i64 (putE kind (tl t))]) ∧ Fresh w1.heap.size w' v' (putL kind (tl t)) ∧ Below w1.heap.size w1 w') := fun w1 v A c bb off h => fput_any kind v (tl t) A c bb off w1 h
  have C2 : Hid (∀ w1 v A c bb off, Bytes w1 v (tl t) A c bb off → Calls Try.prog 12 #[.int .i64 kind, v] w1 fun e w' => ∃ v', e = .returned (.tuple #[v', .int .i64 (putE kind (tl t))]) ∧ Fresh w1.heap.size w' v' (putL kind (tl t)) ∧ Below w1.heap.size w1 w') := fun w1 v A c bb off h => rput_any kind v (tl t) A c bb off w1 h
  generalize putE kind (tl t) = x at C1 C2
  generalize putL kind (tl t) = L at C1 C2
  have HT : Hid (t.size ≤ 20000) := ht
  clear hp ht
  rcases hc with ⟨rfl, hs⟩ | ⟨hs, e0⟩
  all_goals
    go_enter Try.func3, Try.ntmps3
    go_wp2_with (fail)
    refine (C1.out _ _ _ _ _ _ (KY.out _)).mono ?_
    rintro e1 w1 ⟨v1, rfl, hf1, hb1⟩
    have B1 : Hid (Below w.heap.size w w1) := (KB.out w).trans (hb1.mono (KB.out w).size)
    have O1 : Hid (Bytes w1 (.slice (some ⟨w.heap.size, 0, none⟩) t.size (grownCap w t.size 0 5)) (tl t) (some ⟨w.heap.size, 0, none⟩) (grownCap w t.size 0 5) w.heap.size 0) := (KY.out w).kept hb1 (Nat.le_refl _)
    obtain ⟨A1, c1, b1, y1, _, _⟩ := hf1.bytes (Nat.lt_of_lt_of_le HP.out B1.out.size)
    have Y1 := hid y1
    have ey1 := y1.form
    subst ey1
    clear hf1 hb1 y1
    go_wp2_with (fail)
    refine (C2.out _ _ _ _ _ _ (KY.out _)).mono ?_
    rintro e2 w2 ⟨v2, rfl, hf2, hb2⟩
    have B12 : Hid (Below w1.heap.size w1 w2) := (KB.out w1).trans (hb2.mono (KB.out w1).size)
    have B2 : Hid (Below w.heap.size w w2) := B1.out.trans (B12.out.mono B1.out.size)
    obtain ⟨A2, c2, b2, y2, _, _⟩ := hf2.bytes (Nat.lt_of_lt_of_le HP.out B2.out.size)
    have k2 := conv_back y2
    have ey2 := y2.form
    subst ey2
    have k1 := conv_back (Y1.out.kept B12.out (Nat.le_refl _))
    have k3 := conv_is (O1.out.kept B12.out (Nat.le_refl _)) KT.out
    have CW := hid (works_any w2 (Nat.lt_of_lt_of_le HP.out B2.out.size))
    generalize L.length = nL at *
    clear hf2 hb2 y2
    go_wp2_with (fail)
    refine CW.out.mono ?_
    rintro e3 w3 ⟨rfl, hb3⟩
    have B3 : Hid (Below w.heap.size w w3) := B2.out.trans (hb3.mono B2.out.size)
    clear hb3
    go_wp2
    go_ret
    exact ⟨rfl, B3.out⟩
end Go.Proofs.Ytakgbopkkechgaa
