/- path.find: where a text stands. Conditions: a world in which the listed variables lie, at most 4000 bytes. -/
import Derived.Test.YtlbeemlnbpchgaaGreatPD
namespace Go.Proofs.YtlbeemlnbpchgaaGreat
open Go.RowKit
theorem cutS_parts (l : List UInt8) : (cutS l).1.length ≤ l.length := (cutS_len l).2.1
theorem pieces_len (n : Nat) : ∀ l : List UInt8, l.length ≤ n → ∀ p ∈ pieces l, p.length ≤ l.length := by
  induction n with
  | zero => intro l h p hp; obtain rfl := List.length_eq_zero_iff.1 (Nat.le_zero.1 h); simp [pieces] at hp; simp [hp]
  | succ n ih =>
    intro l h p hp
    rw [pieces_cut] at hp
    have h1 := cutS_len l
    split at hp
    · rename_i hc
      rcases List.mem_cons.1 hp with rfl | hp
      · exact h1.2.1
      · exact Nat.le_trans (ih _ (by have := h1.2.2 hc; omega) p hp) h1.1
    · simp only [List.mem_singleton] at hp; subst hp; exact h1.2.1
theorem eachF_len (ps : List (List UInt8)) (m : Nat) (h : ∀ p ∈ ps, p.length ≤ m) : ∀ n b, b.length ≤ m → (eachF ps n b).2.2.length ≤ m := by
  induction ps with
  | nil => intro n b hb; exact hb
  | cons p ps ih =>
    intro n b hb
    unfold eachF
    split
    · exact ih (fun q hq => h q (List.mem_cons_of_mem _ hq)) _ _ (h p List.mem_cons_self)
    · exact h p List.mem_cons_self
theorem ba_take (s : ByteArray) (k : Nat) : s.extract 0 k = ba ((tl s).take k) := by
  apply ByteArray.ext; apply Array.ext'; simp [ba, tl]
theorem ba_drop (s : ByteArray) (k : Nat) : s.extract k s.size = ba ((tl s).drop k) := by
  apply ByteArray.ext; apply Array.ext'; simp [ba, tl]
  rw [List.take_of_length_le]; have := tl_length s; simp [tl] at this ⊢
/-- A place as a value. -/
abbrev plc (v : List UInt8 × List UInt8) : Value := .agg #[.string (ba v.1), .string (ba v.2)]
theorem findV_no {l : List UInt8} (h : mayB l = false) : findV l = ([], []) := by simp [findV, h]
theorem findV_yes {l : List UInt8} (h : mayB l = true) : findV l = (aheadL l, lastP l) := by simp [findV, h]
theorem iPlace : (Tryz.prog.info? 120).map (·.size) = some 2 := by kernel_rfl
set_option maxRecDepth 100000 in
set_option maxHeartbeats 1000000 in
theorem find_any (s : ByteArray) (w : World) (hG : Gd w) (hs : s.size ≤ 4000) :
    Calls Tryz.prog 91 #[.string s] w fun e w' => e = .returned (plc (findV (tl s))) ∧ Below w.heap.size w w' := by
  have hmf : ∀ (fn : Fn) (first cap : Array Value) (w : World), (Instr.makeFunc fn first cap).run Tryz.prog w = .ok (.func fn first cap) w := fun _ _ _ _ => rfl
  by_cases h160 : s.size ≤ 160
  · have g1 : ¬ ((160 : Int) < (s.size : Int)) := by omega
    have HG := hid hG
    have HG0 : Hid (Gd (w.alloc (.cells #[.string ⟨#[]⟩, .string ⟨#[]⟩] 120))) := hG.kept ((Below.refl _ _).alloc (Nat.le_refl _) _)
    clear hG
    obtain ⟨g, n', u, HR⟩ : ∃ g n' u, Hid (eachF (pieces (tl s)) 0 [] = (g, n', u)) := ⟨_, _, _, rfl⟩
    have hu : u.length ≤ s.size := by
      have := eachF_len (pieces (tl s)) (tl s).length (pieces_len _ (tl s) (Nat.le_refl _)) 0 [] (Nat.zero_le _)
      rw [HR.out, tl_length] at this; exact this
    obtain ⟨b, HB⟩ : ∃ b, Hid (ba u = b) := ⟨_, rfl⟩
    have hbs : b.size ≤ s.size := by rw [← HB.out, ba_size]; exact hu
    have HE : Hid (∀ W : World, Has W (w.heap.size + 1) 9 #[.string (ba [])] → Has W (w.heap.size + 2) 3 #[.int .i64 ((0 : Nat) : Int)] → Below (w.heap.size + 1) (w.alloc (.cells #[.string ⟨#[]⟩, .string ⟨#[]⟩] 120)) W →
        Calls Tryz.prog 126 #[.string s, .func (.func 127) #[] #[.pointer (some ⟨w.heap.size + 1, 0, none⟩), .pointer (some ⟨w.heap.size + 2, 0, none⟩)]] W fun e w' => e = .returned (.bool g) ∧ Has w' (w.heap.size + 1) 9 #[.string b] ∧ Below (w.heap.size + 1) (w.alloc (.cells #[.string ⟨#[]⟩, .string ⟨#[]⟩] 120)) w') := by
      intro W h1 h2 h3
      refine (each_any s (w.heap.size + 1) (w.heap.size + 2) [] 0 (w.alloc (.cells #[.string ⟨#[]⟩, .string ⟨#[]⟩] 120)) W HG0.out hs (by omega) h1 h2 (by omega) (by simpa using h3) (by simp) (by simp)).mono fun e w' h => ?_
      unfold EC at h
      rw [HR.out, HB.out] at h
      exact ⟨h.1, h.2.1, by simpa using h.2.2.2⟩
    have HZ : Hid (Has (w.alloc (.cells #[.string ⟨#[]⟩, .string ⟨#[]⟩] 120)) w.heap.size 120 #[.string ⟨#[]⟩, .string ⟨#[]⟩]) := Has.fresh _ _ _
    obtain ⟨k, HK⟩ : ∃ k : Nat, Hid (k = s.size - b.size - 1) := ⟨_, rfl⟩
    have hk1 : max (0 : Int) ((s.size : Int) - (b.size : Int) - 1) = (k : Int) := by have := HK.out; omega
    have hk2 : (k : Int) ≤ (s.size : Int) := by have := HK.out; omega
    cases g with
    | false =>
      have HF : Hid (findV (tl s) = ([], [])) := findV_no (by rw [mayB, ← goodB_each, HR.out]; simp)
      go_enter Tryz.func91, Tryz.ntmps91
      go_wp2_with (first
        | (go_at_call 126; refine (HE.out _ (Has.more (Has.fresh' _ _ _ (by simp)) _) (Has.fresh' _ _ _ (by simp)) ((Below.refl _ _).alloc (by simp) _ |>.alloc (by simp) _)).mono ?_; rintro e1 w1 ⟨rfl, hb1, hw1⟩
           have c1 : w1.cell? ⟨w.heap.size + 1, 0, none⟩ = some (.string b) := hb1.at_ 0
           have R1 : Hid (Has w1 w.heap.size 120 #[.string ⟨#[]⟩, .string ⟨#[]⟩]) := HZ.out.kept hw1 (by omega)
           have c2 : w1.cell? ⟨w.heap.size, 0, none⟩ = some (.string ⟨#[]⟩) := R1.out.at_ 0
           have c3 : w1.cell? ⟨w.heap.size, 1, none⟩ = some (.string ⟨#[]⟩) := R1.out.at_ 1
           have f2 := R1.out.free 0
           have f3 := R1.out.free 1
           have W1 := hid hw1
           clear hb1 hw1))
      refine bodyPost_ret (results_cell_row rfl _ _ w.heap.size 120 #[.string ⟨#[]⟩, .string ⟨#[]⟩] (0, 0) _ rfl ((R1.out.put 0 _).put 1 _) Tryz.underlying120 rfl iPlace) rfl ⟨by rw [HF.out]; rfl, ?_⟩
      exact ((((Below.refl _ _).alloc (Nat.le_refl _) _).trans (W1.out.mono (by omega))).setCell (Nat.le_refl _) _).setCell (Nat.le_refl _) _
    | true =>
      have hgood : goodB (tl s) = true := by rw [← goodB_each, HR.out]
      have hlast : tl b = lastP (tl s) := by rw [← goodB_base _ hgood, HR.out, ← HB.out]; rfl
      have hah : aheadL (tl s) = (tl s).take k := by rw [aheadL, HK.out, ← hlast, tl_length, tl_length]
      have HS : Hid (b = ba (lastP (tl s))) := by show _ = _; rw [← hlast, ba_tl]
      by_cases h111 : k ≤ 111
      · have HF : Hid (findV (tl s) = ((tl s).take k, lastP (tl s))) := by
          show _ = _
          rw [findV_yes, hah]
          rw [mayB, hgood, tl_length, hah, List.length_take, tl_length, decide_eq_true h160, decide_eq_true (by omega)]; rfl
        have g3 : ((min k s.size : Nat) : Int) ≤ 111 := by omega
        clear hgood hlast hah h111
        go_enter Tryz.func91, Tryz.ntmps91
        go_wp2_with (first
          | (go_at_call 126; refine (HE.out _ (Has.more (Has.fresh' _ _ _ (by simp)) _) (Has.fresh' _ _ _ (by simp)) ((Below.refl _ _).alloc (by simp) _ |>.alloc (by simp) _)).mono ?_; rintro e1 w1 ⟨rfl, hb1, hw1⟩
             have c1 : w1.cell? ⟨w.heap.size + 1, 0, none⟩ = some (.string b) := hb1.at_ 0
             have R1 : Hid (Has w1 w.heap.size 120 #[.string ⟨#[]⟩, .string ⟨#[]⟩]) := HZ.out.kept hw1 (by omega)
             have c2 : w1.cell? ⟨w.heap.size, 0, none⟩ = some (.string ⟨#[]⟩) := R1.out.at_ 0
             have c3 : w1.cell? ⟨w.heap.size, 1, none⟩ = some (.string ⟨#[]⟩) := R1.out.at_ 1
             have f2 := R1.out.free 0
             have f3 := R1.out.free 1
             have W1 := hid hw1
             clear hb1 hw1))
        refine bodyPost_ret (results_cell_row rfl _ _ w.heap.size 120 _ (0, 0) _ rfl ((R1.out.put 0 _).put 1 _) Tryz.underlying120 rfl iPlace) rfl ⟨?_, ?_⟩
        · rw [HF.out]
          show Ending.returned (.agg #[.string (s.extract 0 k), .string b]) = _
          rw [ba_take, HS.out]
        · exact ((((Below.refl _ _).alloc (Nat.le_refl _) _).trans (W1.out.mono (by omega))).setCell (Nat.le_refl _) _).setCell (Nat.le_refl _) _
      · have HF : Hid (findV (tl s) = ([], [])) := by
          show _ = _
          rw [findV_no]
          rw [mayB, hgood, tl_length, hah, List.length_take, tl_length, decide_eq_true h160, decide_eq_false (by have := HK.out; omega)]; rfl
        have g3 : ¬ (((min k s.size : Nat) : Int) ≤ 111) := by have := HK.out; omega
        clear hgood hlast hah h111
        go_enter Tryz.func91, Tryz.ntmps91
        go_wp2_with (first
          | (go_at_call 126; refine (HE.out _ (Has.more (Has.fresh' _ _ _ (by simp)) _) (Has.fresh' _ _ _ (by simp)) ((Below.refl _ _).alloc (by simp) _ |>.alloc (by simp) _)).mono ?_; rintro e1 w1 ⟨rfl, hb1, hw1⟩
             have c1 : w1.cell? ⟨w.heap.size + 1, 0, none⟩ = some (.string b) := hb1.at_ 0
             have R1 : Hid (Has w1 w.heap.size 120 #[.string ⟨#[]⟩, .string ⟨#[]⟩]) := HZ.out.kept hw1 (by omega)
             have c2 : w1.cell? ⟨w.heap.size, 0, none⟩ = some (.string ⟨#[]⟩) := R1.out.at_ 0
             have c3 : w1.cell? ⟨w.heap.size, 1, none⟩ = some (.string ⟨#[]⟩) := R1.out.at_ 1
             have f2 := R1.out.free 0
             have f3 := R1.out.free 1
             have W1 := hid hw1
             clear hb1 hw1))
        refine bodyPost_ret (results_cell_row rfl _ _ w.heap.size 120 #[.string ⟨#[]⟩, .string ⟨#[]⟩] (0, 0) _ rfl ((R1.out.put 0 _).put 1 _) Tryz.underlying120 rfl iPlace) rfl ⟨by rw [HF.out]; rfl, ?_⟩
        exact ((((Below.refl _ _).alloc (Nat.le_refl _) _).trans (W1.out.mono (by omega))).setCell (Nat.le_refl _) _).setCell (Nat.le_refl _) _
  · have g1 : (160 : Int) < (s.size : Int) := by omega
    have hf : mayB (tl s) = false := by simp [mayB, h160]
    have HF := hid (findV_no hf)
    clear hf hG
    go_enter Tryz.func91, Tryz.ntmps91
    go_wp2
    refine bodyPost_ret (results_cell_row rfl _ _ w.heap.size 120 #[.string ⟨#[]⟩, .string ⟨#[]⟩] (0, 0) _ rfl (Has.fresh _ _ _) Tryz.underlying120 rfl iPlace) rfl ⟨by rw [HF.out]; rfl, ?_⟩
    exact (Below.refl _ _).alloc (Nat.le_refl _) _
end Go.Proofs.YtlbeemlnbpchgaaGreat
