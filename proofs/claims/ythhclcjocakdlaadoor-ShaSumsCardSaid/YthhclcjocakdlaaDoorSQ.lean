/- The law ShaSums: what its call does. Conditions: the listed table; bytes that lie in a block. -/
import Derived.Test.YthhclcjocakdlaaDoorSP
import Derived.Test.YthhclcjocakdlaaDoorZL
namespace Go.Proofs.YthhclcjocakdlaaDoor.Sha
open Go.RowKit
theorem conv_nil (w : World) : (convert 22 9 (.slice none 0 0)).run Tryd.prog w = .ok (.string ⟨#[]⟩) w := by kernel_rfl
theorem conv_back {w : World} {v : Value} {ys : List UInt8} {A : Option Addr} {cap bb off : Nat} (h : Bytes w v ys A cap bb off) (hm : ys.length ≤ 100000) : (convert 22 9 v).run Tryd.prog w = .ok (.string ⟨ys.toArray⟩) w := by
  have e := h.form
  cases A with
  | none =>
    have hc := h.zero rfl
    have hl := h.le
    have h0 : ys = [] := List.eq_nil_of_length_eq_zero (by omega)
    subst h0
    rw [e, hc]
    exact conv_nil w
  | some a =>
    rw [e]
    have := run_convert_bytes_back (P := Tryd.prog) w 22 9 5 a cap ys Tryd.underlying22 Tryd.underlying5 Tryd.underlying9 (fun j hj => by
      rw [h.at_ a rfl j hj, V8, b8, at8, List.getD, List.getElem?_eq_getElem hj]; rfl)
    exact this
theorem own_bytes {w : World} {B g c : Nat} {ys : List UInt8} {n : Nat} (hn : ys.length = n) (h : w.ownsRow B 5 1 (.slice (some ⟨g, 0, none⟩) n c) n (ys.map V8)) : Bytes w (.slice (some ⟨g, 0, none⟩) n c) ys (some ⟨g, 0, none⟩) c g 0 := by
  have hc := h.cells (g := g) rfl
  have hl := (h.lt g rfl).2
  have hle : n ≤ c := by
    rcases h.2 with ⟨h1, _⟩ | ⟨g', c', cur, h1, _, _, h4, _⟩
    · cases h1
    · cases h1; exact h4
  refine ⟨by rw [hn], by rw [hn]; exact hle, (fun h => by cases h), fun a ha j hj => ?_, hl, fun _ => rfl⟩
  cases ha
  exact hc j _ (by rw [List.getElem?_map, List.getElem?_eq_getElem hj]; simp [at8, List.getD, List.getElem?_eq_getElem hj])
set_option maxRecDepth 100000 in
set_option maxHeartbeats 400000 in
theorem sums_large (A : Option Addr) (n cap : Nat) (hn : 20000 < n) (w : World) (hT : Tab w) :
    Calls Tryd.prog 3 #[.slice A n cap] w fun e w' => e = .returned (.bool true) ∧ Below w.heap.size w w' := by
  have h1 : (20000 : Int) < (n : Int) := by omega
  have HT := hid hT
  clear hT
  go_enter Tryd.func3, Tryd.ntmps3
  go_wp2_with (go_at_call 14; refine (awake_any _ HT.out).mono ?_; rintro ee w8 ⟨rfl, hb8⟩)
  go_ret
  exact ⟨rfl, hb8⟩
set_option maxRecDepth 100000 in
set_option maxHeartbeats 1000000 in
theorem sums_small (ys : List UInt8) (A : Option Addr) (n cap bb off : Nat) (hn : ys.length = n) (hm : n ≤ 20000) (w : World) (hs : Bytes w (.slice A n cap) ys A cap bb off) (hT : Tab w) :
    Calls Tryd.prog 3 #[.slice A n cap] w fun e w' => e = .returned (.bool true) ∧ Below w.heap.size w w' := by
  have h1 : ¬ (20000 : Int) < (n : Int) := by omega
  obtain ⟨g, c, w1, hr, ho, hb, hg1, hg2⟩ := own_append w hs (by omega)
  rw [hn] at hr ho
  have hob := own_bytes hn ho
  obtain ⟨r, hr0⟩ : ∃ r, shaL ys = r := ⟨_, rfl⟩
  have RL : Hid (r.length = 32) := by show _ = _; rw [← hr0]; exact fin_len _
  have hpos := hT.pos
  have T1 : Hid (Tab w1) := hT.kept hb hpos
  have CS : Hid (Calls Tryd.prog 15 #[.slice (some ⟨g, 0, none⟩) n c] w1 fun e w' => e = .returned (.agg (bvec r)) ∧ Below w1.heap.size w1 w') := by
    rw [← hr0]
    exact sum_any g 0 n c _ ys w1 T1.out hob.blk hn (by have := hob.le; omega) (by omega) (fun j hj => by have := hob.cells j (by omega); exact this) (fun _ => rfl)
  have CR : Hid (∀ w2, Below w.heap.size w w2 → Calls Tryd.prog 16 #[.slice A n cap] w2 fun e w' => e = .returned (.agg (bvec r)) ∧ Below w2.heap.size w2 w') := fun w2 hb2 => by
    rw [← hr0]; exact refSum_any ys A n cap bb off w2 hn (by omega) (hs.kept hb2 (Nat.le_refl _))
  have heq : ∀ w, (binOp .eql 25 (.agg (bvec r)) (.agg (bvec r))).run Tryd.prog w = .ok (.bool true) w := fun w => by rw [run_hash_eql r r RL.out RL.out w, sameL_refl]
  have HS := hid hs
  have HO := hid hob
  have HB := hid hb
  have HRUN := hid hr
  have HN : Hid (ys.length ≤ 100000) := by show _ ≤ _; omega
  have HT := hid hT
  have HP := hid hpos
  clear hr ho hb hob hr0 hs hT hpos hn
  go_enter Tryd.func3, Tryd.ntmps3
  go_wp2_with (first
    | (refine wpList_append_run rfl (.tmp 8) (.tmp 9) 22 rfl ?_
       refine ⟨_, w1, HRUN.out, ?_⟩)
    | (go_at_call 15; refine CS.out.mono ?_; rintro e2 w2 ⟨rfl, hb2⟩
       have B2 : Hid (Below w.heap.size w w2) := HB.out.trans (hb2.mono HB.out.size)
       have O2 := hid (HO.out.kept hb2 (Nat.le_refl _))
       clear hb2)
    | (go_at_call 16; refine (CR.out w2 B2.out).mono ?_; rintro e3 w3 ⟨rfl, hb3⟩
       have B3 : Hid (Below w.heap.size w w3) := B2.out.trans (hb3.mono B2.out.size)
       have k1 := conv_back (O2.out.kept hb3 (Nat.le_refl _)) HN.out
       have k2 := conv_back (HS.out.kept B3.out (Nat.le_refl _)) HN.out
       have T3 : Hid (Tab w3) := HT.out.kept B3.out HP.out
       clear hb3 O2)
    | (go_at_call 14; refine (awake_any _ T3.out).mono ?_; rintro e8 w8 ⟨rfl, hb8⟩))
  go_ret
  exact ⟨rfl, B3.out.trans (hb8.mono B3.out.size)⟩
theorem sums_any (ys : List UInt8) (A : Option Addr) (n cap bb off : Nat) (hn : ys.length = n) (w : World) (hs : Bytes w (.slice A n cap) ys A cap bb off) (hT : Tab w) :
    Calls Tryd.prog 3 #[.slice A n cap] w fun e w' => e = .returned (.bool true) ∧ Below w.heap.size w w' := by
  rcases Nat.lt_or_ge 20000 n with h | h
  · exact sums_large A n cap h w hT
  · exact sums_small ys A n cap bb off hn h w hs hT
end Go.Proofs.YthhclcjocakdlaaDoor.Sha
