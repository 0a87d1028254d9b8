/- The document's Parts and Same, and the walk of the law PathMays. Conditions: a world in which the listed variables lie; a list of texts as it comes in. -/
import Derived.Test.YthhclcjocakdlaaDoorPS
import Derived.Test.YthhclcjocakdlaaDoorPP
namespace Go.Proofs.YthhclcjocakdlaaDoor
open Go.RowKit
set_option maxRecDepth 100000 in
set_option maxHeartbeats 400000 in
theorem rparts_any (s : ByteArray) (w : World) (hs : s.size ≤ 4000) :
    Calls Tryd.prog 26 #[.string s] w fun e w' => ∃ v, e = .returned v ∧ w'.ownsRow w.heap.size 9 1 v (partsL (tl s)).length ((partsL (tl s)).map S9) ∧ Below w.heap.size w w' := by
  obtain ⟨m, hm⟩ : ∃ m, mayB (tl s) = m := ⟨_, rfl⟩
  have HM := hid hm
  have HP := hid (fun W => rpieces_any s W hs)
  cases m with
  | false =>
    have HV : Hid (partsL (tl s) = []) := by show _ = _; rw [partsL, hm]; rfl
    clear hm
    go_enter Tryd.func26, Tryd.ntmps26
    go_wp2_with (go_at_call 23; refine (rmay_v s false HM _ hs).mono ?_; rintro e1 w1 ⟨rfl, hb1⟩; have B1 := hid hb1; clear hb1)
    go_ret
    refine ⟨_, rfl, ?_, B1.out⟩
    rw [HV.out]; exact World.ownsRow_nil _ _ _ _
  | true =>
    have HV : Hid (partsL (tl s) = pieces (tl s)) := by show _ = _; rw [partsL, hm]; rfl
    clear hm
    go_enter Tryd.func26, Tryd.ntmps26
    go_wp2_with fail
    refine (rmay_v s true HM _ hs).mono ?_; rintro e1 w1 ⟨rfl, hb1⟩; have B1 := hid hb1; clear hb1
    go_wp2_with fail
    refine (HP.out _).mono ?_
    rintro e2 w2 ⟨v, rfl, ho, hb2⟩
    have HO := hid ho
    have B2 : Hid (Below w.heap.size w w2) := B1.out.trans (hb2.mono B1.out.size)
    clear ho hb2
    go_wp2
    go_ret
    refine ⟨_, rfl, ?_, B2.out⟩
    rw [HV.out]
    have h := HO.out
    refine ⟨h.1, ?_⟩
    rcases h.2 with hn | ⟨g, cap, cur, rfl, hle, rest⟩
    · exact .inl hn
    · exact .inr ⟨g, cap, cur, rfl, by have := B1.out.size; omega, rest⟩
set_option maxRecDepth 100000 in
set_option maxHeartbeats 400000 in
theorem rsame_any (A B : Option Addr) (xs : List (List UInt8)) (n g h c d : Nat) (w : World) (h1 : Sl w A xs g c) (h2 : Sl w B xs h d) (hn : xs.length = n) (h9 : n ≤ 4001) :
    Calls Tryd.prog 24 #[.slice A n c, .slice B n d] w fun e w' => e = .returned (.bool true) ∧ Below w.heap.size w w' := by
  have HN := hid hn; have H1 := hid h1; have H2 := hid h2
  by_cases h0 : n = 0
  · subst h0
    clear hn h1 h2
    go_enter Tryd.func24, Tryd.ntmps24
    go_wp2
    go_loopw [5] (fun i wr => i = .int .i64 0 ∧ w = wr) (fun _ _ => 0)
    case atStart => exact ⟨rfl, rfl⟩
    case round =>
      obtain ⟨rfl, rfl⟩ := hrel
      go_wp2
      go_ret
      exact ⟨rfl, Below.refl _ _⟩
  · obtain rfl := h1.src (by omega)
    obtain rfl := h2.src (by omega)
    clear hn h1 h2
    go_enter Tryd.func24, Tryd.ntmps24
    go_wp2
    go_loopw [5] (fun i wr => ∃ k : Nat, k ≤ n ∧ i = .int .i64 (k : Int) ∧ Hid (Below w.heap.size w wr)) (fun i _ => n - (intOf i).toNat)
    case atStart => exact ⟨0, by omega, rfl, Below.refl _ _⟩
    case round =>
      obtain ⟨k, hk, rfl, HB⟩ := hrel
      by_cases hlt : k < n
      · have hlt' : k < xs.length := by rw [HN.out]; exact hlt
        obtain ⟨x, hx⟩ : ∃ x, ba (xs.getD k []) = x := ⟨_, rfl⟩
        have c1 : wr.cell? ⟨g, k, none⟩ = some (.string x) := (HB.out.cell (p := ⟨g, k, none⟩) H1.out.blk).trans (by rw [H1.out.at_ k hlt', S9, hx])
        have c2 : wr.cell? ⟨h, k, none⟩ = some (.string x) := (HB.out.cell (p := ⟨h, k, none⟩) H2.out.blk).trans (by rw [H2.out.at_ k hlt', S9, hx])
        have d1 : wr.drew.cell? ⟨g, k, none⟩ = some (.string x) := c1
        have d2 : wr.drew.cell? ⟨h, k, none⟩ = some (.string x) := c2
        have b1 : (k : Int) < (n : Int) := by omega
        have b0 : (0 : Int) ≤ (k : Int) := by omega
        clear hlt' hx
        go_wp2
        go_quiet (fail)
        go_wp2
        go_roundw
        case rel => exact ⟨k + 1, by omega, by go_num, HB.out.drewN' _⟩
        case measure => simp [intOf]; omega
      · have b1 : ¬ (k : Int) < (n : Int) := by omega
        go_wp2
        go_ret
        exact ⟨rfl, HB.out⟩
end Go.Proofs.YthhclcjocakdlaaDoor
