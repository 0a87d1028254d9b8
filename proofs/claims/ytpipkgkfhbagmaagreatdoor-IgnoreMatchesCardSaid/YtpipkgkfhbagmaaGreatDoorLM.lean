/- The laws of files of patterns: works: what the call does; one file, two files laid out. Conditions: a world in shape. -/
import Derived.Test.YtpipkgkfhbagmaaGreatDoorLL
namespace Go.Proofs.YtpipkgkfhbagmaaGreatDoor.Glob
open Go.RowKit Go.Maps
def isOk (g : Except Int (List By)) (l : List By) : Bool := match g with | .ok q => q == l | .error _ => false
theorem isOk_eq {g : Except Int (List By)} {l : List By} (h : isOk g l = true) : g = .ok l := by
  cases g with
  | error e => cases h
  | ok q => simp only [isOk, beq_iff_eq] at h; rw [h]
def isErr (g : Except Int (List By)) (c : Int) : Bool := match g with | .ok _ => false | .error e => e == c
theorem isErr_eq {g : Except Int (List By)} {c : Int} (h : isErr g c = true) : g = .error c := by
  cases g with
  | error e => simp only [isErr, beq_iff_eq] at h; rw [h]
  | ok q => cases h
theorem files_one (w : World) (n t : By) : FilesIs (w.alloc (.cells #[.string (ba n), .string (ba t)] 51)) (.slice (some ⟨w.heap.size, 0, none⟩) 1 1) [(n, t)] :=
  ⟨rfl, .inr ⟨w.heap.size, 1, #[.string (ba n), .string (ba t)], rfl, Nat.zero_le _, heap_alloc_new w _, Nat.le_refl _, by unfold maxLen; omega, rfl, rfl⟩⟩
theorem files_two (w : World) (n t m u : By) : FilesIs (w.alloc (.cells #[.string (ba n), .string (ba t), .string (ba m), .string (ba u)] 51)) (.slice (some ⟨w.heap.size, 0, none⟩) 2 2) [(n, t), (m, u)] :=
  ⟨rfl, .inr ⟨w.heap.size, 2, #[.string (ba n), .string (ba t), .string (ba m), .string (ba u)], rfl, Nat.zero_le _, heap_alloc_new w _, Nat.le_refl _, by unfold maxLen; omega, rfl, rfl⟩⟩
/-- Parse of one file that is laid out for it. -/
theorem parse_one (n t name : By) (w : World) (hG : Gd w) (hn : n.length ≤ 100000) (ht : t.length ≤ 100000) (hm : name.length ≤ 100000) :
    Calls Tryz.prog 4 #[.slice (some ⟨w.heap.size, 0, none⟩) 1 1, .string (ba name)] (w.alloc (.cells #[.string (ba n), .string (ba t)] 51)) fun e W => ParseOut w.heap.size [(n, t)] name e W ∧ Below w.heap.size w W := by
  have hb : Below w.heap.size w (w.alloc (.cells #[.string (ba n), .string (ba t)] 51)) := (Below.refl _ _).alloc (Nat.le_refl _) _
  refine (iparse_any [(n, t)] name _ _ (hG.kept hb) (files_one w n t) (by simp) (fun i hi => by simp at hi; subst hi; exact hn) (fun i hi => by simp at hi; subst hi; exact ht) (by omega)).mono fun e W ⟨h1, h2⟩ => ⟨?_, hb.thenG h2⟩
  unfold ParseOut at h1 ⊢
  cases hr : readL [(n, t)] 4 [] name [] with
  | error c => rw [hr] at h1; exact h1
  | ok qs =>
    rw [hr] at h1
    obtain ⟨L, a1, a2, a3, a4⟩ := h1
    have hs := hb.size
    refine ⟨L, a1, by omega, ?_, a4⟩
    obtain ⟨v, k1, gs, k2, k3⟩ := a3
    exact ⟨v, k1, gs, own_mono k2 hs, k3⟩
theorem parse_two (n t m u name : By) (w : World) (hG : Gd w) (hn : n.length ≤ 100000) (ht : t.length ≤ 100000) (hm : m.length ≤ 100000) (hu : u.length ≤ 100000) (hnm : name.length ≤ 100000) :
    Calls Tryz.prog 4 #[.slice (some ⟨w.heap.size, 0, none⟩) 2 2, .string (ba name)] (w.alloc (.cells #[.string (ba n), .string (ba t), .string (ba m), .string (ba u)] 51)) fun e W => ParseOut w.heap.size [(n, t), (m, u)] name e W ∧ Below w.heap.size w W := by
  have hb : Below w.heap.size w (w.alloc (.cells #[.string (ba n), .string (ba t), .string (ba m), .string (ba u)] 51)) := (Below.refl _ _).alloc (Nat.le_refl _) _
  refine (iparse_any [(n, t), (m, u)] name _ _ (hG.kept hb) (files_two w n t m u) (by simp) (fun i hi => ?_) (fun i hi => ?_) (by omega)).mono fun e W ⟨h1, h2⟩ => ⟨?_, hb.thenG h2⟩
  · match i, hi with
    | 0, _ => exact hn
    | 1, _ => exact hm
    | i + 2, hi => exact absurd hi (by simp)
  · match i, hi with
    | 0, _ => exact ht
    | 1, _ => exact hu
    | i + 2, hi => exact absurd hi (by simp)
  · unfold ParseOut at h1 ⊢
    cases hr : readL [(n, t), (m, u)] 4 [] name [] with
    | error c => rw [hr] at h1; exact h1
    | ok qs =>
      rw [hr] at h1
      obtain ⟨L, a1, a2, a3, a4⟩ := h1
      have hs := hb.size
      refine ⟨L, a1, by omega, ?_, a4⟩
      obtain ⟨v, k1, gs, k2, k3⟩ := a3
      exact ⟨v, k1, gs, own_mono k2 hs, k3⟩
def wkT : By := [47, 47, 32, 97, 108, 108, 10, 33, 107, 101, 101, 112, 46, 116, 109, 112, 10, 40, 63, 100, 41, 42, 46, 116, 109, 112]
def wkL : List By := [[33, 107, 101, 101, 112, 46, 116, 109, 112], [40, 63, 100, 41, 42, 46, 116, 109, 112]]
set_option maxRecDepth 100000 in
theorem wk1 : isOk (readL [([105], wkT)] 4 [] [105] []) wkL = true := by decide +kernel
set_option maxRecDepth 100000 in
theorem wk2 : matL wkL [100, 47, 120, 46, 116, 109, 112] = (true, true) := by decide +kernel
set_option maxRecDepth 100000 in
theorem wk3 : matL wkL [107, 101, 101, 112, 46, 116, 109, 112] = (false, false) := by decide +kernel
set_option maxRecDepth 100000 in
set_option maxHeartbeats 1000000 in
theorem works_any (w : World) (hG : Gd w) : Calls Tryz.prog 9 #[] w fun e w' => e = .returned (.bool true) ∧ Below w.heap.size w w' := by
  have HG := hid hG
  have HP : Hid (Calls Tryz.prog 4 #[.slice (some ⟨w.heap.size, 0, none⟩) 1 1, .string ⟨#[105]⟩] (w.alloc (.cells #[.string ⟨#[105]⟩, .string ⟨#[47, 47, 32, 97, 108, 108, 10, 33, 107, 101, 101, 112, 46, 116, 109, 112, 10, 40, 63, 100, 41, 42, 46, 116, 109, 112]⟩] 51)) fun e W => ParseOut w.heap.size [([105], wkT)] [105] e W ∧ Below w.heap.size w W) := parse_one [105] wkT [105] w hG (by decide) (by decide) (by decide)
  clear hG
  go_enter Tryz.func9, Tryz.ntmps9
  go_wp2_with (fail)
  refine HP.out.mono ?_
  rintro e1 w1 ⟨h1, hb1⟩
  unfold ParseOut at h1
  rw [isOk_eq wk1] at h1
  obtain ⟨L, rfl, _, hL, _⟩ := h1
  have HB1 := hid hb1
  have HL := hid hL
  have HM1 : Hid (Calls Tryz.prog 7 #[ptrV L, .string ⟨#[100, 47, 120, 46, 116, 109, 112]⟩] w1 fun e w' => e = .returned (.tuple #[.bool true, .bool true]) ∧ Below w1.heap.size w1 w') := by
    have := imatch_any w.heap.size L wkL [100, 47, 120, 46, 116, 109, 112] w1 (HG.out.kept hb1) hL (by decide) (by decide)
    rw [wk2] at this; exact this
  unfold ptrV at HM1
  unfold ptrV
  clear hb1 hL
  go_wp2_with (fail)
  refine HM1.out.mono ?_
  rintro e2 w2 ⟨rfl, hb2⟩
  have HB2 : Hid (Below w.heap.size w w2) := HB1.out.thenG hb2
  have HL2 := hid (HL.out.below hb2)
  have HM2 : Hid (Calls Tryz.prog 7 #[ptrV L, .string ⟨#[107, 101, 101, 112, 46, 116, 109, 112]⟩] w2 fun e w' => e = .returned (.tuple #[.bool false, .bool false]) ∧ Below w2.heap.size w2 w') := by
    have := imatch_any w.heap.size L wkL [107, 101, 101, 112, 46, 116, 109, 112] w2 (HG.out.kept HB2.out) HL2.out (by decide) (by decide)
    rw [wk3] at this; exact this
  unfold ptrV at HM2
  clear hb2
  go_wp2_with (fail)
  refine HM2.out.mono ?_
  rintro e3 w3 ⟨rfl, hb3⟩
  have HB3 : Hid (Below w.heap.size w w3) := HB2.out.thenG hb3
  have HLE := hid (len_any w.heap.size L wkL w3 (HL2.out.below hb3))
  have hl2 : ((wkL.length : Nat) : Int) = 2 := rfl
  rw [hl2] at HLE
  unfold ptrV at HLE
  clear hb3
  go_wp2_with (go_at_call 28; refine HLE.out.mono ?_; rintro e4 w4 ⟨rfl, rfl⟩)
  go_ret
  exact ⟨rfl, HB3.out⟩
end Go.Proofs.YtpipkgkfhbagmaaGreatDoor.Glob
