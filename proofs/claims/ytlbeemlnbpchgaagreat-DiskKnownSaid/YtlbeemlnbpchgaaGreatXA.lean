/- Several disks that live side by side, above a world's own blocks; what each call on one of them leaves. Conditions: as at the disk. -/
import Derived.Test.YtlbeemlnbpchgaaGreatWU
namespace Go.Proofs.YtlbeemlnbpchgaaGreat
open Go.RowKit Go.Maps
def AllD (w : World) : (Nat → Prop) → List (Nat × Mo) → Prop
  | _, [] => True
  | T, (p, M) :: ds => ∃ own, Dsk own w p M ∧ (∀ g, own g → T g) ∧ AllD w (fun g => T g ∧ ¬ own g) ds
theorem AllD.mono {w : World} : ∀ {ds : List (Nat × Mo)} {T T' : Nat → Prop}, AllD w T ds → (∀ g, g < w.heap.size → T g → T' g) → AllD w T' ds
  | [], _, _, _, _ => trivial
  | (_, _) :: _, _, _, ⟨own, h1, h2, h3⟩, h => ⟨own, h1, fun g hg => h g (h1.low g hg) (h2 g hg), h3.mono fun g hg k => ⟨h g hg k.1, k.2⟩⟩
theorem AllD.turn {w w' : World} {own2 : Nat → Prop} (hu : Turn own2 w w') (hl : ∀ g, own2 g → Loose w g) : ∀ {ds : List (Nat × Mo)} {T : Nat → Prop}, AllD w T ds → (∀ g, T g → ¬ own2 g) → AllD w' T ds
  | [], _, _, _ => trivial
  | (_, _) :: _, _, ⟨own, h1, h2, h3⟩, h => ⟨own, h1.turn hu hl (fun g hg => h g (h2 g hg)), h2, h3.turn hu hl fun g k => h g k.1⟩
structure Lv (w0 w : World) (ds : List (Nat × Mo)) : Prop where
  bl : Below w0.heap.size w0 w
  all : AllD w (fun g => w0.heap.size ≤ g) ds
section
variable {w0 w w' : World} {p q : Nat} {M K : Mo} {ds : List (Nat × Mo)}
theorem Lv.nil (w : World) : Lv w w [] := ⟨Below.refl _ _, trivial⟩
theorem Lv.on (h : Lv w0 w ds) (hb : Below w.heap.size w w') : Lv w0 w' ds :=
  ⟨h.bl.trans (hb.mono h.bl.size), h.all.turn (own2 := fun _ => False) (Turn.of_below hb) (fun _ k => k.elim) (fun _ _ k => k)⟩
theorem Lv.ahead (h : Lv w w' ds) (hb : Below w0.heap.size w0 w) : Lv w0 w' ds :=
  ⟨hb.trans (h.bl.mono hb.size), h.all.mono fun _ _ k => Nat.le_trans hb.size k⟩
theorem Lv.gd (h : Lv w0 w ds) (hG : Gd w0) : Gd w := hG.kept h.bl
theorem Lv.head (h : Lv w0 w ((p, M) :: ds)) : ∃ own, Dsk own w p M ∧ (∀ g, own g → w0.heap.size ≤ g) := by
  obtain ⟨own, h1, h2, h3⟩ := h.all; exact ⟨own, h1, h2⟩
theorem Lv.step (h : Lv w0 w ((p, M) :: ds)) : ∃ own, Dsk own w p M ∧ (∀ g, own g → w0.heap.size ≤ g) ∧ ∀ w' K, DPost own w p K w' → Lv w0 w' ((p, K) :: ds) := by
  obtain ⟨own, h1, h2, h3⟩ := h.all
  refine ⟨own, h1, h2, fun w' K k => ?_⟩
  obtain ⟨own', k1, k2, k3⟩ := k
  refine ⟨h.bl.trans (k2.below h2 h.bl.size), own', k1, fun g hg => ?_, ?_⟩
  · rcases k3 g hg with e | e
    · exact h2 g e
    · exact Nat.le_trans h.bl.size e
  · have := AllD.mono (T' := fun g => (w0.heap.size ≤ g ∧ ¬ own g) ∧ g < w.heap.size) h3 (fun g a b => ⟨b, a⟩)
    refine (this.turn k2 h1.loose fun g k => k.1.2).mono fun g _ k => ⟨k.1.1, fun e => ?_⟩
    rcases k3 g e with a | a
    · exact k.1.2 a
    · exact absurd k.2 (by omega)
theorem Lv.push (h : Lv w0 w ds) {own : Nat → Prop} (hd : Dsk own w' q K) (ho : ∀ g, own g → w.heap.size ≤ g) (hb : Below w.heap.size w w') : Lv w0 w' ((q, K) :: ds) := by
  refine ⟨h.bl.trans (hb.mono h.bl.size), own, hd, fun g hg => Nat.le_trans h.bl.size (ho g hg), ?_⟩
  have h1 := AllD.mono (T' := fun g => w0.heap.size ≤ g ∧ g < w.heap.size) h.all (fun g a b => ⟨b, a⟩)
  exact (h1.turn (own2 := fun _ => False) (Turn.of_below hb) (fun g k => k.elim) (fun g _ k => k)).mono fun g _ k => ⟨k.1, fun e => absurd (ho g e) (by have := k.2; omega)⟩
theorem Lv.swap (h : Lv w0 w ((p, M) :: (q, K) :: ds)) : Lv w0 w ((q, K) :: (p, M) :: ds) := by
  obtain ⟨own, h1, h2, own', h3, h4, h5⟩ := h.all
  exact ⟨h.bl, own', h3, fun g hg => (h4 g hg).1, own, h1, fun g hg => ⟨h2 g hg, fun e => (h4 g e).2 hg⟩, h5.mono fun g _ k => ⟨⟨k.1.1, k.2⟩, k.1.2⟩⟩
theorem Lv.drop (h : Lv w0 w ((p, M) :: ds)) : Lv w0 w ds := by
  obtain ⟨own, h1, h2, h3⟩ := h.all
  exact ⟨h.bl, h3.mono fun g _ k => k.1⟩
theorem Lv.good (h : Lv w0 w ((p, M) :: ds)) : Good M := by obtain ⟨own, h1, _⟩ := h.head; exact h1.good
variable (h : Lv w0 w ((q, M) :: ds)) (hG : Gd w0)
include h hG
theorem lWrite (p d : By) (tm : Int) (hp : p.length ≤ 4000) (hd : d.length ≤ 1000000) (hlen : M.since.length + 1 ≤ 100000) :
    Calls Tryz.prog 22 #[.pointer (some ⟨q, 0, none⟩), kS p, kS d, .int .i64 tm] w fun e w' => e = .returned (.int .i64 (doM M (.write p d tm)).1) ∧ Lv w0 w' ((q, (doM M (.write p d tm)).2) :: ds) := by
  obtain ⟨own, h1, _, h2⟩ := h.step
  exact (dWrite_any h1 (h.gd hG) p d tm hp hd hlen).mono fun e w' k => ⟨k.1, h2 _ _ k.2⟩
theorem lAppend (p d : By) (hp : p.length ≤ 4000) (hd : d.length ≤ 1000000) (hlen : M.since.length + 1 ≤ 100000) :
    Calls Tryz.prog 23 #[.pointer (some ⟨q, 0, none⟩), kS p, kS d] w fun e w' => e = .returned (.int .i64 (doM M (.append p d)).1) ∧ Lv w0 w' ((q, (doM M (.append p d)).2) :: ds) := by
  obtain ⟨own, h1, _, h2⟩ := h.step
  exact (dAppend_any h1 (h.gd hG) p d hp hd hlen).mono fun e w' k => ⟨k.1, h2 _ _ k.2⟩
theorem lLink (p d : By) (tm : Int) (hp : p.length ≤ 4000) (hd : d.length ≤ 1000000) (hlen : M.since.length + 1 ≤ 100000) :
    Calls Tryz.prog 32 #[.pointer (some ⟨q, 0, none⟩), kS p, kS d, .int .i64 tm] w fun e w' => e = .returned (.int .i64 (doM M (.link p d tm)).1) ∧ Lv w0 w' ((q, (doM M (.link p d tm)).2) :: ds) := by
  obtain ⟨own, h1, _, h2⟩ := h.step
  exact (dLink_any h1 (h.gd hG) p d tm hp hd hlen).mono fun e w' k => ⟨k.1, h2 _ _ k.2⟩
theorem lRename (p d : By) (hp : p.length ≤ 4000) (hd : d.length ≤ 4000) (hlen : M.since.length + 1 ≤ 100000) :
    Calls Tryz.prog 24 #[.pointer (some ⟨q, 0, none⟩), kS p, kS d] w fun e w' => e = .returned (.int .i64 (doM M (.rename p d)).1) ∧ Lv w0 w' ((q, (doM M (.rename p d)).2) :: ds) := by
  obtain ⟨own, h1, _, h2⟩ := h.step
  exact (dRename_any h1 (h.gd hG) p d hp hd hlen).mono fun e w' k => ⟨k.1, h2 _ _ k.2⟩
theorem lMkdir (p : By) (hp : p.length ≤ 4000) (hlen : M.since.length + 1 ≤ 100000) :
    Calls Tryz.prog 21 #[.pointer (some ⟨q, 0, none⟩), kS p] w fun e w' => e = .returned (.int .i64 (doM M (.mkdir p)).1) ∧ Lv w0 w' ((q, (doM M (.mkdir p)).2) :: ds) := by
  obtain ⟨own, h1, _, h2⟩ := h.step
  exact (dMkdir_any h1 (h.gd hG) p hp hlen).mono fun e w' k => ⟨k.1, h2 _ _ k.2⟩
theorem lRemove (p : By) (hp : p.length ≤ 4000) (hlen : M.since.length + 1 ≤ 100000) :
    Calls Tryz.prog 33 #[.pointer (some ⟨q, 0, none⟩), kS p] w fun e w' => e = .returned (.int .i64 (doM M (.remove p)).1) ∧ Lv w0 w' ((q, (doM M (.remove p)).2) :: ds) := by
  obtain ⟨own, h1, _, h2⟩ := h.step
  exact (dRemove_any h1 (h.gd hG) p hp hlen).mono fun e w' k => ⟨k.1, h2 _ _ k.2⟩
theorem lCrash (A : Option Addr) (ks : List UInt8) (cp g off : Nat) (hk : Pk w A ks g off) (hpk : 0 < ks.length → g < w0.heap.size) (hkl : ks.length ≤ 9223372036854775807) :
    Calls Tryz.prog 18 #[.pointer (some ⟨q, 0, none⟩), .slice A ks.length cp] w fun e w' => e = .returned (.int .i64 0) ∧ Lv w0 w' ((q, crashM M (nats ks)) :: ds) := by
  obtain ⟨own, h1, h3, h2⟩ := h.step
  have hp := hG.pos
  exact (dCrash_any h1 (h.gd hG) (fun g hg => by have := h3 g hg; omega) A ks cp g off hk (fun k e => by have := h3 g e; have := hpk k; omega) hkl).mono fun e w' k => ⟨k.1, h2 _ _ k.2⟩
theorem lRead (s : By) (hs : s.length ≤ 4000) :
    Calls Tryz.prog 34 #[.pointer (some ⟨q, 0, none⟩), kS s] w fun e w' => ReadP w (readM M.now s) e w' := by
  obtain ⟨own, h1, _⟩ := h.head
  exact dRead_any h1 (h.gd hG) s hs
omit hG
theorem lFuse (n : Int) (hn : n ≤ 9223372036854775807) :
    Calls Tryz.prog 36 #[.pointer (some ⟨q, 0, none⟩), .int .i64 n] w fun e w' => e = .returned (.int .i64 (fuseM M n).1) ∧ Lv w0 w' ((q, (fuseM M n).2) :: ds) := by
  obtain ⟨own, h1, _, h2⟩ := h.step
  exact (dFuse_any h1 n hn).mono fun e w' k => ⟨k.1, h2 _ _ k.2⟩
theorem lSync :
    Calls Tryz.prog 29 #[.pointer (some ⟨q, 0, none⟩)] w fun e w' => e = .returned (.int .i64 (syncM M).1) ∧ Lv w0 w' ((q, (syncM M).2) :: ds) := by
  obtain ⟨own, h1, _, h2⟩ := h.step
  exact (dSync_any h1).mono fun e w' k => ⟨k.1, h2 _ _ k.2⟩
theorem lPaths : Calls Tryz.prog 26 #[.pointer (some ⟨q, 0, none⟩)] w fun e w' => NamesP w (pathsL M.now) e w' := by
  obtain ⟨own, h1, _⟩ := h.head
  exact dPaths_any h1
theorem lUsed : Calls Tryz.prog 27 #[.pointer (some ⟨q, 0, none⟩)] w fun e w' => e = .returned (.int .i64 ((usedL M.now : Nat) : Int)) ∧ w = w' := by
  obtain ⟨own, h1, _⟩ := h.head
  exact dUsed_any h1
theorem lRoom : Calls Tryz.prog 35 #[.pointer (some ⟨q, 0, none⟩)] w fun e w' => e = .returned (.int .i64 (M.room : Int)) ∧ w = w' := by
  obtain ⟨own, h1, _⟩ := h.head
  exact dRoom_any h1
theorem lPending : Calls Tryz.prog 28 #[.pointer (some ⟨q, 0, none⟩)] w fun e w' => e = .returned (.int .i64 (M.since.length : Int)) ∧ w = w' := by
  obtain ⟨own, h1, _⟩ := h.head
  exact dPending_any h1
theorem lOff : Calls Tryz.prog 37 #[.pointer (some ⟨q, 0, none⟩)] w fun e w' => e = .returned (.bool (M.fuse == 0)) ∧ w = w' := by
  obtain ⟨own, h1, _⟩ := h.head
  exact dOff_is h1
/-- A copy goes ahead of the rest. -/
theorem lCopy : Calls Tryz.prog 17 #[.pointer (some ⟨q, 0, none⟩)] w fun e w' => ∃ p, e = .returned (.pointer (some ⟨p, 0, none⟩)) ∧ Lv w0 w' ((p, M) :: (q, M) :: ds) := by
  obtain ⟨own, h1, _⟩ := h.head
  refine (dCopy_any h1).mono ?_
  rintro e w' ⟨own', p, rfl, k1, k2, k3⟩
  exact ⟨p, rfl, h.push k1 k2 k3⟩
end
theorem lNew {w0 w : World} {ds : List (Nat × Mo)} (h : Lv w0 w ds) (room : Nat) (r0 : 1024 ≤ room) (r1 : room ≤ 1048576) :
    Calls Tryz.prog 10 #[.int .i64 (room : Int)] w fun e w' => ∃ p, e = .returned (.tuple #[.pointer (some ⟨p, 0, none⟩), .int .i64 0]) ∧ Lv w0 w' ((p, newM room) :: ds) := by
  refine (dNew_any room w r0 r1).mono ?_
  rintro e w' ⟨own, p, rfl, k1, k2, k3⟩
  exact ⟨p, rfl, h.push k1 k2 k3⟩
end Go.Proofs.YtlbeemlnbpchgaaGreat
