/- The program's link and the document's side by side: what their calls do. No conditions but the ones said. -/
import Derived.Test.YtcfmjebnjjpajaaNL
namespace Go.Proofs.Ytcfmjebnjjpajaa
open Go.RowKit
/-- The program's link, with xs and e, and the document's, with ys and f, live apart. -/
def Two (w0 w : World) (p q : Nat) (xs : Nat → List UInt8) (e : Nat) (o : Nat → Option Nat) (x : Nat × Nat) (ys : Nat → List UInt8) (f : Nat) (b : Nat → Nat) : Prop :=
  Sk w0 w p xs e o x ∧ Dq w q ys f b ∧ w0.heap.size ≤ q ∧ 0 < w0.heap.size ∧ ¬ Owns p o q ∧ ∀ k, k < 2 → ¬ Owns p o (b k)
/-- The block is neither link's. -/
def Free (p q : Nat) (o : Nat → Option Nat) (b : Nat → Nat) (g : Nat) : Prop := ¬ Owns p o g ∧ g ≠ q ∧ ∀ k, k < 2 → g ≠ b k
/-- All old blocks but the links' are as they were, and stay apart from them. -/
def Kept (p q : Nat) (o : Nat → Option Nat) (b : Nat → Nat) (o' : Nat → Option Nat) (b' : Nat → Nat) (w w' : World) : Prop :=
  w.heap.size ≤ w'.heap.size ∧ ∀ g, 0 < g → g < w.heap.size → Free p q o b g → w'.heap[g]? = w.heap[g]? ∧ Free p q o' b' g
section
variable {w0 w w' : World} {p q : Nat} {xs xs' ys ys' : Nat → List UInt8} {e e' f f' : Nat} {o o' : Nat → Option Nat} {x x' : Nat × Nat} {b b' : Nat → Nat}
theorem Two.below (h : Two w0 w p q xs e o x ys f b) : Below w0.heap.size w0 w := h.1.1
theorem Two.weak (h : Two w0 w p q xs e o x ys f b) : Two w0 w p q xs e o (0, 0) ys f b := ⟨h.1.weak, h.2⟩
theorem Two.kept (h : Two w0 w p q xs e o x ys f b) (hb : Below w.heap.size w w') : Two w0 w' p q xs e o x ys f b := ⟨h.1.kept hb, h.2.1.kept hb (Nat.le_refl _), h.2.2⟩
theorem Two.qpos (h : Two w0 w p q xs e o x ys f b) : 0 < q := Nat.lt_of_lt_of_le h.2.2.2.1 h.2.2.1
theorem Two.new (h : Two w0 w p q xs e o x ys f b) {g : Nat} (hg : w.heap.size ≤ g) : Free p q o b g :=
  ⟨fun hO => by have := h.1.lt hO; omega, fun e => by have := h.2.1.inside; omega, fun k hk e => by have := h.2.1.blk hk; omega⟩
theorem Two.free (h : Two w0 w p q xs e o x ys f b) {g : Nat} (hg : Free p q o b g) (h0 : w0.heap.size ≤ g) (hc : Grw g w w') : Two w0 w' p q xs e o x ys f b := by
  refine ⟨⟨Grw.below h.1.1 hc h0 h.1.1.size, h.1.2.1, h.1.2.2.1, h.1.lk.same ?_ (fun k i hk hi => ?_)⟩, ?_, h.2.2⟩
  · exact hc.block p h.1.lk.inside (fun e => hg.1 (.inl (Option.some.inj e).symm))
  · exact hc.block i (h.1.lk.row hk hi) (fun e => hg.1 (.inr ⟨k, hk, by rw [← Option.some.inj e]; exact hi⟩))
  · obtain ⟨v, k1, k2⟩ := h.2.1
    exact ⟨v, k1.grw hc (Ne.symm hg.2.1), fun k hk => ⟨by obtain ⟨⟨A, c, i, h4⟩, _⟩ := k2 k hk; exact ⟨A, c, i, h4.grw hc (Ne.symm (hg.2.2 k hk))⟩, (k2 k hk).2⟩⟩
theorem Owns.step {k : Nat} {o1 : Option Nat} {g : Nat} (hn : Nx (o k) o1 w) (hg : g < w.heap.size) (hk : k < 2) (h : Owns p (upd o k o1) g) : Owns p o g := by
  rcases h with rfl | ⟨j, hj, h⟩
  · exact .inl rfl
  · by_cases hjk : j = k
    · subst hjk
      rw [upd_at] at h
      rcases hn with e | e | ⟨i, e, hi⟩
      · exact .inr ⟨j, hk, e ▸ h⟩
      · rw [e] at h; cases h
      · rw [e] at h; cases h; omega
    · rw [upd_ne _ _ hjk] at h
      exact .inr ⟨j, hj, h⟩
/-- The program's call that turns a stream. -/
theorem Two.stepA {k : Nat} {o1 : Option Nat} (h : Two w0 w p q xs e o x ys f b) (hk : k < 2) (hs : Sk w0 w' p xs' e' (upd o k o1) x') (hn : Nx (o k) o1 w) (hc : Chg p (o k) w w') : Two w0 w' p q xs' e' (upd o k o1) x' ys f b ∧ Kept p q o b (upd o k o1) b w w' := by
  obtain ⟨h1, h2, h3, h4, h5, h6⟩ := h
  refine ⟨⟨hs, h2.chg hc (fun e => h5 (.inl e)) (fun e => h5 (.inr ⟨k, hk, e⟩)) (fun j hj => ⟨fun e => h6 j hj (.inl e), fun e => h6 j hj (.inr ⟨k, hk, e⟩)⟩), h3, h4, fun hO => h5 (hO.step hn h2.inside hk), fun j hj hO => h6 j hj (hO.step hn (h2.blk hj) hk)⟩, hc.size, fun g _ hg hf => ⟨?_, fun hO => hf.1 (hO.step hn hg hk), hf.2⟩⟩
  exact hc.block g hg (fun e => hf.1 (.inl e)) (fun e => hf.1 (.inr ⟨k, hk, e⟩))
/-- The program's call that turns the link alone. -/
theorem Two.stepP (h : Two w0 w p q xs e o x ys f b) (hs : Sk w0 w' p xs' e' o' x') (ho : ∀ g, Owns p o' g → Owns p o g) (hc : Grw p w w') : Two w0 w' p q xs' e' o' x' ys f b ∧ Kept p q o b o' b w w' := by
  obtain ⟨h1, h2, h3, h4, h5, h6⟩ := h
  refine ⟨⟨hs, ?_, h3, h4, fun hO => h5 (ho _ hO), fun j hj hO => h6 j hj (ho _ hO)⟩, hc.size, fun g _ hg hf => ⟨?_, fun hO => hf.1 (ho _ hO), hf.2⟩⟩
  · obtain ⟨v, k1, k2⟩ := h2
    exact ⟨v, k1.grw hc (fun e => h5 (.inl e)), fun k hk => ⟨by obtain ⟨⟨A, c, i, h4⟩, _⟩ := k2 k hk; exact ⟨A, c, i, h4.grw hc (fun e => h6 k hk (.inl e))⟩, (k2 k hk).2⟩⟩
  · exact hc.block g hg (fun e => hf.1 (.inl (Option.some.inj e)))
/-- The document's call. -/
theorem Two.stepB (h : Two w0 w p q xs e o x ys f b) (hd : Dq w' q ys' f' b') (hb : ∀ k, k < 2 → b' k = 0 ∨ (∃ j, j < 2 ∧ b' k = b j) ∨ w.heap.size ≤ b' k) (hc : Grw q w w') : Two w0 w' p q xs e o x ys' f' b' ∧ Kept p q o b o b' w w' := by
  obtain ⟨h1, h2, h3, h4, h5, h6⟩ := h
  have hpos : ∀ g, Owns p o g → 0 < g := fun g hg => by
    rcases hg with rfl | ⟨k, hk, hg⟩
    · exact h1.lk.pos
    · have := h1.2.2.1 k hk g hg; omega
  refine ⟨⟨⟨Grw.below h1.1 hc h3 h1.1.size, h1.2.1, h1.2.2.1, h1.lk.same ?_ (fun k i hk hi => ?_)⟩, hd, h3, h4, h5, fun k hk hO => ?_⟩, hc.size, fun g h0 hg hf => ⟨?_, hf.1, hf.2.1, fun k hk e => ?_⟩⟩
  · exact hc.block p h1.lk.inside (fun e => h5 (.inl (Option.some.inj e).symm))
  · exact hc.block i (h1.lk.row hk hi) (fun e => h5 (.inr ⟨k, hk, by rw [← Option.some.inj e]; exact hi⟩))
  · rcases hb k hk with e | ⟨j, hj, e⟩ | e
    · rw [e] at hO; exact absurd (hpos _ hO) (by omega)
    · rw [e] at hO; exact h6 j hj hO
    · have := h1.lt hO; omega
  · exact hc.block g hg (fun e => hf.2.1 (Option.some.inj e))
  · rcases hb k hk with e' | ⟨j, hj, e'⟩ | e'
    · omega
    · exact hf.2.2 j hj (e.trans e')
    · omega
end
def sendP (n : Int) (xs : Nat → List UInt8) (zs : List UInt8) : Int × (Nat → List UInt8) :=
  if n = 1 then (sendE (xs 1) zs, upd xs 1 (sendX (xs 1) zs)) else if n = 2 then (sendE (xs 0) zs, upd xs 0 (sendX (xs 0) zs)) else (2, xs)
def leftP (n : Int) (xs : Nat → List UInt8) : Nat := if n = 1 then (xs 0).length else if n = 2 then (xs 1).length else 0
/-- What is delivered: an error, bytes, what is left. -/
def deliverP (n c : Int) (xs : Nat → List UInt8) : Int × List UInt8 × (Nat → List UInt8) :=
  if c < 0 then (2, [], xs) else if n = 1 then (0, (xs 0).take (min c ((xs 0).length : Int)).toNat, upd xs 0 ((xs 0).drop (min c ((xs 0).length : Int)).toNat))
  else if n = 2 then (0, (xs 1).take (min c ((xs 1).length : Int)).toNat, upd xs 1 ((xs 1).drop (min c ((xs 1).length : Int)).toNat)) else (2, [], xs)
theorem end_cases {n : Int} : (n = 1 ∨ n = 2) ∨ (n < 1 ∨ 2 < n) := by omega
section
variable {w0 w w' : World} {p q : Nat} {xs ys : Nat → List UInt8} {e f : Nat} {o : Nat → Option Nat} {x : Nat × Nat} {b : Nat → Nat}
theorem Kept.refl (p q : Nat) (o : Nat → Option Nat) (b : Nat → Nat) (hb : Below w.heap.size w w') : Kept p q o b o b w w' := ⟨hb.size, fun g _ hg hf => ⟨hb.block g hg, hf⟩⟩
theorem two_sendA (n : Int) (hn : I64 n) (h : Two w0 w p q xs e o x ys f b) {bv : Value} {zs : List UInt8} {A : Option Addr} {cap bb off : Nat} (hs : Bytes w bv zs A cap bb off) (hz : zs.length ≤ 500000) :
    Calls Try.prog 15 #[.pointer (some ⟨p, 0, none⟩), .int .i64 n, bv] w fun ex w' => ex = .returned (.int .i64 (sendP n xs zs).1) ∧ ∃ o', Two w0 w' p q (sendP n xs zs).2 e o' (0, 0) ys f b ∧ Kept p q o b o' b w w' := by
  rcases end_cases (n := n) with (rfl | rfl) | hb
  · refine (sk_send 1 (by decide) 1 (by decide) h.1 hs hz).mono ?_
    rintro ex w' ⟨rfl, o1, h1, h2, h3⟩
    obtain ⟨t1, t2⟩ := h.stepA (by decide) h1 h2 h3
    exact ⟨rfl, _, t1, t2⟩
  · refine (sk_send 0 (by decide) 2 (by decide) h.1 hs hz).mono ?_
    rintro ex w' ⟨rfl, o1, h1, h2, h3⟩
    obtain ⟨t1, t2⟩ := h.stepA (by decide) h1 h2 h3
    exact ⟨rfl, _, t1, t2⟩
  · have e1 : sendP n xs zs = (2, xs) := by rw [sendP, if_neg (by omega), if_neg (by omega)]
    refine (send_bad p n hb hn bv xs e o x w h.1.lk).mono ?_
    rintro ex w' ⟨rfl, hbl⟩
    rw [e1]
    exact ⟨rfl, o, (h.kept hbl).weak, Kept.refl p q o b hbl⟩
theorem ny_upd {k : Nat} {b1 : Nat} (hn : Ny (b k) b1 w) (hk : k < 2) : ∀ j, j < 2 → upd b k b1 j = 0 ∨ (∃ i, i < 2 ∧ upd b k b1 j = b i) ∨ w.heap.size ≤ upd b k b1 j := fun j hj => by
  by_cases hjk : j = k
  · subst hjk
    rw [upd_at]
    rcases hn with e | e | e
    · exact .inr (.inl ⟨j, hk, e⟩)
    · exact .inl e
    · exact .inr (.inr e)
  · rw [upd_ne _ _ hjk]
    exact .inr (.inl ⟨j, hj, rfl⟩)
theorem two_sendB (n : Int) (h : Two w0 w p q xs e o x ys f b) {bv : Value} {zs : List UInt8} {A : Option Addr} {cap bb off : Nat} (hs : Bytes w bv zs A cap bb off) (hz : zs.length ≤ 500000) :
    Calls Try.prog 19 #[.pointer (some ⟨q, 0, none⟩), .int .i64 n, bv] w fun ex w' => ex = .returned (.int .i64 (sendP n ys zs).1) ∧ ∃ b', Two w0 w' p q xs e o x (sendP n ys zs).2 f b' ∧ Kept p q o b o b' w w' := by
  rcases end_cases (n := n) with (rfl | rfl) | hb
  · refine (rsend_any 1 (by decide) q 1 (by decide) bv zs A cap bb off hz ys f b w h.qpos h.2.1 hs).mono ?_
    rintro ex w' ⟨rfl, b1, h1, h2, h3⟩
    obtain ⟨t1, t2⟩ := h.stepB h1 (ny_upd h2 (by decide)) h3
    exact ⟨rfl, _, t1, t2⟩
  · refine (rsend_any 0 (by decide) q 2 (by decide) bv zs A cap bb off hz ys f b w h.qpos h.2.1 hs).mono ?_
    rintro ex w' ⟨rfl, b1, h1, h2, h3⟩
    obtain ⟨t1, t2⟩ := h.stepB h1 (ny_upd h2 (by decide)) h3
    exact ⟨rfl, _, t1, t2⟩
  · have e1 : sendP n ys zs = (2, ys) := by rw [sendP, if_neg (by omega), if_neg (by omega)]
    refine (rsend_bad q n hb bv w).mono ?_
    rintro ex w' ⟨rfl, rfl⟩
    rw [e1]
    exact ⟨rfl, b, h, Kept.refl p q o b (Below.refl _ _)⟩
/-- The part that the program delivered: it may be written. -/
def PartW (w : World) (o : Nat → Option Nat) (A : Option Addr) (m : Nat) (zs : List UInt8) (y : Nat × Nat) : Prop := ∃ off, Bytes w (.slice A m m) zs A m y.1 off ∧ y.2 = off + m ∧ ((∃ k, k < 2 ∧ o k = some y.1) ∧ Wrt w y.1 off m ∨ m = 0 ∧ y.1 = 0)
theorem two_deliverA (n c : Int) (h : Two w0 w p q xs e o x ys f b) :
    Calls Try.prog 16 #[.pointer (some ⟨p, 0, none⟩), .int .i64 n, .int .i64 c] w fun ex w' => ∃ A m y, ex = .returned (.tuple #[.slice A m m, .int .i64 (deliverP n c xs).1]) ∧ PartW w' o A m (deliverP n c xs).2.1 y ∧ Two w0 w' p q (deliverP n c xs).2.2 e o y ys f b ∧ Kept p q o b o b w w' := by
  have bad : ∀ (w' : World), Below w.heap.size w w' → deliverP n c xs = (2, [], xs) → ∃ A m y, (Ending.returned (.tuple #[.slice none 0 0, .int .i64 2])) = .returned (.tuple #[.slice A m m, .int .i64 (deliverP n c xs).1]) ∧ PartW w' o A m (deliverP n c xs).2.1 y ∧ Two w0 w' p q (deliverP n c xs).2.2 e o y ys f b ∧ Kept p q o b o b w w' := fun w' hb hd => by
    rw [hd]
    exact ⟨none, 0, (0, 0), rfl, ⟨0, Bytes.nil w' (Nat.lt_of_lt_of_le h.2.2.2.1 (Nat.le_trans h.1.1.size hb.size)), rfl, .inr ⟨rfl, rfl⟩⟩, (h.kept hb).weak, Kept.refl p q o b hb⟩
  have good : ∀ (k : Nat) (hk : k < 2) (hn : n = (k : Int) + 1) (hc : ¬ c < 0) (hd : deliverP n c xs = (0, (xs k).take (min c ((xs k).length : Int)).toNat, upd xs k ((xs k).drop (min c ((xs k).length : Int)).toNat))),
      Calls Try.prog 16 #[.pointer (some ⟨p, 0, none⟩), .int .i64 n, .int .i64 c] w fun ex w' => ∃ A m y, ex = .returned (.tuple #[.slice A m m, .int .i64 (deliverP n c xs).1]) ∧ PartW w' o A m (deliverP n c xs).2.1 y ∧ Two w0 w' p q (deliverP n c xs).2.2 e o y ys f b ∧ Kept p q o b o b w w' := fun k hk hn hc hd => by
    rw [hd]
    refine (sk_deliver k hk n hn c (by omega) (min c ((xs k).length : Int)).toNat (by omega) h.1).mono ?_
    rintro ex w' ⟨A, y, rfl, h1, h2, h3⟩
    obtain ⟨t1, t2⟩ := h.stepP h2 (fun g hg => hg) h3
    refine ⟨A, _, y, rfl, ?_, t1, t2⟩
    obtain ⟨off, p1, p2, p3⟩ := h1
    refine ⟨off, p1, p2, ?_⟩
    rcases p3 with ⟨p3, p4⟩ | ⟨_, p4, p5⟩
    · exact .inl ⟨⟨k, hk, p3⟩, p4⟩
    · exact .inr ⟨p5, p4⟩
  by_cases hc : c < 0
  · have hd : deliverP n c xs = (2, [], xs) := by rw [deliverP, if_pos hc]
    rcases end_cases (n := n) with (hn | hn) | hb
    · refine (deliver_neg 0 (by decide) p n (by omega) c hc xs e o x w h.1.lk).mono ?_
      rintro ex w' ⟨rfl, hb⟩
      exact bad w' hb hd
    · refine (deliver_neg 1 (by decide) p n (by omega) c hc xs e o x w h.1.lk).mono ?_
      rintro ex w' ⟨rfl, hb⟩
      exact bad w' hb hd
    · refine (deliver_bad p n hb c xs e o x w h.1.lk).mono ?_
      rintro ex w' ⟨rfl, hb⟩
      exact bad w' hb hd
  · rcases end_cases (n := n) with (hn | hn) | hb
    · exact good 0 (by decide) (by omega) hc (by rw [deliverP, if_neg hc, if_pos hn])
    · exact good 1 (by decide) (by omega) hc (by rw [deliverP, if_neg hc, if_neg (by omega), if_pos hn])
    · refine (deliver_bad p n hb c xs e o x w h.1.lk).mono ?_
      rintro ex w' ⟨rfl, hb'⟩
      exact bad w' hb' (by rw [deliverP, if_neg hc, if_neg (by omega), if_neg (by omega)])
theorem two_deliverB (n c : Int) (h : Two w0 w p q xs e o x ys f b) :
    Calls Try.prog 20 #[.pointer (some ⟨q, 0, none⟩), .int .i64 n, .int .i64 c] w fun ex w' => ∃ A m cap, ex = .returned (.tuple #[.slice A m cap, .int .i64 (deliverP n c ys).1]) ∧ (convert 26 9 (.slice A m cap)).run Try.prog w' = .ok (.string (ba (deliverP n c ys).2.1)) w' ∧ ∃ b', Two w0 w' p q xs e o x (deliverP n c ys).2.2 f b' ∧ Kept p q o b o b' w w' ∧ Grw q w w' := by
  have bad : deliverP n c ys = (2, [], ys) → (n < 1 ∨ 2 < n) ∨ (n = 1 ∨ n = 2) ∧ c < 0 → Calls Try.prog 20 #[.pointer (some ⟨q, 0, none⟩), .int .i64 n, .int .i64 c] w fun ex w' => ∃ A m cap, ex = .returned (.tuple #[.slice A m cap, .int .i64 (deliverP n c ys).1]) ∧ (convert 26 9 (.slice A m cap)).run Try.prog w' = .ok (.string (ba (deliverP n c ys).2.1)) w' ∧ ∃ b', Two w0 w' p q xs e o x (deliverP n c ys).2.2 f b' ∧ Kept p q o b o b' w w' ∧ Grw q w w' := fun hd hh => by
    rw [hd]
    have K : Calls Try.prog 20 #[.pointer (some ⟨q, 0, none⟩), .int .i64 n, .int .i64 c] w fun e w' => e = .returned (.tuple #[.slice none 0 0, .int .i64 2]) ∧ w = w' := by
      rcases hh with hb | ⟨hn, hc⟩
      · exact rdeliver_bad q n hb c w
      · exact rdeliver_neg q n hn c hc w
    refine K.mono ?_
    rintro ex w' ⟨rfl, rfl⟩
    exact ⟨none, 0, 0, rfl, conv_nil w, b, h, Kept.refl p q o b (Below.refl _ _), Grw.refl _ _⟩
  have good : ∀ (k : Nat) (hk : k < 2) (hn : n = (k : Int) + 1) (hc : ¬ c < 0) (hd : deliverP n c ys = (0, (ys k).take (min c ((ys k).length : Int)).toNat, upd ys k ((ys k).drop (min c ((ys k).length : Int)).toNat))),
      Calls Try.prog 20 #[.pointer (some ⟨q, 0, none⟩), .int .i64 n, .int .i64 c] w fun ex w' => ∃ A m cap, ex = .returned (.tuple #[.slice A m cap, .int .i64 (deliverP n c ys).1]) ∧ (convert 26 9 (.slice A m cap)).run Try.prog w' = .ok (.string (ba (deliverP n c ys).2.1)) w' ∧ ∃ b', Two w0 w' p q xs e o x (deliverP n c ys).2.2 f b' ∧ Kept p q o b o b' w w' ∧ Grw q w w' := fun k hk hn hc hd => by
    rw [hd]
    refine (rdeliver_any k hk q n hn c (by omega) ys f b (min c ((ys k).length : Int)).toNat (by omega) w h.qpos h.2.1).mono ?_
    rintro ex w' ⟨A, cap, bb, rfl, h1, _, b1, h2, h3, h4⟩
    obtain ⟨t1, t2⟩ := h.stepB h2 (ny_upd h3 hk) h4
    exact ⟨A, _, cap, rfl, conv_back h1, _, t1, t2, h4⟩
  by_cases hc : c < 0
  · refine bad (by rw [deliverP, if_pos hc]) ?_
    rcases end_cases (n := n) with hn | hb
    · exact .inr ⟨hn, hc⟩
    · exact .inl hb
  · rcases end_cases (n := n) with (hn | hn) | hb
    · exact good 0 (by decide) (by omega) hc (by rw [deliverP, if_neg hc, if_pos hn])
    · exact good 1 (by decide) (by omega) hc (by rw [deliverP, if_neg hc, if_neg (by omega), if_pos hn])
    · exact bad (by rw [deliverP, if_neg hc, if_neg (by omega), if_neg (by omega)]) (.inl hb)
theorem two_leftA (n : Int) (h : Two w0 w p q xs e o x ys f b) : Calls Try.prog 11 #[.pointer (some ⟨p, 0, none⟩), .int .i64 n] w fun ex w' => ex = .returned (.int .i64 (leftP n xs : Int)) ∧ Two w0 w' p q xs e o x ys f b ∧ Below w.heap.size w w' := by
  rcases end_cases (n := n) with (rfl | rfl) | hb
  · refine (left_any 0 (by decide) p 1 (by decide) xs e o x w h.1.lk).mono ?_
    rintro ex w' ⟨rfl, hb⟩
    exact ⟨rfl, h.kept hb, hb⟩
  · refine (left_any 1 (by decide) p 2 (by decide) xs e o x w h.1.lk).mono ?_
    rintro ex w' ⟨rfl, hb⟩
    exact ⟨rfl, h.kept hb, hb⟩
  · refine (left_bad p n hb xs e o x w h.1.lk).mono ?_
    rintro ex w' ⟨rfl, hb'⟩
    exact ⟨by rw [leftP, if_neg (by omega), if_neg (by omega)]; rfl, h.kept hb', hb'⟩
theorem two_leftB (n : Int) (h : Two w0 w p q xs e o x ys f b) : Calls Try.prog 12 #[.pointer (some ⟨q, 0, none⟩), .int .i64 n] w fun ex w' => ex = .returned (.int .i64 (leftP n ys : Int)) ∧ w = w' := by
  rcases end_cases (n := n) with (rfl | rfl) | hb
  · exact rleft_any 0 (by decide) q 1 (by decide) ys f b w h.2.1
  · exact rleft_any 1 (by decide) q 2 (by decide) ys f b w h.2.1
  · refine (rleft_bad q n hb w).mono ?_
    rintro ex w' ⟨rfl, rfl⟩
    exact ⟨by rw [leftP, if_neg (by omega), if_neg (by omega)]; rfl, rfl⟩
theorem two_resetA (he : e < 4611686018427387904) (h : Two w0 w p q xs e o x ys f b) : Calls Try.prog 17 #[.pointer (some ⟨p, 0, none⟩)] w fun ex w' => ex = .returned (.int .i64 0) ∧ Two w0 w' p q (fun _ => []) (e + 1) (fun _ => none) (0, 0) ys f b := by
  refine (sk_reset he h.1).mono ?_
  rintro ex w' ⟨rfl, h1, h2⟩
  exact ⟨rfl, (h.stepP h1 (fun g hg => by
    rcases hg with rfl | ⟨k, hk, hg⟩
    · exact .inl rfl
    · cases hg) h2).1⟩
theorem two_resetB (hf : f < 4611686018427387904) (h : Two w0 w p q xs e o x ys f b) : Calls Try.prog 21 #[.pointer (some ⟨q, 0, none⟩)] w fun ex w' => ex = .returned (.tuple #[]) ∧ Two w0 w' p q xs e o x (fun _ => []) (f + 1) (fun _ => 0) := by
  refine (rreset_any q ys f hf b w h.qpos h.2.1).mono ?_
  rintro ex w' ⟨rfl, h1, h2⟩
  exact ⟨rfl, (h.stepB h1 (fun _ _ => .inl rfl) h2).1⟩
end
end Go.Proofs.Ytcfmjebnjjpajaa
