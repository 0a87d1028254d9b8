/- The frame of a law of the disk: acts and picks that come in, a law that has answered true. No conditions. -/
import Derived.Test.YtlbeemlnbpchgaaGreatRows
import Derived.Test.YtlbeemlnbpchgaaGreatXJ
import Derived.ProofKit
import Derived.OpenShut
import Derived.ChangeSame
import Derived.JoinedOf
import Derived.JoinedAt
import Derived.Carry
import Derived.HandedShaped
import Derived.ChangeMaps5
import Derived.Deep.Slices
import Derived.Deep.Matrix
namespace Go.Proofs.YtlbeemlnbpchgaaGreat
open Go.ChangeShapes Go.WideShapes Go.ChangeAt Go.ChangeMaps Go.WideElems Go.RowKit Go.Deep
theorem ownK : ownKnob Tryz.prog.godebug = none := by kernel_rfl
theorem laidOut : laidOutB Tryz.prog = true := by kernel_rfl
/-- A law that has answered true, its arguments and all old memory as they were. -/
theorem post_law {H : Type} {enc : TypeId × Value → H} {f : Func} {s : ChangeSpec} {W W' : World} {args : Array Value} {ds : List (DataW H)} {before pa : List MemPlace} (hv : s.vars = []) (hft : f.resultTypes = #[4])
    (hW : DataW.Whole enc Tryz.prog f.params.toList s.vars false W args.toList ds [] before) (hs : s.fn H (ds ++ []) = { results := [.lit (.bool true)], args := ds }) (hb : Below W.heap.size W W')
    (hargs : DataW.TrodAll enc Tryz.prog W' 0 (fun b => decide (b < W.heap.size)) true f.params.toList args.toList ds pa) :
    s.post enc Tryz.prog f false true false false W args (.bool true) W' := by
  refine ⟨ds, [], before, [], pa, [], hW, ?_, ?_, ?_, hb.frame _, fun h => by cases h⟩
  · rw [hs, hft]; exact trodAll_mk1 (shut_bool Tryz.underlying4 true)
  · rw [hs]; exact hargs
  · rw [hs, hv]; exact rfl
def bytesOf (zs : List Int) (L : Nat) : List UInt8 := (zs.take L).map fun z => UInt8.ofNat z.toNat
theorem spot_none {w : World} {a : Addr} {v : Value} (h : w.cell? (a.add 0) = some v) : a = ⟨a.block, a.off, none⟩ := by
  have e : a.add 0 = a := rfl
  rw [e] at h
  obtain ⟨b, o, s⟩ := a
  cases s with
  | none => rfl
  | some x =>
    simp only [World.cell?] at h
    split at h
    · simp at h
    · cases h
theorem int_num {z : Int} (h : (Lit.int .u8 z).wf = true) : z = b8 (UInt8.ofNat z.toNat) := by
  simp only [Lit.wf, IntKind.min, IntKind.max, IntKind.signed, IntKind.bits, Bool.and_eq_true] at h
  simp at h
  rw [b8_ofNat]
  have : ((z.toNat % 256 : Nat) : Int) = z := by omega
  rw [this]
theorem add_add (a : Addr) (i j : Nat) : (a.add i).add j = a.add (i + j) := by
  obtain ⟨b, o, s⟩ := a
  unfold Addr.add
  by_cases hj0 : j = 0
  · subst hj0; simp
  · by_cases hi0 : i = 0
    · simp [hj0, hi0]
    · simp [hj0, hi0, Nat.add_assoc]
theorem list_of {α : Type} (z : α) (n : Nat) (R : Nat → α → Prop) (h : ∀ i, i < n → ∃ x, R i x) : ∃ xs : List α, xs.length = n ∧ ∀ i, i < n → R i (xs.getD i z) := by
  refine ⟨(List.range n).map fun i => if h' : i < n then Classical.choose (h i h') else z, by simp, fun i hi => ?_⟩
  have e : ((List.range n).map fun i => if h' : i < n then Classical.choose (h i h') else z).getD i z = Classical.choose (h i hi) := by
    simp [List.getD, hi]
  rw [e]; exact Classical.choose_spec (h i hi)
theorem int_in {k : IntKind} {n : Int} (h : (Lit.int k n).wf = true) : k.min ≤ n ∧ n ≤ k.max := by
  simpa [Lit.wf] using h
theorem weights_in {H : Type} {P : Program} {e : TypeId} : ∀ {l : List (DataW H)} {d : DataW H}, d ∈ l → ∀ n ∈ d.weights P e, n ∈ DataW.weightsAll P e l
  | x :: r, d, h, n, hn => by
    simp only [DataW.weightsAll, List.mem_append]
    rcases List.mem_cons.1 h with rfl | h
    · exact .inl hn
    · exact .inr (weights_in h n hn)
theorem reach_is : reachBytes = 140737488351232 := rfl
section
variable {H : Type} {enc : TypeId × Value → H} {w : World} {base : Nat} {spare : Nat → Bool} {held : Bool}
/-- Picks that come in. -/
theorem picks_of {fuel : Nat} {c : Value} {y : DataW H × List MemPlace} (h : DataW.trod enc Tryz.prog w base spare held fuel 31 [c] = some y) :
    ∃ (A : Option Addr) (cap : Nat) (ks : List UInt8) (g off : Nat), c = .slice A ks.length cap ∧ Pk w A ks g off ∧ ks.length ≤ maxLen := by
  have c5 : Tryz.prog.cellsOf 5 = 1 := by kernel_rfl
  rcases open_ints Tryz.underlying31 Tryz.underlying5 c5 h with ⟨h1, _⟩ | ⟨a, len, cap, zs, h1, _, hl, hm, hz, _, hc, hw⟩
  · simp only [List.cons.injEq, and_true] at h1
    exact ⟨none, 0, [], 0, 0, h1, ⟨fun k => absurd k (by simp), fun i k => absurd k (by simp), fun k => absurd k (by simp)⟩, by simp⟩
  · simp only [List.cons.injEq, and_true] at h1
    have hlz : len ≤ zs.length := by rw [hz]; split <;> omega
    have hlen : (bytesOf zs len).length = len := by simp [bytesOf]; omega
    have hat : ∀ j, j < len → zs.getD j 0 = b8 ((bytesOf zs len).getD j 0) := by
      intro j hj
      have hj2 : j < zs.length := by omega
      simp only [bytesOf, List.getD, List.getElem?_map, List.getElem?_take, if_pos hj, List.getElem?_eq_getElem hj2, Option.map_some, Option.getD_some]
      exact int_num (hw _ (List.getElem_mem hj2))
    rcases Nat.eq_zero_or_pos len with h0 | h0
    · exact ⟨some a, cap, bytesOf zs len, 0, 0, by rw [hlen]; exact h1, ⟨fun k => absurd k (by rw [hlen]; omega), fun i k => absurd k (by rw [hlen]; omega), fun k => absurd k (by rw [hlen]; omega)⟩, by rw [hlen]; exact Nat.le_trans hl hm⟩
    · have k1 := hc 0 (by omega)
      have ha := spot_none k1
      have hlt : a.block < w.heap.size := World.block_lt_of_cell? w (a.add 0) k1
      refine ⟨some a, cap, bytesOf zs len, a.block, a.off, by rw [hlen]; exact h1, ⟨fun _ => by rw [← ha], fun i hi => ?_, fun _ => hlt⟩, by rw [hlen]; exact Nat.le_trans hl hm⟩
      rw [hlen] at hi
      have e : a.add i = ⟨a.block, a.off + i, none⟩ := by
        conv => lhs; rw [ha]
        rw [add_at]
      rw [← hat i hi, ← hc i (by omega), e]
set_option maxRecDepth 100000 in
theorem open_picks {r : Reach} {b0 : Nat} {v : Value} {d : DataW H} {p : List MemPlace} (hv : Value.okWide Tryz.prog w r b0 31 v) (h : DataW.Trod enc Tryz.prog w base spare held 31 v d p) :
    ∃ (A : Option Addr) (cap : Nat) (ks : List UInt8) (g off : Nat), v = .slice A ks.length cap ∧ Pk w A ks g off ∧ ks.length ≤ maxLen := by
  obtain ⟨A, n, cap, rfl⟩ := okWide_slice Tryz.underlying31 hv
  obtain ⟨fuel, hf⟩ := h
  exact picks_of hf
set_option maxRecDepth 100000 in
theorem open_acts {r : Reach} {b0 : Nat} {v : Value} {d : DataW H} {p : List MemPlace} (hv : Value.okWide Tryz.prog w r b0 22 v) (h : DataW.Trod enc Tryz.prog w base spare held 22 v d p) (hsz : ∀ n ∈ d.weights Tryz.prog 22, n ≤ reachBytes) :
    ∃ (A : Option Addr) (n cap bb off : Nat) (xs : List ActT), v = .slice A n cap ∧ ActsIn w A n bb off xs ∧ n ≤ maxLen := by
  have hC : Tryz.prog.cellsOf 33 = 7 := by kernel_rfl
  have hs1 : Tryz.prog.cellsOf 3 = 1 := by kernel_rfl
  have hs2 : Tryz.prog.cellsOf 2 = 1 := by kernel_rfl
  have hs3 : Tryz.prog.cellsOf 9 = 1 := by kernel_rfl
  have hs4 : Tryz.prog.cellsOf 31 = 1 := by kernel_rfl
  obtain ⟨A, n, cap, rfl⟩ := okWide_slice Tryz.underlying22 hv
  obtain ⟨fuel, hf⟩ := h
  rcases open_slice Tryz.underlying22 hf with ⟨hcs, _⟩ | ⟨a, len, cap', m, fu, D, Pl, hcs, hb, hl, hm, hmm, hdx, hx⟩
  · have e : [Value.slice A n cap] = [Value.slice none 0 0] := hcs
    simp only [List.cons.injEq, Value.slice.injEq, and_true] at e
    obtain ⟨rfl, rfl, rfl⟩ := e
    exact ⟨none, 0, 0, 0, 0, [], rfl, ⟨rfl, fun h => absurd h (by omega), fun i h => absurd h (by omega), fun x h => (by cases h), fun x h => (by cases h)⟩, Nat.zero_le _⟩
  · have e : [Value.slice A n cap] = [Value.slice (some a) len cap'] := hcs
    simp only [List.cons.injEq, Value.slice.injEq, and_true] at e
    obtain ⟨rfl, rfl, rfl⟩ := e
    simp only [Prod.mk.injEq] at hdx
    obtain ⟨rfl, _⟩ := hdx
    have hl' : n ≤ cap := hl
    have hle : n ≤ m := by rw [hmm]; split <;> omega
    have key : ∀ i, i < n → ∃ x : ActT, w.cell? (a.add (i * 7)) = some (.int .i64 x.dO) ∧ w.cell? (a.add (i * 7 + 1)) = some (kS x.p) ∧ w.cell? (a.add (i * 7 + 2)) = some (kS x.q) ∧ w.cell? (a.add (i * 7 + 3)) = some (kS x.text) ∧ w.cell? (a.add (i * 7 + 4)) = some (.int .i64 x.long) ∧
        w.cell? (a.add (i * 7 + 5)) = some (.int .i64 x.time) ∧ w.cell? (a.add (i * 7 + 6)) = some (.slice x.pA x.ks.length x.pc) ∧ Pk w x.pA x.ks x.pg x.po ∧ ActOk x := by
      intro i hi
      obtain ⟨cs', h1, h2⟩ := hx i (by omega)
      have hwt : ∀ z ∈ (D i).weights Tryz.prog 33, z ≤ reachBytes := fun z hz => hsz z (by
        simp only [DataW.weights, Tryz.underlying22, List.mem_cons, List.mem_append]
        exact .inr (.inl (weights_in (List.mem_map.2 ⟨i, List.mem_range.2 hi, rfl⟩) z hz)))
      rw [hC] at h1
      obtain ⟨_, hlen, hcc⟩ := World.cells?_some h1
      match cs', hlen with
      | [c0, c1, c2, c3, c4, c5, c6], _ =>
        have k0 := hcc 0 (by omega)
        have k1 := hcc 1 (by omega)
        have k2 := hcc 2 (by omega)
        have k3 := hcc 3 (by omega)
        have k4 := hcc 4 (by omega)
        have k5 := hcc 5 (by omega)
        have k6 := hcc 6 (by omega)
        rw [add_add] at k0 k1 k2 k3 k4 k5 k6
        obtain ⟨xs, m', _, hxe, _, hlen, hg⟩ := DataW.trod_struct Tryz.underlying33 h2
        match xs, hlen with
        | [y0, y1, y2, y3, y4, y5, y6], _ =>
          have g0 : DataW.trod enc Tryz.prog w base spare held m' 3 [c0] = some y0 := by have := hg 0 _ rfl; simpa [hs1] using this
          have g1 : DataW.trod enc Tryz.prog w base spare held m' 9 [c1] = some y1 := by have := hg 1 _ rfl; simpa [hs3] using this
          have g2 : DataW.trod enc Tryz.prog w base spare held m' 9 [c2] = some y2 := by have := hg 2 _ rfl; simpa [hs3] using this
          have g3 : DataW.trod enc Tryz.prog w base spare held m' 9 [c3] = some y3 := by have := hg 3 _ rfl; simpa [hs3] using this
          have g4 : DataW.trod enc Tryz.prog w base spare held m' 3 [c4] = some y4 := by have := hg 4 _ rfl; simpa [hs1] using this
          have g5 : DataW.trod enc Tryz.prog w base spare held m' 2 [c5] = some y5 := by have := hg 5 _ rfl; simpa [hs2] using this
          have g6 : DataW.trod enc Tryz.prog w base spare held m' 31 [c6] = some y6 := by have := hg 6 _ rfl; simpa [hs4] using this
          obtain ⟨n0, i0, _, q0⟩ := DataW.trod_int Tryz.underlying3 g0
          obtain ⟨s1, i1, r1, _⟩ := DataW.trod_string Tryz.underlying9 g1
          obtain ⟨s2, i2, r2, _⟩ := DataW.trod_string Tryz.underlying9 g2
          obtain ⟨s3, i3, r3, _⟩ := DataW.trod_string Tryz.underlying9 g3
          obtain ⟨n4, i4, _, q4⟩ := DataW.trod_int Tryz.underlying3 g4
          obtain ⟨n5, i5, _, q5⟩ := DataW.trod_int Tryz.underlying2 g5
          obtain ⟨A6, cap6, ks, pg, po, i6, hpk, hkl⟩ := picks_of g6
          simp only [List.cons.injEq, and_true] at i0 i1 i2 i3 i4 i5
          subst i0 i1 i2 i3 i4 i5 i6
          have q0 := int_in q0
          have q4 := int_in q4
          simp only [IntKind.min, IntKind.max, IntKind.signed, IntKind.bits] at q0 q4
          simp at q0 q4
          simp only [Prod.mk.injEq] at hxe
          have hD := hxe.1
          rw [hD] at hwt
          simp only [DataW.weights, Tryz.underlying33] at hwt
          have z1 : s1.data.toList.length ≤ 140737488351232 := by
            have := hwt s1.data.toList.length (by rw [r1]; simp [DataW.weightsEach, DataW.weights])
            rwa [reach_is] at this
          have z2 : s2.data.toList.length ≤ 140737488351232 := by
            have := hwt s2.data.toList.length (by rw [r2]; simp [DataW.weightsEach, DataW.weights])
            rwa [reach_is] at this
          have z3 : s3.data.toList.length ≤ 140737488351232 := by
            have := hwt s3.data.toList.length (by rw [r3]; simp [DataW.weightsEach, DataW.weights])
            rwa [reach_is] at this
          refine ⟨⟨n0, tl s1, tl s2, tl s3, n4, n5, A6, cap6, ks, pg, po⟩, k0, ?_, ?_, ?_, k4, k5, k6, hpk, ⟨q0.1, by show n0 ≤ _; omega, z1, z2, z3, q4.1, by show n4 ≤ _; omega, hkl⟩⟩
          · show _ = some (Value.string (ba (tl s1))); rw [ba_tl]; exact k1
          · show _ = some (Value.string (ba (tl s2))); rw [ba_tl]; exact k2
          · show _ = some (Value.string (ba (tl s3))); rw [ba_tl]; exact k3
    rcases Nat.eq_zero_or_pos n with h0 | h0
    · subst h0
      exact ⟨some a, 0, cap, 0, 0, [], rfl, ⟨rfl, fun h => absurd h (by omega), fun i h => absurd h (by omega), fun x h => (by cases h), fun x h => (by cases h)⟩, Nat.zero_le _⟩
    · obtain ⟨x0, k0, _⟩ := key 0 h0
      rw [Nat.zero_mul] at k0
      have ha := spot_none k0
      have hlt : a.block < w.heap.size := World.block_lt_of_cell? w (a.add 0) k0
      obtain ⟨xs, hl, hxs⟩ := list_of act0 n _ key
      have e0 : ∀ k, a.add k = ⟨a.block, a.off + k, none⟩ := fun k => by
        conv => lhs; rw [ha]
        rw [add_at]
      have hmem : ∀ x ∈ xs, ∃ i, i < n ∧ x = xs.getD i act0 := fun x hx => by
        obtain ⟨i, hi, rfl⟩ := List.getElem_of_mem hx
        exact ⟨i, by omega, by rw [List.getD, List.getElem?_eq_getElem hi]; rfl⟩
      refine ⟨some a, n, cap, a.block, a.off, xs, rfl, ⟨hl, fun _ => ⟨by rw [← ha], hlt⟩, fun i hi => ?_, fun x hx => ?_, fun x hx hk => ?_⟩, Nat.le_trans hl' hm⟩
      · obtain ⟨k0, k1, k2, k3, k4, k5, k6, hp, _⟩ := hxs i hi
        rw [e0] at k0 k1 k2 k3 k4 k5 k6
        exact ⟨k0, k1, k2, k3, k4, k5, k6, hp⟩
      · obtain ⟨i, hi, rfl⟩ := hmem x hx
        exact (hxs i hi).2.2.2.2.2.2.2.2
      · obtain ⟨i, hi, rfl⟩ := hmem x hx
        exact (hxs i hi).2.2.2.2.2.2.2.1.inside hk
end
end Go.Proofs.YtlbeemlnbpchgaaGreat
