/- A row of the law's own beside a reader. No conditions but the ones said. -/
import Derived.Test.YtakgbopkkechgaaFL
namespace Go.Proofs.Ytakgbopkkechgaa
open Go.RowKit
/-- A row of the law's own, apart from the reader's blocks. -/
def Own (w0 w : World) (v : Value) (bs : List UInt8) (p : Nat) (o : Option Nat) : Prop := w.ownsRow w0.heap.size 5 1 v bs.length (bs.map V8) ∧ v.ownBlock ≠ some p ∧ ∀ g, v.ownBlock = some g → o ≠ some g
theorem own_same {B n : Nat} {w w' : World} {e : TypeId} {sz : Nat} {v : Value} {xs : List Value} (h : w.ownsRow B e sz v n xs) (hb : ∀ k, v.ownBlock = some k → w'.heap[k]? = w.heap[k]?) : w'.ownsRow B e sz v n xs := by
  obtain ⟨h1, h2 | ⟨g, c, cur, rfl, h3, h4, h5⟩⟩ := h
  · exact ⟨h1, .inl h2⟩
  · exact ⟨h1, .inr ⟨g, c, cur, rfl, h3, (hb g rfl).trans h4, h5⟩⟩
section
variable {w0 w w' : World} {v : Value} {bs : List UInt8} {p : Nat} {o o' : Option Nat}
theorem Own.nil (w0 w : World) (p : Nat) (o : Option Nat) : Own w0 w (.slice none 0 0) [] p o := ⟨World.ownsRow_nil _ _ _ _, (fun e => by cases e), (fun g e => by cases e)⟩
theorem Own.chg (h : Own w0 w v bs p o) (hc : Chg p o w w') (hn : Nx o o' w) : Own w0 w' v bs p o' :=
  ⟨own_same h.1 (fun k hk => hc.block k (h.1.lt k hk).2 (fun e => h.2.1 (by rw [hk, e])) (h.2.2 k hk)), h.2.1, fun g hg => hn.ne (h.2.2 g hg) (h.1.lt g hg).2⟩
theorem Own.bytes (h : Own w0 w v bs p o) (hw : 0 < w.heap.size) : ∃ A cap bb, Bytes w v bs A cap bb 0 := by
  obtain ⟨A, cap, bb, hy, _⟩ := own_bytes rfl hw h.1
  exact ⟨A, cap, bb, hy⟩
theorem Own.append (h : Own w0 w v bs p o) (hB : w0.heap.size ≤ w.heap.size) (hp : p < w.heap.size) (ho : ∀ k, o = some k → k < w.heap.size) {src : Value} {ys : List UInt8} {A : Option Addr} {cap bb off : Nat} (hs : Bytes w src ys A cap bb off) (hn : bs.length + ys.length ≤ 1000000) :
    ∃ v' w', (Builtin.append_ #[22, 22] 22 #[v, src]).run Try.prog w = .ok v' w' ∧ Own w0 w' v' (bs ++ ys) p o ∧ w.grownBy w' v.ownBlock := by
  obtain ⟨v', w', hr, h1, hg, _, hb⟩ := append_bytes w w0.heap.size v _ _ h.1 hs hn hB
  refine ⟨v', w', hr, ⟨by rw [List.length_append, List.map_append]; exact h1, ?_, ?_⟩, hg⟩
  · rcases hb with e | e
    · rw [e]; exact h.2.1
    · rw [e]; intro e'; have := Option.some.inj e'; omega
  · intro g hg'
    rcases hb with e | e
    · exact h.2.2 g (by rw [← e]; exact hg')
    · rw [e] at hg'
      intro e'
      have := ho g e'
      have := Option.some.inj hg'
      omega
theorem Ses.grown {R : RS} (h : Ses w0 w p R o) {row : Option Nat} (hg : w.grownBy w' row) (hp : row ≠ some p) (hr : ∀ g, row = some g → o ≠ some g) (hB : ∀ g, row = some g → w0.heap.size ≤ g) : Ses w0 w' p R o :=
  ⟨h.1.grown hg h.1.size hB, h.2.1, h.2.2.1, h.2.2.2.same (hg.block p h.2.2.2.inside (fun e => hp e.symm)) (fun k hk => hg.block k (h.2.2.2.row hk) (fun e => hr k e.symm hk))⟩
theorem Ses.own {R : RS} (h : Ses w0 w p R o) {v : Value} (hw : Own w0 w v bs p o) (hg : w.grownBy w' v.ownBlock) : Ses w0 w' p R o :=
  h.grown hg hw.2.1 hw.2.2 (fun g hg' => (hw.1.lt g hg').1)
end
theorem conv_list {w : World} {v : Value} {ys : List UInt8} {A : Option Addr} {cap bb off : Nat} {s : ByteArray} (h : Bytes w v ys A cap bb off) (e : ba ys = s) : (convert 22 9 v).run Try.prog w = .ok (.string s) w := by rw [← e]; exact conv_back h
end Go.Proofs.Ytakgbopkkechgaa
