/- path.each over find's closure, path.find, May, Parent, Base: what they answer of any text. Conditions: a world in which the listed variables lie, at most 400 bytes. -/
import Derived.Test.YtlbeemlnbpchgaaGreatPC
import Derived.Deep.DeepFit
import Derived.OneCell
import Derived.Lib.SmallJoins
namespace Go.Proofs.YtlbeemlnbpchgaaGreat
open Go.RowKit
/-- The world that the calls lean on: the library's variable holds a number. -/
def Gd (w : World) : Prop := ∃ m : Int, w.cell? ⟨0, 0, none⟩ = some (.int .i64 m)
theorem Gd.pos {w : World} (h : Gd w) : 0 < w.heap.size := by
  obtain ⟨m, h⟩ := h
  exact World.block_lt_of_cell? w ⟨0, 0, none⟩ h
theorem Gd.below {w w' : World} {B : Nat} (h : Gd w) (hb : Below B w w') (hB : 0 < B) : Gd w' := by
  obtain ⟨m, h⟩ := h
  exact ⟨m, (hb.cell (p := ⟨0, 0, none⟩) hB).trans h⟩
theorem Gd.kept {w w' : World} (h : Gd w) (hb : Below w.heap.size w w') : Gd w' := h.below hb h.pos
theorem Gd.shaped {w : World} (h : w.ShapedOpen Tryz.prog) : Gd w := Tryz.laysM145.s1_3 w h
def ba (l : List UInt8) : ByteArray := ⟨l.toArray⟩
theorem tl_ba (l : List UInt8) : tl (ba l) = l := rfl
theorem ba_tl (s : ByteArray) : ba (tl s) = s := by simp [ba, tl]
theorem ba_size (l : List UInt8) : (ba l).size = l.length := by rw [← tl_length]; rfl
theorem cut_any (s : ByteArray) (p q : List UInt8) (m : Bool) (h : Hid (cutS (tl s) = (p, q, m))) (w : World) (hG : Gd w) (hs : s.size < 4294967281) :
    Calls Tryz.prog 156 #[.string s, .string ⟨#[47]⟩] w fun e w' => e = .returned (.tuple #[.string (ba p), .string (ba q), .bool m]) ∧ ∃ n, w' = w.drewN n := by
  obtain ⟨mx, hG⟩ := hG
  refine (Tryz.strings_Cut s ⟨#[47]⟩ mx w hs hG).mono fun e w' ⟨h1, h2⟩ => ⟨?_, h2⟩
  have e2 : Lib.cut (tl s) [47] = (p, q, m) := (cut_one _).trans h.out
  rw [h1]
  show Ending.returned (.tuple #[.string (ba (Lib.cut (tl s) [47]).1), .string (ba (Lib.cut (tl s) [47]).2.1), .bool (Lib.cut (tl s) [47]).2.2]) = _
  rw [e2]
/-- Block g of w holds just cs. -/
def Has (w : World) (g : Nat) (t : TypeId) (cs : Array Value) : Prop := w.heap[g]? = some (.cells cs t (0, 0))
section
variable {w w' : World} {g : Nat} {t : TypeId} {cs : Array Value}
theorem Has.inside (h : Has w g t cs) : g < w.heap.size := by
  unfold Has at h
  exact (Array.getElem?_eq_some_iff.1 h).1
theorem Has.at_ (h : Has w g t cs) (i : Nat) : w.cell? ⟨g, i, none⟩ = cs[i]? := cell_of_row w g i cs t (0, 0) h
theorem Has.free (h : Has w g t cs) (i : Nat) : w.frozen? ⟨g, i, none⟩ = false := by
  unfold Has at h
  simp [World.frozen?, h]
theorem Has.fresh (w : World) (t : TypeId) (cs : Array Value) : Has (w.alloc (.cells cs t)) w.heap.size t cs := heap_alloc_new w _
theorem Has.fresh' (w : World) (t : TypeId) (cs : Array Value) {g : Nat} (hg : g = w.heap.size) : Has (w.alloc (.cells cs t)) g t cs := by subst hg; exact Has.fresh w t cs
theorem Has.drawn (h : Has w g t cs) (n : Nat) : Has (w.drewN n) g t cs := h
theorem Has.more (h : Has w g t cs) (o : Obj) : Has (w.alloc o) g t cs := (Below.heap_alloc w o g h.inside).trans h
theorem Has.put (h : Has w g t cs) (i : Nat) (v : Value) : Has (w.setCell ⟨g, i, none⟩ v) g t (cs.setIfInBounds i v) := by
  unfold Has at h ⊢
  simp [World.setCell, Array.getElem?_modify, h]
theorem Has.other (h : Has w g t cs) {p : Addr} (hp : g ≠ p.block) (v : Value) : Has (w.setCell p v) g t cs := (Below.heap_setCell w p v g hp).trans h
theorem Has.kept {B : Nat} (h : Has w g t cs) (hb : Below B w w') (hg : g < B) : Has w' g t cs := (hb.block g hg).trans h
end
theorem Has.row {w : World} {g : Nat} {t : TypeId} {cs cs' : Array Value} (h : Has w g t cs) : Has (w.setRow g cs') g t cs' := setRow_heap w g cs cs' t (0, 0) h
theorem Has.rowOther {w : World} {g g' : Nat} {t : TypeId} {cs cs' : Array Value} (h : Has w g t cs) (hg : g ≠ g') : Has (w.setRow g' cs') g t cs := (setRow_other w g' g cs' hg).trans h
def ptr (g : Nat) : Value := .pointer (some ⟨g, 0, none⟩)
/-- What a part of find's leaves in its two variables. -/
def FC (b n : Nat) (s : ByteArray) (k : Nat) (w w' : World) : Prop := w' = (w.setCell ⟨b, 0, none⟩ (.string s)).setCell ⟨n, 0, none⟩ (.int .i64 ((k + 1 : Nat) : Int))
set_option maxRecDepth 100000 in
set_option maxHeartbeats 400000 in
theorem findC_any (s : ByteArray) (b n : Nat) (v : Value) (k : Nat) (w : World) (hs : s.size ≤ 140737488355328) (hk : k ≤ 6) (hb : Has w b 9 #[v]) (hn : Has w n 3 #[.int .i64 (k : Int)]) (hne : b ≠ n) :
    Calls Tryz.prog 127 #[.string s, .pointer (some ⟨b, 0, none⟩), .pointer (some ⟨n, 0, none⟩)] w fun e w' => e = .returned (.bool (decide (k + 1 ≤ 6) && nameB (tl s))) ∧ FC b n s k w w' := by
  have c1 : w.cell? ⟨b, 0, none⟩ = some v := hb.at_ 0
  have c2 : w.cell? ⟨n, 0, none⟩ = some (.int .i64 (k : Int)) := hn.at_ 0
  have f1 := hb.free 0
  have f2 := hn.free 0
  have c3 : (w.setCell ⟨b, 0, none⟩ (.string s)).cell? ⟨n, 0, none⟩ = some (.int .i64 (k : Int)) := (Has.other hn hne.symm _).at_ 0
  have f3 := (Has.other hn (p := ⟨b, 0, none⟩) hne.symm (.string s)).free 0
  clear hb hn
  by_cases h6 : k + 1 ≤ 6
  · have g1 : (k : Int) + 1 ≤ 6 := by omega
    have H6 := hid h6
    clear h6 hk
    go_enter Tryz.func127, Tryz.ntmps127
    go_wp2_with (go_at_call 128; refine (name_any _ _ hs).mono ?_; rintro e1 w1 ⟨rfl, rfl⟩)
    go_ret
    refine ⟨ret_bool (by simp [H6.out]), ?_⟩
    unfold FC; rfl
  · have g1 : ¬ ((k : Int) + 1 ≤ 6) := by omega
    have H6 := hid h6
    clear h6
    go_enter Tryz.func127, Tryz.ntmps127
    go_wp2
    go_ret
    refine ⟨ret_bool (by have h := H6.out; rw [decide_eq_false (show ¬ k ≤ 5 by omega)]; rfl), ?_⟩
    unfold FC; rfl
theorem FC.post {b n k : Nat} {s : ByteArray} {v : Value} {w0 w w' : World} (h : FC b n s k w w') (hb : Has w b 9 #[v]) (hn : Has w n 3 #[.int .i64 (k : Int)]) (hne : b ≠ n) (hB : Below w0.heap.size w0 w) (h1 : w0.heap.size ≤ b) (h2 : w0.heap.size ≤ n) :
    Has w' b 9 #[.string s] ∧ Has w' n 3 #[.int .i64 ((k + 1 : Nat) : Int)] ∧ Below w0.heap.size w0 w' := by
  unfold FC at h; subst h
  exact ⟨((hb.put 0 _).other (p := ⟨n, 0, none⟩) hne _), ((hn.other (p := ⟨b, 0, none⟩) hne.symm _).put 0 _), (hB.setCell h1 _).setCell h2 _⟩
/-- What each leaves of find's two variables, and answers. -/
def EC (w0 : World) (b n : Nat) (r : Bool × Nat × List UInt8) (e : Ending) (w' : World) : Prop :=
  e = .returned (.bool r.1) ∧ Has w' b 9 #[.string (ba r.2.2)] ∧ Has w' n 3 #[.int .i64 (r.2.1 : Int)] ∧ Below w0.heap.size w0 w'
set_option maxRecDepth 100000 in
set_option maxHeartbeats 400000 in
theorem each_any (s : ByteArray) (b n : Nat) (v : List UInt8) (k : Nat) (w0 w : World) (hG : Gd w0) (hs : s.size ≤ 4000) (hk : k ≤ 6) (hb : Has w b 9 #[.string (ba v)]) (hn : Has w n 3 #[.int .i64 (k : Int)]) (hne : b ≠ n)
    (hB : Below w0.heap.size w0 w) (h1 : w0.heap.size ≤ b) (h2 : w0.heap.size ≤ n) :
    Calls Tryz.prog 126 #[.string s, .func (.func 127) #[] #[.pointer (some ⟨b, 0, none⟩), .pointer (some ⟨n, 0, none⟩)]] w fun e w' => EC w0 b n (eachF (pieces (tl s)) k v) e w' := by
  have HG := hid hG; have HB := hid hB; have Hb := hid hb; have Hn := hid hn; have Hne := hid hne; have H1 := hid h1; have H2 := hid h2
  clear hG hB hb hn hne h1 h2
  go_enter Tryz.func126, Tryz.ntmps126
  go_wp2
  go_loopw [0, 5] (fun t m wr => ∃ (r : ByteArray) (g : Bool) (j : Nat) (u : List UInt8), t = .string r ∧ m = .bool g ∧ r.size ≤ 4000 ∧ j ≤ 6 ∧ Hid (eachF (pieces (tl s)) k v = if g then eachF (pieces (tl r)) j u else (true, j, u))
      ∧ Hid (Has wr b 9 #[.string (ba u)]) ∧ Hid (Has wr n 3 #[.int .i64 (j : Int)]) ∧ Hid (Below w0.heap.size w0 wr))
    (fun t m _ => match t, m with | .string r, .bool true => r.size + 1 | _, _ => 0)
  case atStart => exact ⟨s, true, k, v, rfl, rfl, hs, hk, rfl, Hb, Hn, HB⟩
  case round =>
    obtain ⟨r, g, j, u, rfl, rfl, hr, hj, HE, J1, J2, J3⟩ := hrel
    cases g with
    | false =>
      go_wp2
      go_ret
      unfold EC
      rw [HE.out]
      exact ⟨rfl, J1.out, J2.out, J3.out⟩
    | true =>
      obtain ⟨p, q, m, HC⟩ : ∃ p q m, Hid (cutS (tl r) = (p, q, m)) := ⟨_, _, _, rfl⟩
      have hp : p.length ≤ 4000 := by have := (cutS_len (tl r)).2.1; rw [HC.out, tl_length] at this; simp only at this; omega
      have hq : q.length ≤ 4000 := by have := (cutS_len (tl r)).1; rw [HC.out, tl_length] at this; simp only at this; omega
      have HQ : Hid (m = true → q.length < r.size) := by intro hm; have := (cutS_len (tl r)).2.2; rw [HC.out, tl_length] at this; exact this hm
      have HP : Hid (eachF (pieces (tl r)) j u = if decide (j + 1 ≤ 6) && nameB p then (if m then eachF (pieces q) (j + 1) p else (true, j + 1, p)) else (false, j + 1, p)) := by
        show _ = _
        rw [pieces_cut, HC.out]
        cases m <;> rfl
      obtain ⟨c, HV⟩ : ∃ c, Hid ((decide (j + 1 ≤ 6) && nameB p) = c) := ⟨_, rfl⟩
      have hps : (ba p).size ≤ 140737488355328 := by rw [ba_size]; omega
      have HF : Hid (∀ (W : World), Has W b 9 #[.string (ba u)] → Has W n 3 #[.int .i64 (j : Int)] → Calls Tryz.prog 127 #[.string (ba p), .pointer (some ⟨b, 0, none⟩), .pointer (some ⟨n, 0, none⟩)] W fun e w' => e = .returned (.bool c) ∧ FC b n (ba p) j W w') := by
        intro W h1 h2
        have := findC_any (ba p) b n _ j W hps hj h1 h2 Hne.out
        rw [tl_ba, HV.out] at this; exact this
      cases c with
      | false =>
        go_wp2_with (first
          | (go_at_call 156; refine (cut_any r p q m HC wr (HG.out.kept J3.out) (by omega)).mono ?_; rintro e1 w1 ⟨rfl, nd, rfl⟩)
          | (go_at_call 127; refine (HF.out _ (J1.out.drawn nd) (J2.out.drawn nd)).mono ?_; rintro e2 w2 ⟨rfl, hfc⟩; have FC1 := hid hfc; clear hfc))
        go_ret
        obtain ⟨F1, F2, F3⟩ := FC1.out.post (J1.out.drawn nd) (J2.out.drawn nd) Hne.out (J3.out.drewN' nd) H1.out H2.out
        unfold EC
        rw [HE.out, if_pos trivial, HP.out, HV.out, if_neg (by decide)]
        exact ⟨rfl, F1, F2, F3⟩
      | true =>
        go_wp2_with (first
          | (go_at_call 156; refine (cut_any r p q m HC wr (HG.out.kept J3.out) (by omega)).mono ?_; rintro e1 w1 ⟨rfl, nd, rfl⟩)
          | (go_at_call 127; refine (HF.out _ (J1.out.drawn nd) (J2.out.drawn nd)).mono ?_; rintro e2 w2 ⟨rfl, hfc⟩; have FC1 := hid hfc; clear hfc))
        have HJ : Hid (j + 1 ≤ 6) := by
          have := HV.out; simp only [Bool.and_eq_true, decide_eq_true_eq] at this; exact this.1
        go_roundw
        case rel =>
          obtain ⟨F1, F2, F3⟩ := FC1.out.post (J1.out.drawn nd) (J2.out.drawn nd) Hne.out (J3.out.drewN' nd) H1.out H2.out
          exact ⟨ba q, m, j + 1, p, rfl, rfl, by rw [ba_size]; exact hq, HJ.out, by show _ = _; rw [HE.out, if_pos trivial, HP.out, HV.out, if_pos rfl, tl_ba], F1, F2, F3⟩
        case measure =>
          cases m with
          | false => simp
          | true => simp [ba_size]; exact HQ.out rfl
end Go.Proofs.YtlbeemlnbpchgaaGreat
