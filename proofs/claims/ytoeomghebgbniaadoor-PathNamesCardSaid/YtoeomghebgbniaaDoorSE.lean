/- The state of a digest that is being made, as cells and as a plain value; bytes fed to it one after the other. No conditions. -/
import Derived.Test.YtoeomghebgbniaaDoorSD
import Derived.Laws.CopyOwn
import Derived.Deep.MidRow
namespace Go.Proofs.YtoeomghebgbniaaDoor.Sha
open Go.RowKit

/-- A state: its eight words, its sixty-four bytes, how many bytes it was fed. -/
structure SS where
  ws : List (BitVec 32)
  ps : List UInt8
  n : Nat
def SS.Ok (s : SS) : Prop := s.ws.length = 8 ∧ s.ps.length = 64
def V32 (x : BitVec 32) : Value := .int .u32 (u x)
def V8 (x : UInt8) : Value := .int .u8 (b8 x)
def SS.cells (s : SS) : List Value := .bool true :: (s.ws.map V32 ++ (s.ps.map V8 ++ [.int .i64 (s.n : Int)]))
def Sta (w : World) (g : Nat) (s : SS) : Prop := Has w g 68 s.cells.toArray
theorem SS.cells_len (s : SS) (h : s.Ok) : s.cells.length = 74 := by simp [SS.cells, h.1, h.2]
theorem vec_V32 (l : List (BitVec 32)) : vec l = (l.map V32).toArray := rfl
theorem bvec_V8 (l : List UInt8) : bvec l = (l.map V8).toArray := rfl

theorem splice_one (l : List UInt8) (r : Nat) (x : UInt8) (h : r < l.length) : splice l r [x] = l.set r x := by
  simp [splice, List.set_eq_take_append_cons_drop, h]
theorem splice_cons {α : Type} (l : List α) (r : Nat) (x : α) (c : List α) (h : r + 1 + c.length ≤ l.length) : splice (l.set r x) (r + 1) c = splice l r (x :: c) := by
  unfold splice
  have e1 : (l.set r x).take (r + 1) = l.take r ++ [x] := by
    rw [List.set_eq_take_append_cons_drop, if_pos (by omega)]
    rw [List.take_append, List.length_take]
    simp [Nat.min_eq_left (by omega : r ≤ l.length), List.take_take]
  have e2 : (l.set r x).drop (r + 1 + c.length) = l.drop (r + (c.length + 1)) := by
    rw [List.drop_set, if_pos (by omega)]
    congr 1; omega
  rw [e1, e2]
  simp
theorem splice_len (l : List UInt8) (r : Nat) (c : List UInt8) (h : r + c.length ≤ l.length) : (splice l r c).length = l.length := length_splice l r c h

def feed1 (s : SS) (x : UInt8) : SS :=
  if (s.n + 1) % 64 = 0 then ⟨foldL s.ws (s.ps.set (s.n % 64) x), s.ps.set (s.n % 64) x, s.n + 1⟩ else ⟨s.ws, s.ps.set (s.n % 64) x, s.n + 1⟩
def feed (s : SS) (xs : List UInt8) : SS := xs.foldl feed1 s
theorem feed_append (s : SS) (xs ys : List UInt8) : feed s (xs ++ ys) = feed (feed s xs) ys := by simp [feed, List.foldl_append]
theorem feed1_n (s : SS) (x : UInt8) : (feed1 s x).n = s.n + 1 := by unfold feed1; split <;> rfl
theorem feed_n (xs : List UInt8) : ∀ s : SS, (feed s xs).n = s.n + xs.length := by
  induction xs with
  | nil => intro s; rfl
  | cons x xs ih => intro s; show (feed (feed1 s x) xs).n = _; rw [ih, feed1_n]; simp; omega
theorem sums_len (l : List (BitVec 32)) (R : S8) : (sums l R).length = 8 := rfl
theorem feed1_ok (s : SS) (x : UInt8) (h : s.Ok) : (feed1 s x).Ok := by
  unfold feed1
  split
  · exact ⟨sums_len _ _, by simp [h.2]⟩
  · exact ⟨h.1, by simp [h.2]⟩
theorem feed_ok (xs : List UInt8) : ∀ s : SS, s.Ok → (feed s xs).Ok := by
  induction xs with
  | nil => intro s h; exact h
  | cons x xs ih => intro s h; exact ih _ (feed1_ok s x h)
theorem feed_part (c : List UInt8) : ∀ s : SS, s.ps.length = 64 → s.n % 64 + c.length < 64 → 0 < c.length → feed s c = ⟨s.ws, splice s.ps (s.n % 64) c, s.n + c.length⟩ := by
  induction c with
  | nil => intro s _ _ h; simp at h
  | cons x c ih =>
    intro s hp h _
    simp only [List.length_cons] at h
    have e : feed1 s x = ⟨s.ws, s.ps.set (s.n % 64) x, s.n + 1⟩ := by unfold feed1; rw [if_neg (by omega)]
    show feed (feed1 s x) c = _
    rw [e]
    have hm : (s.n + 1) % 64 = s.n % 64 + 1 := by omega
    rcases Nat.eq_zero_or_pos c.length with h0 | h0
    · obtain rfl := List.eq_nil_of_length_eq_zero h0
      show (⟨s.ws, s.ps.set (s.n % 64) x, s.n + 1⟩ : SS) = _
      rw [splice_one _ _ _ (by omega)]; rfl
    · rw [ih ⟨s.ws, s.ps.set (s.n % 64) x, s.n + 1⟩ (by simp [hp]) (by show (s.n + 1) % 64 + _ < 64; omega) h0]
      show (⟨s.ws, splice (s.ps.set (s.n % 64) x) ((s.n + 1) % 64) c, s.n + 1 + c.length⟩ : SS) = _
      rw [hm, splice_cons _ _ _ _ (by omega)]
      congr 1
      simp; omega
theorem feed_full (c : List UInt8) : ∀ s : SS, s.ps.length = 64 → s.n % 64 + c.length = 64 → 0 < c.length →
    feed s c = ⟨foldL s.ws (splice s.ps (s.n % 64) c), splice s.ps (s.n % 64) c, s.n + c.length⟩ := by
  induction c with
  | nil => intro s _ _ h; simp at h
  | cons x c ih =>
    intro s hp h _
    simp only [List.length_cons] at h
    show feed (feed1 s x) c = _
    rcases Nat.eq_zero_or_pos c.length with h0 | h0
    · obtain rfl := List.eq_nil_of_length_eq_zero h0
      simp only [List.length_nil] at h
      have e : feed1 s x = ⟨foldL s.ws (s.ps.set (s.n % 64) x), s.ps.set (s.n % 64) x, s.n + 1⟩ := by unfold feed1; rw [if_pos (by omega)]
      rw [e, splice_one _ _ _ (by omega)]; rfl
    · have e : feed1 s x = ⟨s.ws, s.ps.set (s.n % 64) x, s.n + 1⟩ := by unfold feed1; rw [if_neg (by omega)]
      rw [e]
      have hm : (s.n + 1) % 64 = s.n % 64 + 1 := by omega
      rw [ih ⟨s.ws, s.ps.set (s.n % 64) x, s.n + 1⟩ (by simp [hp]) (by show (s.n + 1) % 64 + _ = 64; omega) h0]
      show (⟨foldL s.ws (splice (s.ps.set (s.n % 64) x) ((s.n + 1) % 64) c), splice (s.ps.set (s.n % 64) x) ((s.n + 1) % 64) c, s.n + 1 + c.length⟩ : SS) = _
      rw [hm, splice_cons _ _ _ _ (by omega)]
      congr 1
      simp; omega
/-- The cells of a state into whose bytes some were laid. -/
theorem cells_splice (s : SS) (h : s.Ok) (r : Nat) (c : List UInt8) (hr : r + c.length ≤ 64) : splice s.cells (9 + r) (c.map V8) = (SS.mk s.ws (splice s.ps r c) s.n).cells := by
  obtain ⟨h1, h2⟩ := h
  have e1 : s.cells = (.bool true :: s.ws.map V32) ++ (s.ps.map V8 ++ [.int .i64 (s.n : Int)]) := by simp [SS.cells]
  have hl : (Value.bool true :: s.ws.map V32).length = 9 := by simp [h1]
  rw [e1]
  unfold splice
  rw [List.take_append, List.drop_append, hl, List.take_of_length_le (by rw [hl]; omega), List.drop_of_length_le (by rw [hl]; omega)]
  rw [List.take_append, List.drop_append, List.length_map, h2, List.length_map]
  rw [show 9 + r - 9 = r by omega, show r - 64 = 0 by omega, show 9 + r + c.length - 9 = r + c.length by omega, show r + c.length - 64 = 0 by omega]
  simp [SS.cells, List.map_take, List.map_drop]
theorem cells_count (s : SS) (h : s.Ok) (m : Nat) : s.cells.toArray.setIfInBounds 73 (.int .i64 (m : Int)) = (SS.mk s.ws s.ps m).cells.toArray := by
  obtain ⟨h1, h2⟩ := h
  have e1 : s.cells = (.bool true :: (s.ws.map V32 ++ s.ps.map V8)) ++ [.int .i64 (s.n : Int)] := by simp [SS.cells]
  have hl : (Value.bool true :: (s.ws.map V32 ++ s.ps.map V8)).length = 73 := by simp [h1, h2]
  rw [e1, List.setIfInBounds_toArray, List.set_append, if_neg (by rw [hl]; omega), hl]
  simp [SS.cells]
theorem cells_get_word (s : SS) (h : s.Ok) (i : Nat) (hi : i < 8) : s.cells.toArray[1 + i]? = some (.int .u32 (u (at32 s.ws i))) := by
  obtain ⟨h1, h2⟩ := h
  rw [show 1 + i = i + 1 by omega]
  simp [SS.cells, List.getElem?_append, h1, hi, V32, at32, List.getD]
theorem cells_get_byte (s : SS) (h : s.Ok) (i : Nat) (hi : i < 64) : s.cells.toArray[9 + i]? = some (.int .u8 (b8 (at8 s.ps i))) := by
  obtain ⟨h1, h2⟩ := h
  rw [show 9 + i = (8 + i) + 1 by omega]
  simp [SS.cells, List.getElem?_append, h1, h2, hi, V8, at8, List.getD]
theorem cells_get_count (s : SS) (h : s.Ok) : s.cells.toArray[73]? = some (.int .i64 (s.n : Int)) := by
  obtain ⟨h1, h2⟩ := h
  simp [SS.cells, h1, h2]
theorem cells_one (s : SS) : ∀ v ∈ s.cells, v.oneCell' = true := by
  intro v hv
  simp only [SS.cells, List.mem_cons, List.mem_append, List.mem_map, List.not_mem_nil, or_false] at hv
  rcases hv with rfl | ⟨_, _, rfl⟩ | ⟨_, _, rfl⟩ | rfl <;> rfl
theorem cells_words (s : SS) (h : s.Ok) (ws : List (BitVec 32)) (hw : ws.length = 8) : splice s.cells 1 (ws.map V32) = (SS.mk ws s.ps s.n).cells := by
  obtain ⟨h1, h2⟩ := h
  simp [SS.cells, splice, hw, h1]

/-- Block g alone has turned, new blocks aside. -/
abbrev Grw (g : Nat) (w w' : World) : Prop := w.grownBy w' (some g)
theorem Grw.refl (g : Nat) (w : World) : Grw g w w := ⟨rfl, rfl, rfl, Nat.le_refl _, fun _ _ _ => rfl⟩
theorem Grw.trans {g : Nat} {a b c : World} (h : Grw g a b) (k : Grw g b c) : Grw g a c :=
  ⟨k.os.trans h.os, k.tape.trans h.tape, k.output.trans h.output, Nat.le_trans h.size k.size, fun i hi hn => (k.block i (Nat.lt_of_lt_of_le hi h.size) hn).trans (h.block i hi hn)⟩
theorem Grw.of_below {g : Nat} {a b : World} (h : Below a.heap.size a b) : Grw g a b := ⟨h.os, h.tape, h.output, h.size, fun i hi _ => h.block i hi⟩
theorem Grw.of_row (g : Nat) (a : World) (cs : Array Value) : Grw g a (a.setRow g cs) :=
  ⟨rfl, rfl, rfl, by simp, fun i _ hn => setRow_other a g i cs (fun e => hn (by rw [e]))⟩
theorem Grw.of_set (g i : Nat) (a : World) (v : Value) : Grw g a (a.setCell ⟨g, i, none⟩ v) :=
  ⟨rfl, rfl, rfl, by simp [World.setCell], fun k _ hn => Below.heap_setCell a ⟨g, i, none⟩ v k (fun e => hn (by rw [e]))⟩
theorem Grw.drawn {g : Nat} {a b : World} (h : Grw g a b) (n : Nat) : Grw g a (b.drewN n) := ⟨h.os, h.tape, h.output, h.size, h.block⟩
theorem Has.sets {g : Nat} {t : TypeId} (c : List Value) : ∀ (o : Nat) (w : World) (cur : List Value), Has w g t cur.toArray → o + c.length ≤ cur.length → Has (w.setCells g o c) g t (splice cur o c).toArray := by
  induction c with
  | nil => intro o w cur h _; simpa [splice, World.setCells] using h
  | cons x c ih =>
    intro o w cur h hl
    simp only [List.length_cons] at hl
    rw [← splice_cons cur o x c (by omega)]
    have h1 := Has.put h o x
    rw [List.setIfInBounds_toArray] at h1
    exact ih (o + 1) _ _ h1 (by simp; omega)
theorem Grw.of_sets (g : Nat) (c : List Value) : ∀ (o : Nat) (w : World), Grw g w (w.setCells g o c) := by
  induction c with
  | nil => intro o w; exact Grw.refl g w
  | cons x c ih => intro o w; exact (Grw.of_set g o w x).trans (ih (o + 1) _)
theorem Has.grw {w w' : World} {g h : Nat} {t : TypeId} {cs : Array Value} (k : Has w h t cs) (hg : Grw g w w') (hn : h ≠ g) : Has w' h t cs :=
  (hg.block h k.inside (fun e => hn (Option.some.inj e))).trans k
end Go.Proofs.YtoeomghebgbniaaDoor.Sha
