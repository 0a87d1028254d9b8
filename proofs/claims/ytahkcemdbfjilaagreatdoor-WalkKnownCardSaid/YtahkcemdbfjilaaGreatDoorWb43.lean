/- Several texts in one. Conditions: those said at each. -/
import Derived.Test.YtahkcemdbfjilaaGreatDoorRows
import Derived.Test.YtahkcemdbfjilaaGreatDoorCards
import Derived.Test.YtahkcemdbfjilaaGreatDoorTie
import Derived.ProofKit
import Derived.LaidMore
import Derived.OpenShut
import Derived.Lay
import Derived.Stop.Joined
import Derived.SevenTiedAt
import Derived.HandedShaped
import Derived.Test.YtahkcemdbfjilaaGreatDoorWb42
set_option linter.unusedSimpArgs false
set_option linter.unusedVariables false
set_option maxRecDepth 100000
namespace Go.Proofs.YtahkcemdbfjilaaGreatDoor
open Go.ChangeShapes Go.WideShapes Go.ChangeAt Go.ChangeMaps Go.WideElems Go.RowKit Go.Deep
theorem own : ownKnob Tryz.prog.godebug = none := by kernel_rfl
theorem laidOut : laidOutB Tryz.prog = true := by kernel_rfl
theorem gRoots : Tryz.prog.globalNamed "caravan/sha.roots" = some 0 := by kernel_rfl
theorem tRoots : (Tryz.prog.globals[0]?).map (·.type) = some 274 := by kernel_rfl
theorem c33 : Tryz.prog.cellsOf 53 = 1 := by kernel_rfl
theorem c69 : Tryz.prog.cellsOf 274 = 64 := by kernel_rfl
def laidW : List (String × DataW Unit) := [("caravan/sha.roots", Rows.laid_caravan_sha_roots), ("unicode/utf8.acceptRanges", Rows.laid_unicode_utf8_acceptRanges), ("unicode/utf8.first", Rows.laid_unicode_utf8_first)]
theorem laid_met (os : Os) (args : Array Value) : laidMetH Tryz.prog laidW (((World.laidAll Tryz.prog os laidW).forCall (fun _ _ => 0) ⟨#[], args, []⟩).memory) := by
 rw [MakeChecks.laidMetH_plain _ _ _ (by kernel_rfl)]
 exact laidMet_laidAll _ (by kernel_rfl) (by kernel_rfl)
theorem tab_data : (Rows.laid_caravan_sha_roots : DataW Unit) = Lib.tabData .u32 (Sha.kList.map Sha.u) := by kernel_rfl
theorem low_size {w : World} (h : w.ShapedOpen Tryz.prog) : Tryz.prog.low ≤ w.heap.size := by
 have hk : decide (Tryz.prog.globals.size < Tryz.prog.low) = true := by kernel_rfl
 have hk := of_decide_eq_true hk
 obtain ⟨o, _, ho, _⟩ := h.2 (Tryz.prog.low - 1) (by omega) (by unfold Program.low at hk ⊢; omega)
 have := (Array.getElem?_eq_some_iff.1 ho).1
 omega
theorem gd_of {W : World} (hsh : W.ShapedOpen Tryz.prog) : Gd W := ⟨hsh, low_size hsh⟩
theorem tab_of {W : World} (h : laidMetH Tryz.prog laidW W) : Sha.Tab W := by
 rw [MakeChecks.laidMetH_plain _ _ _ (by kernel_rfl)] at h
 rw [laidW, tab_data] at h
 have hT := Lib.tabIs_of_head gRoots tRoots Tryz.underlying274 Tryz.underlying53 c33 c69 h
 intro i hi
 have := hT.cell gRoots i (by simp; exact hi)
 rw [this]
 have hk : i < Sha.kList.length := hi
 simp [Sha.at32, List.getD, List.getElem?_eq_getElem hk]
section
variable {H : Type} {enc : TypeId × Value → H}
theorem handed_shaped {a : Assume} {C : Checked} {os : Os} {f : FuncId} {fn : Func} {s : ChangeSpec} {conds : List PathCond} {apart fresh handsOn again : Bool} {X : World → Array Value → Prop}
 (hX : ∀ (w w' : World) (args : Array Value), w.heap = w'.heap → X w args → X w' args)
 (own : ownKnob C.prog.godebug = none) (started : os.Started) (noInit : C.prog.inits.idxOf? f = none) (hfn : C.prog.funcs[f]? = some fn)
 (witness : ∃ (w : World) (tape : Tape) (i : Input), w.os = os ∧ (w.forCall tape i).Shaped C.prog ∧ i.vars = [] ∧ Input.okWide C.prog (w.forCall tape i) .any w.heap.size f i ∧
   ((s.pre enc C.prog fn conds apart (w.forCall tape i).memory i.args ∧ X (w.forCall tape i).memory i.args) ∧ sizedMet enc C.prog fn (OpenSpec.ofChange s) apart (w.forCall tape i).memory i.args) ∧ a.holds C.prog (lone (Frame.enter C.prog f i.args .normal) [] (w.forCall tape i)))
 (contract : ∀ (W : World) (base : Nat) (args : Array Value) (ds gs : List (DataW H)) (before : List MemPlace),
   (∀ (j : Nat) t v, fn.params[j]? = some t → args[j]? = some v → Value.okWide C.prog W .any base t v) →
   DataW.Whole enc C.prog fn.params.toList s.vars apart W args.toList ds gs before →
   (DataW.weightsEach C.prog (fn.params.toList ++ s.plain.varTypes C.prog) (ds ++ gs)).all (· ≤ reachBytes) = true → W.ShapedOpen C.prog → X W args →
   Calls C.prog f args W fun e W' => ∃ v, e = .returned v ∧ s.post enc C.prog fn apart fresh handsOn again W args v W') :
 ReturnsInHanded a C os f .any (fun w args => (s.pre enc C.prog fn conds apart w args ∧ X w args) ∧ sizedMet enc C.prog fn (OpenSpec.ofChange s) apart w args) (s.post enc C.prog fn apart fresh handsOn again) := by
 refine returnsInHanded_of_calls own started noInit witness ?_
 intro w tape i _ hsh _ hok hpre _
 obtain ⟨_, _, _, fn2, hf2, _, _, _, _, hval⟩ := hok
 obtain rfl : fn2 = fn := Option.some.inj (hf2.symm.trans hfn)
 obtain ⟨⟨⟨ds, gs, before, hw, _⟩, hx⟩, hz⟩ := hpre
 refine (contract (w.forCall tape i) w.heap.size i.args ds gs before hval (DataW.Whole.of_heap (w' := w.forCall tape i) (by rfl) hw) (hz.weights hw) hsh (hX _ _ _ (by rfl) hx)).mono fun e W2 ⟨v, he, hp⟩ => ?_
 subst he
 exact ChangeSpec.post_blind hp
end
theorem post_law {H : Type} {enc : TypeId × Value → H} {f : Func} {s : ChangeSpec} {W W' : World} {args : Array Value} {ds : List (DataW H)} {before pa : List MemPlace} (hv : s.vars = []) (hft : f.resultTypes = #[4])
 (hW : DataW.Whole enc Tryz.prog f.params.toList s.vars false W args.toList ds [] before) (hs : s.fn H (ds ++ []) = { results := [.lit (.bool true)], args := ds }) (hb : Below W.heap.size W W')
 (hargs : DataW.TrodAll enc Tryz.prog W' 0 (fun b => decide (b < W.heap.size)) true f.params.toList args.toList ds pa) :
 s.post enc Tryz.prog f false true false false W args (.bool true) W' := by
 refine ⟨ds, [], before, [], pa, [], hW, ?_, ?_, ?_, hb.frame _, fun h => by cases h⟩
 · rw [hs, hft]; exact trodAll_mk1 (shut_bool Tryz.underlying4 true)
 · rw [hs]; exact hargs
 · rw [hs, hv]; exact rfl
end Go.Proofs.YtahkcemdbfjilaaGreatDoor
namespace Go.Proofs.YtahkcemdbfjilaaGreatDoor
open Go.ChangeShapes Go.WideShapes Go.ChangeAt Go.ChangeMaps Go.WideElems Go.RowKit Go.Deep
theorem spot_none {w : World} {a : Addr} {v : Value} (h : w.cell? (a.add 0) = some v) : a = ⟨a.block, a.off, none⟩ := by
 have e : a.add 0 = a := rfl
 rw [e] at h
 obtain ⟨b, o, s⟩ := a
 cases s with
 | none => rfl
 | some x =>
  simp only [World.cell?] at h
  split at h
  · simp at h
  · cases h
theorem add_add (a : Addr) (i j : Nat) : (a.add i).add j = a.add (i + j) := by
 obtain ⟨b, o, s⟩ := a
 unfold Addr.add
 by_cases hj0 : j = 0
 · subst hj0; simp
 · by_cases hi0 : i = 0
   · simp [hj0, hi0]
   · simp [hj0, hi0, Nat.add_assoc]
theorem list_of {α : Type} (z : α) (n : Nat) (R : Nat → α → Prop) (h : ∀ i, i < n → ∃ x, R i x) : ∃ xs : List α, xs.length = n ∧ ∀ i, i < n → R i (xs.getD i z) := by
 refine ⟨(List.range n).map fun i => if h' : i < n then Classical.choose (h i h') else z, by simp, fun i hi => ?_⟩
 have e : ((List.range n).map fun i => if h' : i < n then Classical.choose (h i h') else z).getD i z = Classical.choose (h i hi) := by
  simp [List.getD, hi]
 rw [e]; exact Classical.choose_spec (h i hi)
theorem int_in {k : IntKind} {n : Int} (h : (Lit.int k n).wf = true) : k.min ≤ n ∧ n ≤ k.max := by
 simpa [Lit.wf] using h
theorem weights_in {H : Type} {P : Program} {e : TypeId} : ∀ {l : List (DataW H)} {d : DataW H}, d ∈ l → ∀ n ∈ d.weights P e, n ∈ DataW.weightsAll P e l
 | x :: r, d, h, n, hn => by
  simp only [DataW.weightsAll, List.mem_append]
  rcases List.mem_cons.1 h with rfl | h
  · exact .inl hn
  · exact .inr (weights_in h n hn)
theorem reach_is : reachBytes = 140737488351232 := rfl
section
variable {H : Type} {enc : TypeId × Value → H} {w : World} {base : Nat} {spare : Nat → Bool} {held : Bool}
theorem open_puts {r : Reach} {b0 : Nat} {v : Value} {d : DataW H} {p : List MemPlace} (hv : Value.okWide Tryz.prog w r b0 22 v) (h : DataW.Trod enc Tryz.prog w base spare held 22 v d p) (hsz : ∀ n ∈ d.weights Tryz.prog 22, n ≤ reachBytes) :
 ∃ (A : Option Addr) (n cap bb off : Nat) (xs : List PutT), v = .slice A n cap ∧ PutsIn w A n bb off xs ∧ n ≤ maxLen := by
 have hC : Tryz.prog.cellsOf 89 = 5 := by kernel_rfl
 have hs1 : Tryz.prog.cellsOf 3 = 1 := by kernel_rfl
 have hs2 : Tryz.prog.cellsOf 2 = 1 := by kernel_rfl
 have hs3 : Tryz.prog.cellsOf 9 = 1 := by kernel_rfl
 obtain ⟨A, n, cap, rfl⟩ := okWide_slice Tryz.underlying22 hv
 obtain ⟨fuel, hf⟩ := h
 rcases open_slice Tryz.underlying22 hf with ⟨hcs, _⟩ | ⟨a, len, cap', m, fu, D, Pl, hcs, hb, hl, hm, hmm, hdx, hx⟩
 · have e : [Value.slice A n cap] = [Value.slice none 0 0] := hcs
   simp only [List.cons.injEq, Value.slice.injEq, and_true] at e
   obtain ⟨rfl, rfl, rfl⟩ := e
   exact ⟨none, 0, 0, 0, 0, [], rfl, ⟨rfl, fun h => absurd h (by omega), fun i h => absurd h (by omega), fun x h => (by cases h)⟩, Nat.zero_le _⟩
 · have e : [Value.slice A n cap] = [Value.slice (some a) len cap'] := hcs
   simp only [List.cons.injEq, Value.slice.injEq, and_true] at e
   obtain ⟨rfl, rfl, rfl⟩ := e
   simp only [Prod.mk.injEq] at hdx
   obtain ⟨rfl, _⟩ := hdx
   have hl' : n ≤ cap := hl
   have hle : n ≤ m := by rw [hmm]; split <;> omega
   have key : ∀ i, i < n → ∃ x : PutT, w.cell? (a.add (i * 5)) = some (.int .i64 x.kind) ∧ w.cell? (a.add (i * 5 + 1)) = some (kS x.p) ∧ w.cell? (a.add (i * 5 + 2)) = some (kS x.text) ∧ w.cell? (a.add (i * 5 + 3)) = some (.int .i64 x.long) ∧
    w.cell? (a.add (i * 5 + 4)) = some (.int .i64 x.time) ∧ PutOk x := by
    intro i hi
    obtain ⟨cs', h1, h2⟩ := hx i (by omega)
    have hwt : ∀ z ∈ (D i).weights Tryz.prog 89, z ≤ reachBytes := fun z hz => hsz z (by
     simp only [DataW.weights, Tryz.underlying22, List.mem_cons, List.mem_append]
     exact .inr (.inl (weights_in (List.mem_map.2 ⟨i, List.mem_range.2 hi, rfl⟩) z hz)))
    rw [hC] at h1
    obtain ⟨_, hlen, hcc⟩ := World.cells?_some h1
    match cs', hlen with
    | [c0, c1, c2, c3, c4], _ =>
     have k0 := hcc 0 (by omega)
     have k1 := hcc 1 (by omega)
     have k2 := hcc 2 (by omega)
     have k3 := hcc 3 (by omega)
     have k4 := hcc 4 (by omega)
     rw [add_add] at k0 k1 k2 k3 k4
     obtain ⟨xs, m', _, hxe, _, hlen, hg⟩ := DataW.trod_struct Tryz.underlying89 h2
     match xs, hlen with
     | [y0, y1, y2, y3, y4], _ =>
      have g0 : DataW.trod enc Tryz.prog w base spare held m' 3 [c0] = some y0 := by have := hg 0 _ rfl; simpa [hs1] using this
      have g1 : DataW.trod enc Tryz.prog w base spare held m' 9 [c1] = some y1 := by have := hg 1 _ rfl; simpa [hs3] using this
      have g2 : DataW.trod enc Tryz.prog w base spare held m' 9 [c2] = some y2 := by have := hg 2 _ rfl; simpa [hs3] using this
      have g3 : DataW.trod enc Tryz.prog w base spare held m' 3 [c3] = some y3 := by have := hg 3 _ rfl; simpa [hs1] using this
      have g4 : DataW.trod enc Tryz.prog w base spare held m' 2 [c4] = some y4 := by have := hg 4 _ rfl; simpa [hs2] using this
      obtain ⟨n0, i0, _, q0⟩ := DataW.trod_int Tryz.underlying3 g0
      obtain ⟨s1, i1, r1, _⟩ := DataW.trod_string Tryz.underlying9 g1
      obtain ⟨s2, i2, r2, _⟩ := DataW.trod_string Tryz.underlying9 g2
      obtain ⟨n3, i3, _, q3⟩ := DataW.trod_int Tryz.underlying3 g3
      obtain ⟨n4, i4, _, q4⟩ := DataW.trod_int Tryz.underlying2 g4
      simp only [List.cons.injEq, and_true] at i0 i1 i2 i3 i4
      subst i0 i1 i2 i3 i4
      have q3 := int_in q3
      simp only [IntKind.min, IntKind.max, IntKind.signed, IntKind.bits] at q3
      simp at q3
      simp only [Prod.mk.injEq] at hxe
      have hD := hxe.1
      rw [hD] at hwt
      simp only [DataW.weights, Tryz.underlying89] at hwt
      have z1 : s1.data.toList.length ≤ 140737488351232 := by
       have := hwt s1.data.toList.length (by rw [r1]; simp [DataW.weightsEach, DataW.weights])
       rwa [reach_is] at this
      have z2 : s2.data.toList.length ≤ 140737488351232 := by
       have := hwt s2.data.toList.length (by rw [r2]; simp [DataW.weightsEach, DataW.weights])
       rwa [reach_is] at this
      refine ⟨⟨n0, tl s1, tl s2, n3, n4⟩, k0, ?_, ?_, k3, k4, ⟨z1, z2, q3.1, by show n3 ≤ _; omega⟩⟩
      · show _ = some (Value.string (ba (tl s1))); rw [ba_tl]; exact k1
      · show _ = some (Value.string (ba (tl s2))); rw [ba_tl]; exact k2
   rcases Nat.eq_zero_or_pos n with h0 | h0
   · subst h0
     exact ⟨some a, 0, cap, 0, 0, [], rfl, ⟨rfl, fun h => absurd h (by omega), fun i h => absurd h (by omega), fun x h => (by cases h)⟩, Nat.zero_le _⟩
   · obtain ⟨x0, k0, _⟩ := key 0 h0
     rw [Nat.zero_mul] at k0
     have ha := spot_none k0
     have hlt : a.block < w.heap.size := World.block_lt_of_cell? w (a.add 0) k0
     obtain ⟨xs, hl, hxs⟩ := list_of put0 n _ key
     have e0 : ∀ k, a.add k = ⟨a.block, a.off + k, none⟩ := fun k => by
      conv => lhs; rw [ha]
      rw [add_at]
     have hmem : ∀ x ∈ xs, ∃ i, i < n ∧ x = xs.getD i put0 := fun x hx => by
      obtain ⟨i, hi, rfl⟩ := List.getElem_of_mem hx
      exact ⟨i, by omega, by rw [List.getD, List.getElem?_eq_getElem hi]; rfl⟩
     refine ⟨some a, n, cap, a.block, a.off, xs, rfl, ⟨hl, fun _ => ⟨by rw [← ha], hlt⟩, fun i hi => ?_, fun x hx => ?_⟩, Nat.le_trans hl' hm⟩
     · obtain ⟨k0, k1, k2, k3, k4, _⟩ := hxs i hi
       rw [e0] at k0 k1 k2 k3 k4
       exact ⟨k0, k1, k2, k3, k4⟩
     · obtain ⟨i, hi, rfl⟩ := hmem x hx
       exact (hxs i hi).2.2.2.2.2
theorem open_files {r : Reach} {b0 : Nat} {v : Value} {d : DataW H} {p : List MemPlace} (hv : Value.okWide Tryz.prog w r b0 23 v) (h : DataW.Trod enc Tryz.prog w base spare held 23 v d p) (hsz : ∀ n ∈ d.weights Tryz.prog 23, n ≤ reachBytes) :
 ∃ (A : Option Addr) (n cap bb off : Nat) (fs : Glob.Fl), v = .slice A n cap ∧ Glob.FilesAt w A n bb off fs ∧ (∀ f ∈ fs, f.1.length ≤ 140737488351232 ∧ f.2.length ≤ 140737488351232) ∧ n ≤ maxLen := by
 have hC : Tryz.prog.cellsOf 91 = 2 := by kernel_rfl
 have hs3 : Tryz.prog.cellsOf 9 = 1 := by kernel_rfl
 obtain ⟨A, n, cap, rfl⟩ := okWide_slice Tryz.underlying23 hv
 obtain ⟨fuel, hf⟩ := h
 rcases open_slice Tryz.underlying23 hf with ⟨hcs, _⟩ | ⟨a, len, cap', m, fu, D, Pl, hcs, hb, hl, hm, hmm, hdx, hx⟩
 · have e : [Value.slice A n cap] = [Value.slice none 0 0] := hcs
   simp only [List.cons.injEq, Value.slice.injEq, and_true] at e
   obtain ⟨rfl, rfl, rfl⟩ := e
   exact ⟨none, 0, 0, 0, 0, [], rfl, ⟨rfl, fun h => absurd h (by omega), fun i h => absurd h (by simp), fun i h => absurd h (by simp)⟩, fun x h => (by cases h), Nat.zero_le _⟩
 · have e : [Value.slice A n cap] = [Value.slice (some a) len cap'] := hcs
   simp only [List.cons.injEq, Value.slice.injEq, and_true] at e
   obtain ⟨rfl, rfl, rfl⟩ := e
   simp only [Prod.mk.injEq] at hdx
   obtain ⟨rfl, _⟩ := hdx
   have hl' : n ≤ cap := hl
   have hle : n ≤ m := by rw [hmm]; split <;> omega
   have key : ∀ i, i < n → ∃ x : By × By, w.cell? (a.add (i * 2)) = some (kS x.1) ∧ w.cell? (a.add (i * 2 + 1)) = some (kS x.2) ∧ x.1.length ≤ 140737488351232 ∧ x.2.length ≤ 140737488351232 := by
    intro i hi
    obtain ⟨cs', h1, h2⟩ := hx i (by omega)
    have hwt : ∀ z ∈ (D i).weights Tryz.prog 91, z ≤ reachBytes := fun z hz => hsz z (by
     simp only [DataW.weights, Tryz.underlying23, List.mem_cons, List.mem_append]
     exact .inr (.inl (weights_in (List.mem_map.2 ⟨i, List.mem_range.2 hi, rfl⟩) z hz)))
    rw [hC] at h1
    obtain ⟨_, hlen, hcc⟩ := World.cells?_some h1
    match cs', hlen with
    | [c0, c1], _ =>
     have k0 := hcc 0 (by omega)
     have k1 := hcc 1 (by omega)
     rw [add_add] at k0 k1
     obtain ⟨xs, m', _, hxe, _, hlen, hg⟩ := DataW.trod_struct Tryz.underlying91 h2
     match xs, hlen with
     | [y0, y1], _ =>
      have g0 : DataW.trod enc Tryz.prog w base spare held m' 9 [c0] = some y0 := by have := hg 0 _ rfl; simpa [hs3] using this
      have g1 : DataW.trod enc Tryz.prog w base spare held m' 9 [c1] = some y1 := by have := hg 1 _ rfl; simpa [hs3] using this
      obtain ⟨s1, i1, r1, _⟩ := DataW.trod_string Tryz.underlying9 g0
      obtain ⟨s2, i2, r2, _⟩ := DataW.trod_string Tryz.underlying9 g1
      simp only [List.cons.injEq, and_true] at i1 i2
      subst i1 i2
      simp only [Prod.mk.injEq] at hxe
      have hD := hxe.1
      rw [hD] at hwt
      simp only [DataW.weights, Tryz.underlying91] at hwt
      have z1 : s1.data.toList.length ≤ 140737488351232 := by
       have := hwt s1.data.toList.length (by rw [r1]; simp [DataW.weightsEach, DataW.weights])
       rwa [reach_is] at this
      have z2 : s2.data.toList.length ≤ 140737488351232 := by
       have := hwt s2.data.toList.length (by rw [r2]; simp [DataW.weightsEach, DataW.weights])
       rwa [reach_is] at this
      refine ⟨(tl s1, tl s2), ?_, ?_, z1, z2⟩
      · show _ = some (Value.string (ba (tl s1))); rw [ba_tl]; exact k0
      · show _ = some (Value.string (ba (tl s2))); rw [ba_tl]; exact k1
   rcases Nat.eq_zero_or_pos n with h0 | h0
   · subst h0
     exact ⟨some a, 0, cap, 0, 0, [], rfl, ⟨rfl, fun h => absurd h (by omega), fun i h => absurd h (by simp), fun i h => absurd h (by simp)⟩, fun x h => (by cases h), Nat.zero_le _⟩
   · obtain ⟨x0, k0, _⟩ := key 0 h0
     rw [Nat.zero_mul] at k0
     have ha := spot_none k0
     have hlt : a.block < w.heap.size := World.block_lt_of_cell? w (a.add 0) k0
     obtain ⟨xs, hl, hxs⟩ := list_of (([], []) : By × By) n _ key
     have e0 : ∀ k, a.add k = ⟨a.block, a.off + k, none⟩ := fun k => by
      conv => lhs; rw [ha]
      rw [add_at]
     have hgd : ∀ i (hi : i < xs.length), xs.getD i ([], []) = xs[i] := fun i hi => by rw [List.getD, List.getElem?_eq_getElem hi]; rfl
     refine ⟨some a, n, cap, a.block, a.off, xs, rfl, ⟨hl, fun _ => ⟨by rw [← ha], hlt⟩, fun i hi => ?_, fun i hi => ?_⟩, fun x hx => ?_, Nat.le_trans hl' hm⟩
     · obtain ⟨k0, k1, _⟩ := hxs i (by omega)
       rw [e0, hgd i hi] at k0 k1
       exact ⟨k0, k1⟩
     · obtain ⟨_, _, z1, z2⟩ := hxs i (by omega)
       rw [hgd i hi] at z1 z2
       unfold maxLen
       exact ⟨by omega, by omega⟩
     · obtain ⟨i, hi, rfl⟩ := List.getElem_of_mem hx
       obtain ⟨_, _, z1, z2⟩ := hxs i (by omega)
       rw [hgd i hi] at z1 z2
       exact ⟨z1, z2⟩
end
end Go.Proofs.YtahkcemdbfjilaaGreatDoor
