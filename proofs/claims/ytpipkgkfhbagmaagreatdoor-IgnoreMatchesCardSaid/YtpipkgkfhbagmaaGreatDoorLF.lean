/- ignore: what reading a file leans on, and leaves; a line of a file (Parse's inner closure): what the call does. Conditions: as the state says. -/
import Derived.Test.YtpipkgkfhbagmaaGreatDoorLE
import Derived.Great.BuildSlice
import Derived.Deep.RegionHeld3
namespace Go.Proofs.YtpipkgkfhbagmaaGreatDoor.Glob
open Go.RowKit Go.Maps
section
variable {ops : Array Oper} {S : World → Prop} {o : Oper} {a : Act}
theorem yields_look {t : TypeId} {c : Bool} (hw : Region.wanted o (yielded ops a.tmps) = true) (m x : Operand) (ho : o.op = .lookup t m x c) (mv xv r : Value) (hm : a.eval m = mv) (hx : a.eval x = xv)
    (hS : ∀ w, S w → (Instr.lookup t mv xv c).run Tryz.prog w = .ok r w) : YieldsIf Tryz.prog ops S o r a :=
  .inl ⟨hw, fun w hw' => by
    unfold execOp
    simp only [ho, hm, hx, Sem.run_bind, Sem.run_pure, Result.andThen_ok, hS w hw']⟩
theorem yields_slice {t : TypeId} (hw : Region.wanted o (yielded ops a.tmps) = true) (x l h : Operand) (ho : o.op = .slice t x (some l) (some h) none) (xv lv hv r : Value) (hx : a.eval x = xv) (hl : a.eval l = lv) (hh : a.eval h = hv)
    (hS : ∀ w, S w → (Instr.sliceAt t xv (some lv) (some hv) none).run Tryz.prog w = .ok r w) : YieldsIf Tryz.prog ops S o r a :=
  .inl ⟨hw, fun w hw' => by
    unfold execOp
    simp only [ho, hx, hl, hh, Option.map_some, Option.map_none, Sem.run_bind, Sem.run_pure, Result.andThen_ok, hS w hw']⟩
/-- A store into a map as one step. -/
theorem step_update {w : World} {K : Act → World → Prop} {Q : Exit → Act → World → Prop} {E : Prop} (hw : Region.wanted o (yielded ops a.tmps) = true) {t : TypeId} (m x v : Operand) (ho : o.op = .mapUpdate t m x v) (mv xv vv : Value) (hm : a.eval m = mv) (hx : a.eval x = xv) (hv : a.eval v = vv)
    {w' : World} (hr : (Instr.mapUpdate t mv xv vv).run Tryz.prog w = .ok () w') (hK : K (a.put o.dst undef) w') : if Region.wanted o (yielded ops a.tmps) = true then Oper.wp Tryz.prog o a w K Q else E := by
  rw [if_pos hw]
  unfold Oper.wp
  simp [execOp, ho, hm, hx, hv, hr, Result.andThen]
  exact hK
theorem step_build1 {w : World} {K : Act → World → Prop} {Q : Exit → Act → World → Prop} {E : Prop} (hw : Region.wanted o (yielded ops a.tmps) = true) (x : Operand) (ho : o.op = .buildSlice 23 1 #[(0, x)]) (s : ByteArray) (hx : a.eval x = .string s)
    (hK : K (a.put o.dst (.slice (some ⟨w.heap.size, 0, none⟩) 1 1)) (w.alloc (.cells #[.string s] 9))) : if Region.wanted o (yielded ops a.tmps) = true then Oper.wp Tryz.prog o a w K Q else E := by
  have hI : (Tryz.prog.info? 9).map (fun i => (i.size, i.zero)) = some (1, some (.string ⟨#[]⟩)) := by kernel_rfl
  have hr : (Instr.buildSlice 23 1 #[(0, Value.string s)]).run Tryz.prog w = .ok (.slice (some ⟨w.heap.size, 0, none⟩) 1 1) (w.alloc (.cells #[.string s] 9)) := by
    cases hie : Tryz.prog.info? 9 with
    | none => rw [hie] at hI; cases hI
    | some ie =>
      rw [hie] at hI
      simp only [Option.map_some, Option.some.injEq, Prod.mk.injEq] at hI
      refine run_buildSlice (P := Tryz.prog) w 23 9 1 _ _ ie _ Tryz.underlying23 hie hI.2 (by rw [hI.1]; omega) (by rw [hI.1]; omega) ?_
      rw [hI.1]
      refine (Great.fill_whole (s := 1) (by omega) [Value.string s] _ (fun v hv => ?_) (by simp)).trans (by simp [Value.cells])
      simp only [List.mem_singleton] at hv
      subst hv
      rfl
  rw [if_pos hw]
  unfold Oper.wp
  simp only [execOp, ho, hx, Sem.run_bind, List.map_toArray, List.map_cons, List.map_nil, hr, Result.andThen]
  exact hK
theorem step_append_run {P : Program} {ops : Array Oper} {o : Oper} {a : Act} {w : World} {K : Act → World → Prop} {Q : Exit → Act → World → Prop} {E : Prop}
    (hg : o.guard = none) (s x : Operand) (sT xT : TypeId) (hop : o.op = Op.call { callee := Callee.builtin Builtin.append, args := #[s, x], argTypes := #[sT, xT] })
    (v u : Value) (hs : a.eval s = v) (hx : a.eval x = u) {v' : Value} {w' : World} (hr : (Builtin.append_ #[sT, xT] o.type #[v, u]).run P w = .ok v' w') (hK : K (a.put o.dst v') w') :
    if Region.wanted o (yielded ops a.tmps) = true then Oper.wp P o a w K Q else E := by
  have hw : Region.wanted o (yielded ops a.tmps) = true := by simp [Region.wanted, hg]
  rw [if_pos hw]
  unfold Oper.wp
  simp [execOp, hop, resolve, invoke, builtin, hs, hx, hr, Result.andThen]
  exact hK
end
/-- What stands still while files are read. -/
structure Bx where
  tb : Nat
  db : Nat
  lb : Nat
  fb : Nat
  rb : Nat
  L : Nat
  D : Nat
  pm : Nat
  B : Nat
  fv : Value
def readV (x : Bx) : Value := .func (.func 11) #[] #[ptrV x.tb, ptrV x.db, ptrV x.lb, ptrV x.fb, ptrV x.rb]
structure Env (x : Bx) (fs : Fl) (w : World) : Prop where
  t : Has w x.tb 36 #[.map (some x.pm)]
  d : Has w x.db 38 #[.map (some x.D)]
  l : Has w x.lb 24 #[ptrV x.L]
  f : Has w x.fb 22 #[x.fv]
  r : Has w x.rb 42 #[readV x]
  files : FilesIs w x.fv fs
  places : ∃ c, MapZ w (.int .i64 0) x.pm c (plF fs 0)
  ne : x.pm ≠ x.D
  lowD : x.B ≤ x.D
theorem Env.fr {x : Bx} {fs : Fl} {w W : World} {r : Option Nat} (h : Env x fs w) (hf : Fr x.L x.D r w W) : Env x fs W := by
  refine ⟨hf.has h.t (by decide) (by decide) (by decide), hf.has h.d (by decide) (by decide) (by decide), hf.has h.l (by decide) (by decide) (by decide), hf.has h.f (by decide) (by decide) (by decide), hf.has h.r (by decide) (by decide) (by decide), hf.own h.files (by decide) (by decide) (by decide), ?_, h.ne, h.lowD⟩
  obtain ⟨c, hp⟩ := h.places
  obtain ⟨es, ck, ho⟩ := hp.obj
  exact ⟨c, hp.kept ((hf.2 _ _ ho (Calm.map h.ne)).trans ho.symm)⟩
theorem Env.below {x : Bx} {fs : Fl} {w W : World} (h : Env x fs w) (hb : Below w.heap.size w W) : Env x fs W := h.fr (r := none) (Fr.of_below hb)
def rdV (d a b : Nat) : Value := .agg #[.int .i64 (d : Int), .int .i64 (a : Int), .int .i64 (b : Int)]
/-- What is known of files that were read to their end: c of them. -/
def Done (fs : Fl) (f : Value → Option Value) (c : Nat) (ps : List By) : Prop :=
  (∀ name v, f (.string (ba name)) = some v → ∃ d a b, v = rdV d a b ∧ d ≤ 3 ∧ a ≤ b ∧ b ≤ ps.length ∧ flat fs (4 - d) name = some ((ps.drop a).take (b - a))) ∧
  ∃ ks : List By, ks.Nodup ∧ ks.length = c ∧ (∀ k ∈ ks, k ∈ fs.map (·.1)) ∧ ∀ name, (f (.string (ba name))).isSome = true ↔ name ∈ ks
theorem Done.none (fs : Fl) (ps : List By) : Done fs (fun _ => none) 0 ps := ⟨fun _ _ h => by simp at h, [], List.nodup_nil, rfl, fun _ h => absurd h List.not_mem_nil, fun _ => by simp⟩
theorem Done.more {fs : Fl} {f : Value → Option Value} {c : Nat} {ps : List By} (h : Done fs f c ps) (qs : List By) : Done fs f c (ps ++ qs) := by
  refine ⟨fun name v hv => ?_, h.2⟩
  obtain ⟨d, a, b, h1, h2, h3, h4, h5⟩ := h.1 name v hv
  refine ⟨d, a, b, h1, h2, h3, by rw [List.length_append]; omega, ?_⟩
  rw [h5, List.drop_append_of_le_length (by omega), List.take_append_of_le_length (by rw [List.length_drop]; omega)]
theorem nodup_le {ks l : List By} (h : ks.Nodup) (hs : ∀ k ∈ ks, k ∈ l) : ks.length ≤ l.length := by
  induction ks generalizing l with
  | nil => simp
  | cons k ks ih =>
    have hk := hs k (by simp)
    rw [List.nodup_cons] at h
    have := ih (l := l.erase k) h.2 (fun y hy => (List.mem_erase_of_ne (fun e => by rw [e] at hy; exact h.1 hy)).2 (hs y (by simp [hy])))
    rw [List.length_erase_of_mem hk] at this
    have h0 : 0 < l.length := List.length_pos_of_mem hk
    simp only [List.length_cons]; omega
theorem Done.few {fs : Fl} {f : Value → Option Value} {c : Nat} {ps : List By} (h : Done fs f c ps) : c ≤ fs.length := by
  obtain ⟨_, ks, h1, h2, h3, _⟩ := h
  have := nodup_le h1 h3
  rw [List.length_map] at this; omega
open Classical in
theorem Done.put {fs : Fl} {f : Value → Option Value} {c : Nat} {ps : List By} (h : Done fs f c ps) {name : By} {d a b : Nat} (h0 : name ∈ fs.map (·.1)) (h1 : d ≤ 3) (h2 : a ≤ b) (h3 : b ≤ ps.length) (h4 : flat fs (4 - d) name = some ((ps.drop a).take (b - a))) :
    Done fs (fun y => if y = .string (ba name) then some (rdV d a b) else f y) (if (f (.string (ba name))).isSome then c else c + 1) ps := by
  refine ⟨fun nm v hv => ?_, ?_⟩
  · by_cases hn : Value.string (ba nm) = .string (ba name)
    · simp only [if_pos hn, Option.some.injEq] at hv
      rw [ba_str] at hn
      subst hn
      exact ⟨d, a, b, hv.symm, h1, h2, h3, h4⟩
    · simp only [if_neg hn] at hv
      exact h.1 nm v hv
  · obtain ⟨ks, k1, k2, k3, k4⟩ := h.2
    cases hs : (f (.string (ba name))).isSome with
    | true =>
      refine ⟨ks, k1, k2, k3, fun nm => ?_⟩
      by_cases hn : Value.string (ba nm) = .string (ba name)
      · rw [ba_str] at hn
        subst hn
        show (if _ then some (rdV d a b) else _).isSome = true ↔ _
        rw [if_pos rfl, ← k4, hs]; simp
      · show (if _ then some (rdV d a b) else f (.string (ba nm))).isSome = true ↔ _
        rw [if_neg hn]; exact k4 nm
    | false =>
      have hnm : name ∉ ks := fun hm => by rw [(k4 name).2 hm] at hs; cases hs
      refine ⟨name :: ks, List.nodup_cons.2 ⟨hnm, k1⟩, by simp [k2], fun k hk => ?_, fun nm => ?_⟩
      · rcases List.mem_cons.1 hk with rfl | hk
        · exact h0
        · exact k3 k hk
      · by_cases hn : Value.string (ba nm) = .string (ba name)
        · show (if _ then some (rdV d a b) else _).isSome = true ↔ _
          rw [if_pos hn]
          rw [ba_str] at hn
          subst hn
          simp
        · show (if _ then some (rdV d a b) else f (.string (ba nm))).isSome = true ↔ _
          rw [if_neg hn, k4 nm]
          have : nm ≠ name := fun e => hn (by rw [e])
          simp [this]
def zR : Value := rdV 0 0 0
structure St (x : Bx) (fs : Fl) (ps : List By) (w : World) : Prop where
  list : ListIs x.B w x.L ps
  done : ∃ c f, MapZ w zR x.D c f ∧ Done fs f c ps
  low : x.B ≤ x.L
theorem St.below {x : Bx} {fs : Fl} {ps : List By} {w W : World} (h : St x fs ps w) (hb : Below w.heap.size w W) : St x fs ps W := by
  obtain ⟨c, f, h1, h2⟩ := h.done
  exact ⟨h.list.below hb, ⟨c, f, h1.kept (hb.block _ h1.inside), h2⟩, h.low⟩
def strV (s : By) : Value := .string (ba s)
/-- The files that are being read. -/
def Ar (B : Nat) (w : World) (v : Value) (within : List By) : Prop := w.ownsRow B 9 1 v within.length (within.map strV)
theorem infoStr : (Tryz.prog.info? 9).map (fun i => (i.zero, i.size, i.bytes)) = some (some (.string ⟨#[]⟩), 1, 16) := by kernel_rfl
theorem append_str {B : Nat} {w : World} {v : Value} {l : List By} {s : By} {g : Nat} (h : Ar B w v l) (hg : Has w g 9 #[.string (ba s)]) (hn : l.length ≤ 100000) (hB : B ≤ w.heap.size) (ty : TypeId) :
    ∃ v' w', (Builtin.append_ #[23, 23] ty #[v, .slice (some ⟨g, 0, none⟩) 1 1]).run Tryz.prog w = .ok v' w' ∧ Ar B w' v' (l ++ [s]) ∧ Ar B w' v l ∧ w.grownBy w' v.ownBlock ∧ (v'.ownBlock = v.ownBlock ∨ v'.ownBlock = some w.heap.size) := by
  obtain ⟨i0, hi, hz0, hz1, hz2⟩ := info_parts infoStr
  obtain ⟨v', w', hr, h1, h2, h3, h4⟩ := append_old (w := w) (B := B) (t := 23) (ty := ty) Tryz.underlying23 hi hz0 hz1 hz2 rfl (by omega) h (a := ⟨g, 0, none⟩) (m := 1) (c := 1) (news := [strV s]) rfl (fun j u hj => by
    match j, hj with
    | 0, hj => simp at hj; subst hj; exact hg.at_ 0
    | j + 1, hj => simp at hj) (fun u hu => by simp only [List.mem_singleton] at hu; subst hu; rfl) (by omega) (by omega) hB
  refine ⟨v', w', hr, ?_, h2, h3, h4⟩
  unfold Ar
  rw [List.length_append, List.map_append]; exact h1
theorem Fr.of_str {L D : Nat} {w W : World} {v : Value} {B : Nat} {l : List By} (h : Ar B w v l) (hg : w.grownBy W v.ownBlock) : Fr L D v.ownBlock w W := by
  refine ⟨hg.size, fun j o ho hc => (hg.block j (Array.getElem?_eq_some_iff.1 ho).1 fun e => ?_).trans ho⟩
  obtain ⟨cs, q, h2⟩ := own_typed h j e.symm
  exact hc.2.2.2 cs q (Option.some.inj (ho.symm.trans h2)) e
theorem Ar.fr {L D : Nat} {r : Option Nat} {B : Nat} {w W : World} {v : Value} {l : List By} (h : Ar B w v l) (hf : Fr L D r w W) (hr : ∀ k, v.ownBlock = some k → some k ≠ r) : Ar B W v l := by
  refine own_stays h fun k hk => ?_
  obtain ⟨cs, q, h2⟩ := own_typed h k hk
  exact (hf.2 k _ h2 (Calm.strs (hr k hk))).trans h2.symm
theorem St.str {x : Bx} {fs : Fl} {ps : List By} {w W : World} {v : Value} {B : Nat} {l : List By} (h : St x fs ps w) (ha : Ar B w v l) (hg : w.grownBy W v.ownBlock) : St x fs ps W := by
  obtain ⟨c, f, h1, h2⟩ := h.done
  obtain ⟨u, k1, gs, k2, k3⟩ := h.list
  have hf : Fr 0 0 v.ownBlock w W := Fr.of_str ha hg
  have hk : ∀ j o, w.heap[j]? = some o → (∀ cs q, o ≠ Obj.cells cs 9 q) → W.heap[j]? = w.heap[j]? := fun j o ho hn => hg.block j (Array.getElem?_eq_some_iff.1 ho).1 fun e => by
    obtain ⟨cs, q, h2⟩ := own_typed ha j e.symm
    exact hn cs q (Option.some.inj (ho.symm.trans h2))
  have hc : ∀ (cs : Array Value) (t : TypeId) (q : Nat × Nat), t ≠ 9 → ∀ cs' q', Obj.cells cs t q ≠ Obj.cells cs' 9 q' := fun cs t q ht cs' q' e => by
    simp only [Obj.cells.injEq] at e; exact ht e.2.1
  refine ⟨⟨u, (hk _ _ k1 (hc _ _ _ (by decide))).trans k1, gs, own_stays k2 fun k hk2 => ?_, k3.fr hf⟩, ⟨c, f, h1.kept ?_, h2⟩, h.low⟩
  · obtain ⟨cs, q, h3⟩ := own_typed k2 k hk2
    exact hk _ _ h3 (hc _ _ _ (by decide))
  · obtain ⟨es, ck, h3⟩ := h1.obj
    exact hk _ _ h3 (fun _ _ e => nomatch e)
/-- Reading a file with k more levels below it: what the call does. -/
def ReadOk (x : Bx) (fs : Fl) (w0 : World) (k : Nat) : Prop :=
  ∀ (within : List By) (name : By) (ps : List By) (v : Value) (w : World), within.length + k = 4 → name.length ≤ 1000000000000000 → Env x fs w → St x fs ps w → Ar x.B w v within → Chain fs within name → ps.length ≤ 64 → Below x.B w0 w →
    Calls Tryz.prog 11 #[.string (ba name), v, ptrV x.tb, ptrV x.db, ptrV x.lb, ptrV x.fb, ptrV x.rb] w fun e W =>
      Out (readL fs k within name ps) e True (fun qs => St x fs qs W ∧ Ar x.B W v within) ∧ Fr x.L x.D v.ownBlock w W ∧ Below x.B w0 W
/-- What holds between a file's lines. -/
structure Ln (x : Bx) (fs : Fl) (w0 W1 : World) (within : List By) (name : By) (v : Value) (nb ab : Nat) (ps : List By) (w : World) : Prop where
  env : Env x fs w
  st : St x fs ps w
  nbx : Has w nb 9 #[.string (ba name)]
  abx : Has w ab 23 #[v]
  ar : Ar x.B w v within
  few : ps.length ≤ 64
  fr : Fr x.L x.D v.ownBlock W1 w
  low : Below x.B w0 w
  ne : some nb ≠ v.ownBlock
theorem Ln.below {x : Bx} {fs : Fl} {w0 W1 : World} {within : List By} {name : By} {v : Value} {nb ab : Nat} {ps : List By} {w W : World} (h : Ln x fs w0 W1 within name v nb ab ps w) (hb : Below w.heap.size w W) : Ln x fs w0 W1 within name v nb ab ps W :=
  ⟨h.env.below hb, h.st.below hb, h.nbx.stays hb, h.abx.stays hb, own_below h.ar hb, h.few, h.fr.thenG hb, h.low.trans (hb.mono (by have := h.st.low; obtain ⟨_, k, _⟩ := h.st.list; have := k.inside; omega)), h.ne⟩
theorem Ln.size {x : Bx} {fs : Fl} {w0 W1 : World} {within : List By} {name : By} {v : Value} {nb ab : Nat} {ps : List By} {w : World} (h : Ln x fs w0 W1 within name v nb ab ps w) : x.B ≤ w.heap.size := by
  have := h.st.low; obtain ⟨_, k, _⟩ := h.st.list; have := k.inside; omega
set_option maxRecDepth 100000 in
set_option maxHeartbeats 2000000 in
theorem tell_plain (x : Bx) (fs : Fl) (w0 W1 : World) (k : Nat) (within : List By) (name : By) (v : Value) (nb ab : Nat) (ps : List By) (s : By) (w : World) (h : Ln x fs w0 W1 within name v nb ab ps w) (hs : s.length ≤ 100000) (hp : pre incM s = false) :
    Calls Tryz.prog 15 #[.string (ba s), ptrV x.rb, ptrV ab, ptrV nb, ptrV x.lb] w fun e W =>
      Out (lineL (readL fs k (within ++ [name])) s ps) e (Fr x.L x.D v.ownBlock W1 W ∧ Below x.B w0 W) (fun qs => Ln x fs w0 W1 within name v nb ab qs W) := by
  have HL : Hid (lineL (readL fs k (within ++ [name])) s ps = lineP s ps) := by show _ = _; unfold lineL; rw [if_neg (by rw [hp]; decide)]
  have HH := hid h
  have HCP := hid (fun W => cut_any s incM W)
  rw [hp] at HCP
  have HLP := hid (lparse_any x.B x.L ps s w h.st.list h.few hs h.st.low)
  have c4 := h.env.l.at_ 0
  rw [HL.out]
  obtain ⟨g, HG⟩ : ∃ g, Hid (lineP s ps = g) := ⟨_, rfl⟩
  obtain ⟨u, HU⟩ : ∃ u, Hid (cutP incM s = u) := ⟨_, rfl⟩
  rw [HU.out] at HCP
  rw [HG.out] at HLP
  rw [HG.out]
  unfold ptrV at c4 HLP
  unfold ptrV
  clear h hp hs
  go_enter Tryz.func15, Tryz.ntmps15
  go_wp2_with (fail)
  refine (HCP.out _).mono ?_
  rintro e1 w1 ⟨rfl, rfl⟩
  go_wp2_with (fail)
  refine HLP.out.mono ?_
  intro e2 w2 h2
  obtain ⟨h2, hf, hb⟩ := h2
  have HF := hid hf
  have HB := hid hb
  cases g with
  | error c =>
    obtain ⟨rfl, hc, _⟩ := h2.of_err
    have HC := hid hc
    clear h2 hf hb hc
    go_wp2
    go_ret
    exact Out.err rfl rfl HC.out ⟨HH.out.fr.tr (HF.out x.D _), HB.out _ HH.out.low⟩
  | ok rs =>
    obtain ⟨rfl, hl⟩ := h2.of_ok
    have HLS := hid hl
    clear h2 hf hb hl
    go_wp2
    go_ret
    refine Out.ok rfl rfl ?_
    have hrs : rs = ps ++ [s] ∧ ps.length < 64 := by
      have := HG.out; unfold lineP at this
      split at this
      · cases this
      · split at this
        · cases this
        · simp only [Except.ok.injEq] at this; exact ⟨this.symm, by have := HH.out.few; omega⟩
    have hfr := HF.out x.D none
    have hfv := HF.out x.D v.ownBlock
    obtain ⟨c, f, k1, k2⟩ := HH.out.st.done
    have hD : w2.heap[x.D]? = w.heap[x.D]? := by
      obtain ⟨es, ck, ho⟩ := k1.obj
      exact ((HF.out (x.D + 1) none).2 _ _ ho (Calm.map (by omega))).trans ho.symm
    exact ⟨HH.out.env.fr hfr, ⟨HLS.out, ⟨c, f, k1.kept hD, by rw [hrs.1]; exact k2.more _⟩, HH.out.st.low⟩, hfr.str HH.out.nbx (fun e => nomatch e), hfr.has HH.out.abx (by decide) (by decide) (by decide), HH.out.ar.fr hfr (fun k _ e => nomatch e), by rw [hrs.1, List.length_append, List.length_singleton]; omega, HH.out.fr.tr hfv, HB.out _ HH.out.low, HH.out.ne⟩
end Go.Proofs.YtpipkgkfhbagmaaGreatDoor.Glob
