/- Several texts in one. Conditions: those said at each. -/
import Derived.Test.YtahkcemdbfjilaaGreatDoorWb00
import Derived.Great.BuildSlice
import Derived.Test.YtahkcemdbfjilaaGreatDoorWb29
set_option linter.unusedSimpArgs false
set_option linter.unusedVariables false
set_option maxRecDepth 100000
namespace Go.Proofs.YtahkcemdbfjilaaGreatDoor.Glob
open Go.RowKit Go.Maps
section
variable {ops : Array Oper} {S : World → Prop} {o : Oper} {a : Act}
theorem yields_slice {t : TypeId} (hw : Region.wanted o (yielded ops a.tmps) = true) (x l h : Operand) (ho : o.op = .slice t x (some l) (some h) none) (xv lv hv r : Value) (hx : a.eval x = xv) (hl : a.eval l = lv) (hh : a.eval h = hv)
 (hS : ∀ w, S w → (Instr.sliceAt t xv (some lv) (some hv) none).run Tryz.prog w = .ok r w) : YieldsIf Tryz.prog ops S o r a :=
 .inl ⟨hw, fun w hw' => by
  unfold execOp
  simp only [ho, hx, hl, hh, Option.map_some, Option.map_none, Sem.run_bind, Sem.run_pure, Result.andThen_ok, hS w hw']⟩
theorem step_update {w : World} {K : Act → World → Prop} {Q : Exit → Act → World → Prop} {E : Prop} (hw : Region.wanted o (yielded ops a.tmps) = true) {t : TypeId} (m x v : Operand) (ho : o.op = .mapUpdate t m x v) (mv xv vv : Value) (hm : a.eval m = mv) (hx : a.eval x = xv) (hv : a.eval v = vv)
 {w' : World} (hr : (Instr.mapUpdate t mv xv vv).run Tryz.prog w = .ok () w') (hK : K (a.put o.dst undef) w') : if Region.wanted o (yielded ops a.tmps) = true then Oper.wp Tryz.prog o a w K Q else E := by
 rw [if_pos hw]
 unfold Oper.wp
 simp [execOp, ho, hm, hx, hv, hr, Result.andThen]
 exact hK
theorem step_build1 {w : World} {K : Act → World → Prop} {Q : Exit → Act → World → Prop} {E : Prop} (hw : Region.wanted o (yielded ops a.tmps) = true) (x : Operand) (ho : o.op = .buildSlice 34 1 #[(0, x)]) (s : ByteArray) (hx : a.eval x = .string s)
 (hK : K (a.put o.dst (.slice (some ⟨w.heap.size, 0, none⟩) 1 1)) (w.alloc (.cells #[.string s] 9))) : if Region.wanted o (yielded ops a.tmps) = true then Oper.wp Tryz.prog o a w K Q else E := by
 have hI : (Tryz.prog.info? 9).map (fun i => (i.size, i.zero)) = some (1, some (.string ⟨#[]⟩)) := by kernel_rfl
 have hr : (Instr.buildSlice 34 1 #[(0, Value.string s)]).run Tryz.prog w = .ok (.slice (some ⟨w.heap.size, 0, none⟩) 1 1) (w.alloc (.cells #[.string s] 9)) := by
  cases hie : Tryz.prog.info? 9 with
  | none => rw [hie] at hI; cases hI
  | some ie =>
   rw [hie] at hI
   simp only [Option.map_some, Option.some.injEq, Prod.mk.injEq] at hI
   refine run_buildSlice (P := Tryz.prog) w 34 9 1 _ _ ie _ Tryz.underlying34 hie hI.2 (by rw [hI.1]; omega) (by rw [hI.1]; omega) ?_
   rw [hI.1]
   refine (Great.fill_whole (s := 1) (by omega) [Value.string s] _ (fun v hv => ?_) (by simp)).trans (by simp [Value.cells])
   simp only [List.mem_singleton] at hv
   subst hv
   rfl
 rw [if_pos hw]
 unfold Oper.wp
 simp only [execOp, ho, hx, Sem.run_bind, List.map_toArray, List.map_cons, List.map_nil, hr, Result.andThen]
 exact hK
theorem step_append_run {P : Program} {ops : Array Oper} {o : Oper} {a : Act} {w : World} {K : Act → World → Prop} {Q : Exit → Act → World → Prop} {E : Prop}
 (hg : o.guard = none) (s x : Operand) (sT xT : TypeId) (hop : o.op = Op.call { callee := Callee.builtin Builtin.append, args := #[s, x], argTypes := #[sT, xT] })
 (v u : Value) (hs : a.eval s = v) (hx : a.eval x = u) {v' : Value} {w' : World} (hr : (Builtin.append_ #[sT, xT] o.type #[v, u]).run P w = .ok v' w') (hK : K (a.put o.dst v') w') :
 if Region.wanted o (yielded ops a.tmps) = true then Oper.wp P o a w K Q else E := by
 have hw : Region.wanted o (yielded ops a.tmps) = true := by simp [Region.wanted, hg]
 rw [if_pos hw]
 unfold Oper.wp
 simp [execOp, hop, resolve, invoke, builtin, hs, hx, hr, Result.andThen]
 exact hK
end
structure Bx where
 tb : Nat
 db : Nat
 lb : Nat
 fb : Nat
 rb : Nat
 L : Nat
 D : Nat
 pm : Nat
 B : Nat
 fv : Value
def readV (x : Bx) : Value := .func (.func 42) #[] #[ptrV x.tb, ptrV x.db, ptrV x.lb, ptrV x.fb, ptrV x.rb]
structure Env (x : Bx) (fs : Fl) (w : World) : Prop where
 t : Has w x.tb 101 #[.map (some x.pm)]
 d : Has w x.db 103 #[.map (some x.D)]
 l : Has w x.lb 30 #[ptrV x.L]
 f : Has w x.fb 23 #[x.fv]
 r : Has w x.rb 107 #[readV x]
 places : ∃ c, MapZ w (.int .i64 0) x.pm c (plF fs 0)
 ne : x.pm ≠ x.D
 lowD : x.B ≤ x.D
theorem Env.fr {x : Bx} {fs : Fl} {w W : World} {r : Option Nat} (h : Env x fs w) (hf : Fr x.L x.D r w W) : Env x fs W := by
 refine ⟨hf.has h.t (by decide) (by decide) (by decide), hf.has h.d (by decide) (by decide) (by decide), hf.has h.l (by decide) (by decide) (by decide), hf.has h.f (by decide) (by decide) (by decide), hf.has h.r (by decide) (by decide) (by decide), ?_, h.ne, h.lowD⟩
 obtain ⟨c, hp⟩ := h.places
 obtain ⟨es, ck, ho⟩ := hp.obj
 exact ⟨c, hp.kept ((hf.2 _ _ ho (Calm.map h.ne)).trans ho.symm)⟩
theorem Env.below {x : Bx} {fs : Fl} {w W : World} (h : Env x fs w) (hb : Below w.heap.size w W) : Env x fs W := h.fr (r := none) (Fr.of_below hb)
def rdV (d a b : Nat) : Value := .agg #[.int .i64 (d : Int), .int .i64 (a : Int), .int .i64 (b : Int)]
def Done (fs : Fl) (f : Value → Option Value) (c : Nat) (ps : List By) : Prop :=
 (∀ name v, f (.string (ba name)) = some v → ∃ d a b, v = rdV d a b ∧ d ≤ 3 ∧ a ≤ b ∧ b ≤ ps.length ∧ flat fs (4 - d) name = some ((ps.drop a).take (b - a))) ∧
 ∃ ks : List By, ks.Nodup ∧ ks.length = c ∧ (∀ k ∈ ks, k ∈ fs.map (·.1)) ∧ ∀ name, (f (.string (ba name))).isSome = true ↔ name ∈ ks
theorem Done.none (fs : Fl) (ps : List By) : Done fs (fun _ => none) 0 ps := ⟨fun _ _ h => by simp at h, [], List.nodup_nil, rfl, fun _ h => absurd h List.not_mem_nil, fun _ => by simp⟩
theorem Done.more {fs : Fl} {f : Value → Option Value} {c : Nat} {ps : List By} (h : Done fs f c ps) (qs : List By) : Done fs f c (ps ++ qs) := by
 refine ⟨fun name v hv => ?_, h.2⟩
 obtain ⟨d, a, b, h1, h2, h3, h4, h5⟩ := h.1 name v hv
 refine ⟨d, a, b, h1, h2, h3, by rw [List.length_append]; omega, ?_⟩
 rw [h5, List.drop_append_of_le_length (by omega), List.take_append_of_le_length (by rw [List.length_drop]; omega)]
theorem nodup_le {ks l : List By} (h : ks.Nodup) (hs : ∀ k ∈ ks, k ∈ l) : ks.length ≤ l.length := by
 induction ks generalizing l with
 | nil => simp
 | cons k ks ih =>
  have hk := hs k (by simp)
  rw [List.nodup_cons] at h
  have := ih (l := l.erase k) h.2 (fun y hy => (List.mem_erase_of_ne (fun e => by rw [e] at hy; exact h.1 hy)).2 (hs y (by simp [hy])))
  rw [List.length_erase_of_mem hk] at this
  have h0 : 0 < l.length := List.length_pos_of_mem hk
  simp only [List.length_cons]; omega
theorem Done.few {fs : Fl} {f : Value → Option Value} {c : Nat} {ps : List By} (h : Done fs f c ps) : c ≤ fs.length := by
 obtain ⟨_, ks, h1, h2, h3, _⟩ := h
 have := nodup_le h1 h3
 rw [List.length_map] at this; omega
open Classical in
theorem Done.put {fs : Fl} {f : Value → Option Value} {c : Nat} {ps : List By} (h : Done fs f c ps) {name : By} {d a b : Nat} (h0 : name ∈ fs.map (·.1)) (h1 : d ≤ 3) (h2 : a ≤ b) (h3 : b ≤ ps.length) (h4 : flat fs (4 - d) name = some ((ps.drop a).take (b - a))) :
 Done fs (fun y => if y = .string (ba name) then some (rdV d a b) else f y) (if (f (.string (ba name))).isSome then c else c + 1) ps := by
 refine ⟨fun nm v hv => ?_, ?_⟩
 · by_cases hn : Value.string (ba nm) = .string (ba name)
   · simp only [if_pos hn, Option.some.injEq] at hv
     rw [ba_str] at hn
     subst hn
     exact ⟨d, a, b, hv.symm, h1, h2, h3, h4⟩
   · simp only [if_neg hn] at hv
     exact h.1 nm v hv
 · obtain ⟨ks, k1, k2, k3, k4⟩ := h.2
   cases hs : (f (.string (ba name))).isSome with
   | true =>
    refine ⟨ks, k1, k2, k3, fun nm => ?_⟩
    by_cases hn : Value.string (ba nm) = .string (ba name)
    · rw [ba_str] at hn
      subst hn
      show (if _ then some (rdV d a b) else _).isSome = true ↔ _
      rw [if_pos rfl, ← k4, hs]; simp
    · show (if _ then some (rdV d a b) else f (.string (ba nm))).isSome = true ↔ _
      rw [if_neg hn]; exact k4 nm
   | false =>
    have hnm : name ∉ ks := fun hm => by rw [(k4 name).2 hm] at hs; cases hs
    refine ⟨name :: ks, List.nodup_cons.2 ⟨hnm, k1⟩, by simp [k2], fun k hk => ?_, fun nm => ?_⟩
    · rcases List.mem_cons.1 hk with rfl | hk
      · exact h0
      · exact k3 k hk
    · by_cases hn : Value.string (ba nm) = .string (ba name)
      · show (if _ then some (rdV d a b) else _).isSome = true ↔ _
        rw [if_pos hn]
        rw [ba_str] at hn
        subst hn
        simp
      · show (if _ then some (rdV d a b) else f (.string (ba nm))).isSome = true ↔ _
        rw [if_neg hn, k4 nm]
        have : nm ≠ name := fun e => hn (by rw [e])
        simp [this]
def zR : Value := rdV 0 0 0
structure St (x : Bx) (fs : Fl) (ps : List By) (w : World) : Prop where
 list : ListIs x.B w x.L ps
 done : ∃ c f, MapZ w zR x.D c f ∧ Done fs f c ps
 low : x.B ≤ x.L
theorem St.below {x : Bx} {fs : Fl} {ps : List By} {w W : World} (h : St x fs ps w) (hb : Below w.heap.size w W) : St x fs ps W := by
 obtain ⟨c, f, h1, h2⟩ := h.done
 exact ⟨h.list.below hb, ⟨c, f, h1.kept (hb.block _ h1.inside), h2⟩, h.low⟩
def strV (s : By) : Value := .string (ba s)
def Ar (B : Nat) (w : World) (v : Value) (within : List By) : Prop := w.ownsRow B 9 1 v within.length (within.map strV)
theorem infoStr : (Tryz.prog.info? 9).map (fun i => (i.zero, i.size, i.bytes)) = some (some (.string ⟨#[]⟩), 1, 16) := by kernel_rfl
theorem append_str {B : Nat} {w : World} {v : Value} {l : List By} {s : By} {g : Nat} (h : Ar B w v l) (hg : Has w g 9 #[.string (ba s)]) (hn : l.length ≤ 100000) (hB : B ≤ w.heap.size) (ty : TypeId) :
 ∃ v' w', (Builtin.append_ #[34, 34] ty #[v, .slice (some ⟨g, 0, none⟩) 1 1]).run Tryz.prog w = .ok v' w' ∧ Ar B w' v' (l ++ [s]) ∧ Ar B w' v l ∧ w.grownBy w' v.ownBlock ∧ (v'.ownBlock = v.ownBlock ∨ v'.ownBlock = some w.heap.size) := by
 obtain ⟨i0, hi, hz0, hz1, hz2⟩ := info_parts infoStr
 obtain ⟨v', w', hr, h1, h2, h3, h4⟩ := append_old (w := w) (B := B) (t := 34) (ty := ty) Tryz.underlying34 hi hz0 hz1 hz2 rfl (by omega) h (a := ⟨g, 0, none⟩) (m := 1) (c := 1) (news := [strV s]) rfl (fun j u hj => by
  match j, hj with
  | 0, hj => simp at hj; subst hj; exact hg.at_ 0
  | j + 1, hj => simp at hj) (fun u hu => by simp only [List.mem_singleton] at hu; subst hu; rfl) (by omega) (by omega) hB
 refine ⟨v', w', hr, ?_, h2, h3, h4⟩
 unfold Ar
 rw [List.length_append, List.map_append]; exact h1
theorem Fr.of_str {L D : Nat} {w W : World} {v : Value} {B : Nat} {l : List By} (h : Ar B w v l) (hg : w.grownBy W v.ownBlock) : Fr L D v.ownBlock w W := by
 refine ⟨hg.size, fun j o ho hc => (hg.block j (Array.getElem?_eq_some_iff.1 ho).1 fun e => ?_).trans ho⟩
 obtain ⟨cs, q, h2⟩ := own_typed h j e.symm
 exact hc.2.2.2 cs q (Option.some.inj (ho.symm.trans h2)) e
theorem Ar.fr {L D : Nat} {r : Option Nat} {B : Nat} {w W : World} {v : Value} {l : List By} (h : Ar B w v l) (hf : Fr L D r w W) (hr : ∀ k, v.ownBlock = some k → some k ≠ r) : Ar B W v l := by
 refine own_stays h fun k hk => ?_
 obtain ⟨cs, q, h2⟩ := own_typed h k hk
 exact (hf.2 k _ h2 (Calm.strs (hr k hk))).trans h2.symm
theorem St.str {x : Bx} {fs : Fl} {ps : List By} {w W : World} {v : Value} {B : Nat} {l : List By} (h : St x fs ps w) (ha : Ar B w v l) (hg : w.grownBy W v.ownBlock) : St x fs ps W := by
 obtain ⟨c, f, h1, h2⟩ := h.done
 obtain ⟨u, k1, gs, k2, k3⟩ := h.list
 have hf : Fr 0 0 v.ownBlock w W := Fr.of_str ha hg
 have hk : ∀ j o, w.heap[j]? = some o → (∀ cs q, o ≠ Obj.cells cs 9 q) → W.heap[j]? = w.heap[j]? := fun j o ho hn => hg.block j (Array.getElem?_eq_some_iff.1 ho).1 fun e => by
  obtain ⟨cs, q, h2⟩ := own_typed ha j e.symm
  exact hn cs q (Option.some.inj (ho.symm.trans h2))
 have hc : ∀ (cs : Array Value) (t : TypeId) (q : Nat × Nat), t ≠ 9 → ∀ cs' q', Obj.cells cs t q ≠ Obj.cells cs' 9 q' := fun cs t q ht cs' q' e => by
  simp only [Obj.cells.injEq] at e; exact ht e.2.1
 refine ⟨⟨u, (hk _ _ k1 (hc _ _ _ (by decide))).trans k1, gs, own_stays k2 fun k hk2 => ?_, k3.fr hf⟩, ⟨c, f, h1.kept ?_, h2⟩, h.low⟩
 · obtain ⟨cs, q, h3⟩ := own_typed k2 k hk2
   exact hk _ _ h3 (hc _ _ _ (by decide))
 · obtain ⟨es, ck, h3⟩ := h1.obj
   exact hk _ _ h3 (fun _ _ e => nomatch e)
def ReadOk (x : Bx) (fs : Fl) (w0 : World) (k : Nat) : Prop :=
 ∀ (within : List By) (name : By) (ps : List By) (v : Value) (w : World), within.length + k = 4 → name.length ≤ 1000000000000000 → Env x fs w → St x fs ps w → Ar x.B w v within → Chain fs within name → ps.length ≤ 64 → Below x.B w0 w →
  Calls Tryz.prog 42 #[.string (ba name), v, ptrV x.tb, ptrV x.db, ptrV x.lb, ptrV x.fb, ptrV x.rb] w fun e W =>
   Out (readL fs k within name ps) e True (fun qs => St x fs qs W ∧ Ar x.B W v within) ∧ Fr x.L x.D v.ownBlock w W ∧ Below x.B w0 W
structure Ln (x : Bx) (fs : Fl) (w0 W1 : World) (within : List By) (name : By) (v : Value) (nb ab : Nat) (ps : List By) (w : World) : Prop where
 env : Env x fs w
 st : St x fs ps w
 nbx : Has w nb 9 #[.string (ba name)]
 abx : Has w ab 34 #[v]
 ar : Ar x.B w v within
 few : ps.length ≤ 64
 fr : Fr x.L x.D v.ownBlock W1 w
 low : Below x.B w0 w
 ne : some nb ≠ v.ownBlock
theorem Ln.below {x : Bx} {fs : Fl} {w0 W1 : World} {within : List By} {name : By} {v : Value} {nb ab : Nat} {ps : List By} {w W : World} (h : Ln x fs w0 W1 within name v nb ab ps w) (hb : Below w.heap.size w W) : Ln x fs w0 W1 within name v nb ab ps W :=
 ⟨h.env.below hb, h.st.below hb, h.nbx.stays hb, h.abx.stays hb, own_below h.ar hb, h.few, h.fr.thenG hb, h.low.trans (hb.mono (by have := h.st.low; obtain ⟨_, k, _⟩ := h.st.list; have := k.inside; omega)), h.ne⟩
theorem Ln.size {x : Bx} {fs : Fl} {w0 W1 : World} {within : List By} {name : By} {v : Value} {nb ab : Nat} {ps : List By} {w : World} (h : Ln x fs w0 W1 within name v nb ab ps w) : x.B ≤ w.heap.size := by
 have := h.st.low; obtain ⟨_, k, _⟩ := h.st.list; have := k.inside; omega
set_option maxHeartbeats 2000000 in
theorem tell_plain (x : Bx) (fs : Fl) (w0 W1 : World) (k : Nat) (within : List By) (name : By) (v : Value) (nb ab : Nat) (ps : List By) (s : By) (w : World) (h : Ln x fs w0 W1 within name v nb ab ps w) (hs : s.length ≤ 100000) (hp : pre incM s = false) :
 Calls Tryz.prog 46 #[.string (ba s), ptrV x.rb, ptrV ab, ptrV nb, ptrV x.lb] w fun e W =>
  Out (lineL (readL fs k (within ++ [name])) s ps) e (Fr x.L x.D v.ownBlock W1 W ∧ Below x.B w0 W) (fun qs => Ln x fs w0 W1 within name v nb ab qs W) := by
 have HL : Hid (lineL (readL fs k (within ++ [name])) s ps = lineP s ps) := by show _ = _; unfold lineL; rw [if_neg (by rw [hp]; decide)]
 have HH := hid h
 have HCP := hid (fun W => cut_any s incM W)
 rw [hp] at HCP
 have HLP := hid (lparse_any x.B x.L ps s w h.st.list h.few hs h.st.low)
 have c4 := h.env.l.at_ 0
 rw [HL.out]
 obtain ⟨g, HG⟩ : ∃ g, Hid (lineP s ps = g) := ⟨_, rfl⟩
 obtain ⟨u, HU⟩ : ∃ u, Hid (cutP incM s = u) := ⟨_, rfl⟩
 rw [HU.out] at HCP
 rw [HG.out] at HLP
 rw [HG.out]
 unfold ptrV at c4 HLP
 unfold ptrV
 clear h hp hs
 go_enter Tryz.func46, Tryz.ntmps46
 go_wp2_with (fail)
 refine (HCP.out _).mono ?_
 rintro e1 w1 ⟨rfl, rfl⟩
 go_wp2_with (fail)
 refine HLP.out.mono ?_
 intro e2 w2 h2
 obtain ⟨h2, hf, hb⟩ := h2
 have HF := hid hf
 have HB := hid hb
 cases g with
 | error c =>
  obtain ⟨rfl, hc, _⟩ := h2.of_err
  have HC := hid hc
  clear h2 hf hb hc
  go_wp2
  go_ret
  exact Out.err rfl rfl HC.out ⟨HH.out.fr.tr (HF.out x.D _), HB.out _ HH.out.low⟩
 | ok rs =>
  obtain ⟨rfl, hl⟩ := h2.of_ok
  have HLS := hid hl
  clear h2 hf hb hl
  go_wp2
  go_ret
  refine Out.ok rfl rfl ?_
  have hrs : rs = ps ++ [s] ∧ ps.length < 64 := by
   have := HG.out; unfold lineP at this
   split at this
   · cases this
   · split at this
     · cases this
     · simp only [Except.ok.injEq] at this; exact ⟨this.symm, by have := HH.out.few; omega⟩
  have hfr := HF.out x.D none
  have hfv := HF.out x.D v.ownBlock
  obtain ⟨c, f, k1, k2⟩ := HH.out.st.done
  have hD : w2.heap[x.D]? = w.heap[x.D]? := by
   obtain ⟨es, ck, ho⟩ := k1.obj
   exact ((HF.out (x.D + 1) none).2 _ _ ho (Calm.map (by omega))).trans ho.symm
  exact ⟨HH.out.env.fr hfr, ⟨HLS.out, ⟨c, f, k1.kept hD, by rw [hrs.1]; exact k2.more _⟩, HH.out.st.low⟩, hfr.str HH.out.nbx (fun e => nomatch e), hfr.has HH.out.abx (by decide) (by decide) (by decide), HH.out.ar.fr hfr (fun k _ e => nomatch e), by rw [hrs.1, List.length_append, List.length_singleton]; omega, HH.out.fr.tr hfv, HB.out _ HH.out.low, HH.out.ne⟩
end Go.Proofs.YtahkcemdbfjilaaGreatDoor.Glob
namespace Go.Proofs.YtahkcemdbfjilaaGreatDoor.Glob
open Go.RowKit Go.Maps
theorem tell_mid {x : Bx} {fs : Fl} {w0 W1 : World} {within : List By} {name : By} {v : Value} {nb ab : Nat} {ps : List By} {w W : World} (h : Ln x fs w0 W1 within name v nb ab ps w) (ho : Ar x.B W v within) (hg : w.grownBy W v.ownBlock) : Ln x fs w0 W1 within name v nb ab ps W := by
 have hf : Fr x.L x.D v.ownBlock w W := Fr.of_str h.ar hg
 exact ⟨h.env.fr hf, h.st.str h.ar hg, hf.str h.nbx h.ne, hf.has h.abx (by decide) (by decide) (by decide), ho, h.few, h.fr.tr hf, grown_below hg h.low (fun k hk => (own_inside h.ar k hk).1) h.size, h.ne⟩
theorem Ar.back {L D B : Nat} {w W : World} {v v' : Value} {l : List By} {s : By} {N : Nat} (h1 : Ar B w v l) (h2 : Ar B w v' (l ++ [s])) (h3 : Ar B W v' (l ++ [s])) (hf : Fr L D v'.ownBlock w W) (hk : v'.ownBlock = v.ownBlock ∨ v'.ownBlock = some N) (hN : ∀ k, v.ownBlock = some k → k < N) : Ar B W v l := by
 rcases hk with hk | hk
 · refine ⟨h1.1, ?_⟩
   rcases h1.2 with h | ⟨g, c, cur, rfl, hB, a3, a4, a5, a6, a7⟩
   · exact .inl h
   · refine .inr ?_
     rcases h2.2 with ⟨rfl, _⟩ | ⟨g2, c2, cur2, rfl, hB2, b3, b4, b5, b6, b7⟩
     · cases hk
     · obtain rfl : g2 = g := Option.some.inj hk
       have e := Option.some.inj (a3.symm.trans b3)
       simp only [Obj.cells.injEq, and_true] at e
       subst e
       have hc : c2 = c := by omega
       subst hc
       rcases h3.2 with ⟨h, _⟩ | ⟨g3, c3, cur3, h, hB3, d3, d4, d5, d6, d7⟩
       · cases h
       · simp only [Value.slice.injEq, Option.some.injEq, Addr.mk.injEq, and_true, true_and] at h
         obtain ⟨rfl, rfl⟩ := h
         refine ⟨g2, c2, cur3, rfl, hB, d3, a4, a5, d6, ?_⟩
         have := congrArg (List.take (l.length * 1)) d7
         rw [List.take_take, Nat.min_eq_left (by simp), List.map_append, List.take_append_of_le_length (by simp), List.take_of_length_le (l := l.map strV) (by simp)] at this
         exact this
 · exact h1.fr hf (fun k hk2 e => by have := hN k hk2; rw [hk] at e; injection e with e; omega)
set_option maxHeartbeats 4000000 in
theorem tell_inc (x : Bx) (fs : Fl) (w0 W1 : World) (k : Nat) (hrd : ReadOk x fs w0 k) (within : List By) (name : By) (v : Value) (nb ab : Nat) (ps : List By) (s : By) (w : World) (h : Ln x fs w0 W1 within name v nb ab ps w) (hs : s.length ≤ 100000) (hp : pre incM s = true) (hk : within.length + 1 + k = 4) (hch : Chain fs (within ++ [name]) (s.drop 9)) :
 Calls Tryz.prog 46 #[.string (ba s), ptrV x.rb, ptrV ab, ptrV nb, ptrV x.lb] w fun e W =>
  Out (lineL (readL fs k (within ++ [name])) s ps) e (Fr x.L x.D v.ownBlock W1 W ∧ Below x.B w0 W) (fun qs => Ln x fs w0 W1 within name v nb ab qs W) := by
 have HL : Hid (lineL (readL fs k (within ++ [name])) s ps = readL fs k (within ++ [name]) (s.drop 9) ps) := by show _ = _; unfold lineL; rw [if_pos hp]
 have HH := hid h
 have HCP := hid (fun W => cut_any s incM W)
 rw [hp] at HCP
 have hcu : cutP incM s = s.drop 9 := by unfold cutP; rw [if_pos hp]; rfl
 rw [hcu] at HCP
 have HUL : Hid ((s.drop 9).length ≤ 1000000000000000) := by show _ ≤ _; rw [List.length_drop]; omega
 have HRD := hid hrd
 have HN4 : Hid (within.length ≤ 100000) := by show _ ≤ _; omega
 have HNK : Hid ((within ++ [name]).length + k = 4) := by show _ = _; rw [List.length_append, List.length_singleton]; exact hk
 have HCH := hid hch
 have HSZ := hid h.fr.1
 rw [HL.out]
 generalize s.drop 9 = u at HL HCP HUL HCH
 obtain ⟨g, HG⟩ : ∃ g, Hid (readL fs k (within ++ [name]) u ps = g) := ⟨_, rfl⟩
 rw [HG.out]
 obtain ⟨Av, cv, hv⟩ := own_form h.ar
 obtain ⟨nv, hnv⟩ : ∃ nv, within.length = nv := ⟨_, rfl⟩
 rw [hnv] at hv
 subst hv
 have c4 := h.env.l.at_ 0
 unfold ptrV at c4
 unfold ptrV
 clear h hp hs hk hch hcu hrd hnv
 go_enter Tryz.func46, Tryz.ntmps46
 go_wp2_with (fail)
 refine (HCP.out _).mono ?_
 rintro e1 w1 ⟨rfl, rfl⟩
 go_wp2_with (fail)
 refine wp_region_noPanic ?_
 refine wp_region_held_drew (S := fun U => Has U x.rb 107 #[readV x] ∧ Has U ab 34 #[.slice Av nv cv] ∧ Has U nb 9 #[.string (ba name)]) (by kernel_rfl) (⟨HH.out.env.r, HH.out.abx, HH.out.nbx⟩) (fun hS => ?_)
 refine tkH 0 (v := ?_) (by simp only [lkA, lkB]; rfl) (by kernel_rfl) (fun _ _ _ h => h) (by rfl) (by assumption) ?_ ?_
 rotate_left 1
 · intro w hSw
   have c1 := hSw.1.at_ 0
   have c2 := hSw.2.1.at_ 0
   have c3 := hSw.2.2.at_ 0
   unfold readV ptrV at c1
   go_simp
   with_reducible rfl
 simp only [Act.put, siA, siB, siC]
 refine tkH 1 (v := ?_) (by simp only [lkA, lkB, lkC]; rfl) (by kernel_rfl) (fun _ _ _ h => h) (by rfl) (by assumption) ?_ ?_
 rotate_left 1
 · intro w hSw
   have c1 := hSw.1.at_ 0
   have c2 := hSw.2.1.at_ 0
   have c3 := hSw.2.2.at_ 0
   unfold readV ptrV at c1
   go_simp
   with_reducible rfl
 simp only [Act.put, siA, siB, siC]
 refine tkH 2 (v := ?_) (by simp only [lkA, lkB, lkC]; rfl) (by kernel_rfl) (fun _ _ _ h => h) (by rfl) (by assumption) ?_ ?_
 rotate_left 1
 · intro w hSw
   have c1 := hSw.1.at_ 0
   have c2 := hSw.2.1.at_ 0
   have c3 := hSw.2.2.at_ 0
   unfold readV ptrV at c1
   go_simp
   with_reducible rfl
 simp only [Act.put, siA, siB, siC]
 refine tkH 3 (v := ?_) (by simp only [lkA, lkB, lkC]; rfl) (by kernel_rfl) (fun _ _ _ h => h) (by rfl) (by assumption) ?_ ?_
 rotate_left 1
 · intro w hSw
   have c1 := hSw.1.at_ 0
   have c2 := hSw.2.1.at_ 0
   have c3 := hSw.2.2.at_ 0
   unfold readV ptrV at c1
   go_simp
   with_reducible rfl
 simp only [Act.put, siA, siB, siC]
 refine wpAnyH_ready (rs := [4]) (by kernel_rfl) (by simp) ?_
 refine AllReadyH.cons (by simp only [lkA, lkB, lkC]; rfl) (fun K hK => ?_) (AllReadyH.nil)
 refine step_build1 (by rfl) (.tmp 18) rfl (ba name) rfl ?_
 generalize hWb : World.alloc _ _ = Wb
 have BB : Hid (Below w.heap.size w Wb) := by rw [← hWb]; exact ((Below.refl _ _).drew).alloc (Nat.le_refl _) _
 have HNG : Hid (Has Wb w.drew.heap.size 9 #[.string (ba name)]) := by rw [← hWb]; exact Has.fresh w.drew 9 _
 clear hWb
 have HHb := hid (HH.out.below BB.out)
 refine hK.out _ _ ⟨HHb.out.env.r, HHb.out.abx, HHb.out.nbx⟩ (fun hS => ?_)
 clear hK K hS
 obtain ⟨v', w5, hr5, ha5, ho5, hg5, hk5⟩ := append_str HHb.out.ar HNG.out HN4.out HHb.out.size 34
 have HR5 := hid hr5
 have H5 : Hid (Ar x.B w5 v' (within ++ [name]) ∧ Ar x.B w5 (.slice Av nv cv) within ∧ Wb.grownBy w5 (Value.slice Av nv cv).ownBlock ∧ (v'.ownBlock = (Value.slice Av nv cv).ownBlock ∨ v'.ownBlock = some Wb.heap.size)) := ⟨ha5, ho5, hg5, hk5⟩
 obtain ⟨A5, c5, hv5⟩ := own_form ha5
 obtain ⟨n5, hn5⟩ : ∃ n5, (within ++ [name]).length = n5 := ⟨_, rfl⟩
 rw [hn5] at hv5
 subst hv5
 clear hr5 ha5 ho5 hg5 hk5 hn5
 have HS5 := hid (tell_mid HHb.out H5.out.2.1 H5.out.2.2.1)
 refine wpAnyH_ready (rs := [5]) (by kernel_rfl) (by simp) ?_
 refine AllReadyH.cons (by simp only [lkA, lkB, lkC]; rfl) (fun K hK => ?_) (AllReadyH.nil)
 refine step_append_run rfl (.tmp 17) (.tmp 19) 34 34 rfl (.slice Av nv cv) (.slice (some ⟨w.drew.heap.size, 0, none⟩) 1 1) rfl rfl HR5.out ?_
 refine hK.out _ _ ⟨HS5.out.env.r, HS5.out.abx, HS5.out.nbx⟩ (fun hS => ?_)
 clear hK K hS
 have HCR := hid (HRD.out (within ++ [name]) u ps _ w5 HNK.out HUL.out HS5.out.env HS5.out.st H5.out.1 HCH.out HS5.out.few HS5.out.low)
 rw [HG.out] at HCR
 unfold ptrV at HCR
 refine wpAnyH_ready (rs := [6]) (by kernel_rfl) (by simp) ?_
 refine AllReadyH.cons (by simp only [lkA, lkB, lkC]; rfl) (fun K hK => ?_) (AllReadyH.nil)
 go_simp
 refine HCR.out.mono ?_
 intro e6 w6 h6
 obtain ⟨h6, hf6, hb6⟩ := h6
 have HNB6 : Hid (Has w6 nb 9 #[.string (ba name)]) := hf6.str HS5.out.nbx (fun e => H5.out.2.2.2.elim (fun h => HH.out.ne (e.trans h)) (fun h => absurd (Option.some.inj (e.trans h)) (Nat.ne_of_lt HHb.out.nbx.inside)))
 have HAB6 : Hid (Has w6 ab 34 #[.slice Av nv cv]) := hf6.has HS5.out.abx (by decide) (by decide) (by decide)
 have HE6 := hid (HS5.out.env.fr hf6)
 have HF6 : Hid (Fr x.L x.D (Value.slice Av nv cv).ownBlock W1 w6) := HS5.out.fr.trans hf6 (fun j hj e => H5.out.2.2.2.elim (fun h => e.trans h) (fun h => absurd (Option.some.inj (e.trans h)) (by have := HHb.out.fr.1; omega)))
 have HF7 := hid hf6
 have HB6 := hid hb6
 have hS6 := hid h6
 clear hf6 hb6
 cases g with
 | error c =>
  obtain ⟨rfl, hc, _⟩ := h6.of_err
  have HC := hid hc
  clear h6 hS6 hc
  have hz6 : Has w6 x.rb 107 #[readV x] ∧ Has w6 ab 34 #[.slice Av nv cv] ∧ Has w6 nb 9 #[.string (ba name)] := ⟨HE6.out.r, HAB6.out, HNB6.out⟩
  refine hK.out _ _ hz6 (fun hS => ?_)
  clear hK K hS
  refine tkH 7 (v := ?_) (by simp only [lkA, lkB, lkC]; rfl) (by kernel_rfl) (fun _ _ _ h => h) (by rfl) (by assumption) ?_ ?_
  rotate_left 1
  · intro w hSw
    go_simp
    with_reducible rfl
  simp only [Act.put, siA, siB, siC]
  refine wpAnyH_done (by kernel_rfl) ?_ _
  refine NoPanic.normal ?_
  go_wp2
  go_ret
  exact Out.err rfl rfl HC.out ⟨HF6.out, HB6.out⟩
 | ok rs =>
  obtain ⟨rfl, hst, har⟩ := h6.of_ok
  have HST := hid hst
  have HAR := hid har
  clear h6 hS6 hst har
  have hz6 : Has w6 x.rb 107 #[readV x] ∧ Has w6 ab 34 #[.slice Av nv cv] ∧ Has w6 nb 9 #[.string (ba name)] := ⟨HE6.out.r, HAB6.out, HNB6.out⟩
  refine hK.out _ _ hz6 (fun hS => ?_)
  clear hK K hS
  refine tkH 7 (v := ?_) (by simp only [lkA, lkB, lkC]; rfl) (by kernel_rfl) (fun _ _ _ h => h) (by rfl) (by assumption) ?_ ?_
  rotate_left 1
  · intro w hSw
    go_simp
    with_reducible rfl
  simp only [Act.put, siA, siB, siC]
  refine wpAnyH_done (by kernel_rfl) ?_ _
  refine NoPanic.normal ?_
  go_wp2
  go_ret
  exact Out.ok rfl rfl ⟨HE6.out, HST.out, HNB6.out, HAB6.out, H5.out.2.1.back H5.out.1 HAR.out HF7.out H5.out.2.2.2 (fun k hk => (own_inside HHb.out.ar k hk).2), readL_64 _ _ _ _ _ _ HG.out HH.out.few, HF6.out, HB6.out, HH.out.ne⟩
end Go.Proofs.YtahkcemdbfjilaaGreatDoor.Glob
