/- Several texts in one. Conditions: those said at each. -/
import Derived.Test.YtahkcemdbfjilaaGreatDoorRows
import Derived.Test.YtahkcemdbfjilaaGreatDoorCards
import Derived.Test.YtahkcemdbfjilaaGreatDoorTie
import Derived.ProofKit
import Derived.LaidMore
import Derived.OpenShut
import Derived.Lay
import Derived.Stop.Joined
import Derived.SevenTiedAt
import Derived.HandedShaped
import Derived.Test.YtahkcemdbfjilaaGreatDoorIt35
set_option linter.unusedSimpArgs false
set_option linter.unusedVariables false
set_option maxRecDepth 100000
namespace Go.Proofs.YtahkcemdbfjilaaGreatDoor
open Go.ChangeShapes Go.WideShapes Go.ChangeAt Go.ChangeMaps Go.WideElems Go.RowKit Go.Deep
theorem own:ownKnob Tryz.prog.godebug=none:=by kernel_rfl
theorem laidOut:laidOutB Tryz.prog=true:=by kernel_rfl
theorem gRoots : Tryz.prog.globalNamed "caravan/sha.roots" = some 0 := by kernel_rfl
theorem tRoots:(Tryz.prog.globals[0]?).map (·.type)=some 274:=by kernel_rfl
theorem c33:Tryz.prog.cellsOf 53=1:=by kernel_rfl
theorem c69:Tryz.prog.cellsOf 274=64:=by kernel_rfl
def laidW : List (String × DataW Unit) := [("caravan/sha.roots", Rows.laid_caravan_sha_roots), ("unicode/utf8.acceptRanges", Rows.laid_unicode_utf8_acceptRanges), ("unicode/utf8.first", Rows.laid_unicode_utf8_first)]
theorem laid_met (os:Os) (args:Array Value):laidMetH Tryz.prog laidW (((World.laidAll Tryz.prog os laidW).forCall (fun _ _=>0) ⟨#[],args,[]⟩).memory):=by
 rw [MakeChecks.laidMetH_plain _ _ _ (by kernel_rfl)]
 exact laidMet_laidAll _ (by kernel_rfl) (by kernel_rfl)
theorem tab_data:(Rows.laid_caravan_sha_roots:DataW Unit)=Lib.tabData .u32 (Sha.kList.map Sha.u):=by kernel_rfl
theorem low_size {w:World} (h:w.ShapedOpen Tryz.prog):Tryz.prog.low≤w.heap.size:=by
 have hk:decide (Tryz.prog.globals.size < Tryz.prog.low)=true:=by kernel_rfl
 have hk:=of_decide_eq_true hk;obtain ⟨o,_,ho,_⟩:=h.2 (Tryz.prog.low - 1) (by omega) (by unfold Program.low at hk ⊢;omega)
 have:=(Array.getElem?_eq_some_iff.1 ho).1;omega
theorem gd_of {W:World} (hsh:W.ShapedOpen Tryz.prog):Gd W:=⟨hsh,low_size hsh⟩
theorem tab_of {W:World} (h:laidMetH Tryz.prog laidW W):Sha.Tab W:=by
 rw [MakeChecks.laidMetH_plain _ _ _ (by kernel_rfl)] at h
 rw [laidW,tab_data] at h;have hT:=Lib.tabIs_of_head gRoots tRoots Tryz.underlying274 Tryz.underlying53 c33 c69 h;intro i hi;have:=hT.cell gRoots i (by simp;exact hi)
 rw [this];have hk:i < Sha.kList.length:=hi;simp [Sha.at32,List.getD,List.getElem?_eq_getElem hk]
section
variable {H:Type} {enc:TypeId × Value→H}
theorem handed_shaped {a:Assume} {C:Checked} {os:Os} {f:FuncId} {fn:Func} {s:ChangeSpec} {conds:List PathCond} {apart fresh handsOn again:Bool} {X:World→Array Value→Prop}
 (hX:∀(w w':World) (args:Array Value),w.heap=w'.heap→X w args→X w' args)
 (own:ownKnob C.prog.godebug=none) (started:os.Started) (noInit:C.prog.inits.idxOf? f=none) (hfn:C.prog.funcs[f]? = some fn)
 (witness:∃(w:World) (tape:Tape) (i:Input),w.os=os∧(w.forCall tape i).Shaped C.prog∧i.vars=[]∧Input.okWide C.prog (w.forCall tape i) .any w.heap.size f i ∧
   ((s.pre enc C.prog fn conds apart (w.forCall tape i).memory i.args∧X (w.forCall tape i).memory i.args)∧sizedMet enc C.prog fn (OpenSpec.ofChange s) apart (w.forCall tape i).memory i.args)∧a.holds C.prog (lone (Frame.enter C.prog f i.args .normal) [] (w.forCall tape i)))
 (contract:∀(W:World) (base:Nat) (args:Array Value) (ds gs:List (DataW H)) (before:List MemPlace),
   (∀(j:Nat) t v,fn.params[j]? = some t→args[j]? = some v→Value.okWide C.prog W .any base t v) →
   DataW.Whole enc C.prog fn.params.toList s.vars apart W args.toList ds gs before →
   (DataW.weightsEach C.prog (fn.params.toList++s.plain.varTypes C.prog) (ds++gs)).all (·≤reachBytes)=true→W.ShapedOpen C.prog→X W args →
   Calls C.prog f args W fun e W'=>∃v,e=.returned v∧s.post enc C.prog fn apart fresh handsOn again W args v W') :
 ReturnsInHanded a C os f .any (fun w args=>(s.pre enc C.prog fn conds apart w args∧X w args)∧sizedMet enc C.prog fn (OpenSpec.ofChange s) apart w args) (s.post enc C.prog fn apart fresh handsOn again):=by
 refine returnsInHanded_of_calls own started noInit witness ?_;intro w tape i _ hsh _ hok hpre _;obtain ⟨_,_,_,fn2,hf2,_,_,_,_,hval⟩:=hok;obtain rfl:fn2=fn:=Option.some.inj (hf2.symm.trans hfn);obtain ⟨⟨⟨ds,gs,before,hw,_⟩,hx⟩,hz⟩:=hpre;refine (contract (w.forCall tape i) w.heap.size i.args ds gs before hval (DataW.Whole.of_heap (w':=w.forCall tape i) (by rfl) hw) (hz.weights hw) hsh (hX _ _ _ (by rfl) hx)).mono fun e W2 ⟨v,he,hp⟩=>?_
 subst he;exact ChangeSpec.post_blind hp
end
theorem post_law {H:Type} {enc:TypeId × Value→H} {f:Func} {s:ChangeSpec} {W W':World} {args:Array Value} {ds:List (DataW H)} {before pa:List MemPlace} (hv:s.vars=[]) (hft:f.resultTypes=#[4])
 (hW:DataW.Whole enc Tryz.prog f.params.toList s.vars false W args.toList ds [] before) (hs:s.fn H (ds++[]) = { results:=[.lit (.bool true)],args:=ds }) (hb:Below W.heap.size W W')
 (hargs:DataW.TrodAll enc Tryz.prog W' 0 (fun b=>decide (b < W.heap.size)) true f.params.toList args.toList ds pa) :
 s.post enc Tryz.prog f false true false false W args (.bool true) W':=by
 refine ⟨ds,[],before,[],pa,[],hW,?_,?_,?_,hb.frame _,fun h=>by cases h⟩
 · rw [hs,hft];exact trodAll_mk1 (shut_bool Tryz.underlying4 true)
 · rw [hs];exact hargs
 · rw [hs,hv];exact rfl
end Go.Proofs.YtahkcemdbfjilaaGreatDoor
namespace Go.Proofs.YtahkcemdbfjilaaGreatDoor
open Go.ChangeShapes Go.WideShapes Go.ChangeAt Go.ChangeMaps Go.WideElems Go.RowKit Go.Deep
theorem spot_none {w:World} {a:Addr} {v:Value} (h:w.cell? (a.add 0)=some v):a=⟨a.block,a.off,none⟩:=by
 have e:a.add 0=a:=rfl;rw [e] at h;obtain ⟨b,o,s⟩:=a
 cases s with
 | none=>rfl
 | some x =>
  simp only [World.cell?] at h;split at h
  · simp at h
  · cases h
theorem add_add (a:Addr) (i j:Nat):(a.add i).add j=a.add (i+j):=by
 obtain ⟨b,o,s⟩:=a;unfold Addr.add;by_cases hj0:j=0
 · subst hj0;simp
 · by_cases hi0:i=0
   · simp [hj0,hi0]
   · simp [hj0,hi0,Nat.add_assoc]
theorem list_of {α:Type} (z:α) (n:Nat) (R:Nat→α→Prop) (h:∀i,i < n→∃x,R i x):∃xs:List α,xs.length=n∧∀i,i < n→R i (xs.getD i z):=by
 refine ⟨(List.range n).map fun i=>if h':i < n then Classical.choose (h i h') else z,by simp,fun i hi=>?_⟩
 have e:((List.range n).map fun i=>if h':i < n then Classical.choose (h i h') else z).getD i z=Classical.choose (h i hi):=by
  simp [List.getD,hi]
 rw [e];exact Classical.choose_spec (h i hi)
theorem int_in {k:IntKind} {n:Int} (h:(Lit.int k n).wf=true):k.min≤n∧n≤k.max:=by
 simpa [Lit.wf] using h
theorem weights_in {H:Type} {P:Program} {e:TypeId}:∀{l:List (DataW H)} {d:DataW H},d∈l→∀n∈d.weights P e,n∈DataW.weightsAll P e l
 | x :: r,d,h,n,hn=>by
  simp only [DataW.weightsAll,List.mem_append];rcases List.mem_cons.1 h with rfl | h
  · exact .inl hn
  · exact .inr (weights_in h n hn)
theorem reach_is:reachBytes=140737488351232:=rfl
section
variable {H:Type} {enc:TypeId × Value→H} {w:World} {base:Nat} {spare:Nat→Bool} {held:Bool}
theorem open_puts {r:Reach} {b0:Nat} {v:Value} {d:DataW H} {p:List MemPlace} (hv:Value.okWide Tryz.prog w r b0 22 v) (h:DataW.Trod enc Tryz.prog w base spare held 22 v d p) (hsz:∀n∈d.weights Tryz.prog 22,n≤reachBytes) :
 ∃(A:Option Addr) (n cap bb off:Nat) (xs:List PutT),v=.slice A n cap∧PutsIn w A n bb off xs∧n≤maxLen:=by
 have hC:Tryz.prog.cellsOf 89=5:=by kernel_rfl
 have hs1:Tryz.prog.cellsOf 3=1:=by kernel_rfl
 have hs2:Tryz.prog.cellsOf 2=1:=by kernel_rfl
 have hs3:Tryz.prog.cellsOf 9=1:=by kernel_rfl
 obtain ⟨A,n,cap,rfl⟩:=okWide_slice Tryz.underlying22 hv;obtain ⟨fuel,hf⟩:=h;rcases open_slice Tryz.underlying22 hf with ⟨hcs,_⟩ | ⟨a,len,cap',m,fu,D,Pl,hcs,hb,hl,hm,hmm,hdx,hx⟩
 · have e:[Value.slice A n cap]=[Value.slice none 0 0]:=hcs
   simp only [List.cons.injEq,Value.slice.injEq,and_true] at e;obtain ⟨rfl,rfl,rfl⟩:=e;exact ⟨none,0,0,0,0,[],rfl,⟨rfl,fun h=>absurd h (by omega),fun i h=>absurd h (by omega),fun x h=>(by cases h)⟩,Nat.zero_le _⟩
 · have e:[Value.slice A n cap]=[Value.slice (some a) len cap']:=hcs
   simp only [List.cons.injEq,Value.slice.injEq,and_true] at e;obtain ⟨rfl,rfl,rfl⟩:=e;simp only [Prod.mk.injEq] at hdx;obtain ⟨rfl,_⟩:=hdx;have hl':n≤cap:=hl;have hle:n≤m:=by rw [hmm];split<;>omega
   have key:∀i,i < n→∃x:PutT,w.cell? (a.add (i*5))=some (.int .i64 x.kind)∧w.cell? (a.add (i*5+1))=some (kS x.p)∧w.cell? (a.add (i*5+2))=some (kS x.text)∧w.cell? (a.add (i*5+3))=some (.int .i64 x.long) ∧
    w.cell? (a.add (i*5+4))=some (.int .i64 x.time)∧PutOk x:=by
    intro i hi;obtain ⟨cs',h1,h2⟩:=hx i (by omega)
    have hwt:∀z∈(D i).weights Tryz.prog 89,z≤reachBytes:=fun z hz=>hsz z (by
     simp only [DataW.weights,Tryz.underlying22,List.mem_cons,List.mem_append];exact .inr (.inl (weights_in (List.mem_map.2 ⟨i,List.mem_range.2 hi,rfl⟩) z hz)))
    rw [hC] at h1;obtain ⟨_,hlen,hcc⟩:=World.cells?_some h1;match cs',hlen with
    | [c0,c1,c2,c3,c4],_ =>
     have k0:=hcc 0 (by omega)
     have k1:=hcc 1 (by omega)
     have k2:=hcc 2 (by omega)
     have k3:=hcc 3 (by omega)
     have k4:=hcc 4 (by omega)
     rw [add_add] at k0 k1 k2 k3 k4;obtain ⟨xs,m',_,hxe,_,hlen,hg⟩:=DataW.trod_struct Tryz.underlying89 h2;match xs,hlen with
     | [y0,y1,y2,y3,y4],_ =>
      have g0:DataW.trod enc Tryz.prog w base spare held m' 3 [c0]=some y0:=by have:=hg 0 _ rfl;simpa [hs1] using this
      have g1:DataW.trod enc Tryz.prog w base spare held m' 9 [c1]=some y1:=by have:=hg 1 _ rfl;simpa [hs3] using this
      have g2:DataW.trod enc Tryz.prog w base spare held m' 9 [c2]=some y2:=by have:=hg 2 _ rfl;simpa [hs3] using this
      have g3:DataW.trod enc Tryz.prog w base spare held m' 3 [c3]=some y3:=by have:=hg 3 _ rfl;simpa [hs1] using this
      have g4:DataW.trod enc Tryz.prog w base spare held m' 2 [c4]=some y4:=by have:=hg 4 _ rfl;simpa [hs2] using this
      obtain ⟨n0,i0,_,q0⟩:=DataW.trod_int Tryz.underlying3 g0;obtain ⟨s1,i1,r1,_⟩:=DataW.trod_string Tryz.underlying9 g1;obtain ⟨s2,i2,r2,_⟩:=DataW.trod_string Tryz.underlying9 g2;obtain ⟨n3,i3,_,q3⟩:=DataW.trod_int Tryz.underlying3 g3;obtain ⟨n4,i4,_,q4⟩:=DataW.trod_int Tryz.underlying2 g4;simp only [List.cons.injEq,and_true] at i0 i1 i2 i3 i4;subst i0 i1 i2 i3 i4;have q3:=int_in q3;simp only [IntKind.min,IntKind.max,IntKind.signed,IntKind.bits] at q3;simp at q3;simp only [Prod.mk.injEq] at hxe;have hD:=hxe.1;rw [hD] at hwt;simp only [DataW.weights,Tryz.underlying89] at hwt;have z1:s1.data.toList.length≤140737488351232:=by
       have:=hwt s1.data.toList.length (by rw [r1];simp [DataW.weightsEach,DataW.weights])
       rwa [reach_is] at this
      have z2:s2.data.toList.length≤140737488351232:=by
       have:=hwt s2.data.toList.length (by rw [r2];simp [DataW.weightsEach,DataW.weights])
       rwa [reach_is] at this
      refine ⟨⟨n0,tl s1,tl s2,n3,n4⟩,k0,?_,?_,k3,k4,⟨z1,z2,q3.1,by show n3≤_;omega⟩⟩
      · show _=some (Value.string (ba (tl s1)));rw [ba_tl];exact k1
      · show _=some (Value.string (ba (tl s2)));rw [ba_tl];exact k2
   rcases Nat.eq_zero_or_pos n with h0 | h0
   · subst h0
     exact ⟨some a,0,cap,0,0,[],rfl,⟨rfl,fun h=>absurd h (by omega),fun i h=>absurd h (by omega),fun x h=>(by cases h)⟩,Nat.zero_le _⟩
   · obtain ⟨x0,k0,_⟩:=key 0 h0
     rw [Nat.zero_mul] at k0;have ha:=spot_none k0;have hlt:a.block < w.heap.size:=World.block_lt_of_cell? w (a.add 0) k0;obtain ⟨xs,hl,hxs⟩:=list_of put0 n _ key;have e0:∀k,a.add k=⟨a.block,a.off+k,none⟩:=fun k=>by
      conv=>lhs;rw [ha]
      rw [add_at]
     have hmem:∀x∈xs,∃i,i < n∧x=xs.getD i put0:=fun x hx=>by
      obtain ⟨i,hi,rfl⟩:=List.getElem_of_mem hx;exact ⟨i,by omega,by rw [List.getD,List.getElem?_eq_getElem hi];rfl⟩
     refine ⟨some a,n,cap,a.block,a.off,xs,rfl,⟨hl,fun _=>⟨by rw [←ha],hlt⟩,fun i hi=>?_,fun x hx=>?_⟩,Nat.le_trans hl' hm⟩
     · obtain ⟨k0,k1,k2,k3,k4,_⟩:=hxs i hi
       rw [e0] at k0 k1 k2 k3 k4;exact ⟨k0,k1,k2,k3,k4⟩
     · obtain ⟨i,hi,rfl⟩:=hmem x hx
       exact (hxs i hi).2.2.2.2.2
end
end Go.Proofs.YtahkcemdbfjilaaGreatDoor
namespace Go.Proofs.YtahkcemdbfjilaaGreatDoor
open Go.RowKit Go.Maps
def nameR (p q:By):By:=if p=[] then q else q.drop (p.length+1)
def childR (L:Tr) (p:By):List By:=(L.filter fun x=>decide (aheadL x.1=p)).map fun x=>nameR p x.1
theorem childR_next {L:Tr} (p:By) {k:Nat} (hk:k < L.length):childR (L.take (k+1)) p=if aheadL (L.getD k at0).1=p then childR (L.take k) p++[nameR p (L.getD k at0).1] else childR (L.take k) p:=by
 rw [take_succD hk];unfold childR;rw [List.filter_append,List.map_append];generalize L.getD k at0=x;by_cases h:aheadL x.1=p
 · simp [h]
 · simp [h]
theorem name_no {l:By} (h:nameB l=true):47∉l:=by
 unfold nameB at h;simp only [Bool.and_eq_true,List.all_eq_true] at h;intro k;have:=h.2 47 k;revert this;decide
theorem last_no {q:By} (h:mayB q=true):47∉lastP q:=name_no (good_all (mayB_good h) _ (lastP_mem q))
theorem child_one (q p:By) (hq:mayB q=true):((if (beginL p).isPrefixOf q then some (q.drop (beginL p).length) else none).filter flatB)=if decide (aheadL q=p)=true then some (nameR p q) else none:=by
 have hlast:=last_no hq;by_cases hp:p=[]
 · subst hp
   have e1:beginL ([]:By)=[]:=if_pos rfl;rw [e1];have e2:([]:By).isPrefixOf q=true:=by simp
   rw [if_pos e2];have e3:nameR [] q=q:=if_pos rfl;rw [e3];show (some q).filter flatB=_
   rcases may_split hq with ⟨h1,h2,_⟩ | ⟨h1,h2,_⟩
   · have hf:flatB q=true:=(flat_iff q).2 (by rw [h2] at hlast;exact hlast)
     rw [decide_eq_true h1];simp [Option.filter,hf]
   · have hf:flatB q=false:=by
      rw [←Bool.not_eq_true,flat_iff];intro k;apply k;rw [h2];simp
     rw [decide_eq_false h1];simp [Option.filter,hf]
 · have e1:beginL p=p++[47]:=if_neg hp
   have e3:nameR p q=q.drop (p.length+1):=if_neg hp;rw [e1,e3];by_cases hpre:(p++[47]).isPrefixOf q=true
   · rw [if_pos hpre]
     obtain ⟨r,hr⟩:=List.isPrefixOf_iff_prefix.1 hpre;have hr':q=p++47 :: r:=by rw [←hr];simp
     have e4:q.drop (p++[47]).length=r:=by rw [←hr];simp
     have e5:q.drop (p.length+1)=r:=by rw [←e4];simp
     rw [e4,e5];have ha:aheadL q=if 47∈r then p++47 :: aheadL r else p:=by rw [hr'];exact ahead_behind p r
     by_cases k:47∈r
     · rw [if_pos k] at ha
       have hn:¬aheadL q=p:=by
        rw [ha];intro e;have:=congrArg List.length e;simp at this
       have hf:flatB r=false:=by rw [←Bool.not_eq_true,flat_iff];exact fun z=>z k
       rw [decide_eq_false hn];simp [Option.filter,hf]
     · rw [if_neg k] at ha
       have hf:flatB r=true:=(flat_iff r).2 k;rw [decide_eq_true ha];simp [Option.filter,hf]
   · rw [if_neg hpre]
     have hn:¬aheadL q=p:=by
      intro e;rcases may_split hq with ⟨h1,_⟩ | ⟨h1,h2,_⟩
      · exact hp (by rw [←e,h1])
      · apply hpre
        rw [List.isPrefixOf_iff_prefix];exact ⟨lastP q,by rw [←e];simp;exact h2.symm⟩
     rw [decide_eq_false hn];rfl
theorem fm_eq {α β:Type} (f:α→Option β) (q:β→Bool) (g:α→Bool) (h:α→β):∀l:List α,(∀x∈l,(f x).filter q=if g x=true then some (h x) else none)→(l.filterMap f).filter q=(l.filter g).map h
 | [],_=>rfl
 | x :: l,hx=>by
  have ih:=fm_eq f q g h l (fun y hy=>hx y (List.mem_cons_of_mem _ hy))
  have h1:=hx x List.mem_cons_self
  cases hf:f x with
  | none =>
   rw [hf] at h1;have hg:g x=false:=by
    cases k:g x with
    | false=>rfl
    | true=>rw [k] at h1;simp [Option.filter] at h1
   rw [List.filterMap_cons_none hf,List.filter_cons_of_neg (by rw [hg];simp)]
   exact ih
  | some y =>
   rw [hf] at h1;rw [List.filterMap_cons_some hf]
   cases hq:q y with
   | true =>
    have h2:(if g x=true then some (h x) else none)=some y:=by rw [←h1];simp [Option.filter,hq]
    cases k:g x with
    | false=>rw [k] at h2;simp at h2
    | true =>
     rw [k] at h2;simp at h2;rw [List.filter_cons_of_pos hq,List.filter_cons_of_pos k,List.map_cons,ih,h2]
   | false =>
    have h2:(if g x=true then some (h x) else none)=none:=by rw [←h1];simp [Option.filter,hq]
    cases k:g x with
    | true=>rw [k] at h2;simp at h2
    | false=>rw [List.filter_cons_of_neg (by rw [hq];simp),List.filter_cons_of_neg (by rw [k];simp),ih]
theorem child_same {room:Nat} {L:Tr} (hW:WFT room L) {p:By} (hd:kindP L p=2):childR L p=childL L p:=by
 unfold childL innerL;rw [if_pos hd];unfold restsL childR;refine (fm_eq _ flatB _ _ L (fun x hx=>?_)).symm
 exact child_one x.1 p (hW.may x.1 (by rw [mem_look hW.srt (show (x.1,x.2)∈L from hx)];rfl))
theorem sort_tr:∀a b c:By,decide (a≤b)=true→decide (b≤c)=true→decide (a≤c)=true:=fun a b c h1 h2=>by
 simp only [decide_eq_true_eq] at *;exact List.le_trans h1 h2
theorem sort_tot:∀a b:By,(decide (a≤b)||decide (b≤a))=true:=fun a b=>by
 simp only [Bool.or_eq_true,decide_eq_true_eq];exact List.le_total a b
theorem sort_put {xs ys:List By} {x:By} {a:Nat} (hy:sortL xs=ys) (ha:a≤ys.length) (h1:∀i,i < a→ys.getD i [] < x) (h2:a < ys.length→¬ys.getD a [] < x):sortL (xs++[x])=ys.take a++x :: ys.drop a:=by
 have hs:ys.Pairwise fun a b=>decide (a≤b)=true:=by rw [←hy];exact List.pairwise_mergeSort sort_tr sort_tot xs
 have hperm:ys.Perm xs:=by rw [←hy];exact List.mergeSort_perm xs _
 have hge:∀z∈ys.drop a,decide (x≤z)=true:=by
  by_cases k:a < ys.length
  · have e:=List.drop_eq_getElem_cons k
    have h3:=h2 k;have hsd:(ys.drop a).Pairwise fun a b=>decide (a≤b)=true:=hs.sublist (List.drop_sublist _ _)
    rw [e] at hsd;have h4:decide (x≤ys[a])=true:=by
     rw [List.getD,List.getElem?_eq_getElem k] at h3;simpa using h3
    intro z hz;rw [e] at hz;rcases List.mem_cons.1 hz with e2 | e2
    · rw [e2];exact h4
    · exact sort_tr _ _ _ h4 ((List.pairwise_cons.1 hsd).1 z e2)
  · intro z hz
    rw [List.drop_eq_nil_of_le (by omega)] at hz;cases hz
 have hle:∀u∈ys.take a,decide (u≤x)=true:=by
  intro u hu;obtain ⟨i,hi,rfl⟩:=List.getElem_of_mem hu;rw [List.length_take] at hi;have h3:=h1 i (by omega)
  rw [List.getD,List.getElem?_eq_getElem (by omega)] at h3
  rw [List.getElem_take];simp only [decide_eq_true_eq];exact List.le_of_lt h3
 have hpw:(ys.take a++x :: ys.drop a).Pairwise fun a b=>decide (a≤b)=true:=by
  refine List.pairwise_append.2 ⟨hs.sublist (List.take_sublist _ _),List.pairwise_cons.2 ⟨hge,hs.sublist (List.drop_sublist _ _)⟩,fun u hu v hv=>?_⟩
  rcases List.mem_cons.1 hv with e | e
  · rw [e];exact hle u hu
  · exact sort_tr _ _ _ (hle u hu) (hge v e)
 have hp2:(ys.take a++x :: ys.drop a).Perm (xs++[x]):=by
  refine (List.perm_middle (l₁:=ys.take a) (l₂:=ys.drop a)).trans ?_;rw [List.take_append_drop];exact (hperm.cons x).trans (List.perm_append_singleton x xs).symm
 refine List.Perm.eq_of_pairwise (le:=fun a b:By=>decide (a≤b)=true) (fun a b _ _ k1 k2=>?_) (List.pairwise_mergeSort sort_tr sort_tot _) hpw ((List.mergeSort_perm _ _).trans hp2.symm)
 simp only [decide_eq_true_eq] at k1 k2;exact List.le_antisymm k1 k2
theorem infoStr9:(Tryz.prog.info? 9).map (·.size)=some 1:=by kernel_rfl
theorem row_shift {w:World} {B g m c a:Nat} {ys:List By} (h:w.ownsRow B 9 1 (.slice (some ⟨g,0,none⟩) (m+1) c) (m+1) ((ys++[[]]).map kS)) (hm:ys.length=m) (ha:a≤m) (d:Option Addr) (hd:a < m→d=some ⟨g,a+1,none⟩) (ty:TypeId) :
 ∃n w1,(Builtin.copy_ #[34,34] ty #[.slice d (m - a) (c - (a+1)),.slice (some ⟨g,a,none⟩) (m+1 - a) (c - a)]).run Tryz.prog w=.ok (goInt n) w1∧w1.cell? ⟨g,a,none⟩=some (kS ((ys++[[]]).getD a []))∧w1.frozen? ⟨g,a,none⟩=false∧w1.heap.size=w.heap.size ∧
  ∀y,(w1.setCell ⟨g,a,none⟩ (kS y)).ownsRow B 9 1 (.slice (some ⟨g,0,none⟩) (m+1) c) (m+1) ((ys.take a++y :: ys.drop a).map kS)∧Below B w (w1.setCell ⟨g,a,none⟩ (kS y)):=by
 rcases h.2 with ⟨k1,_⟩ | ⟨g',c',cur,k1,k2,k3,k4,k5,k6,k7⟩
 · cases k1
 · injection k1 with e1 _ e3
   injection e1 with e1;injection e1 with e1;subst e1 e3;have hcs:cur.toList.length=c:=by simpa using k6
   rw [Nat.mul_one] at k7;have hcur:cur.toList=(ys++[[]]).map kS++cur.toList.drop (m+1):=by rw [←k7,List.take_append_drop]
   have hget:∀j,j < m+1→cur.toList[j]? = some (kS ((ys++[[]]).getD j [])):=fun j hj=>by
    rw [hcur,List.getElem?_append_left (by simp;omega),List.getElem?_map,List.getD,List.getElem?_eq_getElem (by simp;omega)];rfl
   have hcell:∀j,j < m+1→w.cell? ⟨g,j,none⟩=some (kS ((ys++[[]]).getD j [])):=fun j hj=>by
    rw [cell_of_row w g j cur 9 (0,0) k3,←Array.getElem?_toList];exact hget j hj
   have hsz:g < w.heap.size:=(Array.getElem?_eq_some_iff.1 k3).1;by_cases hlt:a < m
   · have hd':=hd hlt
     subst hd';have hrun:=run_copy_row (P:=Tryz.prog) w 34 34 ty 9 g (a+1) (m - a) (c - (a+1)) ⟨g,a,none⟩ (m+1 - a) (c - a) cur 9 ((ys.drop a).map kS) Tryz.underlying34 infoStr9 k3 (by rw [List.length_map,List.length_drop,hm];show m - a=min (m+1 - a) (m - a);omega)
      (fun j v hj=>by
        have hjl:j < m - a:=by
         have:=(List.getElem?_eq_some_iff.1 hj).1;rw [List.length_map,List.length_drop,hm] at this;exact this
        rw [add_at,hcell (a+j) (by omega),←hj,List.getElem?_map,List.getElem?_drop,List.getD,List.getElem?_append_left (by omega),List.getElem?_eq_getElem (by omega)];rfl)
      (by rw [List.length_map,List.length_drop,hm];rw [←Array.length_toList,hcs];omega) (fun v hv=>by obtain ⟨z,_,rfl⟩:=List.mem_map.1 hv;rfl)
     have hnew:∀y,(((cur.toList.take (a+1)++(ys.drop a).map kS++cur.toList.drop (a+1+((ys.drop a).map kS).length)).set a (kS y))).take (m+1)=(ys.take a++y :: ys.drop a).map kS:=by
      intro y;have e1:cur.toList.take (a+1)=(ys.take a).map kS++[kS ((ys++[[]]).getD a [])]:=by
       rw [hcur,List.take_append_of_le_length (by simp;omega),←List.map_take,List.take_append_of_le_length (by omega),List.take_succ_eq_append_getElem (by omega),List.map_append]
       rw [List.getD,List.getElem?_append_left (by omega),List.getElem?_eq_getElem (by omega)];rfl
      rw [e1];have e2:((ys.take a).map kS).length=a:=by rw [List.length_map,List.length_take];omega
      simp only [List.append_assoc,List.singleton_append];rw [List.set_append_right _ _ (by rw [e2];exact Nat.le_refl _),e2,Nat.sub_self]
      simp only [List.cons_append,List.nil_append,List.set_cons_zero];rw [List.map_append,List.map_cons];rw [←List.cons_append,←List.append_assoc];rw [List.take_append_of_le_length (by simp;omega)]
      exact List.take_of_length_le (by simp;omega)
     refine ⟨_,_,hrun,?_,?_,?_,fun y=>?_⟩
     · rw [cell_of_row _ g a _ 9 (0,0) (setRow_heap w g cur _ 9 (0,0) k3)]
       rw [←Array.getElem?_toList];show (cur.toList.take (a+1)++(ys.drop a).map kS++_)[a]? = _
       rw [List.append_assoc,List.getElem?_append_left (by rw [List.length_take,hcs];omega),List.getElem?_take,if_pos (by omega)]
       exact hget a (by omega)
     · simp [World.frozen?,setRow_heap w g cur _ 9 (0,0) k3]
     · simp [World.setRow]
     · rw [setCell_eq_setRow _ g a _ 9 (0,0) _ (setRow_heap w g cur _ 9 (0,0) k3),setRow_setRow]
       refine ⟨⟨by simp;omega,.inr ⟨g,c,_,rfl,k2,setRow_heap w g cur _ 9 (0,0) k3,k4,k5,?_,?_⟩⟩,below_setRow (Below.refl _ _) k2 _⟩
       · simp only [Array.size_setIfInBounds,List.size_toArray,List.length_append,List.length_take,List.length_map,List.length_drop,Array.length_toList]
         omega
       · rw [Nat.mul_one,Array.toList_setIfInBounds]
         exact hnew y
   · have hae:a=m:=by omega
     subst hae;have hrun:=run_copy_none (P:=Tryz.prog) w 34 34 ty 9 d (some ⟨g,a,none⟩) (a - a) (c - (a+1)) (a+1 - a) (c - a) Tryz.underlying34 infoStr9 (by show min (a+1 - a) (a - a)=0;omega)
     refine ⟨0,w,hrun,hcell a (by omega),by simp [World.frozen?,k3],rfl,fun y=>?_⟩
     rw [setCell_eq_setRow _ g a _ 9 (0,0) _ k3];refine ⟨⟨by simp;omega,.inr ⟨g,c,_,rfl,k2,setRow_heap w g cur _ 9 (0,0) k3,k4,k5,by simp [k6],?_⟩⟩,below_setRow (Below.refl _ _) k2 _⟩
     rw [Nat.mul_one,Array.toList_setIfInBounds,hcur];rw [List.map_append,List.append_assoc,List.set_append_right _ _ (by simp [hm]),List.length_map,hm,Nat.sub_self]
     simp only [List.map_cons,List.map_nil,List.cons_append,List.nil_append,List.set_cons_zero];rw [List.take_of_length_le (Nat.le_of_eq hm),List.drop_eq_nil_of_le (Nat.le_of_eq hm)];rw [←List.singleton_append,←List.append_assoc,List.take_append_of_le_length (by simp [hm])]
     rw [List.take_of_length_le (by simp [hm])]
     simp
end Go.Proofs.YtahkcemdbfjilaaGreatDoor
namespace Go.Proofs.YtahkcemdbfjilaaGreatDoor
open Go.RowKit Go.Maps
section
variable {own:Nat→Prop} {w:World} {r:Nat} {M:Mo}
theorem RDkI.short {tL ts:Nat} {sv:Value} {es:List Rw} {fused:Bool} {left:Int} (h:RDkI own w r tL ts sv es fused left M):M.now.length≤16384:=by
 have h1:=used_len (L:=M.now);have h2:=h.good.good.w1.used;have h3:=h.r1;omega
set_option maxHeartbeats 4000000 in
theorem rRead_any (h:RDk own w r M) (s:By) (hs:s.length≤4000):Calls Tryz.prog 63 #[.pointer (some ⟨r,0,none⟩),kS s] w fun e w'=>ReadP w (readM M.now s) e w':=by
 obtain ⟨tL,ts,sv,es,fused,left,h⟩:=h;have B0:Hid (Below w.heap.size w (w.alloc (.cells #[.int .i64 0,.string ⟨#[]⟩,.string ⟨#[]⟩,.int .i64 0] 71))):=(Below.refl _ _).alloc (Nat.le_refl _) _;have H:=hid h;have HSZ:=hid h.short;have HSS:Hid (s.length≤4000):=hs
 cases hm:mayB s with
 | false =>
  have C2:Hid (∀W,Calls Tryz.prog 62 #[kS s] W fun e w'=>e=.returned (.bool false)∧Below W.heap.size W w'):=fun W=>Rf.rmay_v (ba s) false (by show mayB (tl (ba s))=_;rw [tl_ba];exact hm) W (by rw [ba_size];exact HSS.out)
  have HR:Hid (readM M.now s=(n0,10)):=by show _=_;unfold readM;rw [hm];rfl
  clear h hm hs;go_enter Tryz.func63,Tryz.ntmps63
  go_wp2_with fail
  refine (C2.out _).mono ?_;rintro e2 w2 ⟨rfl,hb2⟩;have B2:=hid (B0.out.trans (hb2.mono B0.out.size));have X2:Hid (Has w2 w.heap.size 71 #[.int .i64 0,.string ⟨#[]⟩,.string ⟨#[]⟩,.int .i64 0]):=(Has.fresh w _ _).kept hb2 (by simp)
  clear hb2;go_wp2_with (refine wpList_store_row rfl 71 (.tmp 4) (.tmp 10) rfl w.heap.size #[.int .i64 0,.string ⟨#[]⟩,.string ⟨#[]⟩,.int .i64 0] rfl rfl 71 _ X2.out (by kernel_rfl) rfl (by simp [Value.oneCell']) ?_)
  refine bodyPost_ret (results_cell_tmp rfl _ _ w.heap.size #[.int .i64 0,.string ⟨#[]⟩,.string ⟨#[]⟩,.int .i64 0] rfl (X2.out.row) rfl) rfl ?_;rw [HR.out];exact ⟨rfl,B2.out.rowK (Nat.le_refl _) _⟩
 | true =>
  have C2:Hid (∀W,Calls Tryz.prog 62 #[kS s] W fun e w'=>e=.returned (.bool true)∧Below W.heap.size W w'):=fun W=>Rf.rmay_v (ba s) true (by show mayB (tl (ba s))=_;rw [tl_ba];exact hm) W (by rw [ba_size];exact HSS.out)
  have HM:=hid hm;clear h hm hs;go_enter Tryz.func63,Tryz.ntmps63
  go_wp2_with fail
  refine (C2.out _).mono ?_;rintro e2 w2 ⟨rfl,hb2⟩;have B2:=hid (B0.out.trans (hb2.mono B0.out.size));have X2:Hid (Has w2 w.heap.size 71 #[.int .i64 0,.string ⟨#[]⟩,.string ⟨#[]⟩,.int .i64 0]):=(Has.fresh w _ _).kept hb2 (by simp)
  have HI:Hid (RDkI own w2 r tL ts sv es fused left M):=H.out.kept B2.out.size (fun g hg=>B2.out.block g (H.out.low g hg))
  have c0:w2.cell? ⟨r,0,none⟩=some (.pointer (some ⟨tL,0,none⟩)):=HI.out.has.at_ 0;have CF:=hid (rfind_any HI.out.t1.tree s (by have:=HSZ.out;omega))
  obtain ⟨A,n,c,hv⟩:=HI.out.t1.tree.view;have HV:=hid hv;have c1:=hv.c0;clear hb2 hv;go_wp2_with fail
  refine CF.out.mono ?_;rintro e3 w3 ⟨ri,rfl,hf,rfl⟩;rcases hf with ⟨rfl,hl⟩ | ⟨i,hi,rfl,hl⟩
  · have HR:Hid (readM M.now s=(n0,5)):=by show _=_;unfold readM;rw [HM.out,hl];rfl
    clear hl;go_wp2_with (refine wpList_store_row rfl 71 (.tmp 4) (.tmp 19) rfl w.heap.size #[.int .i64 0,.string ⟨#[]⟩,.string ⟨#[]⟩,.int .i64 0] rfl rfl 71 _ X2.out (by kernel_rfl) rfl (by simp [Value.oneCell']) ?_)
    refine bodyPost_ret (results_cell_tmp rfl _ _ w.heap.size #[.int .i64 0,.string ⟨#[]⟩,.string ⟨#[]⟩,.int .i64 0] rfl (X2.out.row) rfl) rfl ?_;rw [HR.out];exact ⟨rfl,B2.out.rowK (Nat.le_refl _) _⟩
  · have hin:i < n:=by have:=HV.out.len;omega
    obtain ⟨g,hA,hat⟩:=HV.out.row (by omega)
    subst hA;have ha:=(hat i hin).node;obtain ⟨nd,hnd⟩:∃nd,nd=(M.now.getD i at0).2:=⟨_,rfl⟩;rw [←hnd] at ha hl;have HR:Hid (readM M.now s=(nd,0)):=by show _=_;unfold readM;rw [HM.out,hl];rfl
    obtain ⟨k0,d0,x0,t0⟩:=nd;have HA:=hid ha;have hlt:(i:Int) < (n:Int):=by omega
    have hge:(0:Int)≤(i:Int):=by omega
    have hng:¬(i:Int) < 0:=by omega
    clear hl hat ha hnd hi;go_wp2_with (first
     | (refine wpList_load_g (by rfl) 71 (.tmp 29) rfl g (i*5+1) rfl (ndA k0 d0 x0 t0) HA.out ?_)
     | (refine wpList_store_row rfl 71 (.tmp 4) (.tmp 30) rfl w.heap.size #[.int .i64 k0,kS d0,kS x0,.int .i64 t0] rfl rfl 71 _ X2.out (by kernel_rfl) rfl (by simp [Value.oneCell']) ?_))
    refine bodyPost_ret (results_cell_tmp rfl _ _ w.heap.size #[.int .i64 k0,kS d0,kS x0,.int .i64 t0] rfl (X2.out.row) rfl) rfl ?_;rw [HR.out];exact ⟨rfl,B2.out.rowK (Nat.le_refl _) _⟩
end
end Go.Proofs.YtahkcemdbfjilaaGreatDoor
