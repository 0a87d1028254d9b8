/- Texts. Conditions: as said. -/
import Derived.Test.YtahkcemdbfjilaaGreatDoorFj00
import Derived.Test.YtahkcemdbfjilaaGreatDoorFj13
set_option linter.all false
set_option maxRecDepth 100000
set_option maxHeartbeats 32000000
namespace Go.Proofs.YtahkcemdbfjilaaGreatDoor.Glob
open Go.RowKit Go.Maps
def jO (s:By) (ps:List By):Except Int (List By):=if ps.length=64 then .error 3 else if perr s≠0 then .error (perr s) else .ok (ps++[s])
def jR (rd:By->List By->Except Int (List By)) (s:By) (ps:List By):Except Int (List By):=if pre incM s then rd (s.drop 9) ps else jO s ps
def iC (f:By->List By->Except Int (List By)):List By->List By->Except Int (List By)
 | [],ps=>.ok ps
 | s :: ls,ps=>match f s ps with | .error e=>.error e | .ok qs=>iC f ls qs
def xE (rd:By->List By->Except Int (List By)):∀ls ps,stepL rd ls ps=iC (jR rd) ls ps:=by
 intro ls;induction ls with
 | nil=>intro ps;rfl
 | cons s ls ih =>
  intro ps;unfold stepL iC jR jO;split
  . cases rd (s.drop 9) ps with
    | error e=>rfl
    | ok qs=>exact ih qs
  split
  . rfl
  split
  . rfl
  exact ih _
def Jy (s:By) (w:World) (hs:s.length<=100000):qC 78 #[.string (ba s)] w fun e w'=>e=.returned (.string (ba s))/\qW w w':=by
 have HC:=hid (Tryz.stringslite_Clone (ba s) w (by rw [aD];omega));go_enter Tryz.func78,Tryz.ntmps78
 go_wp2_with (go_at_call 126;refine HC.o.mono ?_;rintro e1 w1 ⟨rfl,c8⟩)
 go_ret;exact ⟨rfl,c8⟩
def pQ.one {w:World} {g:Nat} {s:By} {p:Pt} (h:PatIs w g s p) (h1:parseL s=some p) (h2:perr s=0):pQ (w.alloc (.cells #[ptrV g] 169)) (.slice (some ⟨w.heap.size,0,none⟩) 1 1) [s]:=by
 have hb:qW w (w.alloc (.cells #[ptrV g] 169)):=qB.alloc qN _;refine ⟨[g],_,1,rfl,eA.one (h.stays hb) h1 h2,fun e=>(nomatch e),fun a ha j u hj=>?_⟩;simp only [Option.some.injEq] at ha;subst ha;match j,hj with
 | 0,hj=>simp at hj;subst hj;exact (Has.fresh w 169 #[ptrV g]).at_ 0
 | j+1,hj=>simp at hj
def Lt (B L:Nat) (ps:List By) (s:By) (w:World) (hL:eH B w L ps) (h1:ps.length<=64) (hs:s.length<=100000) (hB:B<=L) :
 qC 48 #[ptrV L,.string (ba s)] w fun e w'=>Out (jO s ps) e True (fun rs=>eH B w' L rs)/\(∀D r,Fr L D r w w')/\(∀(a:World),Below B a w->Below B a w'):=by
 have HL:=hid hL;obtain ⟨v,hh,hp⟩:=hL;have uc:B<=w.heap.size:=by have:=hh.inside;omega
 have c0:=hh.at_ 0;obtain ⟨A,cp,rfl⟩:=hp.form;have BY:=hid uc;have HB:=hid hB;have H1:=hid h1;have xe:=hid (Jy s w hs);by_cases D7:ps.length=64
 .
  have HE:Hid (jO s ps=.error 3):=by show _=_;unfold jO;rw [if_pos D7]
  have g1:(ps.length:Int)=64:=by omega
  generalize hn:ps.length=n at *;clear hp hh HL H1 h1 D7 hs hB uc;unfold ptrV;go_enter Tryz.func48,Tryz.ntmps48
  go_wp2;go_ret;exact ⟨Out.err HE.o rfl (by decide) trivial,fun D r=>Fr.refl _ _ _ _,fun _ h=>h⟩
 have HE:Hid (jO s ps=if perr s≠0 then .error (perr s) else .ok (ps++[s])):=by show _=_;unfold jO;rw [if_neg D7]
 have g1:¬((ps.length:Int)=64):=by omega
 have ED:Hid (gZ ps [s]=.ok (ps++[s])):=by show _=_;unfold gZ;rw [if_pos (by simp;omega)]
 generalize hn:ps.length=n at g1 c0;clear hp hh h1 D7 hs hB uc;unfold ptrV;go_enter Tryz.func48,Tryz.ntmps48
 go_wp2_with (fail)
 refine xe.o.mono ?_;rintro e1 w1 ⟨rfl,c8⟩;go_wp2_with (fail)
 refine (Sk s w1).mono ?_;rintro e2 w2 ⟨sf,a9⟩;have i9:Hid (qW w w2):=c8.thenG a9;clear c8 a9;rcases parse_cases sf with ⟨c,hc,wj,rfl⟩ | ⟨p,g,hl,y7,wj,rfl,ms⟩
 .
  have ue:(c == 0)=false:=by simp [hc]
  have DA:=hid wj;have HC:=hid hc;have VT:Hid (jO s ps=.error c):=by show _=_;rw [HE.o,if_pos (by rw [wj];exact hc),wj]
  clear sf wj hc;go_wp2;go_ret;exact ⟨Out.err VT.o rfl HC.o trivial,fun D r=>Fr.of_below i9.o,fun a ha=>ha.trans (i9.o.mono BY.o)⟩
 have DA:=hid wj;have VT:Hid (jO s ps=.ok (ps++[s])):=by show _=_;rw [HE.o,if_neg (by rw [wj];decide)]
 have HM:=hid (pQ.one ms y7 wj);have zi:Hid (eH B (w2.alloc (.cells #[ptrV g] 169)) L ps):=HL.o.below (i9.o.alloc i9.o.size _);have B8:Hid (qW w (w2.alloc (.cells #[ptrV g] 169))):=i9.o.alloc i9.o.size _;have GE:=hid (Hl B L ps [s] _ _ zi.o HM.o H1.o (by simp) HB.o);rw [ED.o] at GE;unfold ptrV at GE B8 HM zi;clear sf wj hl y7 ms;go_wp2_with (fail)
 refine GE.o.mono ?_;intro e3 w3 h3;obtain ⟨rfl,hl3,rm,hbb3⟩:=h3.of_ok;clear h3;have ro:=hid hl3;have HF:=hid rm;have IY:=hid hbb3;clear hl3 rm hbb3;go_wp2;go_ret;exact ⟨Out.ok VT.o rfl ro.o,fun D r=>(Fr.of_below B8.o).tr (HF.o D r),fun a ha=>IY.o a (ha.trans (B8.o.mono BY.o))⟩
def Iq {u:By} (h:idle u=false):∃x u',u=x :: u'/\pre [47,47] u=false:=by
 unfold idle at h
 cases u with
 | nil=>simp at h
 | cons x u'=>exact ⟨x,u',rfl,by simpa using h⟩
def idle_yes {u:By} (h:idle u=true):u=[]∨∃x u',u=x :: u'/\pre [47,47] u=true:=by
 cases u with
 | nil=>exact .inl rfl
 | cons x u'=>exact .inr ⟨x,u',rfl,by unfold idle at h;simpa using h⟩
def zX (text:By) (k:Nat) (lb:Array Value) (ek:∀(args:Array Value) (w:World),(callFunc k args).run Tryz.prog w=.ok (.enter k args) w) (I:List By->World->Prop) (E:World->Prop) (stp:By->List By->Except Int (List By))
 (hI:∀ps W W',I ps W->qW W W'->I ps W') (hG:∀ps W,I ps W->Gd W)
 (p6:∀ps W s,s∈linesL text->I ps W->Calls Tryz.prog k (#[.string (ba s)]++lb) W fun e W'=>Out (stp s ps) e (E W') (fun qs=>I qs W'))
 (ps:List By) (w:World) (h0:I ps w) (hl:text.length<=100000) :
 qC 45 #[.string (ba text),.func (.func k) #[] lb] w fun e W=>Out (iC stp (linesL text) ps) e (E W) (fun qs=>I qs W):=by
 have HI:=hid hI;have HG:=hid hG;have C9:=hid p6;have H0:=hid h0;clear hI hG p6 h0;obtain ⟨goal,HC⟩:=qX (iC stp (linesL text) ps);rw [HC.o];go_enter Tryz.func45,Tryz.ntmps45
 go_wp2;go_loopw [0,5] (fun s0 m wr=>∃(t:By) (g:Bool) (qs:List By),s0=.string (ba t)/\m=.bool g/\t.length<=100000/\Hid (goal=if g then iC stp (linesL t) qs else .ok qs)/\Hid (I qs wr)/\Hid (g=true->∀s∈linesL t,s∈linesL text))
  (fun s0 m _=>match s0,m with | .string x,.bool true=>x.size+1 | _,_=>0)
 case atStart=>exact ⟨text,true,ps,rfl,rfl,hl,HC.o.symm,H0,fun _ _ h=>h⟩
 obtain ⟨t,g,qs,rfl,rfl,ht,HE,HW,HM⟩:=hrel
 cases g with
 | false =>
  go_wp2;go_ret;exact Out.ok HE.o rfl HW.o
 | true =>
  obtain ⟨p,q,m,OQ⟩:∃p q m,Hid (cutN t=(p,q,m)):=⟨_,_,_,rfl⟩;have hp:p.length<=100000:=by have:=(bE t).2.1;rw [OQ.o] at this;simp only at this;omega
  have hq:q.length<=100000:=by have:=(bE t).1;rw [OQ.o] at this;simp only at this;omega
  have HQ:Hid (m=true->q.length < t.length):=by intro hm;have:=(bE t).2.2;rw [OQ.o] at this;exact this hm
  have J7:Hid (linesL t=(if idle (trimB p) then [] else [trimB p])++(if m then linesL q else [])):=by show _=_;rw [Ng,OQ.o]
  have mo:=hid (gt t p q m OQ wr (HG.o _ _ HW.o) ht);have EE:=hid (fun W=>Uh p W hp);have VU:=hid (aD t);have VV:=hid (aD q);have xo:=hid hq;generalize trimB p=u at J7 EE
  cases I8:idle u with
  | true =>
   rw [I8] at J7;have j7:Hid (goal=if m then iC stp (linesL q) qs else .ok qs):=by
    show _=_;rw [HE.o,if_pos rfl,J7.o];cases m<;>rfl
   have xm:Hid (m=true->∀s∈linesL q,s∈linesL text):=fun hm s hs=>HM.o rfl s (by rw [J7.o,hm];simpa using hs)
   rcases idle_yes I8 with rfl | ⟨x,u',rfl,p4⟩
   .
    have zt:(ba ([]:By)).toList=[]:=bH _;generalize ba ([]:By)=X at zt EE;clear I8 hp hq;go_wp2_with (first
     | (go_at_call 90;refine mo.o.mono ?_;rintro e1 w1 ⟨rfl,nd,rfl⟩)
     | (go_at_call 91;refine (EE.o _).mono ?_;rintro e2 w2 ⟨rfl,a9⟩
        have uz:Hid (I qs w2):=HI.o _ _ _ HW.o ((qB.drewG nd).thenG a9);clear a9))
    go_roundw
    case rel=>exact ⟨q,m,qs,rfl,rfl,xo.o,j7,uz,xm⟩
    cases m with
    | false=>simp
    | true=>simp only;rw [VV.o,VU.o];have:=HQ.o rfl;omega
   have vc:=hid (fun W=>fV (x :: u') [47,47] W);rw [p4] at vc;have zt:(ba (x :: u')).toList=x :: u':=bH _;generalize ba (x :: u')=X at zt EE vc;clear I8 hp hq p4;go_wp2_with (first
    | (go_at_call 90;refine mo.o.mono ?_;rintro e1 w1 ⟨rfl,nd,rfl⟩)
    | (go_at_call 91;refine (EE.o _).mono ?_;rintro e2 w2 ⟨rfl,a9⟩
       have uz:Hid (I qs w2):=HI.o _ _ _ HW.o ((qB.drewG nd).thenG a9);clear a9)
    | (go_at_call 75;refine (vc.o _).mono ?_;rintro e3 w3 ⟨rfl,rfl⟩))
   go_roundw
   case rel=>exact ⟨q,m,qs,rfl,rfl,xo.o,j7,uz,xm⟩
   cases m with
   | false=>simp
   | true=>simp only;rw [VV.o,VU.o];have:=HQ.o rfl;omega
  | false =>
   obtain ⟨x,u',hu,p4⟩:=Iq I8;rw [I8] at J7;have OP:Hid (u∈linesL text):=HM.o rfl u (by rw [J7.o];simp);have HT:Hid (∀W,I qs W->Calls Tryz.prog k (#[.string (ba u)]++lb) W fun e W'=>Out (stp u qs) e (E W') (fun rs=>I rs W')):=fun W h=>C9.o qs W u OP.o h
   have vc:=hid (fun W=>fV u [47,47] W);rw [p4] at vc;have zt:(ba u).toList=x :: u':=by rw [bH,hu]
   cases vm:stp u qs with
   | error c =>
    have j7:Hid (goal=.error c):=by
     show _=_;rw [HE.o,if_pos rfl,J7.o];show iC stp ([u]++_) qs=_
     rw [List.singleton_append,iC,vm]
    rw [vm] at HT;generalize ba u=X at zt EE vc HT;clear I8 hp hq p4 vm hu;go_wp2_with (first
     | (go_at_call 90;refine mo.o.mono ?_;rintro e1 w1 ⟨rfl,nd,rfl⟩)
     | (go_at_call 91;refine (EE.o _).mono ?_;rintro e2 w2 ⟨rfl,a9⟩
        have uz:Hid (I qs w2):=HI.o _ _ _ HW.o ((qB.drewG nd).thenG a9);clear a9)
     | (go_at_call 75;refine (vc.o _).mono ?_;rintro e3 w3 ⟨rfl,rfl⟩)
     | (go_at_fn k;refine (HT.o _ uz.o).mono ?_;intro e4 w4 h4;obtain ⟨rfl,NS,OR⟩:=h4.of_err;clear h4
        have MA:(c == 0)=false:=by simp [NS]
        have HC4:=hid NS;have AI:=hid OR;clear NS OR))
    go_ret;exact Out.err j7.o rfl HC4.o AI.o
   | ok rs =>
    have j7:Hid (goal=if m then iC stp (linesL q) rs else .ok rs):=by
     show _=_;rw [HE.o,if_pos rfl,J7.o];show iC stp ([u]++_) qs=_
     rw [List.singleton_append,iC,vm];cases m<;>rfl
    have xm:Hid (m=true->∀s∈linesL q,s∈linesL text):=fun hm s hs=>HM.o rfl s (by rw [J7.o,hm];simp [hs])
    rw [vm] at HT;generalize ba u=X at zt EE vc HT;clear I8 hp hq p4 vm hu;go_wp2_with (first
     | (go_at_call 90;refine mo.o.mono ?_;rintro e1 w1 ⟨rfl,nd,rfl⟩)
     | (go_at_call 91;refine (EE.o _).mono ?_;rintro e2 w2 ⟨rfl,a9⟩
        have uz:Hid (I qs w2):=HI.o _ _ _ HW.o ((qB.drewG nd).thenG a9);clear a9)
     | (go_at_call 75;refine (vc.o _).mono ?_;rintro e3 w3 ⟨rfl,rfl⟩)
     | (go_at_fn k;refine (HT.o _ uz.o).mono ?_;intro e4 w4 h4;obtain ⟨rfl,OR⟩:=h4.of_ok;clear h4
        have AI:=hid OR;clear OR))
    go_roundw
    case rel=>exact ⟨q,m,rs,rfl,rfl,xo.o,j7,AI,xm⟩
    cases m with
    | false=>simp
    | true=>simp only;rw [VV.o,VU.o];have:=HQ.o rfl;omega
section
variable {ops:Array Oper} {S:World->Prop} {o:Oper} {a:Act}
theorem Ep {t:TypeId} (hw:Region.wanted o (yielded ops a.tmps)=true) (x l h:Operand) (ho:o.op=.slice t x (some l) (some h) none) (xv lv hv r:Value) (hx:a.eval x=xv) (hl:a.eval l=lv) (hh:a.eval h=hv)
 (hS:∀w,S w->(Instr.sliceAt t xv (some lv) (some hv) none).run Tryz.prog w=.ok r w):YieldsIf Tryz.prog ops S o r a :=
 .inl ⟨hw,fun w IF=>by
  unfold execOp;simp only [ho,hx,hl,hh,Option.map_some,Option.map_none,Sem.run_bind,Sem.run_pure,Result.andThen_ok,hS w IF]⟩
theorem uY {w:World} {K:Act->World->Prop} {Q:Exit->Act->World->Prop} {E:Prop} (hw:Region.wanted o (yielded ops a.tmps)=true) {t:TypeId} (m x v:Operand) (ho:o.op=.mapUpdate t m x v) (mv xv vv:Value) (hm:a.eval m=mv) (hx:a.eval x=xv) (hv:a.eval v=vv)
 {w':World} (hr:(Instr.mapUpdate t mv xv vv).run Tryz.prog w=.ok () w') (hK:K (a.put o.dst undef) w'):if Region.wanted o (yielded ops a.tmps)=true then Oper.wp Tryz.prog o a w K Q else E:=by
 rw [if_pos hw];unfold Oper.wp;simp [execOp,ho,hm,hx,hv,hr,Result.andThen];exact hK
theorem fO {w:World} {K:Act->World->Prop} {Q:Exit->Act->World->Prop} {E:Prop} (hw:Region.wanted o (yielded ops a.tmps)=true) (x:Operand) (ho:o.op=.buildSlice 34 1 #[(0,x)]) (s:ByteArray) (hx:a.eval x=.string s)
 (hK:K (a.put o.dst (.slice (some ⟨w.heap.size,0,none⟩) 1 1)) (w.alloc (.cells #[.string s] 9))):if Region.wanted o (yielded ops a.tmps)=true then Oper.wp Tryz.prog o a w K Q else E:=by
 have hI:(Tryz.prog.info? 9).map (fun i=>(i.size,i.zero))=some (1,some (.string ⟨#[]⟩)):=by kernel_rfl
 have hr:(Instr.buildSlice 34 1 #[(0,Value.string s)]).run Tryz.prog w=.ok (.slice (some ⟨w.heap.size,0,none⟩) 1 1) (w.alloc (.cells #[.string s] 9)):=by
  cases hie:Tryz.prog.info? 9 with
  | none=>rw [hie] at hI;cases hI
  | some ie =>
   rw [hie] at hI;simp only [Option.map_some,Option.some.injEq,Prod.mk.injEq] at hI;refine run_buildSlice (P:=Tryz.prog) w 34 9 1 _ _ ie _ Tryz.underlying34 hie hI.2 (by rw [hI.1];omega) (by rw [hI.1];omega) ?_;rw [hI.1];refine (Great.fill_whole (s:=1) (by omega) [Value.string s] _ (fun v hv=>?_) (by simp)).trans (by simp [Value.cells]);simp only [List.mem_singleton] at hv;subst hv;rfl
 rw [if_pos hw];unfold Oper.wp;simp only [execOp,ho,hx,Sem.run_bind,List.map_toArray,List.map_cons,List.map_nil,hr,Result.andThen];exact hK
theorem aH {P:Program} {ops:Array Oper} {o:Oper} {a:Act} {w:World} {K:Act->World->Prop} {Q:Exit->Act->World->Prop} {E:Prop}
 (hg:o.guard=none) (s x:Operand) (sT xT:TypeId) (hop:o.op=Op.call { callee:=Callee.builtin Builtin.append,args:=#[s,x],argTypes:=#[sT,xT] })
 (v u:Value) (hs:a.eval s=v) (hx:a.eval x=u) {v':Value} {w':World} (hr:(Builtin.append_ #[sT,xT] o.type #[v,u]).run P w=.ok v' w') (hK:K (a.put o.dst v') w') :
 if Region.wanted o (yielded ops a.tmps)=true then Oper.wp P o a w K Q else E:=by
 have hw:Region.wanted o (yielded ops a.tmps)=true:=by simp [Region.wanted,hg]
 rw [if_pos hw];unfold Oper.wp;simp [execOp,hop,resolve,invoke,builtin,hs,hx,hr,Result.andThen];exact hK
end
structure Bx where
 tb:Nat
 db:Nat
 lb:Nat
 fb:Nat
 rb:Nat
 L:Nat
 D:Nat
 pm:Nat
 B:Nat
 fv:Value
def mR (x:Bx):Value:=.func (.func 42) #[] #[ptrV x.tb,ptrV x.db,ptrV x.lb,ptrV x.fb,ptrV x.rb]
structure Env (x:Bx) (fs:Fl) (w:World):Prop where
 t:Has w x.tb 101 #[.map (some x.pm)]
 d:Has w x.db 103 #[.map (some x.D)]
 l:Has w x.lb 30 #[ptrV x.L]
 f:Has w x.fb 23 #[x.fv]
 r:Has w x.rb 107 #[mR x]
 places:∃c,MapZ w (.int .i64 0) x.pm c (plF fs 0)
 ne:x.pm≠x.D
 lowD:x.B<=x.D
def Env.fr {x:Bx} {fs:Fl} {w W:World} {r:Option Nat} (h:Env x fs w) (hf:Fr x.L x.D r w W):Env x fs W:=by
 refine ⟨hf.has h.t (by decide) (by decide) (by decide),hf.has h.d (by decide) (by decide) (by decide),hf.has h.l (by decide) (by decide) (by decide),hf.has h.f (by decide) (by decide) (by decide),hf.has h.r (by decide) (by decide) (by decide),?_,h.ne,h.lowD⟩;obtain ⟨c,hp⟩:=h.places;obtain ⟨es,ck,ho⟩:=hp.obj;exact ⟨c,hp.kept ((hf.2 _ _ ho (Calm.map h.ne)).trans ho.symm)⟩
def Env.below {x:Bx} {fs:Fl} {w W:World} (h:Env x fs w) (hb:qW w W):Env x fs W:=h.fr (r:=none) (Fr.of_below hb)
def kM (d a b:Nat):Value:=.agg #[.int .i64 (d:Int),.int .i64 (a:Int),.int .i64 (b:Int)]
def Done (fs:Fl) (f:Value->Option Value) (c:Nat) (ps:List By):Prop :=
 (∀name v,f (.string (ba name))=some v->∃d a b,v=kM d a b/\d<=3/\a<=b/\b<=ps.length/\flat fs (4 - d) name=some ((ps.drop a).take (b - a))) /\
 ∃ks:List By,ks.Nodup/\ks.length=c/\(∀k∈ks,k∈fs.map (·.1))/\∀name,(f (.string (ba name))).isSome=true↔name∈ks
def Done.none (fs:Fl) (ps:List By):Done fs (fun _=>none) 0 ps:=⟨fun _ _ h=>by simp at h,[],List.nodup_nil,rfl,fun _ h=>absurd h List.not_mem_nil,fun _=>by simp⟩
def Done.more {fs:Fl} {f:Value->Option Value} {c:Nat} {ps:List By} (h:Done fs f c ps) (qs:List By):Done fs f c (ps++qs):=by
 refine ⟨fun name v hv=>?_,h.2⟩;obtain ⟨d,a,b,h1,h2,h3,h4,h5⟩:=h.1 name v hv;refine ⟨d,a,b,h1,h2,h3,by rw [List.length_append];omega,?_⟩;rw [h5,List.drop_append_of_le_length (by omega),List.take_append_of_le_length (by rw [List.length_drop];omega)]
def Xk {ks l:List By} (h:ks.Nodup) (hs:∀k∈ks,k∈l):ks.length<=l.length:=by
 induction ks generalizing l with
 | nil=>simp
 | cons k ks ih =>
  have hk:=hs k (by simp);rw [List.nodup_cons] at h;have:=ih (l:=l.erase k) h.2 (fun y hy=>(List.mem_erase_of_ne (fun e=>by rw [e] at hy;exact h.1 hy)).2 (hs y (by simp [hy])));rw [List.length_erase_of_mem hk] at this;have h0:0 < l.length:=List.length_pos_of_mem hk;simp only [List.length_cons];omega
def Done.few {fs:Fl} {f:Value->Option Value} {c:Nat} {ps:List By} (h:Done fs f c ps):c<=fs.length:=by
 obtain ⟨_,ks,h1,h2,h3,_⟩:=h;have:=Xk h1 h3;rw [List.length_map] at this;omega
open Classical in
def Done.put {fs:Fl} {f:Value->Option Value} {c:Nat} {ps:List By} (h:Done fs f c ps) {name:By} {d a b:Nat} (h0:name∈fs.map (·.1)) (h1:d<=3) (h2:a<=b) (h3:b<=ps.length) (h4:flat fs (4 - d) name=some ((ps.drop a).take (b - a))) :
 Done fs (fun y=>if y=.string (ba name) then some (kM d a b) else f y) (if (f (.string (ba name))).isSome then c else c+1) ps:=by
 refine ⟨fun nm v hv=>?_,?_⟩
 .
  by_cases hn:Value.string (ba nm)=.string (ba name)
  . simp only [if_pos hn,Option.some.injEq] at hv
    rw [pF] at hn;subst hn;exact ⟨d,a,b,hv.symm,h1,h2,h3,h4⟩
  simp only [if_neg hn] at hv;exact h.1 nm v hv
 obtain ⟨ks,k1,k2,k3,k4⟩:=h.2
 cases hs:(f (.string (ba name))).isSome with
 | true =>
  refine ⟨ks,k1,k2,k3,fun nm=>?_⟩;by_cases hn:Value.string (ba nm)=.string (ba name)
  . rw [pF] at hn
    subst hn;show (if _ then some (kM d a b) else _).isSome=true↔_
    rw [if_pos rfl,<-k4,hs];simp
  show (if _ then some (kM d a b) else f (.string (ba nm))).isSome=true↔_
  rw [if_neg hn];exact k4 nm
 | false =>
  have np:name∉ks:=fun hm=>by rw [(k4 name).2 hm] at hs;cases hs
  refine ⟨name :: ks,List.nodup_cons.2 ⟨np,k1⟩,by simp [k2],fun k hk=>?_,fun nm=>?_⟩
  . rcases List.mem_cons.1 hk with rfl | hk
    . exact h0
    exact k3 k hk
  by_cases hn:Value.string (ba nm)=.string (ba name)
  . show (if _ then some (kM d a b) else _).isSome=true↔_
    rw [if_pos hn];rw [pF] at hn;subst hn;simp
  show (if _ then some (kM d a b) else f (.string (ba nm))).isSome=true↔_
  rw [if_neg hn,k4 nm];have:nm≠name:=fun e=>hn (by rw [e])
  simp [this]
def zR:Value:=kM 0 0 0
structure St (x:Bx) (fs:Fl) (ps:List By) (w:World):Prop where
 list:eH x.B w x.L ps
 done:∃c f,MapZ w zR x.D c f/\Done fs f c ps
 low:x.B<=x.L
def St.below {x:Bx} {fs:Fl} {ps:List By} {w W:World} (h:St x fs ps w) (hb:qW w W):St x fs ps W:=by
 obtain ⟨c,f,h1,h2⟩:=h.done;exact ⟨h.list.below hb,⟨c,f,h1.kept (hb.block _ h1.inside),h2⟩,h.low⟩
def sD (s:By):Value:=.string (ba s)
def Ar (B:Nat) (w:World) (v:Value) (within:List By):Prop:=w.ownsRow B 9 1 v within.length (within.map sD)
def jC:(Tryz.prog.info? 9).map (fun i=>(i.zero,i.size,i.bytes))=some (some (.string ⟨#[]⟩),1,16):=by kernel_rfl
def cM {B:Nat} {w:World} {v:Value} {l:List By} {s:By} {g:Nat} (h:Ar B w v l) (hg:Has w g 9 #[.string (ba s)]) (hn:l.length<=100000) (hB:B<=w.heap.size) (ty:TypeId) :
 ∃v' w',(Builtin.append_ #[34,34] ty #[v,.slice (some ⟨g,0,none⟩) 1 1]).run Tryz.prog w=.ok v' w'/\Ar B w' v' (l++[s])/\Ar B w' v l/\w.grownBy w' v.ownBlock/\(v'.ownBlock=v.ownBlock∨v'.ownBlock=some w.heap.size):=by
 obtain ⟨i0,hi,o7,g8,j5⟩:=info_parts jC;obtain ⟨v',w',hr,h1,h2,h3,h4⟩:=xF (w:=w) (B:=B) (t:=34) (ty:=ty) Tryz.underlying34 hi o7 g8 j5 rfl (by omega) h (a:=⟨g,0,none⟩) (m:=1) (c:=1) (news:=[sD s]) rfl (fun j u hj=>by
  match j,hj with
  | 0,hj=>simp at hj;subst hj;exact hg.at_ 0
  | j+1,hj=>simp at hj) (fun u hu=>by simp only [List.mem_singleton] at hu;subst hu;rfl) (by omega) (by omega) hB
 refine ⟨v',w',hr,?_,h2,h3,h4⟩;unfold Ar;rw [List.length_append,List.map_append];exact h1
def Fr.of_str {L D:Nat} {w W:World} {v:Value} {B:Nat} {l:List By} (h:Ar B w v l) (hg:w.grownBy W v.ownBlock):Fr L D v.ownBlock w W:=by
 refine ⟨hg.size,fun j o ho hc=>(hg.block j (Array.getElem?_eq_some_iff.1 ho).1 fun e=>?_).trans ho⟩;obtain ⟨cs,q,h2⟩:=fF h j e.symm;exact hc.2.2.2 cs q (Option.some.inj (ho.symm.trans h2)) e
def Ar.fr {L D:Nat} {r:Option Nat} {B:Nat} {w W:World} {v:Value} {l:List By} (h:Ar B w v l) (hf:Fr L D r w W) (hr:∀k,v.ownBlock=some k->some k≠r):Ar B W v l:=by
 refine kL h fun k hk=>?_
 obtain ⟨cs,q,h2⟩:=fF h k hk;exact (hf.2 k _ h2 (Calm.strs (hr k hk))).trans h2.symm
def St.str {x:Bx} {fs:Fl} {ps:List By} {w W:World} {v:Value} {B:Nat} {l:List By} (h:St x fs ps w) (ha:Ar B w v l) (hg:w.grownBy W v.ownBlock):St x fs ps W:=by
 obtain ⟨c,f,h1,h2⟩:=h.done;obtain ⟨u,k1,gs,k2,k3⟩:=h.list;have hf:Fr 0 0 v.ownBlock w W:=Fr.of_str ha hg;have hk:∀j o,w.heap[j]? = some o->(∀cs q,o≠Obj.cells cs 9 q)->W.heap[j]? = w.heap[j]?:=fun j o ho hn=>hg.block j (Array.getElem?_eq_some_iff.1 ho).1 fun e=>by
  obtain ⟨cs,q,h2⟩:=fF ha j e.symm;exact hn cs q (Option.some.inj (ho.symm.trans h2))
 have hc:∀(cs:Array Value) (t:TypeId) (q:Nat × Nat),t≠9->∀cs' q',Obj.cells cs t q≠Obj.cells cs' 9 q':=fun cs t q ht cs' q' e=>by
  simp only [Obj.cells.injEq] at e;exact ht e.2.1
 refine ⟨⟨u,(hk _ _ k1 (hc _ _ _ (by decide))).trans k1,gs,kL k2 fun k Q9=>?_,k3.fr hf⟩,⟨c,f,h1.kept ?_,h2⟩,h.low⟩
 . obtain ⟨cs,q,h3⟩:=fF k2 k Q9
   exact hk _ _ h3 (hc _ _ _ (by decide))
 obtain ⟨es,ck,h3⟩:=h1.obj;exact hk _ _ h3 (fun _ _ e=>nomatch e)
def ReadOk (x:Bx) (fs:Fl) (w0:World) (k:Nat):Prop :=
 ∀(within:List By) (name:By) (ps:List By) (v:Value) (w:World),within.length+k=4->name.length<=1000000000000000->Env x fs w->St x fs ps w->Ar x.B w v within->eZ fs within name->ps.length<=64->Below x.B w0 w ->
  qC 42 #[.string (ba name),v,ptrV x.tb,ptrV x.db,ptrV x.lb,ptrV x.fb,ptrV x.rb] w fun e W =>
   Out (readL fs k within name ps) e True (fun qs=>St x fs qs W/\Ar x.B W v within)/\Fr x.L x.D v.ownBlock w W/\Below x.B w0 W
structure Ln (x:Bx) (fs:Fl) (w0 W1:World) (within:List By) (name:By) (v:Value) (nb ab:Nat) (ps:List By) (w:World):Prop where
 env:Env x fs w
 st:St x fs ps w
 nbx:Has w nb 9 #[.string (ba name)]
 abx:Has w ab 34 #[v]
 ar:Ar x.B w v within
 few:ps.length<=64
 fr:Fr x.L x.D v.ownBlock W1 w
 low:Below x.B w0 w
 ne:some nb≠v.ownBlock
def Ln.below {x:Bx} {fs:Fl} {w0 W1:World} {within:List By} {name:By} {v:Value} {nb ab:Nat} {ps:List By} {w W:World} (h:Ln x fs w0 W1 within name v nb ab ps w) (hb:qW w W):Ln x fs w0 W1 within name v nb ab ps W :=
 ⟨h.env.below hb,h.st.below hb,h.nbx.stays hb,h.abx.stays hb,own_below h.ar hb,h.few,h.fr.thenG hb,h.low.trans (hb.mono (by have:=h.st.low;obtain ⟨_,k,_⟩:=h.st.list;have:=k.inside;omega)),h.ne⟩
def Ln.size {x:Bx} {fs:Fl} {w0 W1:World} {within:List By} {name:By} {v:Value} {nb ab:Nat} {ps:List By} {w:World} (h:Ln x fs w0 W1 within name v nb ab ps w):x.B<=w.heap.size:=by
 have:=h.st.low;obtain ⟨_,k,_⟩:=h.st.list;have:=k.inside;omega
def wF (x:Bx) (fs:Fl) (w0 W1:World) (k:Nat) (within:List By) (name:By) (v:Value) (nb ab:Nat) (ps:List By) (s:By) (w:World) (h:Ln x fs w0 W1 within name v nb ab ps w) (hs:s.length<=100000) (hp:pre incM s=false) :
 qC 46 #[.string (ba s),ptrV x.rb,ptrV ab,ptrV nb,ptrV x.lb] w fun e W =>
  Out (jR (readL fs k (within++[name])) s ps) e (Fr x.L x.D v.ownBlock W1 W/\Below x.B w0 W) (fun qs=>Ln x fs w0 W1 within name v nb ab qs W):=by
 have HL:Hid (jR (readL fs k (within++[name])) s ps=jO s ps):=by show _=_;unfold jR;rw [if_neg (by rw [hp];decide)]
 have HH:=hid h;have GF:=hid (fun W=>iW s incM W);rw [hp] at GF;have vq:=hid (Lt x.B x.L ps s w h.st.list h.few hs h.st.low);have c4:=h.env.l.at_ 0;rw [HL.o];obtain ⟨g,HG⟩:=qX (jO s ps);obtain ⟨u,HU⟩:=qX (cA incM s);rw [HU.o] at GF;rw [HG.o] at vq;rw [HG.o];unfold ptrV at c4 vq;unfold ptrV;clear h hp hs;go_enter Tryz.func46,Tryz.ntmps46
 go_wp2_with (fail)
 refine (GF.o _).mono ?_;rintro e1 w1 ⟨rfl,rfl⟩;go_wp2_with (fail)
 refine vq.o.mono ?_;intro e2 w2 h2;obtain ⟨h2,hf,hb⟩:=h2;have HF:=hid hf;have HB:=hid hb
 cases g with
 | error c =>
  obtain ⟨rfl,hc,_⟩:=h2.of_err;have HC:=hid hc;clear h2 hf hb hc;go_wp2;go_ret;exact Out.err rfl rfl HC.o ⟨HH.o.fr.tr (HF.o x.D _),HB.o _ HH.o.low⟩
 | ok rs =>
  obtain ⟨rfl,hl⟩:=h2.of_ok;have DB:=hid hl;clear h2 hf hb hl;go_wp2;go_ret;refine Out.ok rfl rfl ?_;have hrs:rs=ps++[s]/\ps.length < 64:=by
   have:=HG.o;unfold jO at this;split at this
   . cases this
   split at this
   . cases this
   simp only [Except.ok.injEq] at this;exact ⟨this.symm,by have:=HH.o.few;omega⟩
  have GG:=HF.o x.D none;have yt:=HF.o x.D v.ownBlock;obtain ⟨c,f,k1,k2⟩:=HH.o.st.done;have hD:w2.heap[x.D]? = w.heap[x.D]?:=by
   obtain ⟨es,ck,ho⟩:=k1.obj;exact ((HF.o (x.D+1) none).2 _ _ ho (Calm.map (by omega))).trans ho.symm
  exact ⟨HH.o.env.fr GG,⟨DB.o,⟨c,f,k1.kept hD,by rw [hrs.1];exact k2.more _⟩,HH.o.st.low⟩,GG.str HH.o.nbx (fun e=>nomatch e),GG.has HH.o.abx (by decide) (by decide) (by decide),HH.o.ar.fr GG (fun k _ e=>nomatch e),by rw [hrs.1,List.length_append,List.length_singleton];omega,HH.o.fr.tr yt,HB.o _ HH.o.low,HH.o.ne⟩
open Go.RowKit Go.Maps
def Vb {x:Bx} {fs:Fl} {w0 W1:World} {within:List By} {name:By} {v:Value} {nb ab:Nat} {ps:List By} {w W:World} (h:Ln x fs w0 W1 within name v nb ab ps w) (ho:Ar x.B W v within) (hg:w.grownBy W v.ownBlock):Ln x fs w0 W1 within name v nb ab ps W:=by
 have hf:Fr x.L x.D v.ownBlock w W:=Fr.of_str h.ar hg;exact ⟨h.env.fr hf,h.st.str h.ar hg,hf.str h.nbx h.ne,hf.has h.abx (by decide) (by decide) (by decide),ho,h.few,h.fr.tr hf,bM hg h.low (fun k hk=>(aS h.ar k hk).1) h.size,h.ne⟩
def Ar.back {L D B:Nat} {w W:World} {v v':Value} {l:List By} {s:By} {N:Nat} (h1:Ar B w v l) (h2:Ar B w v' (l++[s])) (h3:Ar B W v' (l++[s])) (hf:Fr L D v'.ownBlock w W) (hk:v'.ownBlock=v.ownBlock∨v'.ownBlock=some N) (hN:∀k,v.ownBlock=some k->k < N):Ar B W v l:=by
 rcases hk with hk | hk
 .
  refine ⟨h1.1,?_⟩;rcases h1.2 with h | ⟨g,c,cur,rfl,hB,a3,a4,a5,a6,a7⟩
  . exact .inl h
  refine .inr ?_;rcases h2.2 with ⟨rfl,_⟩ | ⟨g2,c2,cur2,rfl,hB2,b3,b4,b5,b6,b7⟩
  . cases hk
  obtain rfl:g2=g:=Option.some.inj hk;have e:=Option.some.inj (a3.symm.trans b3);simp only [Obj.cells.injEq,and_true] at e;subst e;have hc:c2=c:=by omega
  subst hc;rcases h3.2 with ⟨h,_⟩ | ⟨g3,c3,cur3,h,hB3,d3,d4,d5,d6,d7⟩
  . cases h
  simp only [Value.slice.injEq,Option.some.injEq,Addr.mk.injEq,and_true,true_and] at h;obtain ⟨rfl,rfl⟩:=h;refine ⟨g2,c2,cur3,rfl,hB,d3,a4,a5,d6,?_⟩;have:=congrArg (List.take (l.length*1)) d7;rw [List.take_take,Nat.min_eq_left (by simp),List.map_append,List.take_append_of_le_length (by simp),List.take_of_length_le (l:=l.map sD) (by simp)] at this;exact this
 exact h1.fr hf (fun k Q9 e=>by have:=hN k Q9;rw [hk] at e;injection e with e;omega)
def Dq (x:Bx) (fs:Fl) (w0 W1:World) (k:Nat) (yg:ReadOk x fs w0 k) (within:List By) (name:By) (v:Value) (nb ab:Nat) (ps:List By) (s:By) (w:World) (h:Ln x fs w0 W1 within name v nb ab ps w) (hs:s.length<=100000) (hp:pre incM s=true) (hk:within.length+1+k=4) (ox:eZ fs (within++[name]) (s.drop 9)) :
 qC 46 #[.string (ba s),ptrV x.rb,ptrV ab,ptrV nb,ptrV x.lb] w fun e W =>
  Out (jR (readL fs k (within++[name])) s ps) e (Fr x.L x.D v.ownBlock W1 W/\Below x.B w0 W) (fun qs=>Ln x fs w0 W1 within name v nb ab qs W):=by
 have HL:Hid (jR (readL fs k (within++[name])) s ps=readL fs k (within++[name]) (s.drop 9) ps):=by show _=_;unfold jR;rw [if_pos hp]
 have HH:=hid h;have GF:=hid (fun W=>iW s incM W);rw [hp] at GF;have hcu:cA incM s=s.drop 9:=by unfold cA;rw [if_pos hp];rfl
 rw [hcu] at GF;have HUL:Hid ((s.drop 9).length<=1000000000000000):=by show _<=_;rw [List.length_drop];omega
 have yu:=hid yg;have HN4:Hid (within.length<=100000):=by show _<=_;omega
 have HNK:Hid ((within++[name]).length+k=4):=by show _=_;rw [List.length_append,List.length_singleton];exact hk
 have HCH:=hid ox;have tp:=hid h.fr.1;rw [HL.o];generalize s.drop 9=u at HL GF HUL HCH;obtain ⟨g,HG⟩:=qX (readL fs k (within++[name]) u ps);rw [HG.o];obtain ⟨Av,cv,hv⟩:=aO h.ar;obtain ⟨nv,od⟩:=qY (within.length);rw [od] at hv;subst hv;have c4:=h.env.l.at_ 0;unfold ptrV at c4;unfold ptrV;clear h hp hs hk ox hcu yg od;go_enter Tryz.func46,Tryz.ntmps46
 go_wp2_with (fail)
 refine (GF.o _).mono ?_;rintro e1 w1 ⟨rfl,rfl⟩;go_wp2_with (fail)
 refine qG (S:=fun U=>Has U x.rb 107 #[mR x]/\Has U ab 34 #[.slice Av nv cv]/\Has U nb 9 #[.string (ba name)]) (by kernel_rfl) (⟨HH.o.env.r,HH.o.abx,HH.o.nbx⟩) (fun hS=>?_);refine aG 0 ?_
 iterate 4
  refine qT rfl (by kernel_rfl) ‹_› (fun w a8=>by have c1:=a8.1.at_ 0;have c2:=a8.2.1.at_ 0;have c3:=a8.2.2.at_ 0;unfold mR ptrV at c1;go_simp;with_reducible rfl) ?_;simp only [Act.put,aB,aA,aC,Nat.reduceAdd]
 refine aE ?_;refine qD 4 rfl (by kernel_rfl) fun K hK=>?_
 refine fO (by rfl) (.tmp 18) rfl (ba name) rfl ?_;generalize Q8:World.alloc _ _=Wb;have BB:Hid (qW w Wb):=by rw [<-Q8];exact (qB.drew).alloc qN _
 have HNG:Hid (Has Wb w.drew.heap.size 9 #[.string (ba name)]):=by rw [<-Q8];exact Has.fresh w.drew 9 _
 clear Q8;have EF:=hid (HH.o.below BB.o);refine hK.o _ _ ⟨EF.o.env.r,EF.o.abx,EF.o.nbx⟩ (fun hS=>?_);clear hK K hS;obtain ⟨v',w5,i6,A8,px,r8,SI⟩:=cM EF.o.ar HNG.o HN4.o EF.o.size 34;have M7:=hid i6;have H5:Hid (Ar x.B w5 v' (within++[name])/\Ar x.B w5 (.slice Av nv cv) within/\Wb.grownBy w5 (Value.slice Av nv cv).ownBlock/\(v'.ownBlock=(Value.slice Av nv cv).ownBlock∨v'.ownBlock=some Wb.heap.size)):=⟨A8,px,r8,SI⟩;obtain ⟨A5,c5,I6⟩:=aO A8;obtain ⟨n5,hn5⟩:=qY ((within++[name]).length);rw [hn5] at I6;subst I6;clear i6 A8 px r8 SI hn5;have AJ:=hid (Vb EF.o H5.o.2.1 H5.o.2.2.1);refine qD 5 rfl (by kernel_rfl) fun K hK=>?_
 refine aH rfl (.tmp 17) (.tmp 19) 34 34 rfl (.slice Av nv cv) (.slice (some ⟨w.drew.heap.size,0,none⟩) 1 1) rfl rfl M7.o ?_;refine hK.o _ _ ⟨AJ.o.env.r,AJ.o.abx,AJ.o.nbx⟩ (fun hS=>?_);clear hK K hS;have AK:=hid (yu.o (within++[name]) u ps _ w5 HNK.o HUL.o AJ.o.env AJ.o.st H5.o.1 HCH.o AJ.o.few AJ.o.low);rw [HG.o] at AK;unfold ptrV at AK;refine qD 6 rfl (by kernel_rfl) fun K hK=>?_
 go_simp;refine AK.o.mono ?_;intro e6 w6 h6;obtain ⟨h6,ng,S7⟩:=h6;have IZ:Hid (Has w6 nb 9 #[.string (ba name)]):=ng.str AJ.o.nbx (fun e=>H5.o.2.2.2.elim (fun h=>HH.o.ne (e.trans h)) (fun h=>absurd (Option.some.inj (e.trans h)) (Nat.ne_of_lt EF.o.nbx.inside)));have JA:Hid (Has w6 ab 34 #[.slice Av nv cv]):=ng.has AJ.o.abx (by decide) (by decide) (by decide);have OS:=hid (AJ.o.env.fr ng);have MC:Hid (Fr x.L x.D (Value.slice Av nv cv).ownBlock W1 w6):=AJ.o.fr.trans ng (fun j hj e=>H5.o.2.2.2.elim (fun h=>e.trans h) (fun h=>absurd (Option.some.inj (e.trans h)) (by have:=EF.o.fr.1;omega)));have SJ:=hid ng;have sk:=hid S7;have hS6:=hid h6;clear ng S7
 cases g with
 | error c =>
  obtain ⟨rfl,hc,_⟩:=h6.of_err;have HC:=hid hc;clear h6 hS6 hc;have JC:Has w6 x.rb 107 #[mR x]/\Has w6 ab 34 #[.slice Av nv cv]/\Has w6 nb 9 #[.string (ba name)]:=⟨OS.o.r,JA.o,IZ.o⟩;refine hK.o _ _ JC (fun hS=>?_);clear hK K hS;refine qK 7 rfl (by kernel_rfl) ‹_› (fun w a8=>by go_simp;with_reducible rfl) ?_;simp only [Act.put,aB,aA,aC];refine qM (by kernel_rfl) ?_;go_wp2;go_ret;exact Out.err rfl rfl HC.o ⟨MC.o,sk.o⟩
 | ok rs =>
  obtain ⟨rfl,p6,M8⟩:=h6.of_ok;have C9:=hid p6;have mx:=hid M8;clear h6 hS6 p6 M8;have JC:Has w6 x.rb 107 #[mR x]/\Has w6 ab 34 #[.slice Av nv cv]/\Has w6 nb 9 #[.string (ba name)]:=⟨OS.o.r,JA.o,IZ.o⟩;refine hK.o _ _ JC (fun hS=>?_);clear hK K hS;refine qK 7 rfl (by kernel_rfl) ‹_› (fun w a8=>by go_simp;with_reducible rfl) ?_;simp only [Act.put,aB,aA,aC];refine qM (by kernel_rfl) ?_;go_wp2;go_ret;exact Out.ok rfl rfl ⟨OS.o,C9.o,IZ.o,JA.o,H5.o.2.1.back H5.o.1 mx.o SJ.o H5.o.2.2.2 (fun k hk=>(aS EF.o.ar k hk).2),pL _ _ _ _ _ _ HG.o HH.o.few,MC.o,sk.o,HH.o.ne⟩
open Go.RowKit Go.Maps
def iF (B:Nat) (w:World) (v:Value) (within:List By) (name:By) (h:Ar B w v within) (hn:within.length<=100) :
 qC 43 #[v,.string (ba name)] w fun e w'=>e=.returned (.bool (decide (name∈within)))/\w=w':=by
 rcases h.2 with ⟨rfl,h0⟩ | ⟨g,c,cur,rfl,hB,h3,h4,h5,h6,h7⟩
 . refine (Tryz.slices_Contains_string_empty none 0 (ba name) w).mono fun e w' ⟨h1,h2⟩=>⟨?_,h2.symm⟩
   obtain rfl:=List.eq_nil_of_length_eq_zero h0;rw [h1];rfl
 have hh:Has w g 9 cur:=h3;refine (Tryz.slices_Contains_string g 0 within.length c (within.map ba) (ba name) w (by simp) (by omega) (fun j hj=>?_)).mono fun e w' ⟨h1,h2⟩=>⟨?_,h2.symm⟩
 .
  rw [List.length_map] at hj;rw [Nat.zero_add,hh.at_,<-Array.getElem?_toList];have e:(within.map sD)[j]? = some (sD within[j]):=by simp [hj]
  rw [<-h7,List.getElem?_take_of_lt (by omega)] at e;rw [e];simp [sD,hj]
 rw [h1,List.take_of_length_le (by simp)];congr 2
 rw [Bool.eq_iff_iff,Lib.containsS_iff,decide_eq_true_eq,List.mem_map];exact ⟨fun ⟨a,h1,h2⟩=>Sd h2▸h1,fun h=>⟨name,h,rfl⟩⟩
def Bf {w W:World} {z:Value} {D c:Nat} {f:Value->Option Value} (hm:MapZ w z D c f) (hg:w.grownBy W (some D)):∀(j:Nat) cs t q,w.heap[j]? = some (Obj.cells cs t q)->W.heap[j]? = w.heap[j]?:=by
 intro j cs t q hj;refine hg.block j (Array.getElem?_eq_some_iff.1 hj).1 fun e=>?_
 injection e with e;obtain ⟨es,ck,h2⟩:=hm.obj;rw [e,h2] at hj
 cases hj
def Fr.of_map {w W:World} {z:Value} {L D c:Nat} {r:Option Nat} {f:Value->Option Value} (hm:MapZ w z D c f) (hg:w.grownBy W (some D)):Fr L D r w W:=by
 refine ⟨hg.size,fun j o ho hc=>(hg.block j (Array.getElem?_eq_some_iff.1 ho).1 fun e=>?_).trans ho⟩;injection e with e;obtain ⟨es,ck,h2⟩:=hm.obj;exact hc.2.1 es ck (Option.some.inj ((e▸ho).symm.trans h2)) e
def Has.map {w W:World} {z:Value} {D c:Nat} {f:Value->Option Value} {g:Nat} {t:TypeId} {cs:Array Value} (h:Has w g t cs) (hm:MapZ w z D c f) (hg:w.grownBy W (some D)):Has W g t cs:=(Bf hm hg g _ _ _ h).trans h
def eH.map {w W:World} {z:Value} {B L D c:Nat} {f:Value->Option Value} {ps:List By} (h:eH B w L ps) (hm:MapZ w z D c f) (hg:w.grownBy W (some D)):eH B W L ps:=by
 obtain ⟨v,h1,gs,h2,h3⟩:=h;refine ⟨v,h1.map hm hg,gs,kL h2 fun k hk=>?_,h3.fr (Fr.of_map (L:=L) (r:=none) hm hg)⟩;obtain ⟨cs,q,h4⟩:=fF h2 k hk;exact Bf hm hg k _ _ _ h4
def jB (w:World):(zeroValue 111).run Tryz.prog w=.ok zR w:=by kernel_rfl
def nU {fs:Fl} {name t:By} (h:bQ fs name=some t):name∈fs.map (·.1)/\∃k,∃hk:k < fs.length,fs[k].2=t:=by
 obtain ⟨k,hk,_,h2⟩:=lH h 0;refine ⟨?_,k,hk,h2⟩;unfold bQ at h
 cases hf:fs.find? (fun f=>f.1 == name) with
 | none=>rw [hf] at h;cases h
 | some f =>
  have:=List.find?_some hf;have hm:=List.mem_of_find?_eq_some hf;exact List.mem_map.2 ⟨f,hm,by simpa using this⟩
def pQ.part {B:Nat} {w:World} {A:Option Addr} {n c a b:Nat} {ps:List By} (h:Pats B w (.slice A n c) ps) (hn:n=ps.length) (h1:a<=b) (h2:b<=n):pQ w (sliced A a b c 1) ((ps.drop a).take (b - a))/\n<=c:=by
 subst hn;obtain ⟨gs,ho,hp⟩:=h;have hl:((ps.drop a).take (b - a)).length=b - a:=by simp;omega
 rcases ho.2 with ⟨h0,hn⟩ | ⟨g,c',cur,h0,hB,h3,h4,h5,h6,h7⟩
 .
  simp only [Value.slice.injEq] at h0;obtain ⟨rfl,_,rfl⟩:=h0;have ha:a=0:=by omega
  have hb:b=0:=by omega
  subst ha;subst hb;refine ⟨⟨[],none,0,rfl,?_,fun _=>⟨rfl,rfl⟩,fun a ha=>nomatch ha⟩,by omega⟩;simp only [Nat.sub_self,List.take_zero];exact eA.nil w
 simp only [Value.slice.injEq,true_and] at h0;obtain ⟨rfl,rfl⟩:=h0;refine ⟨⟨(gs.drop a).take (b - a),_,c - a,by unfold sliced;rw [hl],hp.part a (b - a),fun e=>?_,fun ad VW j u hj=>?_⟩,h4⟩
 . split at e<;>cases e
 have hh:Has w g 169 cur:=h3;rw [List.getElem?_map,List.getElem?_take] at hj;by_cases hjb:j < b - a
 .
  rw [if_pos hjb,List.getElem?_drop] at hj;have hac:¬(c=a):=by omega
  rw [if_neg hac] at VW;simp only [Option.map_some,Option.some.injEq] at VW;subst VW;have e:(Addr.add (Addr.add ⟨g,0,none⟩ (a*1)) j)=⟨g,a+j,none⟩:=by rw [Addr.add_lit,Addr.add_lit];simp
  rw [e,hh.at_,<-Array.getElem?_toList];rw [<-List.getElem?_map,<-h7,List.getElem?_take] at hj;split at hj
  . exact hj
  cases hj
 rw [if_neg hjb] at hj;cases hj
def Aq (x:Bx) (fs:Fl) (w0:World) (k:Nat) (within:List By) (name:By) (ps:List By) (v:Value) (w:World) (hk:within.length+k=4) (np:name.length<=1000000000000000) (he:Env x fs w) (hs:St x fs ps w) (ha:Ar x.B w v within) (_hch:eZ fs within name) (_h64:ps.length<=64) (hb:Below x.B w0 w) (hf:bQ fs name=none) :
 qC 42 #[.string (ba name),v,ptrV x.tb,ptrV x.db,ptrV x.lb,ptrV x.fb,ptrV x.rb] w fun e W =>
  Out (readL fs k within name ps) e True (fun qs=>St x fs qs W/\Ar x.B W v within)/\Fr x.L x.D v.ownBlock w W/\Below x.B w0 W:=by
 have p9:x.B<=w.heap.size:=by have:=hs.low;obtain ⟨_,q,_⟩:=hs.list;have:=q.inside;omega
 obtain ⟨Wa,z7⟩:=qY (w.alloc (.cells #[.string (ba name)] 9));obtain ⟨W2,r7⟩:=qY (Wa.alloc (.cells #[v] 34));have sa:Wa.heap.size=w.heap.size+1:=by rw [<-z7];simp
 have s2:W2.heap.size=w.heap.size+2:=by rw [<-r7];simp [sa]
 have sm:qW w Wa:=z7▸qB.alloc qN _;have b2:qW w W2:=r7▸sm.alloc (by omega) _;have n2:Has W2 w.heap.size 9 #[.string (ba name)]:=r7▸(z7▸Has.fresh w 9 _:Has Wa w.heap.size 9 _).more _;have v2:Has W2 (w.heap.size+1) 34 #[v]:=r7▸Has.fresh' Wa 34 _ sa.symm;have j7:=hid (he.below b2);have C6:=hid (hs.below b2);have qm:Hid (Ar x.B W2 v within):=own_below ha b2;have i9:=hid b2;have mw:Hid (Below x.B w0 W2):=hb.trans (b2.mono p9);have tp:=hid p9;have HK:=hid (eE name (by unfold maxLen;omega));have GH:=hid hs;obtain ⟨cp,y7⟩:=j7.o.places;have m7:=y7.lookOk Tryz.underlying101 (kC W2) HK.o;have OT:=j7.o.t.at_ 0;have T8:=n2.at_ 0;have BZ:=v2.at_ 0;rw [Ya hf 0] at m7;simp only [Option.getD_none,Option.isSome_none] at m7;have HR:Hid (readL fs k within name ps=.error 5):=by show _=_;cases k<;>(unfold readL;rw [hf])
 have G9:=hid n2;have xp:=hid v2;obtain ⟨Av,cv,hv⟩:=aO ha;obtain ⟨nv,od⟩:=qY (within.length);rw [od] at hv;subst hv;unfold ptrV;clear he hs ha _hch hb sm b2 n2 v2 y7 hf;go_enter Tryz.func42,Tryz.ntmps42
 go_wp2;go_ret;exact ⟨Out.err HR.o rfl (by decide) trivial,Fr.of_below i9.o,mw.o⟩
def Be (x:Bx) (fs:Fl) (w0:World) (k:Nat) (within:List By) (name:By) (ps:List By) (v:Value) (w:World) (hk:within.length+k=4) (np:name.length<=1000000000000000) (he:Env x fs w) (hs:St x fs ps w) (ha:Ar x.B w v within) (_hch:eZ fs within name) (_h64:ps.length<=64) (hb:Below x.B w0 w) (t:By) (hf:bQ fs name=some t) (hm:name∈within) :
 qC 42 #[.string (ba name),v,ptrV x.tb,ptrV x.db,ptrV x.lb,ptrV x.fb,ptrV x.rb] w fun e W =>
  Out (readL fs k within name ps) e True (fun qs=>St x fs qs W/\Ar x.B W v within)/\Fr x.L x.D v.ownBlock w W/\Below x.B w0 W:=by
 have p9:x.B<=w.heap.size:=by have:=hs.low;obtain ⟨_,q,_⟩:=hs.list;have:=q.inside;omega
 obtain ⟨Wa,z7⟩:=qY (w.alloc (.cells #[.string (ba name)] 9));obtain ⟨W2,r7⟩:=qY (Wa.alloc (.cells #[v] 34));have sa:Wa.heap.size=w.heap.size+1:=by rw [<-z7];simp
 have s2:W2.heap.size=w.heap.size+2:=by rw [<-r7];simp [sa]
 have sm:qW w Wa:=z7▸qB.alloc qN _;have b2:qW w W2:=r7▸sm.alloc (by omega) _;have n2:Has W2 w.heap.size 9 #[.string (ba name)]:=r7▸(z7▸Has.fresh w 9 _:Has Wa w.heap.size 9 _).more _;have v2:Has W2 (w.heap.size+1) 34 #[v]:=r7▸Has.fresh' Wa 34 _ sa.symm;have j7:=hid (he.below b2);have C6:=hid (hs.below b2);have qm:Hid (Ar x.B W2 v within):=own_below ha b2;have i9:=hid b2;have mw:Hid (Below x.B w0 W2):=hb.trans (b2.mono p9);have tp:=hid p9;have HK:=hid (eE name (by unfold maxLen;omega));have GH:=hid hs;obtain ⟨cp,y7⟩:=j7.o.places;have m7:=y7.lookOk Tryz.underlying101 (kC W2) HK.o;have OT:=j7.o.t.at_ 0;have T8:=n2.at_ 0;have BZ:=v2.at_ 0;obtain ⟨j,hj,wl,AL⟩:=lH hf 0;rw [wl] at m7;simp only [Option.getD_some,Option.isSome_some,Nat.zero_add] at m7;have wm:=hid (iF x.B W2 v within name qm.o (by omega));rw [decide_eq_true hm] at wm;have HR:Hid (readL fs k within name ps=.error 22):=by show _=_;cases k<;>(unfold readL;rw [hf];simp only;rw [if_pos hm])
 have G9:=hid n2;have xp:=hid v2;obtain ⟨Av,cv,hv⟩:=aO ha;obtain ⟨nv,od⟩:=qY (within.length);rw [od] at hv;subst hv;unfold ptrV;clear he hs ha _hch hb sm b2 n2 v2 y7 hf hm wl AL hj;go_enter Tryz.func42,Tryz.ntmps42
 go_wp2_with (go_at_call 43;refine wm.o.mono ?_;rintro e1 w1 ⟨rfl,rfl⟩)
 go_ret;exact ⟨Out.err HR.o rfl (by decide) trivial,Fr.of_below i9.o,mw.o⟩
def Pu (x:Bx) (fs:Fl) (w0:World) (k:Nat) (within:List By) (name:By) (ps:List By) (v:Value) (w:World) (hk:within.length+k=4) (np:name.length<=1000000000000000) (he:Env x fs w) (hs:St x fs ps w) (ha:Ar x.B w v within) (_hch:eZ fs within name) (_h64:ps.length<=64) (hb:Below x.B w0 w) (t:By) (hf:bQ fs name=some t) (hm:name∉within) (h0:k=0) :
 qC 42 #[.string (ba name),v,ptrV x.tb,ptrV x.db,ptrV x.lb,ptrV x.fb,ptrV x.rb] w fun e W =>
  Out (readL fs k within name ps) e True (fun qs=>St x fs qs W/\Ar x.B W v within)/\Fr x.L x.D v.ownBlock w W/\Below x.B w0 W:=by
 have p9:x.B<=w.heap.size:=by have:=hs.low;obtain ⟨_,q,_⟩:=hs.list;have:=q.inside;omega
 obtain ⟨Wa,z7⟩:=qY (w.alloc (.cells #[.string (ba name)] 9));obtain ⟨W2,r7⟩:=qY (Wa.alloc (.cells #[v] 34));have sa:Wa.heap.size=w.heap.size+1:=by rw [<-z7];simp
 have s2:W2.heap.size=w.heap.size+2:=by rw [<-r7];simp [sa]
 have sm:qW w Wa:=z7▸qB.alloc qN _;have b2:qW w W2:=r7▸sm.alloc (by omega) _;have n2:Has W2 w.heap.size 9 #[.string (ba name)]:=r7▸(z7▸Has.fresh w 9 _:Has Wa w.heap.size 9 _).more _;have v2:Has W2 (w.heap.size+1) 34 #[v]:=r7▸Has.fresh' Wa 34 _ sa.symm;have j7:=hid (he.below b2);have C6:=hid (hs.below b2);have qm:Hid (Ar x.B W2 v within):=own_below ha b2;have i9:=hid b2;have mw:Hid (Below x.B w0 W2):=hb.trans (b2.mono p9);have tp:=hid p9;have HK:=hid (eE name (by unfold maxLen;omega));have GH:=hid hs;obtain ⟨cp,y7⟩:=j7.o.places;have m7:=y7.lookOk Tryz.underlying101 (kC W2) HK.o;have OT:=j7.o.t.at_ 0;have T8:=n2.at_ 0;have BZ:=v2.at_ 0;obtain ⟨j,hj,wl,AL⟩:=lH hf 0;rw [wl] at m7;simp only [Option.getD_some,Option.isSome_some,Nat.zero_add] at m7;have wm:=hid (iF x.B W2 v within name qm.o (by omega));rw [decide_eq_false hm] at wm;have HR:Hid (readL fs k within name ps=.error 3):=by show _=_;rw [h0];unfold readL;rw [hf];simp only;rw [if_neg hm]
 have G9:=hid n2;have xp:=hid v2;obtain ⟨Av,cv,hv⟩:=aO ha;obtain ⟨nv,od⟩:=qY (within.length);rw [od] at hv;subst hv;have OU:(nv:Int)=4:=by omega
 unfold ptrV;clear he hs ha _hch hb sm b2 n2 v2 y7 hf hm wl AL hj;go_enter Tryz.func42,Tryz.ntmps42
 go_wp2_with (go_at_call 43;refine wm.o.mono ?_;rintro e1 w1 ⟨rfl,rfl⟩)
 go_ret;exact ⟨Out.err HR.o rfl (by decide) trivial,Fr.of_below i9.o,mw.o⟩
def Ud (x:Bx) (fs:Fl) (w0:World) (k:Nat) (within:List By) (name:By) (ps:List By) (v:Value) (w:World) (hk:within.length+k=4) (np:name.length<=1000000000000000) (he:Env x fs w) (hs:St x fs ps w) (ha:Ar x.B w v within) (ox:eZ fs within name) (D7:ps.length<=64) (hb:Below x.B w0 w) (t:By) (hf:bQ fs name=some t) (hm:name∉within) (hn:within.length<=3) (_hfl:fs.length<=1000) (d a b:Nat) (ml:∀c f,MapZ w zR x.D c f->Done fs f c ps->f (.string (ba name))=some (kM d a b)) (LM:within.length<=d) :
 qC 42 #[.string (ba name),v,ptrV x.tb,ptrV x.db,ptrV x.lb,ptrV x.fb,ptrV x.rb] w fun e W =>
  Out (readL fs k within name ps) e True (fun qs=>St x fs qs W/\Ar x.B W v within)/\Fr x.L x.D v.ownBlock w W/\Below x.B w0 W:=by
 have p9:x.B<=w.heap.size:=by have:=hs.low;obtain ⟨_,q,_⟩:=hs.list;have:=q.inside;omega
 obtain ⟨Wa,z7⟩:=qY (w.alloc (.cells #[.string (ba name)] 9));obtain ⟨W2,r7⟩:=qY (Wa.alloc (.cells #[v] 34));have sa:Wa.heap.size=w.heap.size+1:=by rw [<-z7];simp
 have s2:W2.heap.size=w.heap.size+2:=by rw [<-r7];simp [sa]
 have sm:qW w Wa:=z7▸qB.alloc qN _;have b2:qW w W2:=r7▸sm.alloc (by omega) _;have n2:Has W2 w.heap.size 9 #[.string (ba name)]:=r7▸(z7▸Has.fresh w 9 _:Has Wa w.heap.size 9 _).more _;have v2:Has W2 (w.heap.size+1) 34 #[v]:=r7▸Has.fresh' Wa 34 _ sa.symm;have j7:=hid (he.below b2);have C6:=hid (hs.below b2);have qm:Hid (Ar x.B W2 v within):=own_below ha b2;have i9:=hid b2;have mw:Hid (Below x.B w0 W2):=hb.trans (b2.mono p9);have tp:=hid p9;have HK:=hid (eE name (by unfold maxLen;omega));have GH:=hid hs;obtain ⟨cp,y7⟩:=j7.o.places;have m7:=y7.lookOk Tryz.underlying101 (kC W2) HK.o;have OT:=j7.o.t.at_ 0;have T8:=n2.at_ 0;have BZ:=v2.at_ 0;obtain ⟨j,hj,wl,AL⟩:=lH hf 0;rw [wl] at m7;simp only [Option.getD_some,Option.isSome_some,Nat.zero_add] at m7;have wm:=hid (iF x.B W2 v within name qm.o (by omega));rw [decide_eq_false hm] at wm;obtain ⟨cd,fd,EG,JD⟩:=C6.o.done;have E8:=EG.lookOk Tryz.underlying103 (jB W2) HK.o;have hcd:=j7.o.d.at_ 0;have EH:fd (.string (ba name))=some (kM d a b):=by
  obtain ⟨c',f',k1,k2⟩:=hs.done;have e1:=ml c' f' k1 k2;have a9:=k1.lookOk Tryz.underlying103 (jB w) HK.o;have i7:=(k1.kept (i9.o.block _ k1.inside)).lookOk Tryz.underlying103 (jB W2) HK.o;rw [i7] at E8;simp only [Result.ok.injEq,Value.tuple.injEq,and_true] at E8;have e2:=congrArg (fun a:Array Value=>a.toList) E8;simp only [List.cons.injEq,Value.bool.injEq,and_true] at e2;rw [e1] at e2;simp only [Option.getD_some,Option.isSome_some] at e2
  cases hq:fd (.string (ba name)) with
  | none=>rw [hq] at e2;simp at e2
  | some u=>rw [hq] at e2;simp at e2;rw [e2]
 rw [EH] at E8;simp only [Option.getD_some,Option.isSome_some] at E8;obtain ⟨d',a',b',VX,hd3,om,hbp,hfla⟩:=JD.1 name _ EH;simp only [kM,Value.agg.injEq] at VX;have he2:=congrArg (fun a:Array Value=>a.toList) VX;simp only [List.cons.injEq,Value.int.injEq,true_and,and_true,Int.natCast_inj] at he2;obtain ⟨rfl,rfl,rfl⟩:=he2;have HR:Hid (readL fs k within name ps=gZ ps ((ps.drop a).take (b - a))):=Qp fs k within name ps _ (Su (by omega) hfla) ox D7;unfold kM at E8;obtain ⟨W3,C8⟩:=qY (W2.alloc (.cells #[.int .i64 (d:Int),.int .i64 (a:Int),.int .i64 (b:Int)] 111));have b3:qW W2 W3:=C8▸qB.alloc qN _;have r3:Has W3 (w.heap.size+2) 111 #[.int .i64 (d:Int),.int .i64 (a:Int),.int .i64 (b:Int)]:=C8▸Has.fresh' W2 111 _ s2.symm;have B8:=hid b3;have K9:=hid r3;have zi:=hid (C6.o.list.below b3);have oa:=hid (j7.o.below b3);have hcv3:W3.cell? ⟨w.heap.size+1,0,none⟩=some v:=(v2.stays b3).at_ 0;have yg:=r3.at_ 0;obtain ⟨lv,yv,yw⟩:=zi.o;obtain ⟨gs,JE,hptr⟩:=yw;obtain ⟨A,c,xq⟩:=aO JE;obtain ⟨n,oy⟩:=qY (ps.length);rw [oy] at xq;subst xq;have MD:=hid (pQ.part ⟨gs,JE,hptr⟩ oy.symm om (by omega));have VY:=hid yv;have GE:=hid (Hl x.B x.L ps ((ps.drop a).take (b - a)) (sliced A a b c 1) W3.drew (zi.o.below qB.drew) (show pQ W3.drew _ _ from MD.o.1) D7 (by simp;omega) C6.o.low);have HPSL:=hid oy;have JG:(within.length:Int)<=(d:Int):=by omega
 have hab2:(a:Int)<=(b:Int):=by omega
 have yx:(b:Int)<=(c:Int):=by have:=MD.o.2;omega
 have ql:∀U,(Instr.sliceAt 104 (.slice A n c) (some (.int .i64 (a:Int))) (some (.int .i64 (b:Int))) none).run Tryz.prog U=.ok (sliced A a b c 1) U:=fun U=>by
  rw [run_sliceAt_slice U 104 _ _ _ _ (by kernel_rfl),run_slice_lh U 104 A n c (by kernel_rfl) .i64 .i64 _ _ (by omega) hab2 yx];simp only [Int.toNat_natCast];rfl
 have wn:=hid ql;have G9:=hid n2;have xp:=hid v2;obtain ⟨Av,cv,hv⟩:=aO ha;obtain ⟨nv,od⟩:=qY (within.length);rw [od] at hv;subst hv;have OU:¬((nv:Int)=4):=by omega
 rw [od] at JG;obtain ⟨g,HG⟩:=qX (gZ ps ((ps.drop a).take (b - a)));rw [HG.o] at GE HR;generalize zf:sliced A a b c 1=sv at GE wn;have HFDN:=hid JD;have HMD:=hid EG;unfold ptrV at GE;unfold ptrV;clear he hs ha ox hb sm b2 n2 v2 y7 hf hm wl AL hj JD EG hfla VX EH r3 b3 yv JE hptr ql ml D7 zf MD oy om hbp LM;go_enter Tryz.func42,Tryz.ntmps42
 go_wp2_with (go_at_call 43;refine wm.o.mono ?_;rintro e1 w1 ⟨rfl,rfl⟩)
 refine qG (S:=fun U=>Has U x.lb 30 #[ptrV x.L]/\Has U (w.heap.size+2) 111 #[.int .i64 (d:Int),.int .i64 (a:Int),.int .i64 (b:Int)]) (by kernel_rfl) (⟨oa.o.l,K9.o⟩) (fun hS=>?_);refine aG 0 ?_
 iterate 4
  refine qT rfl (by kernel_rfl) ‹_› (fun w a8=>by have c1:=a8.1.at_ 0;have c3:=a8.2.at_ 1;have c4:=a8.2.at_ 2;unfold ptrV at c1;go_simp;with_reducible rfl) ?_;simp only [Act.put,aB,aA,aC,Nat.reduceAdd]
 refine aE ?_;refine aG 5 ?_
 iterate 4
  refine qT rfl (by kernel_rfl) ‹_› (fun w a8=>by have c1:=a8.1.at_ 0;have c3:=a8.2.at_ 1;have c4:=a8.2.at_ 2;unfold ptrV at c1;go_simp;with_reducible rfl) ?_;simp only [Act.put,aB,aA,aC,Nat.reduceAdd]
 refine aE ?_;refine qD 4 rfl (by kernel_rfl) fun K hK=>?_
 have c2:W3.drew.cell? ⟨x.L,0,none⟩=some (.slice A n c):=VY.o.at_ 0;go_simp;refine hK.o _ _ hS (fun hS=>?_);clear hK K hS;clear c2;refine' qL 9 rfl (by kernel_rfl) (Ep (by rfl) (.tmp 51) (.tmp 53) (.tmp 55) rfl (.slice A n c) (.int .i64 (a:Int)) (.int .i64 (b:Int)) sv rfl rfl rfl (fun U _=>wn.o U)) ‹_› ?_;simp only [Act.put,aB,aA,aC];refine qD 10 rfl (by kernel_rfl) fun K hK=>?_
 go_simp;refine GE.o.mono ?_;intro e6 w6 h6
 cases g with
 | error c =>
  obtain ⟨rfl,hc,uk⟩:=h6.of_err;have HC:=hid hc;clear h6 hc;subst uk;have JC:Has W3.drew x.lb 30 #[ptrV x.L]/\Has W3.drew (w.heap.size+2) 111 #[.int .i64 (d:Int),.int .i64 (a:Int),.int .i64 (b:Int)]:=⟨oa.o.l,K9.o⟩;refine hK.o _ _ JC (fun hS=>?_);clear hK K hS;refine qK 11 rfl (by kernel_rfl) ‹_› (fun w a8=>by go_simp;with_reducible rfl) ?_;simp only [Act.put,aB,aA,aC];refine qM (by kernel_rfl) ?_;go_wp2;go_ret;exact ⟨Out.err HR.o rfl HC.o trivial,Fr.of_below ((i9.o.thenG B8.o).thenG qB.drew),mw.o.trans ((B8.o.thenG qB.drew).mono (Nat.le_trans tp.o i9.o.size))⟩
 | ok rs =>
  obtain ⟨rfl,EI,ng,S7⟩:=h6.of_ok;have HL6:=hid EI;have MC:Hid (∀D r,Fr x.L D r W2 w6):=fun D r=>(Fr.of_below (B8.o.thenG qB.drew)).tr (ng D r)
  have sk:Hid (Below x.B w0 w6):=S7 w0 (mw.o.trans ((B8.o.thenG qB.drew).mono (Nat.le_trans tp.o i9.o.size)));have JC:Has w6 x.lb 30 #[ptrV x.L]/\Has w6 (w.heap.size+2) 111 #[.int .i64 (d:Int),.int .i64 (a:Int),.int .i64 (b:Int)]:=⟨(ng 0 none).has (w:=W3.drew) oa.o.l (by decide) (by decide) (by decide),(ng 0 none).has (w:=W3.drew) K9.o (by decide) (by decide) (by decide)⟩;clear h6 EI ng S7;refine hK.o _ _ JC (fun hS=>?_);clear hK K hS;refine qK 11 rfl (by kernel_rfl) ‹_› (fun w a8=>by go_simp;with_reducible rfl) ?_;simp only [Act.put,aB,aA,aC];refine qM (by kernel_rfl) ?_;go_wp2;go_ret;refine ⟨Out.ok HR.o rfl ⟨⟨HL6.o,⟨cd,fd,?_,?_⟩,GH.o.low⟩,?_⟩,?_,sk.o⟩
  . obtain ⟨es,ck,ho⟩:=HMD.o.obj
    exact HMD.o.kept (((MC.o (x.D+1) none).2 _ _ ho (Calm.map (by omega))).trans ho.symm)
  .
   have:=HG.o;unfold gZ at this;split at this
   . simp only [Except.ok.injEq] at this
     rw [<-this];exact HFDN.o.more _
   cases this
  . exact qm.o.fr (MC.o 0 none) (fun k _ e=>nomatch e)
  exact (Fr.of_below i9.o).tr (MC.o x.D _)
end Go.Proofs.YtahkcemdbfjilaaGreatDoor.Glob
