/- Texts. Conditions: as said. -/
import Derived.Test.YtahkcemdbfjilaaGreatDoorFj00
import Derived.Test.YtahkcemdbfjilaaGreatDoorFj27
import Derived.Test.YtahkcemdbfjilaaGreatDoorFj30
set_option linter.all false
set_option maxRecDepth 100000
set_option maxHeartbeats 32000000
namespace Go.Proofs.YtahkcemdbfjilaaGreatDoor
open Go.RowKit Go.Maps
attribute [local go_sem] Oper.semAt_some
def Hu:(Tryz.prog.info? 42).map (·.size)=some 4:=by kernel_rfl
def oV {fn:Func} {c:Nat} {t:Tmp} (h:fn.results=#[.cell c 42,.tmp t]) (tmps:Array Value) (w:World) (g:Nat) (cs:Array Value) (hc:tmps.getD c undef=.pointer (some ⟨g,0,none⟩)) (hg:Has w g 42 cs) (hi:cs.size=4) :
 (results fn tmps).run Tryz.prog w=.ok (.tuple #[.agg cs,tmps.getD t undef]) w:=by
 have zm:tmps[c]?.getD undef=.pointer (some ⟨g,0,none⟩):=by simpa using hc
 have hl:=run_loadVar_row (P:=Tryz.prog) w g 42 42 cs (0,0) _ hg Tryz.underlying42 rfl (by rw [hi];exact Hu);simp [results,h,zm,asAddr,hl]
def kX.cong {w0 W:World} {b:Nat} {it it':Tr} {ls ls':Nat->List By} {vi:Value} {vs:Nat->Value} (h:kX w0 W b it ls vi vs) (h1:it=it') (h2:∀k,1<=k->k<=3->ls k=ls' k):kX w0 W b it' ls' vi vs:=by
 subst h1;exact ⟨h.f,h.items,fun k k1 k2=>h2 k k1 k2▸h.str k k1 k2,h.ap,h.bl,h.lo⟩
def kX.forms {w0 W:World} {b:Nat} {it:Tr} {ls:Nat->List By} {vi:Value} {vs:Nat->Value} (h:kX w0 W b it ls vi vs):(∃A c,vi=.slice A it.length c)/\∀k,1<=k->k<=3->∃A c,vs k=.slice A (ls k).length c :=
 ⟨h.items.form,fun k h1 h2=>(h.str k h1 h2).form⟩
section
variable {ig:By->Bool} {l pre:Tr} {x:At} {y:Nat}
theorem zW (ho:bZ ig l x.1=true):partF ig l (pre++[x]) y=partF ig l pre y:=by rw [mJ,ho];simp
theorem Dt (ho:bZ ig l x.1=false) (hw:whyB ig x=y):partF ig l (pre++[x]) y=partF ig l pre y++[x]:=by rw [mJ,ho,hw];simp
theorem gF (hw:whyB ig x≠y):partF ig l (pre++[x]) y=partF ig l pre y:=by rw [mJ,decide_eq_false hw];simp
end
def lsP (ig:By->Bool) (l pre:Tr) (k:Nat):List By:=(partF ig l pre k).map (·.1)
def mW {ig:By->Bool} {l pre:Tr} {x:At} {k:Nat} (ho:bZ ig l x.1=false) (hy:whyB ig x=k) (j:Nat):updV (lsP ig l pre) k (lsP ig l pre k++[x.1]) j=lsP ig l (pre++[x]) j:=by
 by_cases e:j=k
 . subst e
   rw [upd_same];unfold lsP;rw [Dt ho hy,List.map_append];rfl
 rw [dM _ _ e];unfold lsP;rw [gF (by omega)]
def cu (ig:By->Bool) (l pre:Tr) (k:Nat):(lsP ig l pre k).length<=pre.length:=by
 unfold lsP;rw [List.length_map];exact List.length_filter_le _ _
def vR {ops:Array Oper} {o:Oper} {a:Act} {w:World} {Q:Exit->Act->World->Prop} {rest:List Oper} (hw:Region.wanted o (yielded ops a.tmps)=true)
 (y:Operand) (ho:o.op=.buildSlice 37 1 #[(0,y)]) (cs:Array Value) (hs:cs.size=27) (hx:a.eval y=.agg cs)
 (h:wpList Tryz.prog ops Q rest (a.put o.dst (.slice (some ⟨w.heap.size,0,none⟩) 1 1)) (w.alloc (.cells cs 58))):wpList Tryz.prog ops Q (o :: rest) a w :=
 eV hw fun _ hK=>by
  unfold Oper.wp execOp;simp only [ho,Sem.run_bind,List.map_toArray,List.map_cons,List.map_nil,hx,rI w cs hs,Result.andThen_ok];exact hK _ _ h
def Jf (ig:By->Bool) (L:Tr) (root:By):jD:=if fI L root=0 then fndF ig (inL L root) (inL L root) else zL
def Se {own:Nat->Prop} {w:World} {r:Nat} {M:Mo} (h:RDk own w r M) (AY:DG M.now) (V3:0 < w.heap.size) (root:By) (hr:root.length<=4000) {B:Nat} {pv:Value} {qs:List By} (hP:Glob.Ar B w pv qs) (hq:qs.length<=64) (pu:∀s∈qs,Glob.perr s=0) :
 qC 14 #[.pointer (some ⟨r,0,none⟩),kS root,pv] w fun e w'=>Yn w (fI M.now root) (Jf (nK qs) M.now root) e w':=by
 obtain ⟨w1,r6⟩:=qY (w.alloc (.cells #[.slice none 0 0,.slice none 0 0,.slice none 0 0,.slice none 0 0] 42));have b1:qW w w1:=r6▸qB.alloc qN _;have R1:Hid (Has w1 w.heap.size 42 #[.slice none 0 0,.slice none 0 0,.slice none 0 0,.slice none 0 0]):=by rw [<-r6];exact Has.fresh _ _ _
 have CR:=hid (Sp (h.on b1) root hr);have B1:=hid b1;have H:=hid h;have HP:=hid hP;have L0:=hid pu;have qf:Hid (WFT M.room (inL M.now root)):=yD h.good.good.w1 root;have HDGI:Hid (DG (inL M.now root)):=AY.inR root;have BT:Hid ((inL M.now root).length<=100000):=by
  have h2:=xS M.now root;obtain ⟨_,_,_,_,_,_,h'⟩:=h;have:=h'.short;show _<=_
  omega
 obtain ⟨ig,HIG⟩:=qX (nK qs);have CY:Hid (∀V,qW w V->∀x:At,mayB x.1=true->(x.2.kind≠1->x.2.data=[])->qC 56 #[.agg (atCells x),pv] V fun e w'=>e=.returned (.int .i64 ((whyB ig x:Nat):Int))/\qW V w'):=fun V hV x hx hk=>by
  have:=Vq (Glob.own_below HP.o hV) hq L0.o x hx hk;rw [HIG.o] at this;exact this
 obtain ⟨c,HC⟩:=qX (fI M.now root);rw [HC.o] at CR;unfold Jf;rw [HC.o,HIG.o];have GK:c=0->mayB root=true:=fun h0=>by
  have h2:=HC.o;unfold fI at h2;rw [h0] at h2;by_cases hm:mayB root=true
  . exact hm
  simp [hm] at h2
 obtain ⟨pA,pc,hpv⟩:=Glob.aO hP;obtain ⟨pn,TQ⟩:=qY (qs.length);rw [TQ] at hpv;subst hpv;have PJ:=hid GK;clear h AY hP hq pu b1 GK TQ;by_cases hc:c=0
 .
  subst hc;rw [if_pos rfl];have HMR2:=hid (PJ.o rfl);clear PJ;obtain ⟨l,ro⟩:=qX (inL M.now root);rw [ro.o] at qf HDGI BT ⊢;go_enter Tryz.func14,Tryz.ntmps14
  go_wp2_with fail
  try rw [r6]
  refine CR.o.mono ?_;rintro e2 w2 ⟨rfl,a9⟩;have B2:Hid (qW w w2):=B1.o.trans (a9.mono B1.o.size);have R2:=hid (R1.o.kept a9 R1.o.inside);have S2:Hid (w.heap.size < w2.heap.size):=R2.o.inside;clear a9 r6;have CN:=hid (Mg (H.o.on B2.o) root HMR2.o);rw [ro.o] at CN;go_wp2_with fail
  refine CN.o.mono ?_;rintro e3 w3 ⟨nv,rfl,o8,i7⟩;obtain ⟨A3,c3,rfl⟩:=o8.form;obtain ⟨n,HN⟩:=qX (l.length);have QS:=hid o8;rw [HN.o] at QS BT ⊢;have B3:Hid (qW w w3):=B2.o.trans (i7.mono B2.o.size);have R3:=hid (R2.o.kept i7 R2.o.inside);have S3:Hid (w2.heap.size<=w3.heap.size):=i7.size;obtain ⟨w4,N7⟩:=qY (w3.alloc (.cells #[.slice none 0 0,.slice none 0 0,.slice none 0 0,.slice none 0 0] 42));have F4:Hid (kX w3 w4 w3.heap.size (partF ig l (l.take 0) 0) (lsP ig l (l.take 0)) (.slice none 0 0) (fun _=>.slice none 0 0)):=by
   rw [<-N7];exact ⟨Has.fresh _ _ _,cO.nil _ _,fun k _ _=>StrR.nil _ _,fun j k _ _ _ _ _ g hg=>(by cases hg),qB.alloc qN _,Nat.le_refl _⟩
  clear o8 i7;go_wp2;try rw [N7]
  go_loopw [11] (fun IM wr=>∃(i:Nat) (vi:Value) (vs:Nat->Value),IM=.int .i64 (i:Int)/\i<=n/\Hid (kX w3 wr w3.heap.size (partF ig l (l.take i) 0) (lsP ig l (l.take i)) vi vs)) (fun IM _=>n - (intOf IM).toNat)
  case atStart=>exact ⟨0,_,_,rfl,Nat.zero_le _,F4.o⟩
  obtain ⟨i,vi,vs,rfl,hi,HF⟩:=hrel;by_cases d8:i < n
  .
   have EM:i < l.length:=by rw [HN.o];exact d8
   have B4r:Hid (qW w wr):=B3.o.trans (HF.o.bl.mono B3.o.size);obtain ⟨g,c2,e,_,_⟩:=(QS.o.on HF.o.bl).at_ i (by rw [HN.o];exact d8);injection e with e e2 e3;clear e2 e3;subst e;have vr:Hid (∀V,qW w3 V->∀k (hk:k < l.length),AtAt V g (k*5) l[k]):=fun V hV k hk=>by
    obtain ⟨g',c',e,_,I9⟩:=(QS.o.on hV).at_ k hk;injection e with e e2 e3;injection e with e;injection e with e e4 e5;rw [getD_at hk] at I9;rw [e];exact I9
   have HX:Hid (l.take (i+1)=l.take i++[l[i]]):=List.take_succ_eq_append_getElem EM;have UC:Hid (∀x∈l,mayB x.1=true/\(x.2.kind≠1->x.2.data=[])):=fun x hx=>⟨mem_may qf.o hx,fun hk=>HDGI.o _ _ (dS qf.o.srt hx) hk⟩
   have YR:Hid (l[i]∈l):=List.getElem_mem EM;have IB:Hid (∀V,qW w3 V->AtAt V g (i*5) l[i]):=fun V hV=>vr.o V hV i EM
   obtain ⟨x,hx⟩:=qY (l[i]);rw [hx] at HX YR IB;clear hx;obtain ⟨p,⟨kd,dt,tg,tm⟩⟩:=x;have xr:=(UC.o _ YR.o).1;have y7:p.length<=160:=(aU xr).1;have HPM:=hid xr;have i0:(0:Int)<=(i:Int):=by omega
   have ilt:(i:Int) < (n:Int):=by omega
   have wi1:IntKind.i64.wrap ((i:Int)+1)=(i:Int)+1:=aM _ (by omega) (by have:=BT.o;omega);obtain ⟨y,HY⟩:=qX (whyB ig (p,⟨kd,dt,tg,tm⟩));clear xr EM;obtain ⟨wo,rfl⟩:∃V,V=wr:=⟨_,rfl⟩;go_wp2;go_loopw [12,13] (fun xf NU wr=>∃(k:Nat) (ov:Bool),NU=.int .i64 (k:Int)/\xf=.bool ov/\k<=n/\Hid (((l.take k).any fun z=>withinB p z.1&&decide (whyB ig z≠0))=ov)/\Hid (qW wo wr)) (fun _ NU _=>n - (intOf NU).toNat)
   case atStart=>exact ⟨0,false,rfl,rfl,Nat.zero_le _,rfl,Below.refl _ _⟩
   obtain ⟨k,ov,rfl,rfl,hk,JO,pz⟩:=hrel;by_cases hkt:k < n
   .
    have o3:k < l.length:=by rw [HN.o];exact hkt
    have HZX:Hid (l.take (k+1)=l.take k++[l[k]]):=List.take_succ_eq_append_getElem o3;have YS:Hid (l[k]∈l):=List.getElem_mem o3;have YT:Hid (∀V,qW w3 V->AtAt V g (k*5) l[k]):=fun V hV=>vr.o V hV k o3
    obtain ⟨z,hz⟩:=qY (l[k]);rw [hz] at HZX YS YT;clear hz;obtain ⟨q,nz⟩:=z;obtain ⟨yk,HYK⟩:=qX (whyB ig (q,nz));have ym:=(UC.o _ YS.o).1;have PR:q.length<=160:=(aU ym).1;obtain ⟨wb,HWB⟩:=qX (withinB p q);have MN:Hid (∀V,qC 55 #[kS p,kS q] V fun e w'=>e=.returned (.bool wb)/\qW V w'):=fun V=>by
     have:=Rf.cV (ba p) (ba q) V (by rw [aD];omega) (by rw [aD];omega);rw [aQ,aQ,HWB.o] at this;exact this
    obtain ⟨cz,HCZ⟩:=qX (atCells (q,nz));have CYK:Hid (∀V,qW w V->qC 56 #[.agg cz,.slice pA pn pc] V fun e w'=>e=.returned (.int .i64 ((yk:Nat):Int))/\qW V w'):=fun V hV=>by
     have:=CY.o V hV (q,nz) ym (UC.o _ YS.o).2;rw [HYK.o,HCZ.o] at this;exact this
    have KW:Hid (((l.take (k+1)).any fun z=>withinB p z.1&&decide (whyB ig z≠0))=(ov||(wb&&decide (yk≠0)))):=by
     show _=_
     rw [HZX.o,List.any_append,JO.o];simp [HWB.o,HYK.o]
    have SW:Hid (∀V,qW w3 V->V.cell? ⟨g,i*5,none⟩=some (kS p)/\V.cell? ⟨g,k*5,none⟩=some (kS q)/\(loadVar 73 ⟨g,k*5,none⟩).run Tryz.prog V=.ok (.agg cz) V):=fun V hV =>
     ⟨(IB.o V hV).c0,(YT.o V hV).c0,by have:=(YT.o V hV).load;rw [HCZ.o] at this;exact this⟩
    have UD:Hid (qW w3 wr):=HF.o.bl.trans (pz.o.mono HF.o.bl.size);obtain ⟨wf,N0⟩:=qY (wr.drew);have BF:Hid (qW w3 wf):=N0▸UD.o.drew;have NA:Hid (qW wo wf):=N0▸pz.o.drew;have klt:(k:Int) < (n:Int):=by omega
    have k0:(0:Int)<=(k:Int):=by omega
    have wk1:IntKind.i64.wrap ((k:Int)+1)=(k:Int)+1:=aM _ (by omega) (by have:=BT.o;omega);clear ym o3
    cases wb with
    | false =>
     have BO:Hid (((l.take (k+1)).any fun z=>withinB p z.1&&decide (whyB ig z≠0))=ov):=by show _=_;rw [KW.o];simp
     go_wp2;refine qG (S:=fun V=>V.cell? ⟨g,i*5,none⟩=some (kS p)/\V.cell? ⟨g,k*5,none⟩=some (kS q)/\(loadVar 73 ⟨g,k*5,none⟩).run Tryz.prog V=.ok (.agg cz) V) (by kernel_rfl) (by rw [N0];exact SW.o _ BF.o) (fun hS=>?_);clear hS;rw [N0];have l7:=SW.o _ BF.o;refine aG 0 ?_
     iterate 10
      refine qT rfl (by kernel_rfl) ‹_› (fun w a8=>by obtain ⟨s1,s2,_⟩:=a8;go_simp;with_reducible rfl) ?_;simp only [Act.put,aB,aA,aC,Nat.reduceAdd]
     refine aE ?_;refine qD 10 rfl (by kernel_rfl) fun K hK=>?_
     go_simp;clear l7;refine (MN.o _).mono ?_;rintro e9 wg ⟨rfl,x7⟩;have BG:Hid (qW w3 wg):=BF.o.trans (x7.mono BF.o.size);have QX:Hid (qW wo wg):=NA.o.trans (x7.mono NA.o.size);have l7:=SW.o _ BG.o;clear x7;refine hK.o _ _ l7 (fun hS=>?_);clear hK K hS;refine qK 11 rfl (by kernel_rfl) ‹_› (fun w a8=>by obtain ⟨s1,s2,_⟩:=a8;go_simp;with_reducible rfl) ?_;simp only [Act.put,aB,aA,aC];refine aG 12 ?_
     iterate 7
      refine qU rfl (by kernel_rfl) ‹_› ?_;simp only [Act.put,aB,aA,aC,Nat.reduceAdd]
     refine aE ?_;refine qK 19 rfl (by kernel_rfl) ‹_› (fun w a8=>by obtain ⟨s1,s2,_⟩:=a8;go_simp;with_reducible rfl) ?_;simp only [Act.put,aB,aA,aC];clear l7;refine qM (by kernel_rfl) ?_;go_wp2;go_roundw
     case rel=>exact ⟨k+1,ov,by go_num,rfl,by omega,BO.o,QX.o⟩
     case measure=>simp [intOf];omega
    | true =>
     by_cases IS:yk=0
     .
      have BO:Hid (((l.take (k+1)).any fun z=>withinB p z.1&&decide (whyB ig z≠0))=ov):=by show _=_;rw [KW.o,IS];simp
      subst IS;go_wp2;refine qG (S:=fun V=>V.cell? ⟨g,i*5,none⟩=some (kS p)/\V.cell? ⟨g,k*5,none⟩=some (kS q)/\(loadVar 73 ⟨g,k*5,none⟩).run Tryz.prog V=.ok (.agg cz) V) (by kernel_rfl) (by rw [N0];exact SW.o _ BF.o) (fun hS=>?_);clear hS;rw [N0];have l7:=SW.o _ BF.o;refine aG 0 ?_
      iterate 10
       refine qT rfl (by kernel_rfl) ‹_› (fun w a8=>by obtain ⟨s1,s2,_⟩:=a8;go_simp;with_reducible rfl) ?_;simp only [Act.put,aB,aA,aC,Nat.reduceAdd]
      refine aE ?_;refine qD 10 rfl (by kernel_rfl) fun K hK=>?_
      go_simp;clear l7;refine (MN.o _).mono ?_;rintro e9 wh ⟨rfl,x7⟩;have BH:Hid (qW w3 wh):=BF.o.trans (x7.mono BF.o.size);have QY:Hid (qW wo wh):=NA.o.trans (x7.mono NA.o.size);have l7:=SW.o _ BH.o;clear x7;refine hK.o _ _ l7 (fun hS=>?_);clear hK K hS;refine aG 11 ?_
      iterate 4
       refine qT rfl (by kernel_rfl) ‹_› (fun w a8=>by obtain ⟨s1,s2,_⟩:=a8;go_simp;with_reducible rfl) ?_;simp only [Act.put,aB,aA,aC,Nat.reduceAdd]
      refine aE ?_;refine' qL 15 rfl (by kernel_rfl) (aY (by rfl) 73 (.tmp 53) rfl g (k*5) rfl cz (fun X qr=>qr.2.2)) ‹_› ?_;simp only [Act.put,aB,aA,aC];refine qK 16 rfl (by kernel_rfl) ‹_› (fun w a8=>by obtain ⟨s1,s2,_⟩:=a8;go_simp;with_reducible rfl) ?_;simp only [Act.put,aB,aA,aC];refine qD 17 rfl (by kernel_rfl) fun K hK=>?_
      go_simp;clear l7;refine (CYK.o _ (B3.o.trans (BH.o.mono B3.o.size))).mono ?_;rintro e9 wg ⟨rfl,x7⟩;have BG:Hid (qW w3 wg):=BH.o.trans (x7.mono BH.o.size);have QX:Hid (qW wo wg):=QY.o.trans (x7.mono QY.o.size);have l7:=SW.o _ BG.o;clear x7;refine hK.o _ _ l7 (fun hS=>?_);clear hK K hS;refine aG 18 ?_
      iterate 2
       refine qT rfl (by kernel_rfl) ‹_› (fun w a8=>by obtain ⟨s1,s2,_⟩:=a8;go_simp;with_reducible rfl) ?_;simp only [Act.put,aB,aA,aC,Nat.reduceAdd]
      refine aE ?_;clear l7;refine qM (by kernel_rfl) ?_;go_wp2;go_roundw
      case rel=>exact ⟨k+1,ov,by go_num,rfl,by omega,BO.o,QX.o⟩
      case measure=>simp [intOf];omega
     have BO:Hid (((l.take (k+1)).any fun z=>withinB p z.1&&decide (whyB ig z≠0))=true):=by show _=_;rw [KW.o];simp [IS]
     have hyp:(0:Int) < (yk:Int):=by omega
     clear IS;go_wp2;refine qG (S:=fun V=>V.cell? ⟨g,i*5,none⟩=some (kS p)/\V.cell? ⟨g,k*5,none⟩=some (kS q)/\(loadVar 73 ⟨g,k*5,none⟩).run Tryz.prog V=.ok (.agg cz) V) (by kernel_rfl) (by rw [N0];exact SW.o _ BF.o) (fun hS=>?_);clear hS;rw [N0];have l7:=SW.o _ BF.o;refine aG 0 ?_
     iterate 10
      refine qT rfl (by kernel_rfl) ‹_› (fun w a8=>by obtain ⟨s1,s2,_⟩:=a8;go_simp;with_reducible rfl) ?_;simp only [Act.put,aB,aA,aC,Nat.reduceAdd]
     refine aE ?_;refine qD 10 rfl (by kernel_rfl) fun K hK=>?_
     go_simp;clear l7;refine (MN.o _).mono ?_;rintro e9 wh ⟨rfl,x7⟩;have BH:Hid (qW w3 wh):=BF.o.trans (x7.mono BF.o.size);have QY:Hid (qW wo wh):=NA.o.trans (x7.mono NA.o.size);have l7:=SW.o _ BH.o;clear x7;refine hK.o _ _ l7 (fun hS=>?_);clear hK K hS;refine aG 11 ?_
     iterate 4
      refine qT rfl (by kernel_rfl) ‹_› (fun w a8=>by obtain ⟨s1,s2,_⟩:=a8;go_simp;with_reducible rfl) ?_;simp only [Act.put,aB,aA,aC,Nat.reduceAdd]
     refine aE ?_;refine' qL 15 rfl (by kernel_rfl) (aY (by rfl) 73 (.tmp 53) rfl g (k*5) rfl cz (fun X qr=>qr.2.2)) ‹_› ?_;simp only [Act.put,aB,aA,aC];refine qK 16 rfl (by kernel_rfl) ‹_› (fun w a8=>by obtain ⟨s1,s2,_⟩:=a8;go_simp;with_reducible rfl) ?_;simp only [Act.put,aB,aA,aC];refine qD 17 rfl (by kernel_rfl) fun K hK=>?_
     go_simp;clear l7;refine (CYK.o _ (B3.o.trans (BH.o.mono B3.o.size))).mono ?_;rintro e9 wg ⟨rfl,x7⟩;have BG:Hid (qW w3 wg):=BH.o.trans (x7.mono BH.o.size);have QX:Hid (qW wo wg):=QY.o.trans (x7.mono QY.o.size);have l7:=SW.o _ BG.o;clear x7;refine hK.o _ _ l7 (fun hS=>?_);clear hK K hS;refine aG 18 ?_
     iterate 2
      refine qT rfl (by kernel_rfl) ‹_› (fun w a8=>by obtain ⟨s1,s2,_⟩:=a8;go_simp;with_reducible rfl) ?_;simp only [Act.put,aB,aA,aC,Nat.reduceAdd]
     refine aE ?_;clear l7;refine qM (by kernel_rfl) ?_;go_wp2;go_roundw
     case rel=>exact ⟨k+1,true,by go_num,rfl,by omega,BO.o,QX.o⟩
     case measure=>simp [intOf];omega
   have kge2:¬(k:Int) < (n:Int):=by omega
   have FG:Hid (bZ ig l p=ov):=by
    have:=JO.o;rw [List.take_of_length_le (by rw [HN.o];omega)] at this;exact this
   have yz:=hid (HF.o.on pz.o);clear hkt hk
   cases ov with
   | true =>
    go_wp2;go_roundw
    case rel=>exact ⟨i+1,vi,vs,by go_num,by omega,yz.o.cong (by rw [HX.o];exact (zW FG.o).symm) (fun j _ _=>by unfold lsP;rw [HX.o,zW FG.o])⟩
    case measure=>simp [intOf];omega
   | false =>
    obtain ⟨cx,HCX⟩:=qX (atCells (p,⟨kd,dt,tg,tm⟩));have UD:Hid (qW w3 wr):=yz.o.bl;have BWI:Hid (qW w wr):=B3.o.trans (UD.o.mono B3.o.size);have CYX:Hid (qC 56 #[.agg cx,.slice pA pn pc] wr fun e w'=>e=.returned (.int .i64 ((y:Nat):Int))/\qW wr w'):=by
     have:=CY.o wr BWI.o (p,⟨kd,dt,tg,tm⟩) HPM.o (UC.o _ YR.o).2;rw [HY.o,HCX.o] at this;exact this
    have LX:Hid ((loadVar 73 ⟨g,i*5,none⟩).run Tryz.prog wr=.ok (.agg cx) wr):=by have:=(IB.o wr UD.o).load;rw [HCX.o] at this;exact this
    go_wp2_with (first
     | (refine aT (by rfl) 73 (.tmp 62) rfl g (i*5) rfl cx LX.o ?_))
    refine CYX.o.mono ?_;rintro e7 w7 ⟨rfl,z4⟩;have SJ:=hid (yz.o.on z4);obtain ⟨wf,N0⟩:=qY (w7.drew);have b7f:qW w7 wf:=N0▸qB.drew;have F9:=hid (SJ.o.on b7f);have FH:=hid b7f;have qy:Hid (∀j,(lsP ig l (l.take i) j).length<=100000):=fun j=>Nat.le_trans (cu ig l (l.take i) j) (by rw [List.length_take];have:=BT.o;have:=HN.o;omega)
    clear z4 b7f;have hyc:y=0∨y=1∨y=2∨y=3:=by rw [<-HY.o];exact Sb ig _
    rcases hyc with rfl | rfl | rfl | rfl
    .
     have xt:dt.length<=4096:=by
      have h1:=HY.o;unfold whyB at h1;split at h1
      . omega
      split at h1
      . omega
      split at h1
      . omega
      rename_i h2
      unfold eT at h2;simp at h2;exact h2
     have CI:Hid (∀V,qW w V->qC 57 #[kS p,nodeV ⟨kd,dt,tg,tm⟩] V fun e w'=>∃bv,e=.returned (.tuple #[.agg (recN p ⟨kd,dt,tg,tm⟩ bv),.int .i64 0])/\Dgs V.heap.size w' bv (hasN ⟨kd,dt,tg,tm⟩)/\qW V w'):=fun V hV=>by
      refine (Gi p ⟨kd,dt,tg,tm⟩ V (Nat.lt_of_lt_of_le V3 hV.size) (by show dt.length<=_;omega)).mono fun e w' he=>?_
      unfold tD at he;rw [if_neg (by show ¬(kd=1/\4096 < dt.length);omega)] at he;exact he
     have SW:Hid (∀V,qW w3 V->V.cell? ⟨g,i*5,none⟩=some (kS p)/\(loadVar 71 ⟨g,i*5+1,none⟩).run Tryz.prog V=.ok (.agg (dU kd dt tg tm)) V):=fun V hV=>⟨(IB.o V hV).c0,(IB.o V hV).node⟩
     have KZ:Hid (qW w wf):=B3.o.trans (F9.o.bl.mono B3.o.size);clear xt;dsimp only;go_upto_region 24 with fail
     go_cut [15] (fun t wx=>∃(gr:Nat) (bv:Value),t=.pointer (some ⟨gr,0,none⟩)/\Hid (Has wx gr 58 (recN p ⟨kd,dt,tg,tm⟩ bv)/\Dgs (w3.heap.size+1) wx bv (hasN ⟨kd,dt,tg,tm⟩)/\qW w7 wx))
     case first =>
      refine qG (S:=fun V=>V.cell? ⟨g,i*5,none⟩=some (kS p)/\(loadVar 71 ⟨g,i*5+1,none⟩).run Tryz.prog V=.ok (.agg (dU kd dt tg tm)) V) (by kernel_rfl) (by rw [N0];exact SW.o _ F9.o.bl) (fun hS=>?_);clear hS;rw [N0];have l7:=SW.o _ F9.o.bl;refine aG 0 ?_
      iterate 9
       refine qT rfl (by kernel_rfl) ‹_› (fun w a8=>by obtain ⟨s1,_⟩:=a8;go_simp;with_reducible rfl) ?_;simp only [Act.put,aB,aA,aC,Nat.reduceAdd]
      refine aE ?_;refine' qL 9 rfl (by kernel_rfl) (aY (by rfl) 71 (.tmp 113) rfl g (i*5+1) rfl (dU kd dt tg tm) (fun X qr=>qr.2)) ‹_› ?_;simp only [Act.put,aB,aA,aC];refine qE 10 14 rfl rfl (by kernel_rfl) (fun K hK=>?_) fun K hK=>?_
      .
       go_simp;clear l7;refine (CI.o _ KZ.o).mono ?_;rintro e9 wg ⟨bv,rfl,qt,K8⟩;have BG:=hid K8;have YU:=hid qt;obtain ⟨cs,s6⟩:=qY (recN p ⟨kd,dt,tg,tm⟩ bv);rw [s6];have DF:=hid s6;have P8:Hid (cs.size=27):=by rw [<-s6];rfl
       have YV:Hid (cs.all (·.oneCell')=true):=by rw [<-s6];exact Hh _ _ _ (yP qt)
       clear s6;clear qt K8;have l7:=SW.o _ (F9.o.bl.trans (BG.o.mono F9.o.bl.size));refine hK.o _ _ l7 (fun hS=>?_);clear hK K hS;refine aG 11 ?_
       iterate 3
        refine qT rfl (by kernel_rfl) ‹_› (fun w a8=>by obtain ⟨s1,_⟩:=a8;go_simp;with_reducible rfl) ?_;simp only [Act.put,aB,aA,aC,Nat.reduceAdd]
       refine aE ?_;refine qD 14 rfl (by kernel_rfl) fun K hK=>?_
       clear l7;go_simp;have BGA:Hid (qW wf (wg.alloc (.cells qZ 58))):=BG.o.alloc BG.o.size _;have X3:Hid (Has (wg.alloc (.cells qZ 58)) wg.heap.size 58 qZ):=Has.fresh _ _ _;refine hK.o _ _ (SW.o _ (F9.o.bl.trans (BGA.o.mono F9.o.bl.size))) (fun hS=>?_);clear hK K hS;refine qD 15 rfl (by kernel_rfl) fun K hK=>?_
       refine pC (by rfl) 58 (.tmp 15) (.tmp 116) rfl (wg.heap.size) cs qZ rfl rfl X3.o (by rw [P8.o];exact Co) (by rw [P8.o];rfl) YV.o ?_;obtain ⟨we,BP⟩:=qY (((wg.alloc (.cells qZ 58))).setRow (wg.heap.size) cs);try rw [BP]
       have BE:Hid (qW wf we):=by rw [<-BP];exact BGA.o.rowK (Nat.le_trans BG.o.size qN) _
       have XE:Hid (Has we (wg.heap.size) 58 cs):=by rw [<-BP];exact X3.o.row
       have DE:Hid (Dgs wf.heap.size we bv (hasN ⟨kd,dt,tg,tm⟩)):=by
        rw [<-BP];have h9:=(YU.o.kq (Kq.of_below ((Below.refl wg.heap.size wg).alloc qN (.cells qZ 58))));exact ⟨row_of h9.own fun b hb=>setRow_other _ _ b _ (by rintro rfl;exact bN h9.own X3.o (by decide) hb),h9.len⟩
       clear BP;have l7:=SW.o _ (F9.o.bl.trans (BE.o.mono F9.o.bl.size));refine hK.o _ _ l7 (fun hS=>?_);clear hK K hS;refine qK 16 rfl (by kernel_rfl) ‹_› (fun w a8=>by obtain ⟨s1,_⟩:=a8;go_simp;with_reducible rfl) ?_;simp only [Act.put,aB,aA,aC];clear l7;refine qM (by kernel_rfl) ?_;go_wp2_with fail
       go_meet;exact ⟨_,bv,rfl,by rw [DF.o];exact XE.o,DE.o.mono F9.o.f.inside,FH.o.trans (BE.o.mono FH.o.size)⟩
      .
       clear l7;go_simp;obtain ⟨wa,UE⟩:=qY (wf.alloc (.cells qZ 58));try rw [UE]
       have BA:Hid (qW wf wa):=UE▸qB.alloc qN _;have XA:Hid (Has wa wf.heap.size 58 qZ):=by rw [<-UE];exact Has.fresh _ _ _
       clear UE;have l7:=SW.o _ (F9.o.bl.trans (BA.o.mono F9.o.bl.size));refine hK.o _ _ l7 (fun hS=>?_);clear hK K hS;refine qD 10 rfl (by kernel_rfl) fun K hK=>?_
       go_simp;clear l7;refine (CI.o _ (KZ.o.trans (BA.o.mono KZ.o.size))).mono ?_;rintro e9 wg ⟨bv,rfl,qt,K8⟩;have BG:Hid (qW wf wg):=BA.o.trans (K8.mono BA.o.size);have YU:=hid (qt.mono BA.o.size);have X3:Hid (Has wg wf.heap.size 58 qZ):=XA.o.kept K8 XA.o.inside;obtain ⟨cs,s6⟩:=qY (recN p ⟨kd,dt,tg,tm⟩ bv);rw [s6];have DF:=hid s6;have P8:Hid (cs.size=27):=by rw [<-s6];rfl
       have YV:Hid (cs.all (·.oneCell')=true):=by rw [<-s6];exact Hh _ _ _ (yP qt)
       clear s6;clear qt K8;have l7:=SW.o _ (F9.o.bl.trans (BG.o.mono F9.o.bl.size));refine hK.o _ _ l7 (fun hS=>?_);clear hK K hS;refine aG 11 ?_
       iterate 3
        refine qT rfl (by kernel_rfl) ‹_› (fun w a8=>by obtain ⟨s1,_⟩:=a8;go_simp;with_reducible rfl) ?_;simp only [Act.put,aB,aA,aC,Nat.reduceAdd]
       refine aE ?_;clear l7;refine qD 15 rfl (by kernel_rfl) fun K hK=>?_
       refine pC (by rfl) 58 (.tmp 15) (.tmp 116) rfl (wf.heap.size) cs qZ rfl rfl X3.o (by rw [P8.o];exact Co) (by rw [P8.o];rfl) YV.o ?_;obtain ⟨we,BP⟩:=qY ((wg).setRow (wf.heap.size) cs);try rw [BP]
       have BE:Hid (qW wf we):=by rw [<-BP];exact BG.o.rowK qN _
       have XE:Hid (Has we (wf.heap.size) 58 cs):=by rw [<-BP];exact X3.o.row
       have DE:Hid (Dgs wf.heap.size we bv (hasN ⟨kd,dt,tg,tm⟩)):=by
        rw [<-BP];have h9:=YU.o;exact ⟨row_of h9.own fun b hb=>setRow_other _ _ b _ (by rintro rfl;exact bN h9.own X3.o (by decide) hb),h9.len⟩
       clear BP;have l7:=SW.o _ (F9.o.bl.trans (BE.o.mono F9.o.bl.size));refine hK.o _ _ l7 (fun hS=>?_);clear hK K hS;refine qK 16 rfl (by kernel_rfl) ‹_› (fun w a8=>by obtain ⟨s1,_⟩:=a8;go_simp;with_reducible rfl) ?_;simp only [Act.put,aB,aA,aC];clear l7;refine qM (by kernel_rfl) ?_;go_wp2_with fail
       go_meet;exact ⟨_,bv,rfl,by rw [DF.o];exact XE.o,DE.o.mono F9.o.f.inside,FH.o.trans (BE.o.mono FH.o.size)⟩
     obtain ⟨gr,bv,rfl,HH⟩:=hcut;have XR:=hid HH.o.1;have YW:=hid (SJ.o.on HH.o.2.2);obtain ⟨A5,c5,W5,i6,f5,qv,DJ,S5⟩:=YW.o.appI (p,⟨kd,dt,tg,tm⟩) bv HH.o.2.1 (Nat.le_trans (List.length_filter_le _ _) (by rw [List.length_take];have:=BT.o;have:=HN.o;omega));obtain ⟨Ak,ck,fk⟩:=YW.o.forms.1;obtain ⟨nk,BQ⟩:=qY ((partF ig l (l.take i) 0).length);rw [BQ] at i6 S5 fk;subst fk;obtain ⟨cs,DF⟩:=qX (recN p ⟨kd,dt,tg,tm⟩ bv);have P8:Hid (cs.size=27):=by rw [<-DF.o];rfl
     have LR:Hid ((loadVar 58 ⟨gr,0,none⟩).run Tryz.prog wc=.ok (.agg cs) wc):=by rw [<-DF.o];exact gI XR.o rfl
     dsimp only at i6;rw [DF.o] at i6;have R5:=hid i6;have F5:=hid f5;have cb:=YW.o.f.at_ 0;have MJ:=F5.o.at_ 0;have MM:=F5.o.free 0;obtain ⟨W6,j8⟩:=qY (W5.setCell ⟨w3.heap.size,0,none⟩ (.slice A5 (nk+1) c5));rw [j8] at S5;have S6:=hid S5;clear i6 f5 qv S5 BQ DJ HH;go_wp2_with (first
      | (refine aT (by rfl) 58 (.tmp 15) rfl gr 0 rfl cs LR.o ?_)
      | (refine vR (by rfl) (.tmp 120) rfl cs P8.o rfl ?_)
      | (at_builtin;refine gJ rfl (.tmp 119) (.tmp 121) 37 37 rfl (.slice Ak nk ck) (.slice (some ⟨wc.heap.size,0,none⟩) 1 1) _ _ rfl rfl R5.o ?_))
     try rw [j8]
     go_roundw
     case rel=>exact ⟨i+1,_,vs,by go_num,by omega,S6.o.cong (by rw [HX.o];exact (Dt FG.o HY.o).symm) (fun j h1 h2=>by unfold lsP;rw [HX.o,gF (by rw [HY.o];omega)])⟩
     case measure=>simp [intOf];omega
    .
     obtain ⟨A5,c5,W5,i6,f5,qv,DJ,S5⟩:=F9.o.app (k:=1) (by omega) (by omega) p (qy.o 1);obtain ⟨Ak,ck,fk⟩:=F9.o.forms.2 1 (by omega) (by omega);obtain ⟨nk,BQ⟩:=qY ((lsP ig l (l.take i) 1).length);rw [BQ] at i6 S5 fk;rw [fk] at i6;have R5:=hid i6;have F5:=hid f5;have cb:Hid (wf.cell? ⟨w3.heap.size,1,none⟩=some (.slice Ak nk ck)):=by show _=_;rw [<-fk];exact F9.o.f.at_ 1
     have C5:Hid (W5.cell? ⟨w3.heap.size,1,none⟩=some (.slice Ak nk ck)):=by show _=_;rw [<-fk];exact f5.at_ 1
     obtain ⟨W6,j8⟩:=qY (W5.setCell ⟨w3.heap.size,1,none⟩ (.slice A5 (nk+1) c5));rw [j8] at S5;have S6:=hid S5;have XS:Hid (∀V,qW w3 V->V.cell? ⟨g,i*5,none⟩=some (kS p)):=fun V hV=>(IB.o V hV).c0
     have X5:Hid (W5.cell? ⟨g,i*5,none⟩=some (kS p)):=XS.o _ DJ;clear i6 f5 qv S5 fk BQ DJ;have BA:Hid (qW w3 (wf.alloc (.cells #[.string (ba p)] 9))):=F9.o.bl.alloc F9.o.bl.size _;have QZ:Hid ((wf.alloc (.cells #[.string (ba p)] 9)).cell? ⟨w3.heap.size,1,none⟩=some (.slice Ak nk ck)):=((Below.refl wf.heap.size wf).alloc qN _).cell (p:=⟨w3.heap.size,1,none⟩) F9.o.f.inside |>.trans cb.o
     go_wp2;refine qG (S:=fun V=>V.cell? ⟨g,i*5,none⟩=some (kS p)) (by kernel_rfl) (by rw [N0];exact XS.o _ F9.o.bl) (fun hS=>?_);clear hS;rw [N0];have l7:=XS.o _ F9.o.bl;refine qK 0 rfl (by kernel_rfl) ‹_› (fun w a8=>by have s1:=a8;go_simp;with_reducible rfl) ?_;simp only [Act.put,aB,aA,aC];refine aG 2 ?_
     iterate 5
      refine qT rfl (by kernel_rfl) ‹_› (fun w a8=>by have s1:=a8;go_simp;with_reducible rfl) ?_;simp only [Act.put,aB,aA,aC,Nat.reduceAdd]
     refine aE ?_;refine qE 1 7 rfl rfl (by kernel_rfl) (fun K hK=>?_) fun K hK=>?_
     .
      have hc:=cb.o;go_simp;refine hK.o _ _ l7 (fun hS=>?_);clear hK K hS hc;refine qD 7 rfl (by kernel_rfl) fun K hK=>?_
      clear l7;refine Glob.fO (by rfl) (.tmp 74) rfl (ba p) rfl ?_;refine hK.o _ _ (XS.o _ BA.o) (fun hS=>?_);clear hK K hS;refine qD 8 rfl (by kernel_rfl) fun K hK=>?_
      refine aH (by rfl) (.tmp 69) (.tmp 75) 34 34 rfl (.slice Ak nk ck) (.slice (some ⟨wf.heap.size,0,none⟩) 1 1) rfl rfl R5.o ?_;have ph:=X5.o;refine hK.o _ _ ph (fun hS=>?_);clear hK K hS;refine qK 9 rfl (by kernel_rfl) ‹_› (fun w a8=>by have s1:=a8;go_simp;with_reducible rfl) ?_;simp only [Act.put,aB,aA,aC];clear ph;refine qD 10 rfl (by kernel_rfl) fun K hK=>?_
      have hc:=C5.o;have hf:=F5.o.free 1;go_simp;try rw [j8]
      refine hK.o _ _ (XS.o _ S6.o.bl) (fun hS=>?_);clear hK K hS hc hf;refine qM (by kernel_rfl) ?_;go_wp2;go_roundw
      case rel=>exact ⟨i+1,vi,_,by go_num,by omega,S6.o.cong (by rw [HX.o];exact (gF (by rw [HY.o];decide)).symm) (fun j _ _=>by rw [HX.o];exact mW FG.o HY.o j)⟩
      case measure=>simp [intOf];omega
     clear l7;refine Glob.fO (by rfl) (.tmp 74) rfl (ba p) rfl ?_;have l7:=XS.o _ BA.o;refine hK.o _ _ l7 (fun hS=>?_);clear hK K hS;refine qD 1 rfl (by kernel_rfl) fun K hK=>?_
     have hc:=QZ.o;go_simp;refine hK.o _ _ l7 (fun hS=>?_);clear hK K hS hc l7;refine qD 8 rfl (by kernel_rfl) fun K hK=>?_
     refine aH (by rfl) (.tmp 69) (.tmp 75) 34 34 rfl (.slice Ak nk ck) (.slice (some ⟨wf.heap.size,0,none⟩) 1 1) rfl rfl R5.o ?_;have ph:=X5.o;refine hK.o _ _ ph (fun hS=>?_);clear hK K hS;refine qK 9 rfl (by kernel_rfl) ‹_› (fun w a8=>by have s1:=a8;go_simp;with_reducible rfl) ?_;simp only [Act.put,aB,aA,aC];clear ph;refine qD 10 rfl (by kernel_rfl) fun K hK=>?_
     have hc:=C5.o;have hf:=F5.o.free 1;go_simp;try rw [j8]
     refine hK.o _ _ (XS.o _ S6.o.bl) (fun hS=>?_);clear hK K hS hc hf;refine qM (by kernel_rfl) ?_;go_wp2;go_roundw
     case rel=>exact ⟨i+1,vi,_,by go_num,by omega,S6.o.cong (by rw [HX.o];exact (gF (by rw [HY.o];decide)).symm) (fun j _ _=>by rw [HX.o];exact mW FG.o HY.o j)⟩
     case measure=>simp [intOf];omega
    .
     obtain ⟨A5,c5,W5,i6,f5,qv,DJ,S5⟩:=F9.o.app (k:=2) (by omega) (by omega) p (qy.o 2);obtain ⟨Ak,ck,fk⟩:=F9.o.forms.2 2 (by omega) (by omega);obtain ⟨nk,BQ⟩:=qY ((lsP ig l (l.take i) 2).length);rw [BQ] at i6 S5 fk;rw [fk] at i6;have R5:=hid i6;have F5:=hid f5;have cb:Hid (wf.cell? ⟨w3.heap.size,2,none⟩=some (.slice Ak nk ck)):=by show _=_;rw [<-fk];exact F9.o.f.at_ 2
     have C5:Hid (W5.cell? ⟨w3.heap.size,2,none⟩=some (.slice Ak nk ck)):=by show _=_;rw [<-fk];exact f5.at_ 2
     obtain ⟨W6,j8⟩:=qY (W5.setCell ⟨w3.heap.size,2,none⟩ (.slice A5 (nk+1) c5));rw [j8] at S5;have S6:=hid S5;have XS:Hid (∀V,qW w3 V->V.cell? ⟨g,i*5,none⟩=some (kS p)):=fun V hV=>(IB.o V hV).c0
     have X5:Hid (W5.cell? ⟨g,i*5,none⟩=some (kS p)):=XS.o _ DJ;clear i6 f5 qv S5 fk BQ DJ;have BA:Hid (qW w3 (wf.alloc (.cells #[.string (ba p)] 9))):=F9.o.bl.alloc F9.o.bl.size _;have QZ:Hid ((wf.alloc (.cells #[.string (ba p)] 9)).cell? ⟨w3.heap.size,2,none⟩=some (.slice Ak nk ck)):=((Below.refl wf.heap.size wf).alloc qN _).cell (p:=⟨w3.heap.size,2,none⟩) F9.o.f.inside |>.trans cb.o
     go_wp2;refine qG (S:=fun V=>V.cell? ⟨g,i*5,none⟩=some (kS p)) (by kernel_rfl) (by rw [N0];exact XS.o _ F9.o.bl) (fun hS=>?_);clear hS;rw [N0];have l7:=XS.o _ F9.o.bl;refine qK 0 rfl (by kernel_rfl) ‹_› (fun w a8=>by have s1:=a8;go_simp;with_reducible rfl) ?_;simp only [Act.put,aB,aA,aC];refine aG 2 ?_
     iterate 5
      refine qT rfl (by kernel_rfl) ‹_› (fun w a8=>by have s1:=a8;go_simp;with_reducible rfl) ?_;simp only [Act.put,aB,aA,aC,Nat.reduceAdd]
     refine aE ?_;refine qE 1 7 rfl rfl (by kernel_rfl) (fun K hK=>?_) fun K hK=>?_
     .
      have hc:=cb.o;go_simp;refine hK.o _ _ l7 (fun hS=>?_);clear hK K hS hc;refine qD 7 rfl (by kernel_rfl) fun K hK=>?_
      clear l7;refine Glob.fO (by rfl) (.tmp 86) rfl (ba p) rfl ?_;refine hK.o _ _ (XS.o _ BA.o) (fun hS=>?_);clear hK K hS;refine qD 8 rfl (by kernel_rfl) fun K hK=>?_
      refine aH (by rfl) (.tmp 81) (.tmp 87) 34 34 rfl (.slice Ak nk ck) (.slice (some ⟨wf.heap.size,0,none⟩) 1 1) rfl rfl R5.o ?_;have ph:=X5.o;refine hK.o _ _ ph (fun hS=>?_);clear hK K hS;refine qK 9 rfl (by kernel_rfl) ‹_› (fun w a8=>by have s1:=a8;go_simp;with_reducible rfl) ?_;simp only [Act.put,aB,aA,aC];clear ph;refine qD 10 rfl (by kernel_rfl) fun K hK=>?_
      have hc:=C5.o;have hf:=F5.o.free 2;go_simp;try rw [j8]
      refine hK.o _ _ (XS.o _ S6.o.bl) (fun hS=>?_);clear hK K hS hc hf;refine qM (by kernel_rfl) ?_;go_wp2;go_roundw
      case rel=>exact ⟨i+1,vi,_,by go_num,by omega,S6.o.cong (by rw [HX.o];exact (gF (by rw [HY.o];decide)).symm) (fun j _ _=>by rw [HX.o];exact mW FG.o HY.o j)⟩
      case measure=>simp [intOf];omega
     clear l7;refine Glob.fO (by rfl) (.tmp 86) rfl (ba p) rfl ?_;have l7:=XS.o _ BA.o;refine hK.o _ _ l7 (fun hS=>?_);clear hK K hS;refine qD 1 rfl (by kernel_rfl) fun K hK=>?_
     have hc:=QZ.o;go_simp;refine hK.o _ _ l7 (fun hS=>?_);clear hK K hS hc l7;refine qD 8 rfl (by kernel_rfl) fun K hK=>?_
     refine aH (by rfl) (.tmp 81) (.tmp 87) 34 34 rfl (.slice Ak nk ck) (.slice (some ⟨wf.heap.size,0,none⟩) 1 1) rfl rfl R5.o ?_;have ph:=X5.o;refine hK.o _ _ ph (fun hS=>?_);clear hK K hS;refine qK 9 rfl (by kernel_rfl) ‹_› (fun w a8=>by have s1:=a8;go_simp;with_reducible rfl) ?_;simp only [Act.put,aB,aA,aC];clear ph;refine qD 10 rfl (by kernel_rfl) fun K hK=>?_
     have hc:=C5.o;have hf:=F5.o.free 2;go_simp;try rw [j8]
     refine hK.o _ _ (XS.o _ S6.o.bl) (fun hS=>?_);clear hK K hS hc hf;refine qM (by kernel_rfl) ?_;go_wp2;go_roundw
     case rel=>exact ⟨i+1,vi,_,by go_num,by omega,S6.o.cong (by rw [HX.o];exact (gF (by rw [HY.o];decide)).symm) (fun j _ _=>by rw [HX.o];exact mW FG.o HY.o j)⟩
     case measure=>simp [intOf];omega
    obtain ⟨A5,c5,W5,i6,f5,qv,DJ,S5⟩:=F9.o.app (k:=3) (by omega) (by omega) p (qy.o 3);obtain ⟨Ak,ck,fk⟩:=F9.o.forms.2 3 (by omega) (by omega);obtain ⟨nk,BQ⟩:=qY ((lsP ig l (l.take i) 3).length);rw [BQ] at i6 S5 fk;rw [fk] at i6;have R5:=hid i6;have F5:=hid f5;have cb:Hid (wf.cell? ⟨w3.heap.size,3,none⟩=some (.slice Ak nk ck)):=by show _=_;rw [<-fk];exact F9.o.f.at_ 3
    have C5:Hid (W5.cell? ⟨w3.heap.size,3,none⟩=some (.slice Ak nk ck)):=by show _=_;rw [<-fk];exact f5.at_ 3
    obtain ⟨W6,j8⟩:=qY (W5.setCell ⟨w3.heap.size,3,none⟩ (.slice A5 (nk+1) c5));rw [j8] at S5;have S6:=hid S5;have XS:Hid (∀V,qW w3 V->V.cell? ⟨g,i*5,none⟩=some (kS p)):=fun V hV=>(IB.o V hV).c0
    have X5:Hid (W5.cell? ⟨g,i*5,none⟩=some (kS p)):=XS.o _ DJ;clear i6 f5 qv S5 fk BQ DJ;have BA:Hid (qW w3 (wf.alloc (.cells #[.string (ba p)] 9))):=F9.o.bl.alloc F9.o.bl.size _;have QZ:Hid ((wf.alloc (.cells #[.string (ba p)] 9)).cell? ⟨w3.heap.size,3,none⟩=some (.slice Ak nk ck)):=((Below.refl wf.heap.size wf).alloc qN _).cell (p:=⟨w3.heap.size,3,none⟩) F9.o.f.inside |>.trans cb.o
    go_wp2;refine qG (S:=fun V=>V.cell? ⟨g,i*5,none⟩=some (kS p)) (by kernel_rfl) (by rw [N0];exact XS.o _ F9.o.bl) (fun hS=>?_);clear hS;rw [N0];have l7:=XS.o _ F9.o.bl;refine qK 0 rfl (by kernel_rfl) ‹_› (fun w a8=>by have s1:=a8;go_simp;with_reducible rfl) ?_;simp only [Act.put,aB,aA,aC];refine aG 2 ?_
    iterate 5
     refine qT rfl (by kernel_rfl) ‹_› (fun w a8=>by have s1:=a8;go_simp;with_reducible rfl) ?_;simp only [Act.put,aB,aA,aC,Nat.reduceAdd]
    refine aE ?_;refine qE 1 7 rfl rfl (by kernel_rfl) (fun K hK=>?_) fun K hK=>?_
    .
     have hc:=cb.o;go_simp;refine hK.o _ _ l7 (fun hS=>?_);clear hK K hS hc;refine qD 7 rfl (by kernel_rfl) fun K hK=>?_
     clear l7;refine Glob.fO (by rfl) (.tmp 98) rfl (ba p) rfl ?_;refine hK.o _ _ (XS.o _ BA.o) (fun hS=>?_);clear hK K hS;refine qD 8 rfl (by kernel_rfl) fun K hK=>?_
     refine aH (by rfl) (.tmp 93) (.tmp 99) 34 34 rfl (.slice Ak nk ck) (.slice (some ⟨wf.heap.size,0,none⟩) 1 1) rfl rfl R5.o ?_;have ph:=X5.o;refine hK.o _ _ ph (fun hS=>?_);clear hK K hS;refine qK 9 rfl (by kernel_rfl) ‹_› (fun w a8=>by have s1:=a8;go_simp;with_reducible rfl) ?_;simp only [Act.put,aB,aA,aC];clear ph;refine qD 10 rfl (by kernel_rfl) fun K hK=>?_
     have hc:=C5.o;have hf:=F5.o.free 3;go_simp;try rw [j8]
     refine hK.o _ _ (XS.o _ S6.o.bl) (fun hS=>?_);clear hK K hS hc hf;refine qM (by kernel_rfl) ?_;go_wp2;go_roundw
     case rel=>exact ⟨i+1,vi,_,by go_num,by omega,S6.o.cong (by rw [HX.o];exact (gF (by rw [HY.o];decide)).symm) (fun j _ _=>by rw [HX.o];exact mW FG.o HY.o j)⟩
     case measure=>simp [intOf];omega
    clear l7;refine Glob.fO (by rfl) (.tmp 98) rfl (ba p) rfl ?_;have l7:=XS.o _ BA.o;refine hK.o _ _ l7 (fun hS=>?_);clear hK K hS;refine qD 1 rfl (by kernel_rfl) fun K hK=>?_
    have hc:=QZ.o;go_simp;refine hK.o _ _ l7 (fun hS=>?_);clear hK K hS hc l7;refine qD 8 rfl (by kernel_rfl) fun K hK=>?_
    refine aH (by rfl) (.tmp 93) (.tmp 99) 34 34 rfl (.slice Ak nk ck) (.slice (some ⟨wf.heap.size,0,none⟩) 1 1) rfl rfl R5.o ?_;have ph:=X5.o;refine hK.o _ _ ph (fun hS=>?_);clear hK K hS;refine qK 9 rfl (by kernel_rfl) ‹_› (fun w a8=>by have s1:=a8;go_simp;with_reducible rfl) ?_;simp only [Act.put,aB,aA,aC];clear ph;refine qD 10 rfl (by kernel_rfl) fun K hK=>?_
    have hc:=C5.o;have hf:=F5.o.free 3;go_simp;try rw [j8]
    refine hK.o _ _ (XS.o _ S6.o.bl) (fun hS=>?_);clear hK K hS hc hf;refine qM (by kernel_rfl) ?_;go_wp2;go_roundw
    case rel=>exact ⟨i+1,vi,_,by go_num,by omega,S6.o.cong (by rw [HX.o];exact (gF (by rw [HY.o];decide)).symm) (fun j _ _=>by rw [HX.o];exact mW FG.o HY.o j)⟩
    case measure=>simp [intOf];omega
  have kge:¬(i:Int) < (n:Int):=by omega
  have HT:Hid (l.take i=l):=List.take_of_length_le (by rw [HN.o];omega);rw [HT.o] at HF;obtain ⟨⟨A1,c1,f1⟩,hf⟩:=HF.o.forms;obtain ⟨A2,c2,f2⟩:=hf 1 (by omega) (by omega);obtain ⟨A4,c4,f4⟩:=hf 2 (by omega) (by omega);obtain ⟨A5,c5,f5⟩:=hf 3 (by omega) (by omega);obtain ⟨y1,BV⟩:=qY (vi);obtain ⟨y2,mu⟩:=qY (vs 1);obtain ⟨y3,tv⟩:=qY (vs 2);obtain ⟨y4,GL⟩:=qY (vs 3);have X9:Hid (Has wr w3.heap.size 42 #[y1,y2,y3,y4]):=by rw [<-BV,<-mu,<-tv,<-GL];exact HF.o.f
  have o1:(#[y1,y2,y3,y4]:Array Value).all (·.oneCell')=true:=by
   rw [<-BV,<-mu,<-tv,<-GL,f1,f2,f4,f5];simp [Value.oneCell']
  have O1:=hid o1;have X6:=hid (R3.o.kept HF.o.bl R3.o.inside);have LD:Hid ((loadVar 42 ⟨w3.heap.size,0,none⟩).run Tryz.prog wr=.ok (.agg #[y1,y2,y3,y4]) wr):=run_loadVar_row (P:=Tryz.prog) wr w3.heap.size 42 42 _ (0,0) _ X9.o Tryz.underlying42 rfl Hu;have BW:Hid (qW w wr):=B3.o.trans (HF.o.bl.mono B3.o.size);obtain ⟨W5,ua⟩:=qY (wr.setRow w.heap.size #[y1,y2,y3,y4]);have Y6:Hid (Has W5 w.heap.size 42 #[y1,y2,y3,y4]):=by rw [<-ua];exact X6.o.row
  have BF:Hid (qW w W5):=by rw [<-ua];exact BW.o.rowK (by omega) _
  have RR:Hid (∀b,b≠w.heap.size->W5.heap[b]? = wr.heap[b]?):=fun b hb=>by rw [<-ua];exact setRow_other wr w.heap.size b _ hb
  have HV:Hid (vi=y1/\vs 1=y2/\vs 2=y3/\vs 3=y4):=⟨BV,mu,tv,GL⟩;have NB:Hid (∀b,w3.heap.size+1<=b->b≠w.heap.size):=fun b hb e=>by have:=S2.o;have:=S3.o;omega
  have S3W:Hid (w.heap.size<=w3.heap.size+1):=by have:=S2.o;have:=S3.o;show _<=_;omega
  clear f1 f2 f4 f5 hf o1 BV mu tv GL d8 hi;go_wp2_with (first
   | (refine aT rfl 42 (.tmp 10) rfl w3.heap.size 0 rfl #[y1,y2,y3,y4] LD.o ?_)
   | (refine wpList_store_row rfl 42 (.tmp 6) (.tmp 124) rfl w.heap.size #[y1,y2,y3,y4] rfl rfl 42 _ X6.o (by kernel_rfl) rfl O1.o ?_;rw [ua]))
  refine bodyPost_ret (oV rfl _ _ w.heap.size #[y1,y2,y3,y4] rfl Y6.o rfl) rfl ?_;obtain ⟨e1,e2,e3,e4⟩:=HV.o;refine ⟨vi,vs,by rw [e1,e2,e3,e4];rfl,?_,?_,BF.o⟩
  . obtain ⟨ps,d1,d2,d3⟩:=HF.o.items
    exact cO.mono ⟨ps,d1,row_of d2 fun b hb=>RR.o b (NB.o b (World.ownsRow.lt d2 b hb).1),fun z hz=>⟨row_of (d3 z hz).own fun b hb=>RR.o b (NB.o b (World.ownsRow.lt (d3 z hz).own b hb).1),(d3 z hz).len⟩⟩ S3W.o
  intro k h1 h2;have:=HF.o.str k h1 h2;have e:lsP ig l l k=lsOf (fndF ig l l) k:=by
   rcases (by omega:k=1∨k=2∨k=3) with rfl | rfl | rfl<;>rfl
  rw [e] at this;exact StrR.mono (row_of this fun b hb=>RR.o b (NB.o b (World.ownsRow.lt this b hb).1)) S3W.o
 have q:(c != 0)=true:=by simpa using hc
 rw [if_neg hc];clear hc;go_enter Tryz.func14,Tryz.ntmps14
 go_wp2_with fail
 try rw [r6]
 refine CR.o.mono ?_;rintro e2 w2 ⟨rfl,a9⟩;have B2:Hid (qW w w2):=B1.o.trans (a9.mono B1.o.size);have R2:=hid (R1.o.kept a9 R1.o.inside);have S2:Hid (w.heap.size < w2.heap.size):=R2.o.inside;clear a9 r6;go_wp2_with (refine wpList_store_row rfl 42 (.tmp 6) (.tmp 22) rfl w.heap.size #[.slice none 0 0,.slice none 0 0,.slice none 0 0,.slice none 0 0] rfl rfl 42 _ R2.o (by kernel_rfl) rfl (by simp [Value.oneCell']) ?_)
 refine bodyPost_ret (oV rfl _ _ w.heap.size #[.slice none 0 0,.slice none 0 0,.slice none 0 0,.slice none 0 0] rfl R2.o.row rfl) rfl ?_;exact ⟨.slice none 0 0,fun _=>.slice none 0 0,rfl,cO.nil _ _,fun k _ _=>StrR.none _ _ k,B2.o.rowK (by omega) _⟩
end Go.Proofs.YtahkcemdbfjilaaGreatDoor
