/- Texts. Conditions: as said. -/
import Derived.Test.YtahkcemdbfjilaaGreatDoorFj00
import Derived.Test.YtahkcemdbfjilaaGreatDoorFj16
set_option linter.all false
set_option maxRecDepth 100000
set_option maxHeartbeats 32000000
namespace Go.Proofs.YtahkcemdbfjilaaGreatDoor
open Go.RowKit Go.Maps
attribute [local go_sem] Oper.semAt_some
def Rh:(Tryz.prog.info? 39).map (·.size)=some 4:=by kernel_rfl
def rH {fn:Func} {c:Nat} {t:Tmp} (h:fn.results=#[.cell c 39,.tmp t]) (tmps:Array Value) (w:World) (g:Nat) (cs:Array Value) (hc:tmps.getD c undef=.pointer (some ⟨g,0,none⟩)) (hg:Has w g 39 cs) (hi:cs.size=4) :
 (results fn tmps).run Tryz.prog w=.ok (.tuple #[.agg cs,tmps.getD t undef]) w:=by
 have zm:tmps[c]?.getD undef=.pointer (some ⟨g,0,none⟩):=by simpa using hc
 have hl:=run_loadVar_row (P:=Tryz.prog) w g 39 39 cs (0,0) _ hg Tryz.underlying39 rfl (by rw [hi];exact Rh);simp [results,h,zm,asAddr,hl]
def Kp {w:World} {g:Nat} {cs:Array Value} (hg:Has w g 39 cs) (hs:cs.size=4):(loadVar 39 ⟨g,0,none⟩).run Tryz.prog w=.ok (.agg cs) w :=
 run_loadVar_row (P:=Tryz.prog) w g 39 39 _ (0,0) _ hg Tryz.underlying39 rfl (by rw [hs];exact Rh)
def zL:jD:=⟨[],[],[],[]⟩
def gC (lo:Option (List By)) (L:Tr) (root:By):jD:=if fI L root=0 then rA (igB lo) (inL L root) else zL
def Yn (w:World) (c:Int) (f:jD) (e:Ending) (w':World):Prop:=∃(vi:Value) (vs:Nat->Value),e=.returned (.tuple #[.agg #[vi,vs 1,vs 2,vs 3],.int .i64 c])/\cO w.heap.size w' vi f.items/\(∀k,1<=k->k<=3->StrR w.heap.size w' (vs k) (lsOf f k))/\qW w w'
def StrR.none (B:Nat) (w:World) (k:Nat):StrR B w (.slice none 0 0) (lsOf zL k):=by
 have:lsOf zL k=[]:=by unfold lsOf zL;simp
 rw [this];exact StrR.nil B w
def Ec {own:Nat->Prop} {w:World} {p:Nat} {M:Mo} (h:Dsk own w p M) (hG:Gd w) (hT:Sha.Tab w) (AY:DG M.now) (root:By) (v:Value) (lo:Option (List By)) (hv:rL w v lo) :
 qC 13 #[.pointer (some ⟨p,0,none⟩),kS root,v] w fun e w'=>Yn w (fI M.now root) (gC lo M.now root) e w':=by
 obtain ⟨w1,r6⟩:=qY ((w.alloc (.cells #[v] 30)).alloc (.cells #[.slice none 0 0,.slice none 0 0,.slice none 0 0,.slice none 0 0] 39));have b1:qW w w1:=r6▸(qB.alloc qN _).alloc (by simp) _;have s1:w1.heap.size=w.heap.size+2:=by rw [<-r6];simp
 have L1:Has w1 w.heap.size 30 #[v]:=by rw [<-r6];exact (Has.fresh _ _ _).more _
 have F1:Has w1 (w.heap.size+1) 39 #[.slice none 0 0,.slice none 0 0,.slice none 0 0,.slice none 0 0]:=by rw [<-r6];exact Has.fresh' _ _ _ (by simp)
 have CN:=hid (Mp (h.on b1) (hG.kept b1) root);have CZ:=hid L1;have SN:=hid F1;have B1:=hid b1;have S1:=hid s1;have H:=hid h;have HG:=hid hG;have HT:=hid hT;have HV:=hid hv;have MI:=hid AY;obtain ⟨c,HC⟩:=qX (fI M.now root);rw [HC.o] at CN;unfold gC;rw [HC.o];clear h hG hT hv AY b1 s1 L1 F1;refine (callsIn_wide (n:=9)).1 ?_;refine callsIn_of_wp_marks Tryz.func13 rfl trivial ?_ rfl;simp only [Tryz.ntmps13,List.size_toArray,List.length_cons,List.length_nil,Nat.reduceAdd,Nat.reduceSub,Array.replicate_succ,Array.replicate_zero,List.push_toArray,List.append_toArray,List.nil_append,List.cons_append];refine wpIn_wide.2 ?_;by_cases hc:c=0
 .
  subst hc;rw [if_pos rfl];obtain ⟨l,ro⟩:=qX (inL M.now root);rw [ro.o];go_wp2_with fail
  rw [r6];refine CN.o.mono ?_;rintro e2 w2 ⟨rfl,a9⟩;have B2:Hid (qW w w2):=B1.o.trans (a9.mono B1.o.size);have FM:Hid (Has w2 w.heap.size 30 #[v]):=CZ.o.kept a9 CZ.o.inside;have GJ:Hid (Has w2 (w.heap.size+1) 39 #[.slice none 0 0,.slice none 0 0,.slice none 0 0,.slice none 0 0]):=SN.o.kept a9 SN.o.inside;have S2:Hid (w.heap.size+2<=w2.heap.size):=by show _<=_;rw [<-S1.o];exact a9.size
  clear a9 r6;have CE:=hid (fun W=>Qx p root W);go_wp2_with fail
  refine (CE.o _).mono ?_;rintro e4 w4 ⟨rfl,N7⟩;go_wp2;rw [<-N7];have SO:qW w2 w4:=by rw [N7];exact (((qB.alloc qN _).alloc (by simp) _).alloc (by simp;omega) _).alloc (by simp;omega) _
  have s4:w4.heap.size=w2.heap.size+4:=by rw [N7];simp
  have F4:Has w4 w2.heap.size 39 #[.slice none 0 0,.slice none 0 0,.slice none 0 0,.slice none 0 0]:=by rw [N7];exact (((Has.fresh w2 _ _).more _).more _).more _
  have O4:Has w4 (w2.heap.size+1) 9 #[kS []]:=by rw [N7];exact ((Has.fresh' _ _ _ (by simp)).more _).more _
  have D4:Has w4 (w2.heap.size+1+1) 26 #[.pointer (some ⟨p,0,none⟩)]:=by rw [N7];exact (Has.fresh' _ _ _ (by simp)).more _
  have R4:Has w4 (w2.heap.size+1+1+1) 9 #[kS root]:=by rw [N7];exact Has.fresh' _ _ _ (by simp)
  clear N7;have B4:Hid (qW w w4):=B2.o.trans (SO.mono B2.o.size);have mj:=S2.o;have GK:mayB root=true:=by
   cases e:mayB root with
   | true=>rfl
   | false=>have:=HC.o;unfold fI at this;rw [e] at this;simp at this
  have un:root.length<=4000:=by have:=(aU GK).1;omega
  have hl:=ro.o;have WI:Hid (WFT M.room l):=by rw [<-hl];exact yD H.o.good.w1 root
  have HRM:Hid (M.room<=1048576):=by obtain ⟨_,_,_,_,h'⟩:=H.o;exact h'.r1
  have K0:Hid (l.length<=100000):=by
   obtain ⟨m1,m2,sv,vs,h'⟩:=H.o;have e1:=h'.tr1.len;have e2:=xS M.now root;rw [hl] at e2;show _<=_;omega
  have ST:=Kz 8 (by omega) (H.o.on B4.o) (HG.o.kept B4.o) root un _ _ D4 R4 l hl;have S0:WSt w w4 w4.heap.size w.heap.size (w.heap.size+1) w2.heap.size (w2.heap.size+1) v [] (lsOf zL) [] (.slice none 0 0) (fun _=>.slice none 0 0) :=
   ⟨F4,O4,FM.o.kept SO FM.o.inside,GJ.o.kept SO GJ.o.inside,cO.nil _ _,fun k _ _=>StrR.none _ _ k,(fun j k _ _ _ _ _ b h=>by cases h),B4.o,⟨Nat.le_refl _,by omega⟩,(by omega),⟨by omega,by omega⟩,⟨by omega,by omega⟩,Nat.le_refl _⟩
  have tp:=hid s4;clear SO F4 O4 D4 R4 GK un hl s4;refine (wpIn_wide (n:=9)).1 ?_;refine wpIn_rangeFunc_ownH (F:=Fence.wide) (n:=9) rfl (by omega) (gf:=66) (lb:=#[.pointer (some ⟨w2.heap.size+1+1,0,none⟩),.pointer (some ⟨w2.heap.size+1+1+1,0,none⟩)]) rfl trivial (enters_of Tryz.func66 (by kernel_rfl) rfl)
   ST bK.trans (fun W il o o' h1 h2 h3 h4=>bK.putObj _ W il o o' h1 h2 h3 h4) qB (fun _=>rfl)
   (fun pre W=>∃vi vs,WSt w W w4.heap.size w.heap.size (w.heap.size+1) w2.heap.size (w2.heap.size+1) v (walkS (igB lo) (plainX pre)).1.items (lsOf (walkS (igB lo) (plainX pre)).1) (walkS (igB lo) (plainX pre)).2 vi vs)
   (fun _ _ _=>False) ?hI (fun _ _ _ _ _ hs _ _=>hs) ⟨_,_,S0⟩
   (fun x a' W=>∃I7,Has W I7 71 #[.int .i64 x.1.2.kind,kS x.1.2.data,kS x.1.2.target,.int .i64 x.1.2.time]/\a' = { tmps:=#[.pointer (some ⟨p,0,none⟩),kS root,v,undef,undef,.pointer (some ⟨w.heap.size,0,none⟩),.pointer (some ⟨w.heap.size+1,0,none⟩),.int .i64 0,.int .i64 0,.pointer (some ⟨w2.heap.size,0,none⟩),.pointer (some ⟨w2.heap.size+1,0,none⟩),kS x.1.1,.pointer (some ⟨I7,0,none⟩),.pointer (some ⟨p,0,none⟩),kS root,.int .i64 0,.int .i64 0,.bool false,undef,undef,.pointer (some ⟨p,0,none⟩),kS root,.func (.func 66) #[] #[.pointer (some ⟨w2.heap.size+1+1,0,none⟩),.pointer (some ⟨w2.heap.size+1+1+1,0,none⟩)],kS x.1.1,.agg #[.int .i64 x.1.2.kind,kS x.1.2.data,kS x.1.2.target,.int .i64 x.1.2.time],undef,undef,undef,undef,undef,undef,undef,undef,undef,undef,undef,undef,undef,undef,undef,undef,undef,undef,undef,undef,undef,undef,undef,undef,undef,undef,undef,undef,undef,undef,undef,undef,undef,undef,undef,undef,undef,undef,undef,undef,undef,undef,undef,undef,undef,undef,undef],defers:=[] }) ?hAx ?assign ?body ?done ?stop
  case hI =>
   rintro pre W W' row ⟨vi,vs,hS⟩ hg hr;refine ⟨vi,vs,hS.kq (Kq.of_own hg (fun r e=>(hr r e).2)) (hS.bl.grown hg hS.bl.size (fun r e=>?_)) hg.size⟩;have:=(hr r e).1;have:=B4.o.size;omega
  case hAx =>
   rintro x a' u W W' row ⟨I7,hN,ha⟩ hg hr;exact ⟨I7,hN.kq (Kq.of_own hg (fun r e=>(hr r e).2)),ha⟩
  case assign =>
   rintro il pre ⟨⟨q,⟨kd,dt,tg,tm⟩⟩,hx⟩ W K ⟨vi,vs,hS⟩ hK;dsimp only [ep,nodeV];have hb:qW W (W.alloc (.cells #[.int .i64 kd,kS dt,kS tg,.int .i64 tm] 71)):=qB.alloc qN _;gi_wp2;exact hK _ _ ((KeepsOthers.alloc _ _).from _) (bK.of_below hb) ⟨vi,vs,hS.on hb⟩ ⟨W.heap.size,Has.fresh _ _ _,rfl⟩
  case done =>
   rintro D ys W hD hys ⟨vi,vs,hS⟩ hK;have HE:Hid (rA (igB lo) l=(walkS (igB lo) (plainX ys)).1):=by show _=_;rw [hys];rfl
   obtain ⟨⟨A1,c1,f1⟩,hf⟩:=hS.forms;obtain ⟨A2,c2,f2⟩:=hf 1 (by omega) (by omega);obtain ⟨A3,c3,f3⟩:=hf 2 (by omega) (by omega);obtain ⟨A4,c4,f4⟩:=hf 3 (by omega) (by omega);have HS:=hid hS;obtain ⟨y1,BV⟩:=qY (vi);obtain ⟨y2,mu⟩:=qY (vs 1);obtain ⟨y3,tv⟩:=qY (vs 2);obtain ⟨y4,GL⟩:=qY (vs 3);have X9:Hid (Has W w2.heap.size 39 #[y1,y2,y3,y4]):=by rw [<-BV,<-mu,<-tv,<-GL];exact hS.f
   have X6:=hid hS.r;have o1:(#[y1,y2,y3,y4]:Array Value).all (·.oneCell')=true:=by
    rw [<-BV,<-mu,<-tv,<-GL,f1,f2,f3,f4];simp [Value.oneCell']
   have O1:=hid o1;obtain ⟨W5,ua⟩:=qY (W.setRow (w.heap.size+1) #[y1,y2,y3,y4]);have K5:Hid (W5.heap[D]? = some (.deferred (some []))):=by
    rw [<-ua];refine (setRow_other W (w.heap.size+1) D _ ?_).trans hK;rintro rfl;have:=X6.o;unfold Has at this;rw [hK] at this;cases this
   have Y6:Hid (Has W5 (w.heap.size+1) 39 #[y1,y2,y3,y4]):=by rw [<-ua];exact X6.o.row
   have BF:Hid (qW w W5):=by rw [<-ua];exact hS.bl.rowK (by omega) _
   have RR:Hid (∀b,b≠w.heap.size+1->W5.heap[b]? = W.heap[b]?):=fun b hb=>by rw [<-ua];exact setRow_other W (w.heap.size+1) b _ hb
   clear hS hf f1 f2 f3 f4 o1;go_wp2_with (first
    | (refine aT rfl 39 (.tmp 9) rfl w2.heap.size 0 rfl #[y1,y2,y3,y4] (Kp X9.o rfl) ?_)
    | (refine wpList_store_row rfl 39 (.tmp 6) (.tmp 71) rfl (w.heap.size+1) #[y1,y2,y3,y4] rfl rfl 39 _ X6.o (by kernel_rfl) rfl O1.o ?_;rw [ua]))
   refine ⟨by simp,.inl ⟨_,_,rfl,run_takeDeferred K5.o,?_⟩⟩;have kq:Kq W5 (W5.putObj D (.deferred none)):=Kq.of_own (grownBy_putObj' W5 D _) (fun r e=>by cases e;exact ⟨_,K5.o,rfl⟩);refine ⟨_,rH rfl _ _ (w.heap.size+1) _ rfl (Y6.o.kq kq) rfl,?_⟩;refine ⟨vi,vs,by rw [BV,mu,tv,GL];rfl,?_,?_,?_⟩
   . rw [HE.o]
     obtain ⟨ps,e1,e2,e3⟩:=HS.o.items;refine cO.mono (B:=w4.heap.size) (cO.kq (w:=W5) ⟨ps,e1,row_of e2 fun b hb=>RR.o b ?_,fun y hy=>⟨row_of (e3 y hy).own fun b hb=>RR.o b ?_,(e3 y hy).len⟩⟩ kq) B4.o.size
     . rintro rfl;exact bN e2 HS.o.r (by decide) hb
     rintro rfl;exact bN (e3 y hy).own HS.o.r (by decide) hb
   . intro k h1 h2
     rw [HE.o];have e2:=HS.o.str k h1 h2;exact StrR.mono (B:=w4.heap.size) (StrR.kq (w:=W5) (row_of e2 fun b hb=>RR.o b (by rintro rfl;exact bN e2 HS.o.r (by decide) hb)) kq) B4.o.size
   exact BF.o.grown (grownBy_putObj' W5 D _) BF.o.size (fun r e=>by cases e;have:=B4.o.size;omega)
  case stop=>exact fun _ _ _ _ _ _ h _=>h.elim
  rintro il pre ⟨⟨q,⟨kd,dt,tg,tm⟩⟩,hx⟩ a' W EM hrec ⟨vi,vs,hS⟩ ⟨I7,hN,rfl⟩ d8;dsimp only at hN;dsimp only;obtain ⟨⟨⟨it,tmL,igL,bdL⟩,over⟩,HSW⟩:=qX (walkS (igB lo) (plainX pre));have J7:=Sw (igB lo) (plainX pre);have JO:=Nb (igB lo) (plainX pre);rw [HSW.o] at hS J7 JO;dsimp only at hS J7 JO;obtain ⟨⟨A0,c0,fv⟩,_⟩:=hS.forms;subst fv;have M6:Hid (∀s',stepW (igB lo) (⟨it,tmL,igL,bdL⟩,over) (q,⟨kd,dt,tg,tm⟩)=s'->walkS (igB lo) (plainX (pre++[⟨(q,⟨kd,dt,tg,tm⟩),hx⟩]))=s'):=fun s' h=>by rw [oQ,Ma,HSW.o];exact h
  have ym:=mem_may WI.o hx;have FS:q.length<=160:=(aU ym).1;have xt:dt.length<=1048576:=by
   have h1:=Rj hx;have h2:=WI.o.used;have h3:=HRM.o;dsimp only at h1;omega
  have y7:(plainX pre).length<=100000:=by rw [wE];have:=K0.o;omega
  have DB:Hid (∀k,1<=k->k<=3->(lsOf ⟨it,tmL,igL,bdL⟩ k).length<=100000):=fun k h1 h2=>by
   unfold mD at J7;dsimp only at J7;rcases (by omega:k=1∨k=2∨k=3) with rfl | rfl | rfl
   . show tmL.length<=_;omega
   . show igL.length<=_;omega
   show bdL.length<=_;omega
  have SQ:Hid (it.length<=100000):=by unfold mD at J7;dsimp only at J7;show _<=_;omega
  have hol:over.length<=4000:=by
   rcases JO with e | ⟨y,hy,e⟩
   . rw [e];exact Nat.zero_le _
   rw [<-e];obtain ⟨z,_,rfl⟩:=List.mem_map.1 hy;have:=(aU (mem_may WI.o z.2)).1;omega
  have HS:=hid hS;have HN:=hid hN;have SR:Hid (Gd W):=HG.o.kept hS.bl;have HTW:Hid (Sha.Tab W):=HT.o.kept hS.bl HT.o.pos;have HLW:Hid (rL W v lo):=HV.o.on hS.bl;have CW:Hid (∀X,qW W X->qC 51 #[kS q,kS over] X fun e w'=>e=.returned (.bool (withinB q over))/\qW X w'):=fun X hb=>by
   have:=mO (ba q) (ba over) X (SR.o.kept hb) (by rw [aD];omega) (by rw [aD];omega);rw [aQ,aQ] at this;exact this
  have CT:Hid (∀X,qC 33 #[kS q] X fun e w'=>e=.returned (.bool (isTempB q))/\X=w'):=fun X=>by
   have:=Ly (ba q) X (by rw [aD];omega);rw [aQ] at this;exact this
  have CI:Hid (∀X,qW W X->qC 52 #[v,kS q] X fun e w'=>e=.returned (.bool (igB lo q))/\qW X w'):=fun X hb=>Bp (HLW.o.on hb) (SR.o.kept hb) q (by omega)
  have CB:Hid (∀X,qC 53 #[.agg #[.int .i64 kd,kS dt,kS tg,.int .i64 tm]] X fun e w'=>e=.returned (.bool (eT ⟨kd,dt,tg,tm⟩))/\qW X w'):=fun X=>Oe ⟨kd,dt,tg,tm⟩ (by dsimp only;omega) X
  have CM:Hid (eT ⟨kd,dt,tg,tm⟩=false->∀X,qW W X->qC 54 #[kS q,.agg #[.int .i64 kd,kS dt,kS tg,.int .i64 tm]] X fun e w'=>∃bv,e=.returned (.agg (recN q ⟨kd,dt,tg,tm⟩ bv))/\Dgs X.heap.size w' bv (hasN ⟨kd,dt,tg,tm⟩)/\qW X w'):=fun hb X hX =>
   Na q ⟨kd,dt,tg,tm⟩ X (HTW.o.kept hX HTW.o.pos) (fun _=>by unfold eT at hb;simpa using hb)
  have co:W.cell? ⟨w2.heap.size+1,0,none⟩=some (kS over):=hS.o.at_ 0;have ob:Tryz.prog.follows .mixedOrders=true:=by kernel_rfl
  clear hS hN J7 JO ym FS xt y7 hol hrec;obtain ⟨bt,EN⟩:=qX (isTempB q);obtain ⟨bi,pz⟩:=qX (igB lo q);obtain ⟨bb,IY⟩:=qX (eT ⟨kd,dt,tg,tm⟩);obtain ⟨bw,uq⟩:=qX (withinB q over);rw [EN.o] at CT;rw [pz.o] at CI;rw [IY.o] at CB CM;rw [uq.o] at CW;by_cases ho:over=[]
  .
   have e1:(ba over).toList=[]:=by rw [aP,aQ];exact ho
   have e2:(ba over).toList.isEmpty=true:=by simpa using e1
   have EO:Hid (dB over q=false):=by show _=_;unfold dB;rw [ho];rfl
   have BC:Hid (qW W W):=Below.refl _ _;have SC:=hid HS.o;clear ho;gi_wp2_with (gi_at_call 33;fail)
   refine ⟨trivial,?_⟩
   cases bt with
   | true =>
    obtain ⟨A5,c5,W5,i6,f5,o5,V0,V1,S5⟩:=SC.o.app (k:=1) (by omega) (by omega) q (DB.o 1 (by omega) (by omega));obtain ⟨Ak,ck,fk⟩:=SC.o.forms.2 1 (by omega) (by omega);rw [fk] at i6;have R5:=hid i6;have KF:=hid V0;have KP:=hid V1;have F5:=hid f5;have O5:=hid o5;have MJ:W5.cell? ⟨w2.heap.size,1,none⟩=some (vs 1):=f5.at_ 1;have MM:=f5.free 1;obtain ⟨W6,j8⟩:=qY (W5.setCell ⟨w2.heap.size,1,none⟩ (.slice A5 ((lsOf ⟨it,tmL,igL,bdL⟩ 1).length+1) c5));rw [j8] at S5;have S6:=hid S5;have cb:W.cell? ⟨w2.heap.size,1,none⟩=some (.slice Ak (lsOf ⟨it,tmL,igL,bdL⟩ 1).length ck):=by rw [<-fk];exact SC.o.f.at_ 1
    clear fk;have WJ:W6.cell? ⟨w2.heap.size+1,0,none⟩=some (kS over):=S6.o.o.at_ 0;have WK:=S6.o.o.free 0;have KE:Hid (bK W5 W6):=by rw [<-j8];exact bK.of_but F5.o (by decide) (fun j hj _=>Below.heap_setCell W5 ⟨w2.heap.size,1,none⟩ _ j hj)
    have KG:Hid (KeepsFrom w4.heap.size W5 W6):=by rw [<-j8];exact (KeepsOthers.setCell _ _ _).from _
    have C9:=hid (Ab (ig:=igB lo) (f:=⟨it,tmL,igL,bdL⟩) (n:=⟨kd,dt,tg,tm⟩) EO.o EN.o);clear i6 f5 o5 V0 V1 S5;gi_wp2_with (first
     | (refine ⟨trivial,?_⟩
        gi_at_call 33
        refine (CallsIn.inRound il (callsIn_wide.2 (CT.o _))).mono ?_;rintro e6 Wx ⟨rfl,rfl⟩)
     | (gi_at_builtin
        refine eX rfl (.tmp 45) (.tmp 47) 34 34 rfl ⟨_,_,R5.o,?_⟩))
    have KO:Hid (bK W6 (W6.setCell ⟨w2.heap.size+1,0,none⟩ (kS q))):=bK.of_but S6.o.o (by decide) (fun j hj _=>Below.heap_setCell W6 ⟨w2.heap.size+1,0,none⟩ _ j hj);refine ⟨((((KeepsFrom.of_grownBy (bR BC.o) (fun _ e=>by cases e)).trans KF.o)).trans KG.o).trans ((KeepsOthers.setCell _ _ _).from _),((((bK.of_below BC.o).trans KP.o).trans KE.o).trans KO.o),(.slice A0 it.length c0),(updV vs 1 (.slice A5 ((lsOf ⟨it,tmL,igL,bdL⟩ 1).length+1) c5)),?_⟩;rw [M6.o _ C9.o];dsimp only;rw [No];exact S6.o.setO q
   | false =>
    have ci:W.cell? ⟨w.heap.size,0,none⟩=some v:=SC.o.l.at_ 0
    cases bi with
    | true =>
     gi_wp2_with (first
      | (refine ⟨trivial,?_⟩
         gi_at_call 33
         refine (CallsIn.inRound il (callsIn_wide.2 (CT.o _))).mono ?_;rintro e6 Wx ⟨rfl,rfl⟩)
      | (refine ⟨trivial,?_⟩
         gi_at_call 52
         refine (CallsIn.inRound il (callsIn_wide.2 (CI.o _ BC.o))).mono ?_;rintro e7 Wd ⟨rfl,z4⟩;have pi:Hid (qW W Wd):=BC.o.trans (z4.mono BC.o.size);have SD:=hid (SC.o.on z4);clear z4;obtain ⟨A5,c5,W5,i6,f5,o5,V0,V1,S5⟩:=SD.o.app (k:=2) (by omega) (by omega) q (DB.o 2 (by omega) (by omega));obtain ⟨Ak,ck,fk⟩:=SD.o.forms.2 2 (by omega) (by omega);rw [fk] at i6;have R5:=hid i6;have KF:=hid V0;have KP:=hid V1;have F5:=hid f5;have O5:=hid o5;have MJ:W5.cell? ⟨w2.heap.size,2,none⟩=some (vs 2):=f5.at_ 2;have MM:=f5.free 2;obtain ⟨W6,j8⟩:=qY (W5.setCell ⟨w2.heap.size,2,none⟩ (.slice A5 ((lsOf ⟨it,tmL,igL,bdL⟩ 2).length+1) c5));rw [j8] at S5;have S6:=hid S5;have cb:Wd.cell? ⟨w2.heap.size,2,none⟩=some (.slice Ak (lsOf ⟨it,tmL,igL,bdL⟩ 2).length ck):=by rw [<-fk];exact SD.o.f.at_ 2
         clear fk;have WJ:W6.cell? ⟨w2.heap.size+1,0,none⟩=some (kS over):=S6.o.o.at_ 0;have WK:=S6.o.o.free 0;have KE:Hid (bK W5 W6):=by rw [<-j8];exact bK.of_but F5.o (by decide) (fun j hj _=>Below.heap_setCell W5 ⟨w2.heap.size,2,none⟩ _ j hj)
         have KG:Hid (KeepsFrom w4.heap.size W5 W6):=by rw [<-j8];exact (KeepsOthers.setCell _ _ _).from _
         have C9:=hid (De (ig:=igB lo) (f:=⟨it,tmL,igL,bdL⟩) (n:=⟨kd,dt,tg,tm⟩) EO.o EN.o pz.o);clear i6 f5 o5 V0 V1 S5)
      | (gi_at_builtin
         refine eX rfl (.tmp 56) (.tmp 58) 34 34 rfl ⟨_,_,R5.o,?_⟩))
     have KO:Hid (bK W6 (W6.setCell ⟨w2.heap.size+1,0,none⟩ (kS q))):=bK.of_but S6.o.o (by decide) (fun j hj _=>Below.heap_setCell W6 ⟨w2.heap.size+1,0,none⟩ _ j hj);refine ⟨((((KeepsFrom.of_grownBy (bR pi.o) (fun _ e=>by cases e)).trans KF.o)).trans KG.o).trans ((KeepsOthers.setCell _ _ _).from _),((((bK.of_below pi.o).trans KP.o).trans KE.o).trans KO.o),(.slice A0 it.length c0),(updV vs 2 (.slice A5 ((lsOf ⟨it,tmL,igL,bdL⟩ 2).length+1) c5)),?_⟩;rw [M6.o _ C9.o];dsimp only;rw [On];exact S6.o.setO q
    | false =>
     cases bb with
     | true =>
      gi_wp2_with (first
       | (refine ⟨trivial,?_⟩
          gi_at_call 33
          refine (CallsIn.inRound il (callsIn_wide.2 (CT.o _))).mono ?_;rintro e6 Wx ⟨rfl,rfl⟩)
       | (refine ⟨trivial,?_⟩
          gi_at_call 52
          refine (CallsIn.inRound il (callsIn_wide.2 (CI.o _ BC.o))).mono ?_;rintro e7 Wd ⟨rfl,z4⟩;have pi:Hid (qW W Wd):=BC.o.trans (z4.mono BC.o.size);have SD:=hid (SC.o.on z4);clear z4;have ND:Hid (Has Wd I7 71 #[.int .i64 kd,kS dt,kS tg,.int .i64 tm]):=HN.o.kept pi.o HN.o.inside)
       | (refine gX rfl 71 (.tmp 12) rfl I7 0 rfl #[.int .i64 kd,kS dt,kS tg,.int .i64 tm] (eB ND.o) ?_)
       | (refine ⟨trivial,?_⟩
          gi_at_call 53
          refine (CallsIn.inRound il (callsIn_wide.2 (CB.o _))).mono ?_;rintro e8 We ⟨rfl,ve⟩;have BE:Hid (qW W We):=pi.o.trans (ve.mono pi.o.size);have SE:=hid (SD.o.on ve);clear ve;obtain ⟨A5,c5,W5,i6,f5,o5,V0,V1,S5⟩:=SE.o.app (k:=3) (by omega) (by omega) q (DB.o 3 (by omega) (by omega));obtain ⟨Ak,ck,fk⟩:=SE.o.forms.2 3 (by omega) (by omega);rw [fk] at i6;have R5:=hid i6;have KF:=hid V0;have KP:=hid V1;have F5:=hid f5;have O5:=hid o5;have MJ:W5.cell? ⟨w2.heap.size,3,none⟩=some (vs 3):=f5.at_ 3;have MM:=f5.free 3;obtain ⟨W6,j8⟩:=qY (W5.setCell ⟨w2.heap.size,3,none⟩ (.slice A5 ((lsOf ⟨it,tmL,igL,bdL⟩ 3).length+1) c5));rw [j8] at S5;have S6:=hid S5;have cb:We.cell? ⟨w2.heap.size,3,none⟩=some (.slice Ak (lsOf ⟨it,tmL,igL,bdL⟩ 3).length ck):=by rw [<-fk];exact SE.o.f.at_ 3
          clear fk;have KE:Hid (bK W5 W6):=by rw [<-j8];exact bK.of_but F5.o (by decide) (fun j hj _=>Below.heap_setCell W5 ⟨w2.heap.size,3,none⟩ _ j hj)
          have KG:Hid (KeepsFrom w4.heap.size W5 W6):=by rw [<-j8];exact (KeepsOthers.setCell _ _ _).from _
          have C9:=hid (vW (ig:=igB lo) (f:=⟨it,tmL,igL,bdL⟩) (n:=⟨kd,dt,tg,tm⟩) EO.o EN.o pz.o IY.o);clear i6 f5 o5 V0 V1 S5)
       | (gi_at_builtin
          refine eX rfl (.tmp 66) (.tmp 68) 34 34 rfl ⟨_,_,R5.o,?_⟩))
      refine ⟨(((KeepsFrom.of_grownBy (bR BE.o) (fun _ e=>by cases e)).trans KF.o).trans KG.o),(((bK.of_below BE.o).trans KP.o).trans KE.o),(.slice A0 it.length c0),(updV vs 3 (.slice A5 ((lsOf ⟨it,tmL,igL,bdL⟩ 3).length+1) c5)),?_⟩;rw [M6.o _ C9.o];dsimp only;rw [Rm];exact S6.o
     | false =>
      gi_wp2_with (first
       | (refine ⟨trivial,?_⟩
          gi_at_call 33
          refine (CallsIn.inRound il (callsIn_wide.2 (CT.o _))).mono ?_;rintro e6 Wx ⟨rfl,rfl⟩)
       | (refine ⟨trivial,?_⟩
          gi_at_call 52
          refine (CallsIn.inRound il (callsIn_wide.2 (CI.o _ BC.o))).mono ?_;rintro e7 Wd ⟨rfl,z4⟩;have pi:Hid (qW W Wd):=BC.o.trans (z4.mono BC.o.size);have SD:=hid (SC.o.on z4);clear z4;have ND:Hid (Has Wd I7 71 #[.int .i64 kd,kS dt,kS tg,.int .i64 tm]):=HN.o.kept pi.o HN.o.inside)
       | (refine gX rfl 71 (.tmp 12) rfl I7 0 rfl #[.int .i64 kd,kS dt,kS tg,.int .i64 tm] (eB ND.o) ?_)
       | (refine ⟨trivial,?_⟩
          gi_at_call 53
          refine (CallsIn.inRound il (callsIn_wide.2 (CB.o _))).mono ?_;rintro e8 We ⟨rfl,ve⟩;have BE:Hid (qW W We):=pi.o.trans (ve.mono pi.o.size);have SE:=hid (SD.o.on ve);clear ve))
      have C9:=hid (Ba (ig:=igB lo) (f:=⟨it,tmL,igL,bdL⟩) (n:=⟨kd,dt,tg,tm⟩) EO.o EN.o pz.o IY.o);obtain ⟨Wf,DC⟩:=qY (We.drew);have bf:qW We Wf:=DC▸qB.drew;have BF:Hid (qW W Wf):=BE.o.trans (bf.mono BE.o.size);have SF:=hid (SE.o.on bf);have JP:Has Wf I7 71 #[.int .i64 kd,kS dt,kS tg,.int .i64 tm]:=HN.o.kept BF.o HN.o.inside;clear bf SE BE;refine rX (S:=fun X=>Has X I7 71 #[.int .i64 kd,kS dt,kS tg,.int .i64 tm]) ob (by kernel_rfl) (by rw [DC];exact JP) (fun hS=>?_);clear hS;rw [DC];refine qK 0 rfl (by kernel_rfl) ‹_› (fun w a8=>by go_simp;with_reducible rfl) ?_;simp only [Act.put,aB,aA,aC];refine qK 2 rfl (by kernel_rfl) ‹_› (fun w a8=>by go_simp;with_reducible rfl) ?_;simp only [Act.put,aB,aA,aC];refine' qL 3 rfl (by kernel_rfl) (aY (by rfl) 71 (.tmp 12) rfl I7 0 rfl #[.int .i64 kd,kS dt,kS tg,.int .i64 tm] (fun X qr=>eB qr)) ‹_› ?_;simp only [Act.put,aB,aA,aC];have NH:=hid JP;clear JP;refine qE 1 4 rfl rfl (by kernel_rfl) (fun K hK=>?_) fun K hK=>?_
      .
       have c1:=(SF.o.f).at_ 0;go_simp;refine hK.o _ _ NH.o (fun hS=>?_);clear hK K hS c1;refine qD 4 rfl (by kernel_rfl) fun K hK=>?_
       go_simp;refine (CM.o trivial _ BF.o).mono ?_;rintro e9 Wg ⟨bv,rfl,qt,K8⟩;have BG:Hid (qW W Wg):=BF.o.trans (K8.mono BF.o.size);have SG:=hid (SF.o.on K8);have NG:Hid (Has Wg I7 71 #[.int .i64 kd,kS dt,kS tg,.int .i64 tm]):=NH.o.kept K8 NH.o.inside;have qu:Dgs w4.heap.size Wg bv (hasN ⟨kd,dt,tg,tm⟩):=qt.mono (Nat.le_trans HS.o.hB BF.o.size);obtain ⟨A5,c5,W5,i6,f5,V0,V1,qv,S5⟩:=SG.o.appI (q,⟨kd,dt,tg,tm⟩) bv qu SQ.o;have R5:=hid i6;have KF:=hid V0;have KP:=hid V1;have F5:=hid f5;obtain ⟨cs,s6⟩:=qY (recN q ⟨kd,dt,tg,tm⟩ bv);have P8:Hid (cs.size=27):=by rw [<-s6];rfl
       dsimp only at R5;rw [s6] at R5 ⊢;obtain ⟨W6,j8⟩:=qY (W5.setCell ⟨w2.heap.size,0,none⟩ (.slice A5 (it.length+1) c5));rw [j8] at S5;have S6:=hid S5;have KE:Hid (bK W5 W6):=by rw [<-j8];exact bK.of_but F5.o (by decide) (fun j hj _=>Below.heap_setCell W5 ⟨w2.heap.size,0,none⟩ _ j hj)
       have KG:Hid (KeepsFrom w4.heap.size W5 W6):=by rw [<-j8];exact (KeepsOthers.setCell _ _ _).from _
       have N5:Hid (Has W5 I7 71 #[.int .i64 kd,kS dt,kS tg,.int .i64 tm]):=qv _ _ _ NG.o (by decide);have N6:Hid (Has W6 I7 71 #[.int .i64 kd,kS dt,kS tg,.int .i64 tm]):=by rw [<-j8];exact N5.o.other (wU N5.o F5.o (by decide)) _
       clear qt K8 qu i6 f5 V0 V1 qv S5 s6;refine hK.o _ _ NG.o (fun hS=>?_);clear hK K hS;refine qD 5 rfl (by kernel_rfl) fun K hK=>?_
       refine eF (by rfl) (.tmp 29) rfl cs P8.o rfl ?_;refine hK.o _ _ (NG.o.more _) (fun hS=>?_);clear hK K hS;refine qD 6 rfl (by kernel_rfl) fun K hK=>?_
       refine aH (by rfl) (.tmp 26) (.tmp 30) 37 37 rfl (.slice A0 it.length c0) (.slice (some ⟨Wg.heap.size,0,none⟩) 1 1) rfl rfl R5.o ?_;have Y0:=N5.o;refine hK.o _ _ Y0 (fun hS=>?_);clear hK K hS;refine qK 7 rfl (by kernel_rfl) ‹_› (fun w a8=>by go_simp;with_reducible rfl) ?_;simp only [Act.put,aB,aA,aC];clear Y0;refine qD 8 rfl (by kernel_rfl) fun K hK=>?_
       have hc:=F5.o.at_ 0;have hf:=F5.o.free 0;go_simp;try rw [j8]
       refine hK.o _ _ N6.o (fun hS=>?_);clear hK K hS hc hf;refine wpAnyH_done (by kernel_rfl) ?_ _;refine fQ.normal ?_;gi_wp2;refine ⟨(((KeepsFrom.of_grownBy (bR BG.o) (fun _ e=>by cases e)).trans KF.o).trans KG.o),(((bK.of_below BG.o).trans KP.o).trans KE.o),.slice A5 (it.length+1) c5,vs,?_⟩;rw [M6.o _ C9.o];dsimp only;exact S6.o
      go_simp;refine (CM.o trivial _ BF.o).mono ?_;rintro e9 Wg ⟨bv,rfl,qt,K8⟩;have BG:Hid (qW W Wg):=BF.o.trans (K8.mono BF.o.size);have SG:=hid (SF.o.on K8);have NG:Hid (Has Wg I7 71 #[.int .i64 kd,kS dt,kS tg,.int .i64 tm]):=NH.o.kept K8 NH.o.inside;have qu:Dgs w4.heap.size Wg bv (hasN ⟨kd,dt,tg,tm⟩):=qt.mono (Nat.le_trans HS.o.hB BF.o.size);obtain ⟨A5,c5,W5,i6,f5,V0,V1,qv,S5⟩:=SG.o.appI (q,⟨kd,dt,tg,tm⟩) bv qu SQ.o;have R5:=hid i6;have KF:=hid V0;have KP:=hid V1;have F5:=hid f5;obtain ⟨cs,s6⟩:=qY (recN q ⟨kd,dt,tg,tm⟩ bv);have P8:Hid (cs.size=27):=by rw [<-s6];rfl
      dsimp only at R5;rw [s6] at R5 ⊢;obtain ⟨W6,j8⟩:=qY (W5.setCell ⟨w2.heap.size,0,none⟩ (.slice A5 (it.length+1) c5));rw [j8] at S5;have S6:=hid S5;have KE:Hid (bK W5 W6):=by rw [<-j8];exact bK.of_but F5.o (by decide) (fun j hj _=>Below.heap_setCell W5 ⟨w2.heap.size,0,none⟩ _ j hj)
      have KG:Hid (KeepsFrom w4.heap.size W5 W6):=by rw [<-j8];exact (KeepsOthers.setCell _ _ _).from _
      have N5:Hid (Has W5 I7 71 #[.int .i64 kd,kS dt,kS tg,.int .i64 tm]):=qv _ _ _ NG.o (by decide);have N6:Hid (Has W6 I7 71 #[.int .i64 kd,kS dt,kS tg,.int .i64 tm]):=by rw [<-j8];exact N5.o.other (wU N5.o F5.o (by decide)) _
      clear qt K8 qu i6 f5 V0 V1 qv S5 s6;refine hK.o _ _ NG.o (fun hS=>?_);clear hK K hS;refine qE 1 5 rfl rfl (by kernel_rfl) (fun K hK=>?_) fun K hK=>?_
      .
       have c1:=(SG.o.f).at_ 0;go_simp;refine hK.o _ _ NG.o (fun hS=>?_);clear hK K hS c1;refine qD 5 rfl (by kernel_rfl) fun K hK=>?_
       refine eF (by rfl) (.tmp 29) rfl cs P8.o rfl ?_;refine hK.o _ _ (NG.o.more _) (fun hS=>?_);clear hK K hS;refine qD 6 rfl (by kernel_rfl) fun K hK=>?_
       refine aH (by rfl) (.tmp 26) (.tmp 30) 37 37 rfl (.slice A0 it.length c0) (.slice (some ⟨Wg.heap.size,0,none⟩) 1 1) rfl rfl R5.o ?_;have Y0:=N5.o;refine hK.o _ _ Y0 (fun hS=>?_);clear hK K hS;refine qK 7 rfl (by kernel_rfl) ‹_› (fun w a8=>by go_simp;with_reducible rfl) ?_;simp only [Act.put,aB,aA,aC];clear Y0;refine qD 8 rfl (by kernel_rfl) fun K hK=>?_
       have hc:=F5.o.at_ 0;have hf:=F5.o.free 0;go_simp;try rw [j8]
       refine hK.o _ _ N6.o (fun hS=>?_);clear hK K hS hc hf;refine wpAnyH_done (by kernel_rfl) ?_ _;refine fQ.normal ?_;gi_wp2;refine ⟨(((KeepsFrom.of_grownBy (bR BG.o) (fun _ e=>by cases e)).trans KF.o).trans KG.o),(((bK.of_below BG.o).trans KP.o).trans KE.o),.slice A5 (it.length+1) c5,vs,?_⟩;rw [M6.o _ C9.o];dsimp only;exact S6.o
      refine eF (by rfl) (.tmp 29) rfl cs P8.o rfl ?_;refine hK.o _ _ (NG.o.more _) (fun hS=>?_);clear hK K hS;refine qD 1 rfl (by kernel_rfl) fun K hK=>?_
      have c1:=(SG.o.f.more (.cells cs 58)).at_ 0;go_simp;refine hK.o _ _ (NG.o.more _) (fun hS=>?_);clear hK K hS c1;refine qD 6 rfl (by kernel_rfl) fun K hK=>?_
      refine aH (by rfl) (.tmp 26) (.tmp 30) 37 37 rfl (.slice A0 it.length c0) (.slice (some ⟨Wg.heap.size,0,none⟩) 1 1) rfl rfl R5.o ?_;have Y0:=N5.o;refine hK.o _ _ Y0 (fun hS=>?_);clear hK K hS;refine qK 7 rfl (by kernel_rfl) ‹_› (fun w a8=>by go_simp;with_reducible rfl) ?_;simp only [Act.put,aB,aA,aC];clear Y0;refine qD 8 rfl (by kernel_rfl) fun K hK=>?_
      have hc:=F5.o.at_ 0;have hf:=F5.o.free 0;go_simp;try rw [j8]
      refine hK.o _ _ N6.o (fun hS=>?_);clear hK K hS hc hf;refine wpAnyH_done (by kernel_rfl) ?_ _;refine fQ.normal ?_;gi_wp2;refine ⟨(((KeepsFrom.of_grownBy (bR BG.o) (fun _ e=>by cases e)).trans KF.o).trans KG.o),(((bK.of_below BG.o).trans KP.o).trans KE.o),.slice A5 (it.length+1) c5,vs,?_⟩;rw [M6.o _ C9.o];dsimp only;exact S6.o
  have e1:¬(ba over).toList=[]:=by rw [aP,aQ];exact ho
  have e2:(ba over).toList.isEmpty=false:=by simpa using e1
  have yh:Hid (dB over q=bw):=by show _=_;unfold dB;rw [decide_eq_false ho,uq.o];rfl
  clear ho
  cases bw with
  | true =>
   gi_wp2_with (refine ⟨trivial,?_⟩;gi_at_call 51;refine (CallsIn.inRound il (callsIn_wide.2 (CW.o _ qB))).mono ?_;rintro e5 Wc ⟨rfl,z6⟩)
   refine ⟨KeepsFrom.of_grownBy (bR z6) (fun _ e=>by cases e),bK.of_below z6,(.slice A0 it.length c0),vs,?_⟩;rw [M6.o _ (step_skip yh.o)];exact HS.o.on z6
  | false =>
   gi_wp2;refine ⟨trivial,?_⟩;gi_at_call 51
   refine (CallsIn.inRound il (callsIn_wide.2 (CW.o _ qB))).mono ?_;rintro e5 Wc ⟨rfl,z6⟩;have BC:Hid (qW W Wc):=z6;have SC:=hid (HS.o.on z6);have EO:=yh;clear z6
   cases bt with
   | true =>
    obtain ⟨A5,c5,W5,i6,f5,o5,V0,V1,S5⟩:=SC.o.app (k:=1) (by omega) (by omega) q (DB.o 1 (by omega) (by omega));obtain ⟨Ak,ck,fk⟩:=SC.o.forms.2 1 (by omega) (by omega);rw [fk] at i6;have R5:=hid i6;have KF:=hid V0;have KP:=hid V1;have F5:=hid f5;have O5:=hid o5;have MJ:W5.cell? ⟨w2.heap.size,1,none⟩=some (vs 1):=f5.at_ 1;have MM:=f5.free 1;obtain ⟨W6,j8⟩:=qY (W5.setCell ⟨w2.heap.size,1,none⟩ (.slice A5 ((lsOf ⟨it,tmL,igL,bdL⟩ 1).length+1) c5));rw [j8] at S5;have S6:=hid S5;have cb:Wc.cell? ⟨w2.heap.size,1,none⟩=some (.slice Ak (lsOf ⟨it,tmL,igL,bdL⟩ 1).length ck):=by rw [<-fk];exact SC.o.f.at_ 1
    clear fk;have WJ:W6.cell? ⟨w2.heap.size+1,0,none⟩=some (kS over):=S6.o.o.at_ 0;have WK:=S6.o.o.free 0;have KE:Hid (bK W5 W6):=by rw [<-j8];exact bK.of_but F5.o (by decide) (fun j hj _=>Below.heap_setCell W5 ⟨w2.heap.size,1,none⟩ _ j hj)
    have KG:Hid (KeepsFrom w4.heap.size W5 W6):=by rw [<-j8];exact (KeepsOthers.setCell _ _ _).from _
    have C9:=hid (Ab (ig:=igB lo) (f:=⟨it,tmL,igL,bdL⟩) (n:=⟨kd,dt,tg,tm⟩) EO.o EN.o);clear i6 f5 o5 V0 V1 S5;gi_wp2_with (first
     | (refine ⟨trivial,?_⟩
        gi_at_call 33
        refine (CallsIn.inRound il (callsIn_wide.2 (CT.o _))).mono ?_;rintro e6 Wx ⟨rfl,rfl⟩)
     | (gi_at_builtin
        refine eX rfl (.tmp 45) (.tmp 47) 34 34 rfl ⟨_,_,R5.o,?_⟩))
    have KO:Hid (bK W6 (W6.setCell ⟨w2.heap.size+1,0,none⟩ (kS q))):=bK.of_but S6.o.o (by decide) (fun j hj _=>Below.heap_setCell W6 ⟨w2.heap.size+1,0,none⟩ _ j hj);refine ⟨((((KeepsFrom.of_grownBy (bR BC.o) (fun _ e=>by cases e)).trans KF.o)).trans KG.o).trans ((KeepsOthers.setCell _ _ _).from _),((((bK.of_below BC.o).trans KP.o).trans KE.o).trans KO.o),(.slice A0 it.length c0),(updV vs 1 (.slice A5 ((lsOf ⟨it,tmL,igL,bdL⟩ 1).length+1) c5)),?_⟩;rw [M6.o _ C9.o];dsimp only;rw [No];exact S6.o.setO q
   | false =>
    have ci:Wc.cell? ⟨w.heap.size,0,none⟩=some v:=SC.o.l.at_ 0
    cases bi with
    | true =>
     gi_wp2_with (first
      | (refine ⟨trivial,?_⟩
         gi_at_call 33
         refine (CallsIn.inRound il (callsIn_wide.2 (CT.o _))).mono ?_;rintro e6 Wx ⟨rfl,rfl⟩)
      | (refine ⟨trivial,?_⟩
         gi_at_call 52
         refine (CallsIn.inRound il (callsIn_wide.2 (CI.o _ BC.o))).mono ?_;rintro e7 Wd ⟨rfl,z4⟩;have pi:Hid (qW W Wd):=BC.o.trans (z4.mono BC.o.size);have SD:=hid (SC.o.on z4);clear z4;obtain ⟨A5,c5,W5,i6,f5,o5,V0,V1,S5⟩:=SD.o.app (k:=2) (by omega) (by omega) q (DB.o 2 (by omega) (by omega));obtain ⟨Ak,ck,fk⟩:=SD.o.forms.2 2 (by omega) (by omega);rw [fk] at i6;have R5:=hid i6;have KF:=hid V0;have KP:=hid V1;have F5:=hid f5;have O5:=hid o5;have MJ:W5.cell? ⟨w2.heap.size,2,none⟩=some (vs 2):=f5.at_ 2;have MM:=f5.free 2;obtain ⟨W6,j8⟩:=qY (W5.setCell ⟨w2.heap.size,2,none⟩ (.slice A5 ((lsOf ⟨it,tmL,igL,bdL⟩ 2).length+1) c5));rw [j8] at S5;have S6:=hid S5;have cb:Wd.cell? ⟨w2.heap.size,2,none⟩=some (.slice Ak (lsOf ⟨it,tmL,igL,bdL⟩ 2).length ck):=by rw [<-fk];exact SD.o.f.at_ 2
         clear fk;have WJ:W6.cell? ⟨w2.heap.size+1,0,none⟩=some (kS over):=S6.o.o.at_ 0;have WK:=S6.o.o.free 0;have KE:Hid (bK W5 W6):=by rw [<-j8];exact bK.of_but F5.o (by decide) (fun j hj _=>Below.heap_setCell W5 ⟨w2.heap.size,2,none⟩ _ j hj)
         have KG:Hid (KeepsFrom w4.heap.size W5 W6):=by rw [<-j8];exact (KeepsOthers.setCell _ _ _).from _
         have C9:=hid (De (ig:=igB lo) (f:=⟨it,tmL,igL,bdL⟩) (n:=⟨kd,dt,tg,tm⟩) EO.o EN.o pz.o);clear i6 f5 o5 V0 V1 S5)
      | (gi_at_builtin
         refine eX rfl (.tmp 56) (.tmp 58) 34 34 rfl ⟨_,_,R5.o,?_⟩))
     have KO:Hid (bK W6 (W6.setCell ⟨w2.heap.size+1,0,none⟩ (kS q))):=bK.of_but S6.o.o (by decide) (fun j hj _=>Below.heap_setCell W6 ⟨w2.heap.size+1,0,none⟩ _ j hj);refine ⟨((((KeepsFrom.of_grownBy (bR pi.o) (fun _ e=>by cases e)).trans KF.o)).trans KG.o).trans ((KeepsOthers.setCell _ _ _).from _),((((bK.of_below pi.o).trans KP.o).trans KE.o).trans KO.o),(.slice A0 it.length c0),(updV vs 2 (.slice A5 ((lsOf ⟨it,tmL,igL,bdL⟩ 2).length+1) c5)),?_⟩;rw [M6.o _ C9.o];dsimp only;rw [On];exact S6.o.setO q
    | false =>
     cases bb with
     | true =>
      gi_wp2_with (first
       | (refine ⟨trivial,?_⟩
          gi_at_call 33
          refine (CallsIn.inRound il (callsIn_wide.2 (CT.o _))).mono ?_;rintro e6 Wx ⟨rfl,rfl⟩)
       | (refine ⟨trivial,?_⟩
          gi_at_call 52
          refine (CallsIn.inRound il (callsIn_wide.2 (CI.o _ BC.o))).mono ?_;rintro e7 Wd ⟨rfl,z4⟩;have pi:Hid (qW W Wd):=BC.o.trans (z4.mono BC.o.size);have SD:=hid (SC.o.on z4);clear z4;have ND:Hid (Has Wd I7 71 #[.int .i64 kd,kS dt,kS tg,.int .i64 tm]):=HN.o.kept pi.o HN.o.inside)
       | (refine gX rfl 71 (.tmp 12) rfl I7 0 rfl #[.int .i64 kd,kS dt,kS tg,.int .i64 tm] (eB ND.o) ?_)
       | (refine ⟨trivial,?_⟩
          gi_at_call 53
          refine (CallsIn.inRound il (callsIn_wide.2 (CB.o _))).mono ?_;rintro e8 We ⟨rfl,ve⟩;have BE:Hid (qW W We):=pi.o.trans (ve.mono pi.o.size);have SE:=hid (SD.o.on ve);clear ve;obtain ⟨A5,c5,W5,i6,f5,o5,V0,V1,S5⟩:=SE.o.app (k:=3) (by omega) (by omega) q (DB.o 3 (by omega) (by omega));obtain ⟨Ak,ck,fk⟩:=SE.o.forms.2 3 (by omega) (by omega);rw [fk] at i6;have R5:=hid i6;have KF:=hid V0;have KP:=hid V1;have F5:=hid f5;have O5:=hid o5;have MJ:W5.cell? ⟨w2.heap.size,3,none⟩=some (vs 3):=f5.at_ 3;have MM:=f5.free 3;obtain ⟨W6,j8⟩:=qY (W5.setCell ⟨w2.heap.size,3,none⟩ (.slice A5 ((lsOf ⟨it,tmL,igL,bdL⟩ 3).length+1) c5));rw [j8] at S5;have S6:=hid S5;have cb:We.cell? ⟨w2.heap.size,3,none⟩=some (.slice Ak (lsOf ⟨it,tmL,igL,bdL⟩ 3).length ck):=by rw [<-fk];exact SE.o.f.at_ 3
          clear fk;have KE:Hid (bK W5 W6):=by rw [<-j8];exact bK.of_but F5.o (by decide) (fun j hj _=>Below.heap_setCell W5 ⟨w2.heap.size,3,none⟩ _ j hj)
          have KG:Hid (KeepsFrom w4.heap.size W5 W6):=by rw [<-j8];exact (KeepsOthers.setCell _ _ _).from _
          have C9:=hid (vW (ig:=igB lo) (f:=⟨it,tmL,igL,bdL⟩) (n:=⟨kd,dt,tg,tm⟩) EO.o EN.o pz.o IY.o);clear i6 f5 o5 V0 V1 S5)
       | (gi_at_builtin
          refine eX rfl (.tmp 66) (.tmp 68) 34 34 rfl ⟨_,_,R5.o,?_⟩))
      refine ⟨(((KeepsFrom.of_grownBy (bR BE.o) (fun _ e=>by cases e)).trans KF.o).trans KG.o),(((bK.of_below BE.o).trans KP.o).trans KE.o),(.slice A0 it.length c0),(updV vs 3 (.slice A5 ((lsOf ⟨it,tmL,igL,bdL⟩ 3).length+1) c5)),?_⟩;rw [M6.o _ C9.o];dsimp only;rw [Rm];exact S6.o
     | false =>
      gi_wp2_with (first
       | (refine ⟨trivial,?_⟩
          gi_at_call 33
          refine (CallsIn.inRound il (callsIn_wide.2 (CT.o _))).mono ?_;rintro e6 Wx ⟨rfl,rfl⟩)
       | (refine ⟨trivial,?_⟩
          gi_at_call 52
          refine (CallsIn.inRound il (callsIn_wide.2 (CI.o _ BC.o))).mono ?_;rintro e7 Wd ⟨rfl,z4⟩;have pi:Hid (qW W Wd):=BC.o.trans (z4.mono BC.o.size);have SD:=hid (SC.o.on z4);clear z4;have ND:Hid (Has Wd I7 71 #[.int .i64 kd,kS dt,kS tg,.int .i64 tm]):=HN.o.kept pi.o HN.o.inside)
       | (refine gX rfl 71 (.tmp 12) rfl I7 0 rfl #[.int .i64 kd,kS dt,kS tg,.int .i64 tm] (eB ND.o) ?_)
       | (refine ⟨trivial,?_⟩
          gi_at_call 53
          refine (CallsIn.inRound il (callsIn_wide.2 (CB.o _))).mono ?_;rintro e8 We ⟨rfl,ve⟩;have BE:Hid (qW W We):=pi.o.trans (ve.mono pi.o.size);have SE:=hid (SD.o.on ve);clear ve))
      have C9:=hid (Ba (ig:=igB lo) (f:=⟨it,tmL,igL,bdL⟩) (n:=⟨kd,dt,tg,tm⟩) EO.o EN.o pz.o IY.o);obtain ⟨Wf,DC⟩:=qY (We.drew);have bf:qW We Wf:=DC▸qB.drew;have BF:Hid (qW W Wf):=BE.o.trans (bf.mono BE.o.size);have SF:=hid (SE.o.on bf);have JP:Has Wf I7 71 #[.int .i64 kd,kS dt,kS tg,.int .i64 tm]:=HN.o.kept BF.o HN.o.inside;clear bf SE BE;refine rX (S:=fun X=>Has X I7 71 #[.int .i64 kd,kS dt,kS tg,.int .i64 tm]) ob (by kernel_rfl) (by rw [DC];exact JP) (fun hS=>?_);clear hS;rw [DC];refine qK 0 rfl (by kernel_rfl) ‹_› (fun w a8=>by go_simp;with_reducible rfl) ?_;simp only [Act.put,aB,aA,aC];refine qK 2 rfl (by kernel_rfl) ‹_› (fun w a8=>by go_simp;with_reducible rfl) ?_;simp only [Act.put,aB,aA,aC];refine' qL 3 rfl (by kernel_rfl) (aY (by rfl) 71 (.tmp 12) rfl I7 0 rfl #[.int .i64 kd,kS dt,kS tg,.int .i64 tm] (fun X qr=>eB qr)) ‹_› ?_;simp only [Act.put,aB,aA,aC];have NH:=hid JP;clear JP;refine qE 1 4 rfl rfl (by kernel_rfl) (fun K hK=>?_) fun K hK=>?_
      .
       have c1:=(SF.o.f).at_ 0;go_simp;refine hK.o _ _ NH.o (fun hS=>?_);clear hK K hS c1;refine qD 4 rfl (by kernel_rfl) fun K hK=>?_
       go_simp;refine (CM.o trivial _ BF.o).mono ?_;rintro e9 Wg ⟨bv,rfl,qt,K8⟩;have BG:Hid (qW W Wg):=BF.o.trans (K8.mono BF.o.size);have SG:=hid (SF.o.on K8);have NG:Hid (Has Wg I7 71 #[.int .i64 kd,kS dt,kS tg,.int .i64 tm]):=NH.o.kept K8 NH.o.inside;have qu:Dgs w4.heap.size Wg bv (hasN ⟨kd,dt,tg,tm⟩):=qt.mono (Nat.le_trans HS.o.hB BF.o.size);obtain ⟨A5,c5,W5,i6,f5,V0,V1,qv,S5⟩:=SG.o.appI (q,⟨kd,dt,tg,tm⟩) bv qu SQ.o;have R5:=hid i6;have KF:=hid V0;have KP:=hid V1;have F5:=hid f5;obtain ⟨cs,s6⟩:=qY (recN q ⟨kd,dt,tg,tm⟩ bv);have P8:Hid (cs.size=27):=by rw [<-s6];rfl
       dsimp only at R5;rw [s6] at R5 ⊢;obtain ⟨W6,j8⟩:=qY (W5.setCell ⟨w2.heap.size,0,none⟩ (.slice A5 (it.length+1) c5));rw [j8] at S5;have S6:=hid S5;have KE:Hid (bK W5 W6):=by rw [<-j8];exact bK.of_but F5.o (by decide) (fun j hj _=>Below.heap_setCell W5 ⟨w2.heap.size,0,none⟩ _ j hj)
       have KG:Hid (KeepsFrom w4.heap.size W5 W6):=by rw [<-j8];exact (KeepsOthers.setCell _ _ _).from _
       have N5:Hid (Has W5 I7 71 #[.int .i64 kd,kS dt,kS tg,.int .i64 tm]):=qv _ _ _ NG.o (by decide);have N6:Hid (Has W6 I7 71 #[.int .i64 kd,kS dt,kS tg,.int .i64 tm]):=by rw [<-j8];exact N5.o.other (wU N5.o F5.o (by decide)) _
       clear qt K8 qu i6 f5 V0 V1 qv S5 s6;refine hK.o _ _ NG.o (fun hS=>?_);clear hK K hS;refine qD 5 rfl (by kernel_rfl) fun K hK=>?_
       refine eF (by rfl) (.tmp 29) rfl cs P8.o rfl ?_;refine hK.o _ _ (NG.o.more _) (fun hS=>?_);clear hK K hS;refine qD 6 rfl (by kernel_rfl) fun K hK=>?_
       refine aH (by rfl) (.tmp 26) (.tmp 30) 37 37 rfl (.slice A0 it.length c0) (.slice (some ⟨Wg.heap.size,0,none⟩) 1 1) rfl rfl R5.o ?_;have Y0:=N5.o;refine hK.o _ _ Y0 (fun hS=>?_);clear hK K hS;refine qK 7 rfl (by kernel_rfl) ‹_› (fun w a8=>by go_simp;with_reducible rfl) ?_;simp only [Act.put,aB,aA,aC];clear Y0;refine qD 8 rfl (by kernel_rfl) fun K hK=>?_
       have hc:=F5.o.at_ 0;have hf:=F5.o.free 0;go_simp;try rw [j8]
       refine hK.o _ _ N6.o (fun hS=>?_);clear hK K hS hc hf;refine wpAnyH_done (by kernel_rfl) ?_ _;refine fQ.normal ?_;gi_wp2;refine ⟨(((KeepsFrom.of_grownBy (bR BG.o) (fun _ e=>by cases e)).trans KF.o).trans KG.o),(((bK.of_below BG.o).trans KP.o).trans KE.o),.slice A5 (it.length+1) c5,vs,?_⟩;rw [M6.o _ C9.o];dsimp only;exact S6.o
      go_simp;refine (CM.o trivial _ BF.o).mono ?_;rintro e9 Wg ⟨bv,rfl,qt,K8⟩;have BG:Hid (qW W Wg):=BF.o.trans (K8.mono BF.o.size);have SG:=hid (SF.o.on K8);have NG:Hid (Has Wg I7 71 #[.int .i64 kd,kS dt,kS tg,.int .i64 tm]):=NH.o.kept K8 NH.o.inside;have qu:Dgs w4.heap.size Wg bv (hasN ⟨kd,dt,tg,tm⟩):=qt.mono (Nat.le_trans HS.o.hB BF.o.size);obtain ⟨A5,c5,W5,i6,f5,V0,V1,qv,S5⟩:=SG.o.appI (q,⟨kd,dt,tg,tm⟩) bv qu SQ.o;have R5:=hid i6;have KF:=hid V0;have KP:=hid V1;have F5:=hid f5;obtain ⟨cs,s6⟩:=qY (recN q ⟨kd,dt,tg,tm⟩ bv);have P8:Hid (cs.size=27):=by rw [<-s6];rfl
      dsimp only at R5;rw [s6] at R5 ⊢;obtain ⟨W6,j8⟩:=qY (W5.setCell ⟨w2.heap.size,0,none⟩ (.slice A5 (it.length+1) c5));rw [j8] at S5;have S6:=hid S5;have KE:Hid (bK W5 W6):=by rw [<-j8];exact bK.of_but F5.o (by decide) (fun j hj _=>Below.heap_setCell W5 ⟨w2.heap.size,0,none⟩ _ j hj)
      have KG:Hid (KeepsFrom w4.heap.size W5 W6):=by rw [<-j8];exact (KeepsOthers.setCell _ _ _).from _
      have N5:Hid (Has W5 I7 71 #[.int .i64 kd,kS dt,kS tg,.int .i64 tm]):=qv _ _ _ NG.o (by decide);have N6:Hid (Has W6 I7 71 #[.int .i64 kd,kS dt,kS tg,.int .i64 tm]):=by rw [<-j8];exact N5.o.other (wU N5.o F5.o (by decide)) _
      clear qt K8 qu i6 f5 V0 V1 qv S5 s6;refine hK.o _ _ NG.o (fun hS=>?_);clear hK K hS;refine qE 1 5 rfl rfl (by kernel_rfl) (fun K hK=>?_) fun K hK=>?_
      .
       have c1:=(SG.o.f).at_ 0;go_simp;refine hK.o _ _ NG.o (fun hS=>?_);clear hK K hS c1;refine qD 5 rfl (by kernel_rfl) fun K hK=>?_
       refine eF (by rfl) (.tmp 29) rfl cs P8.o rfl ?_;refine hK.o _ _ (NG.o.more _) (fun hS=>?_);clear hK K hS;refine qD 6 rfl (by kernel_rfl) fun K hK=>?_
       refine aH (by rfl) (.tmp 26) (.tmp 30) 37 37 rfl (.slice A0 it.length c0) (.slice (some ⟨Wg.heap.size,0,none⟩) 1 1) rfl rfl R5.o ?_;have Y0:=N5.o;refine hK.o _ _ Y0 (fun hS=>?_);clear hK K hS;refine qK 7 rfl (by kernel_rfl) ‹_› (fun w a8=>by go_simp;with_reducible rfl) ?_;simp only [Act.put,aB,aA,aC];clear Y0;refine qD 8 rfl (by kernel_rfl) fun K hK=>?_
       have hc:=F5.o.at_ 0;have hf:=F5.o.free 0;go_simp;try rw [j8]
       refine hK.o _ _ N6.o (fun hS=>?_);clear hK K hS hc hf;refine wpAnyH_done (by kernel_rfl) ?_ _;refine fQ.normal ?_;gi_wp2;refine ⟨(((KeepsFrom.of_grownBy (bR BG.o) (fun _ e=>by cases e)).trans KF.o).trans KG.o),(((bK.of_below BG.o).trans KP.o).trans KE.o),.slice A5 (it.length+1) c5,vs,?_⟩;rw [M6.o _ C9.o];dsimp only;exact S6.o
      refine eF (by rfl) (.tmp 29) rfl cs P8.o rfl ?_;refine hK.o _ _ (NG.o.more _) (fun hS=>?_);clear hK K hS;refine qD 1 rfl (by kernel_rfl) fun K hK=>?_
      have c1:=(SG.o.f.more (.cells cs 58)).at_ 0;go_simp;refine hK.o _ _ (NG.o.more _) (fun hS=>?_);clear hK K hS c1;refine qD 6 rfl (by kernel_rfl) fun K hK=>?_
      refine aH (by rfl) (.tmp 26) (.tmp 30) 37 37 rfl (.slice A0 it.length c0) (.slice (some ⟨Wg.heap.size,0,none⟩) 1 1) rfl rfl R5.o ?_;have Y0:=N5.o;refine hK.o _ _ Y0 (fun hS=>?_);clear hK K hS;refine qK 7 rfl (by kernel_rfl) ‹_› (fun w a8=>by go_simp;with_reducible rfl) ?_;simp only [Act.put,aB,aA,aC];clear Y0;refine qD 8 rfl (by kernel_rfl) fun K hK=>?_
      have hc:=F5.o.at_ 0;have hf:=F5.o.free 0;go_simp;try rw [j8]
      refine hK.o _ _ N6.o (fun hS=>?_);clear hK K hS hc hf;refine wpAnyH_done (by kernel_rfl) ?_ _;refine fQ.normal ?_;gi_wp2;refine ⟨(((KeepsFrom.of_grownBy (bR BG.o) (fun _ e=>by cases e)).trans KF.o).trans KG.o),(((bK.of_below BG.o).trans KP.o).trans KE.o),.slice A5 (it.length+1) c5,vs,?_⟩;rw [M6.o _ C9.o];dsimp only;exact S6.o
 have q:(c != 0)=true:=by simpa using hc
 rw [if_neg hc];clear hc;go_wp2_with fail
 rw [r6];refine CN.o.mono ?_;rintro e2 w2 ⟨rfl,a9⟩;have B2:Hid (qW w w2):=B1.o.trans (a9.mono B1.o.size);have GJ:Hid (Has w2 (w.heap.size+1) 39 #[.slice none 0 0,.slice none 0 0,.slice none 0 0,.slice none 0 0]):=SN.o.kept a9 SN.o.inside;clear a9 r6;go_wp2_with (refine wpList_store_row rfl 39 (.tmp 6) (.tmp 18) rfl (w.heap.size+1) #[.slice none 0 0,.slice none 0 0,.slice none 0 0,.slice none 0 0] rfl rfl 39 _ GJ.o (by kernel_rfl) rfl (by simp [Value.oneCell']) ?_)
 refine ⟨_,rH rfl _ _ (w.heap.size+1) _ rfl GJ.o.row rfl,?_⟩;exact ⟨.slice none 0 0,fun _=>.slice none 0 0,rfl,cO.nil _ _,fun k _ _=>StrR.none _ _ k,B2.o.rowK (by omega) _⟩
end Go.Proofs.YtahkcemdbfjilaaGreatDoor
