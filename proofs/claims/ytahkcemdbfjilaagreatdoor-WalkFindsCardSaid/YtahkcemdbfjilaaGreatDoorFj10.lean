/- Texts. Conditions: as said. -/
import Derived.Test.YtahkcemdbfjilaaGreatDoorFj00
import Derived.Test.YtahkcemdbfjilaaGreatDoorFj09
set_option linter.all false
set_option maxRecDepth 100000
set_option maxHeartbeats 32000000
namespace Go.Proofs.YtahkcemdbfjilaaGreatDoor
open Go.RowKit Go.Maps
def lZ (dO:Int) (p q d:By) (t m:Int) (pk:Bool):Array Value:=#[.int .i64 dO,kS p,kS q,kS d,.int .i64 t,.int .i64 m,.bool pk]
structure Rw where
 dO:Int
 p:By
 q:By
 d:By
 tm:Int
def rwC (e:Rw):Array Value:=lZ e.dO e.p e.q e.d e.tm 0 false
def xJ (e:Rw):Eff:=if e.dO=1 then .write e.p e.d e.tm else if e.dO=2 then .append e.p e.d else if e.dO=3 then .mkdir e.p else if e.dO=4 then .link e.p e.d e.tm else if e.dO=5 then .rename e.p e.q else .remove e.p
structure RwOk (e:Rw):Prop where
 k0:1<=e.dO
 k1:e.dO<=6
 ld:e.d.length<=100000000
 kk:e.dO=1∨e.dO=3∨e.dO=4
def dX (es:List Rw):List Value:=es.flatMap fun e=>(rwC e).toList
def gD (B:Nat) (w:World) (v:Value) (es:List Rw):Prop:=w.ownsRow B 99 7 v es.length (dX es)
def Fg (es:List Rw) (e:Rw):dX (es++[e])=dX es++(rwC e).toList:=by simp [dX]
def gD.nil (B:Nat) (w:World):gD B w (.slice none 0 0) []:=World.ownsRow_nil _ _ _ _
def gD.form {B:Nat} {w:World} {v:Value} {es:List Rw} (h:gD B w v es):∃A c,v=.slice A es.length c:=by
 rcases h.2 with ⟨h1,h2⟩ | ⟨g,c,cur,h1,_⟩
 . exact ⟨none,0,by rw [h1,h2]⟩
 exact ⟨some ⟨g,0,none⟩,c,h1⟩
def iz:(Tryz.prog.info? 99).map (fun i=>(i.zero,i.size,i.bytes))=some (some (.agg #[.int .i64 0,.string ⟨#[]⟩,.string ⟨#[]⟩,.string ⟨#[]⟩,.int .i64 0,.int .i64 0,.bool false]),7,80):=by kernel_rfl
def Oa (w:World) (B:Nat) (v:Value) (es:List Rw) (h:gD B w v es) (x:Rw) (g:Nat) (hg:Has w g 99 (rwC x)) (hn:es.length<=100000) (hB:B<=w.heap.size) (ty:TypeId) :
 ∃v' w',(Builtin.append_ #[49,49] ty #[v,.slice (some ⟨g,0,none⟩) 1 1]).run Tryz.prog w=.ok v' w'/\gD B w' v' (es++[x])/\w.grownBy w' v.ownBlock/\(v'.ownBlock=v.ownBlock∨v'.ownBlock=some w.heap.size):=by
 obtain ⟨i0,hi,o7,g8,j5⟩:=info_parts iz;obtain ⟨v',w',hr,ho,vn,hx,hv⟩:=run_append_own_at (P:=Tryz.prog) w B 49 ty 99 i0 _ 7 80 Tryz.underlying49 hi o7 g8 j5 (by simp [Value.cells]) (by omega) v es.length (dX es) h ⟨g,0,none⟩ 1 1 (rwC x).toList rfl
  (fun j u hj=>by
    rw [bY,Nat.zero_add,hg.at_ j];rw [<-Array.getElem?_toList];exact hj) (fun u hu=>by
    simp only [rwC,lZ,List.mem_cons,List.not_mem_nil,or_false] at hu;rcases hu with rfl | rfl | rfl | rfl | rfl | rfl | rfl<;>rfl) (by unfold maxLen;omega) (by omega) hB
 refine ⟨v',w',hr,?_,vn,?_⟩
 . unfold gD
   rw [Fg,List.length_append];exact ho
 exact hv
def Ej (w:World) (x:Rw) :
 (Instr.buildSlice 49 1 #[(0,Value.agg (rwC x))]).run Tryz.prog w=.ok (.slice (some ⟨w.heap.size,0,none⟩) 1 1) (w.alloc (.cells (rwC x) 99)):=by
 have hI:(Tryz.prog.info? 99).map (fun i=>(i.size,i.zero))=some (7,some (.agg #[.int .i64 0,.string ⟨#[]⟩,.string ⟨#[]⟩,.string ⟨#[]⟩,.int .i64 0,.int .i64 0,.bool false])):=by kernel_rfl
 cases hie:Tryz.prog.info? 99 with
 | none=>rw [hie] at hI;cases hI
 | some ie =>
  rw [hie] at hI;simp only [Option.map_some,Option.some.injEq,Prod.mk.injEq] at hI;refine run_buildSlice (P:=Tryz.prog) w 49 99 1 _ _ ie _ Tryz.underlying49 hie hI.2 (by rw [hI.1];omega) (by rw [hI.1];omega) ?_;rw [hI.1];refine (Great.fill_whole (s:=7) (by omega) [Value.agg (rwC x)] _ (fun v hv=>?_) (by simp)).trans (by simp [Value.cells]);simp only [List.mem_singleton] at hv;subst hv;rfl
def bI {w:World} {B n s:Nat} {e:TypeId} {v:Value} {xs:List Value} (h:w.ownsRow B e s v n xs) {b:Nat} (hb:v.ownBlock=some b):∃cur,w.heap[b]? = some (.cells cur e (0,0)):=by
 rcases h.2 with ⟨k1,_⟩ | ⟨g',c,cur,k1,_,k3,_⟩
 . rw [k1] at hb;cases hb
 rw [k1] at hb;injection hb with hb;exact ⟨cur,by rw [<-hb];exact k3⟩
structure iB (own:Nat->Prop) (w:World) (t:Nat) (L:Tr) (room:Nat):Prop where
 ex:∃v,Has w t 131 #[v,.int .i64 (room:Int)]/\dR 0 w v L/\∀b,v.ownBlock=some b->own b
 op:own t
def iB.tree {own:Nat->Prop} {w:World} {t:Nat} {L:Tr} {room:Nat} (h:iB own w t L room):TreeR w t L room:=by
 obtain ⟨v,h1,h2,_⟩:=h.ex;exact ⟨v,h1,h2⟩
def iB.kept {own:Nat->Prop} {w w':World} {t:Nat} {L:Tr} {room:Nat} (h:iB own w t L room) (hb:∀g,own g->w'.heap[g]? = w.heap[g]?):iB own w' t L room:=by
 obtain ⟨v,h1,h2,h3⟩:=h.ex;exact ⟨⟨v,(hb t h.op).trans h1,row_of h2 (fun g hg=>hb g (h3 g hg)),h3⟩,h.op⟩
def iB.mono {own own':Nat->Prop} {w:World} {t:Nat} {L:Tr} {room:Nat} (h:iB own w t L room) (ho:∀g,own g->own' g):iB own' w t L room:=by
 obtain ⟨v,h1,h2,h3⟩:=h.ex;exact ⟨⟨v,h1,h2,fun b hb=>ho b (h3 b hb)⟩,ho t h.op⟩
def gN.blocks {B:Nat} {w:World} {t:Nat} {L:Tr} {room:Nat} (h:gN B w t L room):∃nb:Nat->Prop,iB nb w t L room/\(∀g,nb g->B<=g)/\(∀g,nb g->g < w.heap.size)/\∀g,nb g->Loose w g:=by
 obtain ⟨v,h1,h2⟩:=h.ex;refine ⟨fun g=>g=t∨v.ownBlock=some g,⟨⟨v,h1,h2.mono (Nat.zero_le _),fun b hb=>.inr hb⟩,.inl rfl⟩,?_,?_,?_⟩
 . rintro g (e | e)
   . rw [e];exact h.low
   exact (World.ownsRow.lt h2 g e).1
 . rintro g (e | e)
   . rw [e];exact h1.inside
   exact (World.ownsRow.lt h2 g e).2
 rintro g (e | e)
 . rw [e];exact h1.loose (by decide)
 obtain ⟨cur,hc⟩:=bI h2 e;intro cs t2 q ho;rw [hc] at ho;injection ho with ho;injection ho with _ ho;rw [<-ho];decide
def cH (tl ts:Nat) (sv:Value) (fused:Bool) (left:Int):Array Value:=#[.pointer (some ⟨tl,0,none⟩),.pointer (some ⟨ts,0,none⟩),sv,.bool fused,.int .i64 left]
def pD (fused:Bool) (left f:Int):Prop:=(fused=false/\f = -1)∨(fused=true/\left=f/\0<=f)
structure RDkI (own:Nat->Prop) (w:World) (r tl ts:Nat) (sv:Value) (es:List Rw) (fused:Bool) (left:Int) (M:Mo):Prop where
 low:∀g,own g->g < w.heap.size
 loose:∀g,own g->Loose w g
 has:Has w r 51 (cH tl ts sv fused left)
 op:own r
 t1:iB own w tl M.now M.room
 t2:iB own w ts M.last M.room
 row:gD 0 w sv es
 osv:∀b,sv.ownBlock=some b->own b
 effs:es.map xJ=M.since
 ok:∀e∈es,RwOk e
 fu:pD fused left M.fuse
 good:lR M
 r0:1024<=M.room
 r1:M.room<=1048576
 len:M.since.length<=100000
def RDk (own:Nat->Prop) (w:World) (r:Nat) (M:Mo):Prop:=∃tl ts sv es fused left,RDkI own w r tl ts sv es fused left M
def RDkI.kept {own:Nat->Prop} {w w':World} {r tl ts:Nat} {sv:Value} {es:List Rw} {fused:Bool} {left:Int} {M:Mo} (h:RDkI own w r tl ts sv es fused left M) (hs:w.heap.size<=w'.heap.size) (hb:∀g,own g->w'.heap[g]? = w.heap[g]?):RDkI own w' r tl ts sv es fused left M where
 low g rj:=Nat.lt_of_lt_of_le (h.low g rj) hs
 loose g rj cs t q ho:=h.loose g rj cs t q ((hb g rj).symm.trans ho)
 has:=(hb r h.op).trans h.has
 op:=h.op
 t1:=h.t1.kept hb
 t2:=h.t2.kept hb
 row:=row_of h.row (fun g rj=>hb g (h.osv g rj))
 osv:=h.osv
 effs:=h.effs
 ok:=h.ok
 fu:=h.fu
 good:=h.good
 r0:=h.r0
 r1:=h.r1
 len:=h.len
def RDk.on {own:Nat->Prop} {w w':World} {r:Nat} {M:Mo} (h:RDk own w r M) (hb:qW w w'):RDk own w' r M:=by
 obtain ⟨tl,ts,sv,es,fused,left,h⟩:=h;exact ⟨tl,ts,sv,es,fused,left,h.kept hb.size (fun g hg=>hb.block g (h.low g hg))⟩
def RDk.turn {own own2:Nat->Prop} {w w':World} {r:Nat} {M:Mo} (h:RDk own w r M) (hu:Turn own2 w w') (ha:∀g,own g->¬own2 g):RDk own w' r M:=by
 obtain ⟨tl,ts,sv,es,fused,left,h⟩:=h;exact ⟨tl,ts,sv,es,fused,left,h.kept hu.size (fun g hg=>hu.block g (h.low g hg) (ha g hg))⟩
def RDk.low {own:Nat->Prop} {w:World} {r:Nat} {M:Mo} (h:RDk own w r M):∀g,own g->g < w.heap.size:=by obtain ⟨_,_,_,_,_,_,h⟩:=h;exact h.low
def RDk.loose {own:Nat->Prop} {w:World} {r:Nat} {M:Mo} (h:RDk own w r M):∀g,own g->Loose w g:=by obtain ⟨_,_,_,_,_,_,h⟩:=h;exact h.loose
def RDk.good {own:Nat->Prop} {w:World} {r:Nat} {M:Mo} (h:RDk own w r M):lR M:=by obtain ⟨_,_,_,_,_,_,h⟩:=h;exact h.good
def RPost (own:Nat->Prop) (w:World) (r:Nat) (M:Mo) (w':World):Prop :=
 ∃own',RDk own' w' r M/\Turn own w w'/\∀g,own' g->own g∨w.heap.size<=g
def RPost.refl {own:Nat->Prop} {w w':World} {r:Nat} {M:Mo} (h:RDk own w r M) (hb:qW w w'):RPost own w r M w' :=
 ⟨own,h.on hb,Turn.of_below hb,fun _ h=>.inl h⟩
attribute [local go_sem] Oper.semAt_some
def Qx (p:Nat) (root:By) (w:World):qC 25 #[.pointer (some ⟨p,0,none⟩),kS root] w fun e w' =>
 e=.returned (.func (.func 66) #[] #[.pointer (some ⟨w.heap.size,0,none⟩),.pointer (some ⟨w.heap.size+1,0,none⟩)])/\w'=(w.alloc (.cells #[.pointer (some ⟨p,0,none⟩)] 26)).alloc (.cells #[kS root] 9):=by
 go_enter Tryz.func25,Tryz.ntmps25
 go_wp2;go_ret;exact ⟨rfl,rfl⟩
abbrev Ct (l:Tr):Type:={x:At // x∈l}
def ep {l:Tr} (x:Ct l):Array Value:=#[kS x.1.1,nodeV x.1.2]
def plainX {l:Tr} (xs:List (Ct l)):Tr:=xs.map (·.1)
def oQ {l:Tr} (xs:List (Ct l)) (x:Ct l):plainX (xs++[x])=plainX xs++[x.1]:=by simp [plainX]
def wE {l:Tr} (xs:List (Ct l)):(plainX xs).length=xs.length:=by simp [plainX]
def bR {w w':World} (h:qW w w'):w.grownBy w' none:=⟨h.os,h.tape,h.output,h.size,fun i hi _=>h.block i hi⟩
def bK (W W':World):Prop:=∀(j:Nat) (cs:Array Value) (q:Nat × Nat),W.heap[j]? = some (Obj.cells cs 142 q)->W'.heap[j]? = some (Obj.cells cs 142 q)
def bK.trans {A B C:World} (h:bK A B) (k:bK B C):bK A C:=fun j cs q ho=>k j cs q (h j cs q ho)
def bK.putObj (B:Nat) (W:World) (l:Nat) (o o':Obj) (_:B<=l) (hl:W.heap[l]? = some o) (ho:o.isCells=false) (_:o.isWalk=false):bK W (W.putObj l o'):=fun j cs q h=>by
 by_cases e:j=l
 . subst e
   rw [hl] at h;injection h with h;rw [h] at ho;cases ho
 exact (World.putObj_heap_other (fun k=>e k)).trans h
def bK.of_below {W W':World} (h:qW W W'):bK W W':=fun j _ _ ho=>(h.block j (Array.getElem?_eq_some_iff.1 ho).1).trans ho
def bK.of_but {W W':World} {b:Nat} {t:TypeId} {cs:Array Value} (hb:Has W b t cs) (ht:t≠142) (h:∀j,j≠b->j < W.heap.size->W'.heap[j]? = W.heap[j]?):bK W W':=fun j cs' q ho=>by
 refine (h j (fun e=>?_) (Array.getElem?_eq_some_iff.1 ho).1).trans ho;subst e;unfold Has at hb;rw [hb] at ho;injection ho with ho;injection ho with _ ho;exact ht ho
def dZ.kp {B:Nat} {W W':World} {v:Value} {L:Tr} (h:dZ B W v L) (hk:bK W W'):dZ B W' v L:=row_of h fun g hg=>by
 obtain ⟨cur,hc⟩:=bI h hg;exact (hk g cur _ hc).trans hc.symm
def AtAt.loadE {w:World} {g o:Nat} {x:At} (h:AtAt w g o x):(loadVar 142 ⟨g,o,none⟩).run Tryz.prog w=.ok (.agg (atCells x)) w:=by
 refine run_loadVar_mid (P:=Tryz.prog) w g o 142 (atCells x).toList _ (fun j u hj=>?_) Tryz.underlying142 rfl (by show _=some 5;kernel_rfl);match j,hj with
 | 0,hj=>obtain rfl:=Option.some.inj hj;exact h.c0
 | 1,hj=>obtain rfl:=Option.some.inj hj;exact h.c1
 | 2,hj=>obtain rfl:=Option.some.inj hj;exact h.c2
 | 3,hj=>obtain rfl:=Option.some.inj hj;exact h.c3
 | 4,hj=>obtain rfl:=Option.some.inj hj;exact h.c4
 | j+5,hj=>simp [atCells] at hj
def Kz (n:Nat) (hn:1<=n) {own:Nat->Prop} {w:World} {p:Nat} {M:Mo} (h:Dsk own w p M) (hG:Gd w) (root:By) (hr:root.length<=4000) (b1 b2:Nat) (h1:Has w b1 26 #[.pointer (some ⟨p,0,none⟩)]) (h2:Has w b2 9 #[kS root])
 (l:Tr) (hl:inL M.now root=l):SeqStopsK Fence.wide n Tryz.prog 66 #[.pointer (some ⟨b1,0,none⟩),.pointer (some ⟨b2,0,none⟩)] (fun x:Ct l=>ep x) bK (fun ys=>plainX ys=l) (fun pre=>plainX pre <+: l) l.length w:=fun il J Jx W hW hJ hJx hY h0=>by
 have CL:=hid (Tx (h.on hW) (hG.kept hW) root hr);rw [hl] at CL;have k1:W.cell? ⟨b1,0,none⟩=some (.pointer (some ⟨p,0,none⟩)):=(h1.kept hW h1.inside).at_ 0;have k2:W.cell? ⟨b2,0,none⟩=some (kS root):=(h2.kept hW h2.inside).at_ 0;have HJ:=hid hJ;have HY:=hid hY;have H0:=hid h0;obtain ⟨N,HN⟩:=qX (l.length);have hN1:N<=100000:=by
  obtain ⟨m1,m2,sv,vs,h'⟩:=h;have e1:=h'.tr1.len;have e2:=xS M.now root;rw [hl,HN.o] at e2;omega
 clear h hG hr h1 h2 hW hJ hJx hY h0 hl;refine callsIn_of_wp Tryz.func66 rfl trivial ?_ rfl;simp only [Tryz.ntmps66,List.size_toArray,List.length_cons,List.length_nil,Nat.reduceAdd,Nat.reduceSub,Array.replicate_succ,Array.replicate_zero,List.push_toArray,List.append_toArray,List.nil_append,List.cons_append];gi_wp2_with (refine ⟨trivial,?_⟩;gi_at_call 67;refine (callsIn_wide.2 CL.o).mono ?_;rintro e1 W1 ⟨v,rfl,hE,c8⟩;obtain ⟨A,c,rfl⟩:=hE.form;rw [HN.o] at hE;rw [HN.o];have HE:=hid hE;have B1:=hid c8;clear hE c8)
 have J1:Hid (J [] W1):=HJ.o [] W W1 none H0.o (bR B1.o) (fun r e=>by cases e);gi_loopw [10] (fun i wr=>∃(k:Nat) (pre:List (Ct l)),k<=N/\i=.int .i64 (k:Int)/\Hid (plainX pre=l.take k)/\Hid (J pre wr)/\Hid (dZ W.heap.size wr (.slice A N c) l))
  (fun i _=>N - (intOf i).toNat)
 case atStart=>exact ⟨0,[],Nat.zero_le _,rfl,rfl,J1.o,HE.o⟩
 obtain ⟨k,pre,hk,rfl,HP,HJs,HEs⟩:=hrel;by_cases d8:k < N
 .
  have o3:k < l.length:=by rw [HN.o];exact d8
  obtain ⟨g,c',e,_,I9⟩:=HEs.o.at_ k o3;injection e with e e2 e3;clear e2 e3;subst e;rw [getD_at o3] at I9;have oo:l[k]∈l:=List.getElem_mem o3;have HT:Hid (l.take (k+1)=l.take k++[l[k]]):=List.take_succ_eq_append_getElem o3;have G5:Hid (pre.length < l.length):=by
   have:=congrArg List.length HP.o;rw [wE,List.length_take] at this;show _ < _;omega
  generalize l[k]=y at I9 oo HT;obtain ⟨q,⟨kd,dt,tg,tm⟩⟩:=y;have vr:=hid I9;have j4:(k:Int) < (N:Int):=by omega
  have h0:(0:Int)<=(k:Int):=by omega
  have LU:IntKind.i64.wrap ((k:Int)+1)=(k:Int)+1:=aM _ (by omega) (by omega);obtain ⟨w2,x9⟩:=qY (wr.alloc (.cells #[kS q,.int .i64 kd,kS dt,kS tg,.int .i64 tm] 142));have I7:qW wr w2:=x9▸qB.alloc qN _;have X2:Hid (Has w2 wr.heap.size 142 #[kS q,.int .i64 kd,kS dt,kS tg,.int .i64 tm]):=by rw [<-x9];exact Has.fresh _ _ _
  have x0:=X2.o.at_ 0;have A2:Hid (AtAt w2 wr.heap.size 0 (q,⟨kd,dt,tg,tm⟩)):=⟨X2.o.at_ 0,X2.o.at_ 1,X2.o.at_ 2,X2.o.at_ 3,X2.o.at_ 4⟩;have E2:=hid (HEs.o.on I7);have J2:Hid (J pre w2):=HJ.o pre wr w2 none HJs.o (bR I7) (fun r e=>by cases e);obtain ⟨fn,tmps,assign,body,hy,hR⟩:=HY.o pre ⟨(q,⟨kd,dt,tg,tm⟩),oo⟩ w2 J2.o G5.o;have mu:(Instr.yield il #[kS q,.agg #[.int .i64 kd,kS dt,kS tg,.int .i64 tm]]).run Tryz.prog w2=.ok (.round il fn tmps assign body) w2:=hy;have HR:=hid hR;clear I9 o3 I7 hy hR;gi_wp2_with (first
   | (refine gX rfl 142 (.tmp 12) rfl g (k*5) rfl #[kS q,.int .i64 kd,kS dt,kS tg,.int .i64 tm] vr.o.loadE ?_)
   | (refine gX rfl 71 (.tmp 17) rfl wr.heap.size 1 rfl #[.int .i64 kd,kS dt,kS tg,.int .i64 tm] A2.o.node ?_))
  refine HR.o.mono ?_;rintro e W3 (⟨rfl,hJ3,hk3⟩ | ⟨rfl,hJx3⟩)
  .
   have J3:=hid hJ3;have E3:=hid (E2.o.kp hk3);clear hJ3 hk3;gi_wp2;go_roundw
   case rel =>
    exact ⟨k+1,_,by omega,by go_num,(by show _=_;rw [oQ,HP.o,HT.o]),J3.o,E3.o⟩
   case measure=>simp [intOf];omega
  have J3:=hid hJx3;clear hJx3;gi_wp2;refine bodyPost_ret (results_none rfl _ _ _) rfl ?_;refine ⟨⟨_,rfl⟩,.inr ⟨_,?_,J3.o⟩⟩;rw [oQ,HP.o,<-HT.o];exact List.take_prefix _ _
 obtain rfl:k=N:=by omega
 gi_wp2;go_end0
 refine ⟨⟨_,rfl⟩,.inl ⟨pre,?_,HJs.o⟩⟩;rw [HP.o,List.take_of_length_le (by rw [HN.o];omega)]
open Go.RowKit Go.Maps Go.Lib Go.Sort
def cF (r:By):Bool:=!decide (0<=Lib.indexByte r 47)
def qI (r:By):cF r=true↔47∉r:=by
 unfold cF;have h:(0<=Lib.indexByte r 47)↔47∈r:=by
  induction r with
  | nil=>simp [Lib.indexByte]
  | cons c r ih =>
   have hg:=Lib.indexByte_ge r 47;rw [Lib.indexByte];by_cases hc:c=47
   . simp [hc]
   have e1:(c == 47)=false:=by simpa using hc
   have e2:¬47=c:=fun e=>hc e.symm
   rw [e1,List.mem_cons];by_cases hn:Lib.indexByte r 47 = -1
   . have h0:¬47∈r:=fun k=>by have:=ih.2 k;omega
     simp [hn,e2,h0]
   have h0:47∈r:=ih.1 (by omega);have e3:(Lib.indexByte r 47 == -1)=false:=by simpa using hn
   simp [e3,h0];omega
 simp [h]
def jJ (L:Tr) (p:By):List By:=(innerL L p).filter cF
def cE (xs:List By):List By:=xs.mergeSort fun x y=>decide (x<=y)
def dJ (L:Tr) (p:By):List By × Int:=if (!decide (p=[])&&!mayB p)=true then ([],10) else if dW L p=0 then (cE (jJ L p),0) else ([],dW L p)
def xV {xs ys:List By} (h:xs.Perm ys):cE xs=cE ys:=by
 have tr:∀a b c:By,decide (a<=b)=true->decide (b<=c)=true->decide (a<=c)=true:=fun a b c h1 h2=>by
  simp only [decide_eq_true_eq] at *;exact List.le_trans h1 h2
 have tot:∀a b:By,(decide (a<=b)||decide (b<=a))=true:=fun a b=>by
  simp only [Bool.or_eq_true,decide_eq_true_eq];exact List.le_total a b
 refine List.Perm.eq_of_pairwise (le:=fun a b:By=>decide (a<=b)=true) (fun a b _ _ h1 h2=>?_) (List.pairwise_mergeSort tr tot xs) (List.pairwise_mergeSort tr tot ys) (((List.mergeSort_perm xs _).trans h).trans (List.mergeSort_perm ys _).symm);simp only [decide_eq_true_eq] at h1 h2;exact List.le_antisymm h1 h2
def mP (w:World) (r:List By × Int) (e:Ending) (w':World):Prop:=∃A c g,e=.returned (.tuple #[.slice A (r.1.length:Nat) c,.int .i64 r.2])/\Names w' A g r.1/\qW w w'
def mP.none (w w':World) (c:Int) (hb:qW w w'):mP w ([],c) (.returned (.tuple #[.slice none 0 0,.int .i64 c])) w' :=
 ⟨Option.none,0,0,rfl,⟨fun k=>absurd k (by simp),fun i k=>absurd k (by simp),fun k=>absurd k (by simp)⟩,hb⟩
def Ld (r:By) (w:World):qC 151 #[kS r] w fun e w'=>e=.returned (.bool (!cF r))/\w'=w:=by
 have C:=hid (Tryz.strings_Contains_one (ba r) 47 w);have HF:Hid ((!cF r)=decide (0<=Lib.indexByte r 47)):=by show _=_;unfold cF;simp
 go_enter Tryz.func151,Tryz.ntmps151
 go_wp2_with fail
 refine C.o.mono ?_;rintro e1 w1 ⟨rfl,rfl⟩;go_wp2;go_ret;exact ⟨by rw [HF.o];rfl,rfl⟩
def Ea {α:Type} [Inhabited α] {enc:α->Value} {w0 w:World} {g q B:Nat} {d:Array α} (h:Below B w0 w) (hg:B<=g):Below B w0 (putRow enc (Sort.ahead w q) g 0 d):=below_putRow (enc:=enc) (q:=q) (d:=d) h hg
def Hy {w0 w:World} {v:Value} {xs:List By} (hb:qW w0 w) (h:w.ownsRow w0.heap.size 9 1 v xs.length (xs.map kS)) (hn:xs.length<=100000) :
 qC 153 #[v,.func (.func 151) #[] #[]] w fun e w'=>∃v',e=.returned v'/\w'.ownsRow w0.heap.size 9 1 v' (xs.filter cF).length ((xs.filter cF).map kS)/\qW w0 w':=by
 by_cases hv:v=.slice none 0 0
 .
  subst hv;have h0:xs=[]:=by
   rcases h.2 with ⟨_,k2⟩ | ⟨g,c,cur,k1,_⟩
   . exact List.length_eq_zero_iff.1 k2
   cases k1
  subst h0;have C:=hid (Tryz.slices_IndexFunc_empty (α:=By) none 0 (.func (.func 151) #[] #[]) w);have HB:=hid hb;have H:=hid h;clear hb h hn;go_enter Tryz.func153,Tryz.ntmps153
  go_wp2_with fail
  refine C.o.mono ?_;rintro e1 w1 ⟨rfl,rfl⟩;go_wp2;go_ret;exact ⟨_,rfl,H.o,HB.o⟩
 obtain ⟨g,cap,rfl,g1,g2,g3,g4,g5,hH⟩:=holds_of_ownsRow (enc:=kS) h hv;have p9:xs.toArray.size=xs.length:=by simp
 have hgv:∀(W:World) (x:By),FnGives Tryz.prog 151 #[] #[kS x] (.bool (!cF x)) W:=fun W x=>(Ld x W).mono fun e w' ⟨h1,h2⟩=>⟨h1,0,by rw [h2];rfl⟩
 have:=Tryz.slices_DeleteFunc kS (fun _=>rfl) (fun x=>!cF x) 151 #[] (enters_of Tryz.func151 (by kernel_rfl) rfl) ([]:By) (fun w=>by kernel_rfl) g 0 cap xs.toArray w (fun W x _=>hgv W x) (fun _ _ _ x _=>hgv _ x) hH (by rw [p9];omega) (by rw [p9];omega);rw [p9] at this;simp only [Bool.not_not] at this;refine this.mono ?_;rintro e w' ⟨rfl,q,rfl⟩;have f8:((xs.filter cF)++List.replicate (xs.length - (xs.filter cF).length) ([]:By)).length=xs.length:=by
  have:=List.length_filter_le cF xs;simp;omega
 refine ⟨_,rfl,?_,Ea hb g1⟩;have hr:=ownsRow_putRow (enc:=kS) (q:=q) (k:=(xs.filter cF).length) (ys:=(xs.filter cF)++List.replicate (xs.length - (xs.filter cF).length) ([]:By)) h f8 (List.length_filter_le _ _);rw [List.take_left] at hr;exact hr
def rN {w0 w:World} {v:Value} {xs:List By} (hb:qW w0 w) (h:w.ownsRow w0.heap.size 9 1 v xs.length (xs.map kS)) (hn:xs.length<=100000) :
 qC 155 #[v] w fun e w'=>e=.returned (.tuple #[])/\w'.ownsRow w0.heap.size 9 1 v (cE xs).length ((cE xs).map kS)/\qW w0 w':=by
 by_cases hv:v=.slice none 0 0
 .
  subst hv;have h0:xs=[]:=by
   rcases h.2 with ⟨_,k2⟩ | ⟨g,c,cur,k1,_⟩
   . exact List.length_eq_zero_iff.1 k2
   cases k1
  subst h0;refine (Tryz.slices_Sort_string_none none 0 w).mono ?_;rintro e w' ⟨rfl,rfl⟩;have e0:cE []=[]:=List.mergeSort_nil;rw [e0];exact ⟨rfl,h,hb⟩
 obtain ⟨g,cap,rfl,g1,g2,g3,g4,g5,hH⟩:=holds_of_ownsRow (enc:=kS) h hv;refine (Tryz.slices_Sort_string g 0 cap xs w hH g2 (by omega)).mono ?_;rintro e w' ⟨rfl,n,os,rfl⟩;have zo:(cE xs).length=xs.length:=List.length_mergeSort xs;refine ⟨rfl,?_,sQ (enc:=encStr) hb g1 hb.size⟩;have hr:=ownsRow_putRow (enc:=kS) (q:=n) (k:=xs.length) (ys:=cE xs) h zo qN;rw [List.take_of_length_le (Nat.le_of_eq zo)] at hr;rw [zo];refine row_of hr fun g' vn=>?_
 have eg:g=g':=by injection vn
 subst eg;show ((putRow encStr (Sort.ahead w n) g 0 _).heap++os)[g]? = _
 rw [Array.getElem?_append_left]
 . rfl
 have e:∀d:Array By,(putRow encStr (Sort.ahead w n) g 0 d).heap.size=w.heap.size:=fun d=>by simp [putRow,mapBlock,Sort.ahead]
 rw [e];exact g2
section
variable {own:Nat->Prop} {w:World} {p:Nat} {M:Mo}
theorem Qr (h:Dsk own w p M) (hG:Gd w) (s:By) (hs:s.length<=4000):qC 98 #[.pointer (some ⟨p,0,none⟩),kS s] w fun e w'=>mP w (dJ M.now s) e w':=by
 obtain ⟨m1,m2,sv,vs,h⟩:=h;have C1:=hid (iP (m1:=m1) (h.has.at_ 0));have hW:=h.good.w1;have xd:∀q,(look M.now q).isSome->q.length<=4000:=fun q hq=>by have:=(aU (hW.may q hq)).1;omega
 have CN:Hid (∀W,qW w W->qC 150 #[.pointer (some ⟨p,0,none⟩),kS s] W fun e w'=>e=.returned (.int .i64 (dW M.now s))/\qW W w'):=fun W hb=>by
  have:=xY (h.on hb).tr1 s hs;exact this.mono fun e w' k=>by first | exact k | exact ⟨k.1,by rw [<-k.2];exact Below.refl _ _⟩
 have CW:Hid (∀W,qW w W->qC 154 #[.pointer (some ⟨p,0,none⟩),kS s] W fun e w'=>Cr W (innerL M.now s) e w'):=fun W hb=>uO (h.on hb).tr1 xd s hs
 have CM:Hid (∀b,mayB s=b->qC 99 #[kS s] w fun e w'=>e=.returned (.bool b)/\qW w w'):=fun b hb=>fN s b hb w hG hs
 have HL:Hid ((innerL M.now s).length<=100000):=by
  have h1:=Vj M.now s;have h2:=h.tr1.len;show _<=_;omega
 have xi:Hid (dJ M.now s=if (!decide (s=[])&&!mayB s)=true then ([],10) else if dW M.now s=0 then (cE (jJ M.now s),0) else ([],dW M.now s)):=rfl;obtain ⟨c,HC⟩:=qX (dW M.now s);rw [HC.o] at CN xi;have B0:Hid (qW w w):=Below.refl _ _;clear h hW xd hG
 -- behind the look at the path
 by_cases ru:s=[]
 .
  have z1:(ba s).toList=[]:=by rw [aP,aQ,ru]
  have J7:Hid (dJ M.now s=if c=0 then (cE (jJ M.now s),0) else ([],c)):=by
   show _=_;rw [xi.o,if_neg (by simp [ru])]
  clear ru xi;by_cases hc:c=0
  .
   have mw:Hid (dJ M.now s=(cE (jJ M.now s),0)):=by show _=_;rw [J7.o,if_pos hc]
   subst hc;go_enter Tryz.func98,Tryz.ntmps98
   go_wp2_with fail
   refine C1.o.mono ?_;rintro e1 w1 ⟨rfl,rfl⟩;go_wp2_with fail
   refine (CN.o _ B0.o).mono ?_;rintro e3 w3 ⟨rfl,i7⟩;have B3:Hid (qW w w3):=B0.o.trans (i7.mono B0.o.size);clear i7;go_wp2_with fail
   refine (CW.o _ B3.o).mono ?_;rintro e4 w4 ⟨v,xs,rfl,hp,o8,x8⟩;have HP:=hid hp;have HR:=hid o8;have vu:=hid x8;have ON:Hid (xs.length<=100000):=by show _<=_;rw [hp.length_eq];exact HL.o
   clear hp o8 x8;go_wp2_with fail
   refine (Hy vu.o HR.o ON.o).mono ?_;rintro e5 w5 ⟨v',rfl,sj,z6⟩;have M7:=hid sj;have H8:=hid z6;have VF:Hid ((xs.filter cF).length<=100000):=Nat.le_trans (List.length_filter_le _ _) ON.o;clear sj z6;go_wp2_with fail
   refine (rN H8.o M7.o VF.o).mono ?_;rintro e6 w6 ⟨rfl,nw,S7⟩;have VG:Hid (cE (xs.filter cF)=cE (jJ M.now s)):=xV (HP.o.filter _);rw [VG.o] at nw;have VH:=hid nw;have sk:=hid S7;clear nw S7;obtain ⟨A,cc,g,hv,hn⟩:=fW VH.o;subst hv;have HN:=hid hn;clear hn;go_wp2;go_ret2;rw [mw.o];exact ⟨A,cc,g,rfl,HN.o,B3.o.trans (sk.o.mono B3.o.size)⟩
  have mw:Hid (dJ M.now s=([],c)):=by show _=_;rw [J7.o,if_neg hc]
  have q0:(c == 0)=false:=by simpa using hc
  have q1:(c != 0)=true:=by simpa using hc
  clear hc;go_enter Tryz.func98,Tryz.ntmps98
  go_wp2_with fail
  refine C1.o.mono ?_;rintro e1 w1 ⟨rfl,rfl⟩;go_wp2_with fail
  refine (CN.o _ B0.o).mono ?_;rintro e3 w3 ⟨rfl,i7⟩;have B3:=hid i7;clear i7;go_wp2;go_ret2;rw [mw.o];exact mP.none _ _ _ B3.o
 have z1:¬(ba s).toList=[]:=by rw [aP,aQ];exact ru
 have z2:(ba s).toList.isEmpty=false:=by simpa using z1
 cases hm:mayB s with
 | false =>
  have CMF:=hid (CM.o false hm);have mw:Hid (dJ M.now s=([],10)):=by show _=_;rw [xi.o,if_pos (by simp [ru,hm])]
  clear ru xi hm;go_enter Tryz.func98,Tryz.ntmps98
  go_wp2_with fail
  refine C1.o.mono ?_;rintro e1 w1 ⟨rfl,rfl⟩;go_wp2_with fail
  refine CMF.o.mono ?_;rintro e2 w2 ⟨rfl,a9⟩;have B2:=hid a9;clear a9;go_wp2;go_ret2;rw [mw.o];exact mP.none _ _ _ B2.o
 | true =>
  have CMT:=hid (CM.o true hm);have J7:Hid (dJ M.now s=if c=0 then (cE (jJ M.now s),0) else ([],c)):=by
   show _=_;rw [xi.o,if_neg (by simp [hm])]
  clear ru xi hm;by_cases hc:c=0
  .
   have mw:Hid (dJ M.now s=(cE (jJ M.now s),0)):=by show _=_;rw [J7.o,if_pos hc]
   subst hc;go_enter Tryz.func98,Tryz.ntmps98
   go_wp2_with fail
   refine C1.o.mono ?_;rintro e1 w1 ⟨rfl,rfl⟩;go_wp2_with fail
   refine CMT.o.mono ?_;rintro e2 w2 ⟨rfl,a9⟩;have B0:=hid a9;clear a9;go_wp2_with fail
   refine (CN.o _ B0.o).mono ?_;rintro e3 w3 ⟨rfl,i7⟩;have B3:Hid (qW w w3):=B0.o.trans (i7.mono B0.o.size);clear i7;go_wp2_with fail
   refine (CW.o _ B3.o).mono ?_;rintro e4 w4 ⟨v,xs,rfl,hp,o8,x8⟩;have HP:=hid hp;have HR:=hid o8;have vu:=hid x8;have ON:Hid (xs.length<=100000):=by show _<=_;rw [hp.length_eq];exact HL.o
   clear hp o8 x8;go_wp2_with fail
   refine (Hy vu.o HR.o ON.o).mono ?_;rintro e5 w5 ⟨v',rfl,sj,z6⟩;have M7:=hid sj;have H8:=hid z6;have VF:Hid ((xs.filter cF).length<=100000):=Nat.le_trans (List.length_filter_le _ _) ON.o;clear sj z6;go_wp2_with fail
   refine (rN H8.o M7.o VF.o).mono ?_;rintro e6 w6 ⟨rfl,nw,S7⟩;have VG:Hid (cE (xs.filter cF)=cE (jJ M.now s)):=xV (HP.o.filter _);rw [VG.o] at nw;have VH:=hid nw;have sk:=hid S7;clear nw S7;obtain ⟨A,cc,g,hv,hn⟩:=fW VH.o;subst hv;have HN:=hid hn;clear hn;go_wp2;go_ret2;rw [mw.o];exact ⟨A,cc,g,rfl,HN.o,B3.o.trans (sk.o.mono B3.o.size)⟩
  have mw:Hid (dJ M.now s=([],c)):=by show _=_;rw [J7.o,if_neg hc]
  have q0:(c == 0)=false:=by simpa using hc
  have q1:(c != 0)=true:=by simpa using hc
  clear hc;go_enter Tryz.func98,Tryz.ntmps98
  go_wp2_with fail
  refine C1.o.mono ?_;rintro e1 w1 ⟨rfl,rfl⟩;go_wp2_with fail
  refine CMT.o.mono ?_;rintro e2 w2 ⟨rfl,a9⟩;have B2:=hid a9;clear a9;go_wp2_with fail
  refine (CN.o _ B2.o).mono ?_;rintro e3 w3 ⟨rfl,i7⟩;have B3:Hid (qW w w3):=B2.o.trans (i7.mono B2.o.size);clear i7;go_wp2;go_ret2;rw [mw.o];exact mP.none _ _ _ B3.o
end
end Go.Proofs.YtahkcemdbfjilaaGreatDoor
namespace Go.Proofs.YtahkcemdbfjilaaGreatDoor.Glob
open Go.RowKit
def pre (p s:By):Bool:=p.isPrefixOf s
def bU {p s:By} (h:pre p s=true):p.length<=s.length:=by
 unfold pre at h;exact (List.isPrefixOf_iff_prefix.1 h).length_le
def vI (p s:By):pre p s=(s.take p.length == p):=by
 unfold pre;rw [Bool.eq_iff_iff,List.isPrefixOf_iff_prefix,beq_iff_eq,List.prefix_iff_eq_take];exact ⟨fun h=>h.symm,fun h=>h.symm⟩
def yW (c:UInt8) (s:By):pre [c] s=(!decide (s=[])&&(at8 s 0 == c)):=by
 cases s with
 | nil=>rfl
 | cons x s =>
  simp [pre,at8,List.isPrefixOf,Bool.beq_comm]
abbrev Rg:=UInt8 × UInt8
inductive El where
 | all | part | one
 | set (neg:Bool) (rs:List Rg)
 | byt (c:UInt8)
def other (c:UInt8):UInt8:=if (97<=c.toNat/\c.toNat<=122)∨(65<=c.toNat/\c.toNat<=90) then c ^^^ 32 else c
def aW (r:Rg) (c:UInt8):Bool:=decide (r.1.toNat<=c.toNat)&&decide (c.toNat<=r.2.toNat)
def nT (fold:Bool) (rs:List Rg) (c:UInt8):Bool:=rs.any fun r=>aW r c||fold&&aW r (other c)
def bD (fold:Bool):El->UInt8->Bool
 | .all,_=>true
 | .part,c=>!(c == 47)
 | .one,c=>!(c == 47)
 | .set neg rs,c=>!(c == 47)&&(if neg then !nT fold rs c else nT fold rs c)
 | .byt x,c=>nT fold [(x,x)] c
def El.many:El->Bool
 | .all=>true
 | .part=>true
 | _=>false
def dA (s:By):Option (UInt8 × By) :=
 let e:=pre [92] s
 let t:=if e then s.drop 1 else s
 if t.length=0 then none else if e&&(at8 t 0 == 47) then none else some (at8 t 0,t.drop 1)
def uD {s:By} {c:UInt8} {r:By} (h:dA s=some (c,r)):r.length < s.length:=by
 unfold dA at h;simp only at h;have h3:(if pre [92] s=true then s.drop 1 else s).length<=s.length:=by split<;>simp
 generalize (if pre [92] s=true then s.drop 1 else s)=t at h h3;split at h
 . cases h
 rename_i h1
 split at h
 . cases h
 simp only [Option.some.injEq,Prod.mk.injEq] at h;rw [<-h.2,List.length_drop];have:t.length≠0:=fun e=>h1 e
 omega
def bJ (s:By):Option (Rg × By) :=
 match dA s with
 | none=>none
 | some (lo,r) =>
  if decide (1 < r.length)&&(at8 r 0 == 45)&&!(at8 r 1 == 93) then
   match dA (r.drop 1) with
   | none=>none
   | some (hi,r2)=>if decide (lo.toNat<=hi.toNat)&&!(lo == 47)&&!(hi == 47) then some ((lo,hi),r2) else none
  else if !(lo == 47) then some ((lo,lo),r) else none
def oB {s:By} {c:Rg} {r:By} (h:bJ s=some (c,r)):r.length < s.length:=by
 unfold bJ at h;split at h
 . cases h
 rename_i lo r1 h1
 have l1:=uD h1;split at h
 .
  split at h
  . cases h
  rename_i hi r2 h2
  have l2:=uD h2;rw [List.length_drop] at l2;split at h
  . simp only [Option.some.injEq,Prod.mk.injEq] at h;rw [<-h.2];omega
  cases h
 split at h
 . simp only [Option.some.injEq,Prod.mk.injEq] at h;rw [<-h.2];omega
 cases h
def clsF:Nat->By->List Rg->Option (List Rg × By)
 | 0,_,_=>none
 | n+1,s,acc=>if pre [93] s then (if acc.length=0 then none else some (acc,s.drop 1)) else match bJ s with
  | none=>none
  | some (r,t)=>clsF n t (acc++[r])
def Qu (n:Nat):∀m s acc,s.length<=n->s.length<=m->clsF n s acc=clsF m s acc:=by
 induction n with
 | zero =>
  intro m s acc h1 h2;obtain rfl:=List.length_eq_zero_iff.1 (Nat.le_zero.1 h1)
  cases m<;>rfl
 | succ n ih =>
  intro m s acc h1 h2
  cases m with
  | zero=>obtain rfl:=List.length_eq_zero_iff.1 (Nat.le_zero.1 h2);rfl
  | succ m =>
   unfold clsF;split
   . rfl
   cases h:bJ s with
   | none=>rfl
   | some x=>obtain ⟨r,t⟩:=x;have:=oB h;exact ih m t _ (by omega) (by omega)
def eY (s:By) (acc:List Rg):Option (List Rg × By):=clsF s.length s acc
def Qe (s:By) (acc:List Rg):eY s acc=if pre [93] s then (if acc.length=0 then none else some (acc,s.drop 1)) else match bJ s with
 | none=>none
 | some (r,t)=>eY t (acc++[r]):=by
 unfold eY
 cases s with
 | nil=>rfl
 | cons x s =>
  rw [List.length_cons,clsF];split
  . rfl
  cases h:bJ (x :: s) with
  | none=>rfl
  | some y=>obtain ⟨r,t⟩:=y;have:=oB h;simp only [List.length_cons] at this;exact Qu _ _ _ _ (by omega) qN
def Cj (n:Nat):∀s acc rs r,clsF n s acc=some (rs,r)->r.length < s.length/\rs.length<=acc.length+s.length:=by
 induction n with
 | zero=>intro s acc rs r h;cases h
 | succ n ih =>
  intro s acc rs r h;unfold clsF at h;split at h
  .
   rename_i hp
   have:=bU hp;split at h
   . cases h
   simp only [Option.some.injEq,Prod.mk.injEq] at h;rw [<-h.2,<-h.1,List.length_drop];simp only [List.length_singleton] at this;omega
  cases hs:bJ s with
  | none=>rw [hs] at h;cases h
  | some y =>
   obtain ⟨x,t⟩:=y;rw [hs] at h;have l1:=oB hs;have l2:=ih t _ rs r h;rw [List.length_append,List.length_singleton] at l2;omega
def elemL (s:By):Option (El × By) :=
 if pre [42,42] s then some (.all,s.drop 2)
 else if at8 s 0 == 42 then some (.part,s.drop 1)
 else if at8 s 0 == 63 then some (.one,s.drop 1)
 else if at8 s 0 == 91 then
  (match eY (if pre [33] (s.drop 1) then (s.drop 1).drop 1 else s.drop 1) [] with
  | none=>none
  | some (rs,r)=>some (.set (pre [33] (s.drop 1)) rs,r))
 else match dA s with
  | none=>none
  | some (c,r)=>some (.byt c,r)
def kH {s:By} {x:El} {r:By} (hs:s≠[]) (h:elemL s=some (x,r)):r.length < s.length:=by
 have h0:0 < s.length:=Nat.pos_of_ne_zero fun e=>hs (List.length_eq_zero_iff.1 e)
 unfold elemL at h;split at h
 . simp only [Option.some.injEq,Prod.mk.injEq] at h;rw [<-h.2,List.length_drop];omega
 split at h
 . simp only [Option.some.injEq,Prod.mk.injEq] at h;rw [<-h.2,List.length_drop];omega
 split at h
 . simp only [Option.some.injEq,Prod.mk.injEq] at h;rw [<-h.2,List.length_drop];omega
 split at h
 .
  split at h
  . cases h
  rename_i rs r1 hc
  simp only [Option.some.injEq,Prod.mk.injEq] at h;have:=(Cj _ _ _ _ _ hc).1;have h3:(if pre [33] (s.drop 1)=true then (s.drop 1).drop 1 else s.drop 1).length<=s.length:=by split<;>simp<;>omega
  rw [<-h.2];omega
 split at h
 . cases h
 rename_i c r1 hc
 simp only [Option.some.injEq,Prod.mk.injEq] at h;have:=uD hc;rw [<-h.2];omega
def elemsF:Nat->By->List El->Option (List El)
 | 0,s,acc=>if s.length=0 then (if acc.length=0 then none else some acc) else none
 | n+1,s,acc=>if s.length=0 then (if acc.length=0 then none else some acc) else match elemL s with
  | none=>none
  | some (e,t)=>elemsF n t (acc++[e])
def Fw (n:Nat):∀m s acc,s.length<=n->s.length<=m->elemsF n s acc=elemsF m s acc:=by
 induction n with
 | zero =>
  intro m s acc h1 h2;obtain rfl:=List.length_eq_zero_iff.1 (Nat.le_zero.1 h1)
  cases m<;>rfl
 | succ n ih =>
  intro m s acc h1 h2
  cases m with
  | zero=>obtain rfl:=List.length_eq_zero_iff.1 (Nat.le_zero.1 h2);rfl
  | succ m =>
   unfold elemsF;split
   . rfl
   rename_i h0
   cases h:elemL s with
   | none=>rfl
   | some x=>obtain ⟨r,t⟩:=x;have:=kH (by rintro rfl;exact h0 rfl) h;exact ih m t _ (by omega) (by omega)
def dH (s:By) (acc:List El):Option (List El):=elemsF s.length s acc
def vY (s:By) (acc:List El):dH s acc=if s.length=0 then (if acc.length=0 then none else some acc) else match elemL s with
 | none=>none
 | some (e,t)=>dH t (acc++[e]):=by
 unfold dH
 cases s with
 | nil=>rfl
 | cons x s =>
  rw [List.length_cons,elemsF,List.length_cons];split
  . rename_i h0;simp at h0
  skip
  cases h:elemL (x :: s) with
  | none=>rfl
  | some y=>obtain ⟨r,t⟩:=y;have:=kH (by simp) h;simp only [List.length_cons] at this;exact Fw _ _ _ _ (by omega) qN
def yA (n:Nat):∀s acc l,elemsF n s acc=some l->l.length<=acc.length+s.length/\0 < l.length:=by
 induction n with
 | zero =>
  intro s acc l h;unfold elemsF at h;split at h
  . split at h
    . cases h
    simp only [Option.some.injEq] at h;subst h;omega
  cases h
 | succ n ih =>
  intro s acc l h;unfold elemsF at h;split at h
  . split at h
    . cases h
    simp only [Option.some.injEq] at h;subst h;omega
  rename_i h0
  cases hs:elemL s with
  | none=>rw [hs] at h;cases h
  | some y =>
   obtain ⟨x,t⟩:=y;rw [hs] at h;have l1:=kH (by rintro rfl;exact h0 rfl) hs;have l2:=ih t _ l h;rw [List.length_append,List.length_singleton] at l2;omega
def cutM (s:By):Nat × By:=if pre [33] s then (1,s.drop 1) else if pre [40,63,105,41] s then (2,s.drop 4) else if pre [40,63,100,41] s then (4,s.drop 4) else (0,s)
def rD {s:By} (h:(cutM s).1≠0):(cutM s).2.length < s.length:=by
 unfold cutM at h ⊢;split
 . rename_i hp;have:=bU hp;simp at this ⊢;omega
 split
 . rename_i hp;have:=bU hp;simp at this ⊢;omega
 split
 . rename_i hp;have:=bU hp;simp at this ⊢;omega
 rename_i h1 h2 h3;simp [h1,h2,h3] at h
def marksF:Nat->Nat->By->Option (Nat × By)
 | 0,m,s=>some (m,s)
 | n+1,m,s=>if (cutM s).1=0 then some (m,s) else if m &&& (cutM s).1≠0 then none else marksF n (m ||| (cutM s).1) (cutM s).2
def Gn (n:Nat):∀k m s,s.length<=n->s.length<=k->marksF n m s=marksF k m s:=by
 induction n with
 | zero =>
  intro k m s h1 h2;obtain rfl:=List.length_eq_zero_iff.1 (Nat.le_zero.1 h1)
  cases k<;>rfl
 | succ n ih =>
  intro k m s h1 h2
  cases k with
  | zero=>obtain rfl:=List.length_eq_zero_iff.1 (Nat.le_zero.1 h2);rfl
  | succ k =>
   unfold marksF;split
   . rfl
   rename_i h0
   split
   . rfl
   have:=rD h0;exact ih k _ _ (by omega) (by omega)
def marks (m:Nat) (s:By):Option (Nat × By):=marksF s.length m s
def Bu (m:Nat) (s:By):marks m s=if (cutM s).1=0 then some (m,s) else if m &&& (cutM s).1≠0 then none else marks (m ||| (cutM s).1) (cutM s).2:=by
 unfold marks
 cases s with
 | nil=>rfl
 | cons x s =>
  rw [List.length_cons,marksF];split
  . rfl
  rename_i h0
  split
  . rfl
  have:=rD h0;simp only [List.length_cons] at this;exact Gn _ _ _ _ (by omega) qN
def pZ (n:Nat):∀m s k t,marksF n m s=some (k,t)->t.length<=s.length:=by
 induction n with
 | zero=>intro m s k t h;simp only [marksF,Option.some.injEq,Prod.mk.injEq] at h;rw [<-h.2];exact Nat.le_refl _
 | succ n ih =>
  intro m s k t h;unfold marksF at h;split at h
  . simp only [Option.some.injEq,Prod.mk.injEq] at h;rw [<-h.2];exact Nat.le_refl _
  rename_i h0
  split at h
  . cases h
  have:=ih _ _ _ _ h;have:=rD h0;omega
structure Pt where
 m:Nat
 rooted:Bool
 els:List El
def parseL (s:By):Option Pt :=
 match marks 0 s with
 | none=>none
 | some (m,t)=>match dH (if pre [47] t then t.drop 1 else t) [] with
  | none=>none
  | some l=>some ⟨m,pre [47] t,l⟩
def Mb {s:By} {p:Pt} (h:parseL s=some p):p.els.length<=s.length/\0 < p.els.length:=by
 unfold parseL at h;split at h
 . cases h
 rename_i m t hm
 split at h
 . cases h
 rename_i l hl
 simp only [Option.some.injEq] at h;subst h;have h1:=pZ _ _ _ _ _ hm;have h2:=yA _ _ _ _ hl;have h3:(if pre [47] t=true then t.drop 1 else t).length<=t.length:=by split<;>simp
 simp only [List.length_nil] at h2 ⊢;omega
def Pt.folded (p:Pt):Bool:=p.m &&& 2 != 0
abbrev H:=List ((UInt8->Bool) × Bool)
def hsOf (fold:Bool) (l:List El):H:=l.map fun e=>(bD fold e,e.many)
def Pt.hs (p:Pt):H:=hsOf p.folded p.els
def pO (fold:Bool) (l:List El):(hsOf fold l).length=l.length:=by simp [hsOf]
def hold (hs:H) (k:Nat) (c:UInt8):Bool:=(hs.getD k (fun _=>false,false)).1 c
def many (hs:H) (k:Nat):Bool:=(hs.getD k (fun _=>false,false)).2
def uC {hs:H} {k:Nat} (h:hs.length<=k):many hs k=false:=by simp [many,List.getD,List.getElem?_eq_none h]
abbrev Pl:=Nat->Bool
def skipA (hs:H) (A:Pl):Pl
 | 0=>A 0
 | k+1=>A (k+1)||(skipA hs A k&&many hs k)
def jP (hs:H) (A:Pl) (c:UInt8):Pl:=fun k=>(decide (k < hs.length)&&many hs k&&A k&&hold hs k c)||(decide (0 < k/\k<=hs.length)&&!many hs (k - 1)&&A (k - 1)&&hold hs (k - 1) c)
def startB (rooted:Bool) (path:By) (i:Nat):Bool:=i == 0||((at8 path (i - 1) == 47)&&!rooted)
def rV (path:By) (i:Nat):Bool:=i == path.length||(at8 path i == 47)
def fX (b:Bool) (A:Pl):Pl:=fun k=>(b&&k == 0)||A k
def preA (rooted:Bool) (hs:H) (path:By):Nat->Pl
 | 0=>fun _=>false
 | i+1=>jP hs (skipA hs (fX (startB rooted path i) (preA rooted hs path i))) (at8 path i)
def atA (rooted:Bool) (hs:H) (path:By) (i:Nat):Pl:=skipA hs (fX (startB rooted path i) (preA rooted hs path i))
def mB (rooted:Bool) (hs:H) (path:By):Bool:=decide (path.length<=160)&&(List.range (path.length+1)).any fun i=>atA rooted hs path i hs.length&&rV path i
def plv (A:Pl):Array Value:=((List.range 129).map fun k=>Value.bool (A k)).toArray
def gM (A:Pl):(plv A).size=129:=by simp [plv]
def lG (A:Pl) (j:Nat) (h:j < 129):(plv A)[j]? = some (.bool (A j)):=by
 simp [plv,List.getElem?_range h]
def tP (A:Pl):(plv A).all (·.oneCell')=true:=by simp [plv,Value.oneCell']
def tS (A:Pl) (j:Nat):(plv A).setIfInBounds j (.bool true)=plv (fun k=>A k||k == j):=by
 apply Array.ext
 . simp [plv]
 intro i h1 h2;have hi:i < 129:=by simpa [plv] using h2
 by_cases e:j=i
 . subst e;simp [plv]
 simp [plv,e,Ne.symm e]
def bH (l:By):(ba l).toList=l:=ByteArray.toList_eq (ba l)
def Bc (s p:By) (w:World) :
 qC 124 #[.string (ba s),.string (ba p)] w fun e w'=>e=.returned (.bool (pre p s))/\w=w':=by
 have z1:=aD s;have z2:=aD p;have HP:=hid (vI p s);by_cases h:p.length<=s.length
 . go_enter Tryz.func124,Tryz.ntmps124
   go_wp2;go_ret;exact ⟨aF (by rw [HP.o,bH,gU,bH]),rfl⟩
 go_enter Tryz.func124,Tryz.ntmps124
 go_wp2;go_ret;refine ⟨aF ?_,rfl⟩
 cases hb:pre p s with
 | false=>rfl
 | true=>exact absurd (bU hb) h
def fV (s p:By) (w:World) :
 qC 75 #[.string (ba s),.string (ba p)] w fun e w'=>e=.returned (.bool (pre p s))/\w=w':=by
 go_enter Tryz.func75,Tryz.ntmps75
 go_wp2_with (go_at_call 124;refine (Bc _ _ _).mono ?_;rintro e1 w1 ⟨rfl,rfl⟩)
 go_ret;exact ⟨rfl,rfl⟩
def cA (p s:By):By:=if pre p s then s.drop p.length else s
def pV (p s:By):(cA p s).length<=s.length:=by unfold cA;split<;>simp
def Pd (s p:By) (w:World) :
 qC 92 #[.string (ba s),.string (ba p)] w fun e w'=>e=.returned (.tuple #[.string (ba (cA p s)),.bool (pre p s)])/\w=w':=by
 have z1:=aD s;have z2:=aD p;have hc:=Bc s p w
 cases hb:pre p s with
 | false =>
  rw [hb] at hc;go_enter Tryz.func92,Tryz.ntmps92
  go_wp2_with (go_at_call 124;refine hc.mono ?_;rintro e1 w1 ⟨rfl,rfl⟩)
  go_ret2;refine ⟨?_,rfl⟩;unfold cA;rw [hb];rfl
 | true =>
  rw [hb] at hc;have hl:=bU hb;go_enter Tryz.func92,Tryz.ntmps92
  go_wp2_with (go_at_call 124;refine hc.mono ?_;rintro e1 w1 ⟨rfl,rfl⟩)
  go_ret2;refine ⟨?_,rfl⟩;unfold cA;rw [hb,if_pos rfl,<-aR];rfl
def iW (s p:By) (w:World) :
 qC 47 #[.string (ba s),.string (ba p)] w fun e w'=>e=.returned (.tuple #[.string (ba (cA p s)),.bool (pre p s)])/\w=w':=by
 go_enter Tryz.func47,Tryz.ntmps47
 go_wp2_with (go_at_call 92;refine (Pd _ _ _).mono ?_;rintro e1 w1 ⟨rfl,rfl⟩)
 go_ret2;exact ⟨rfl,rfl⟩
def rK (x:Option (UInt8 × By)):Value:=match x with
 | none=>.tuple #[.int .u8 0,.string ⟨#[]⟩,.bool false]
 | some (c,r)=>.tuple #[.int .u8 (b8 c),.string (ba r),.bool true]
def dL (t:By) (h:0 < t.length) (w:World):(Instr.index 9 (.string (ba t)) (.int .i64 0)).run Tryz.prog w=.ok (.int .u8 (b8 (at8 t 0))) w:=aX t 0 h w
def tN (t:By) (h:1 < t.length) (w:World):(Instr.index 9 (.string (ba t)) (.int .i64 1)).run Tryz.prog w=.ok (.int .u8 (b8 (at8 t 1))) w:=aX t 1 h w
def dC (s:By) (w:World) :
 qC 220 #[.string (ba s)] w fun e w'=>e=.returned (rK (dA s))/\∃n,w'=w.drewN n:=by
 obtain ⟨t,ht⟩:∃t,t=cA [92] s:=⟨_,rfl⟩;obtain ⟨b,hb⟩:=qY (pre [92] s);have HE:Hid (dA s=if t.length=0 then none else if b&&(at8 t 0 == 47) then none else some (at8 t 0,t.drop 1)):=by
  subst hb;subst ht;rfl
 have hc:∀W,qC 47 #[.string (ba s),.string ⟨#[92]⟩] W fun e w'=>e=.returned (.tuple #[.string (ba t),.bool b])/\W=w':=by
  intro W;have:=iW s [92] W;rw [<-ht,hb] at this;exact this
 clear ht hb;have z:=aD t;have zt:=bH t;by_cases h0:t.length=0
 .
  obtain rfl:=List.length_eq_zero_iff.1 h0;go_enter Tryz.func220,Tryz.ntmps220
  go_wp2_with (go_at_call 47;refine (hc _).mono ?_;rintro e1 w1 ⟨rfl,rfl⟩)
  refine bodyPost_ret (results_tmp3 rfl _ _ _) rfl ⟨?_,0,rfl⟩;rw [HE.o];rfl
 have i0:=dL t (by omega);have e0:(t == [])=false:=by cases t with | nil=>exact absurd rfl h0 | cons _ _=>rfl
 have H0:=hid h0;have HD:=hid (aR t 1);have q7:=aL (at8 t 0) 47;rw [show b8 47=47 from rfl] at q7;generalize at8 t 0=x at HE i0 q7;obtain ⟨c,LQ⟩:=qY ((x == 47));rw [LQ] at HE q7
 cases b with
 | false =>
  go_enter Tryz.func220,Tryz.ntmps220
  go_wp2_with (go_at_call 47;refine (hc _).mono ?_;rintro e1 w1 ⟨rfl,rfl⟩)
  go_quiet (fail)
  go_wp2;refine bodyPost_ret (results_tmp3 rfl _ _ _) rfl ⟨?_,_,rfl⟩;rw [HE.o,if_neg H0.o];simp [rK,HD.o]
 | true =>
  cases c with
  | true =>
   go_enter Tryz.func220,Tryz.ntmps220
   go_wp2_with (go_at_call 47;refine (hc _).mono ?_;rintro e1 w1 ⟨rfl,rfl⟩)
   refine bodyPost_ret (results_tmp3 rfl _ _ _) rfl ⟨?_,0,rfl⟩;rw [HE.o,if_neg H0.o];rfl
  | false =>
   go_enter Tryz.func220,Tryz.ntmps220
   go_wp2_with (go_at_call 47;refine (hc _).mono ?_;rintro e1 w1 ⟨rfl,rfl⟩)
   go_quiet (fail)
   go_wp2;refine bodyPost_ret (results_tmp3 rfl _ _ _) rfl ⟨?_,_,rfl⟩;rw [HE.o,if_neg H0.o];simp [rK,HD.o]
def fY (s:By) (e:Ending):Prop:=∃lo hi r ok,e=.returned (.tuple #[.agg #[.int .u8 (b8 lo),.int .u8 (b8 hi)],.string (ba r),.bool ok])/\bJ s=if ok then some ((lo,hi),r) else none
def aJ {fn:Func} {p t u:Tmp} {ty:TypeId} (h:fn.results=#[.cell p ty,.tmp t,.tmp u]) (tmps:Array Value) (P:Program) (w:World) (g:Nat) (cs:Array Value) (b c:Value)
 (hl:(loadVar ty ⟨g,0,none⟩).run P w=.ok (.agg cs) w) (hp:tmps.getD p undef=.pointer (some ⟨g,0,none⟩)) (hb:tmps.getD t undef=b) (hc:tmps.getD u undef=c) :
 (results fn tmps).run P w=.ok (.tuple #[.agg cs,b,c]) w:=by
 subst hb;subst hc;simp only [Array.getD_eq_getD_getElem?] at hp ⊢;simp [results,h,hp,asAddr,hl]
def jn:(Tryz.prog.info? 281).map (·.size)=some 2:=by kernel_rfl
def cC {w:World} {g:Nat} {a b:Value} (k:Has w g 281 #[a,b]):(loadVar 281 ⟨g,0,none⟩).run Tryz.prog w=.ok (.agg #[a,b]) w :=
 run_loadVar_row (P:=Tryz.prog) w g 281 281 #[a,b] (0,0) _ k Tryz.underlying281 rfl jn
def Bd (x y:UInt8):decide (b8 x<=b8 y)=decide (x.toNat<=y.toNat):=by unfold b8;rw [decide_eq_decide];omega
def fU (x:UInt8) (k:UInt8):(b8 x != b8 k) = !(x == k):=by rw [bne,aL]
def Qf (s:By) (h:dA s=none) (w:World) :
 qC 254 #[.string (ba s)] w fun e w'=>fY s e/\qW w w':=by
 have HS:Hid (bJ s=none):=by show _=_;unfold bJ;rw [h]
 have hc:∀W,qC 220 #[.string (ba s)] W fun e w'=>e=.returned (.tuple #[.int .u8 0,.string ⟨#[]⟩,.bool false])/\∃n,w'=W.drewN n:=by
  intro W;have:=dC s W;rw [h] at this;exact this
 clear h;go_enter Tryz.func254,Tryz.ntmps254
 go_wp2_with (go_at_call 220;refine (hc _).mono ?_;rintro e1 w1 ⟨rfl,n1,rfl⟩)
 exact bodyPost_ret (aJ rfl _ _ _ w.heap.size _ _ _ (cC ((((Has.fresh w 281 _).drawn n1).put 0 _).put 1 _)) rfl rfl rfl) rfl
  ⟨⟨0,0,[],false,rfl,HS.o⟩,(((qB.alloc qN _).drewG n1).setCell qN _).setCell qN _⟩
def Zz (s:By) (lo:UInt8) (r:By) (h:dA s=some (lo,r)) (h1:¬1 < r.length) (h7:(lo == 47)=true) (w:World) :
 qC 254 #[.string (ba s)] w fun e w'=>fY s e/\qW w w':=by
 have HS:Hid (bJ s=none):=by
  show _=_;unfold bJ;rw [h];simp only;rw [if_neg (by rw [decide_eq_false h1];simp)];rw [if_neg (by rw [h7];decide)]
 have hc:∀W,qC 220 #[.string (ba s)] W fun e w'=>e=.returned (.tuple #[.int .u8 (b8 lo),.string (ba r),.bool true])/\∃n,w'=W.drewN n:=by
  intro W;have:=dC s W;rw [h] at this;exact this
 have z:=aD r;have g1:¬((1:Int) < (r.length:Int)):=by omega
 have n7:(b8 lo != 47)=false:=by have:=fU lo 47;rw [h7] at this;exact this
 clear h h1 h7;go_enter Tryz.func254,Tryz.ntmps254
 go_wp2_with (fail)
 refine (hc _).mono ?_;rintro e1 w1 ⟨rfl,n1,rfl⟩;go_wp2;exact bodyPost_ret (aJ rfl _ _ _ w.heap.size _ _ _ (cC ((((Has.fresh w 281 _).drawn n1).put 0 _).put 1 _)) rfl rfl rfl) rfl
  ⟨⟨lo,lo,r,false,rfl,HS.o⟩,(((qB.alloc qN _).drewG n1).setCell qN _).setCell qN _⟩
def Zk (s:By) (lo:UInt8) (r:By) (h:dA s=some (lo,r)) (h1:¬1 < r.length) (h7:(lo == 47)=false) (w:World) :
 qC 254 #[.string (ba s)] w fun e w'=>fY s e/\qW w w':=by
 have HS:Hid (bJ s=some ((lo,lo),r)):=by
  show _=_;unfold bJ;rw [h];simp only;rw [if_neg (by rw [decide_eq_false h1];simp)];rw [if_pos (by rw [h7];decide)]
 have hc:∀W,qC 220 #[.string (ba s)] W fun e w'=>e=.returned (.tuple #[.int .u8 (b8 lo),.string (ba r),.bool true])/\∃n,w'=W.drewN n:=by
  intro W;have:=dC s W;rw [h] at this;exact this
 have z:=aD r;have g1:¬((1:Int) < (r.length:Int)):=by omega
 have n7:(b8 lo != 47)=true:=by have:=fU lo 47;rw [h7] at this;exact this
 clear h h1 h7;go_enter Tryz.func254,Tryz.ntmps254
 go_wp2_with (fail)
 refine (hc _).mono ?_;rintro e1 w1 ⟨rfl,n1,rfl⟩;go_wp2;exact bodyPost_ret (aJ rfl _ _ _ w.heap.size _ _ _ (cC ((((Has.fresh w 281 _).drawn n1).put 0 _).put 1 _)) rfl rfl rfl) rfl
  ⟨⟨lo,lo,r,true,rfl,HS.o⟩,(((qB.alloc qN _).drewG n1).setCell qN _).setCell qN _⟩
def da (s:By) (lo:UInt8) (r:By) (h:dA s=some (lo,r)) (h1:1 < r.length) (h2:(at8 r 0 == 45)=false) (h7:(lo == 47)=true) (w:World) :
 qC 254 #[.string (ba s)] w fun e w'=>fY s e/\qW w w':=by
 have HS:Hid (bJ s=none):=by
  show _=_;unfold bJ;rw [h];simp only;rw [if_neg (by rw [h2,Bool.and_false];simp)];rw [if_neg (by rw [h7];decide)]
 have hc:∀W,qC 220 #[.string (ba s)] W fun e w'=>e=.returned (.tuple #[.int .u8 (b8 lo),.string (ba r),.bool true])/\∃n,w'=W.drewN n:=by
  intro W;have:=dC s W;rw [h] at this;exact this
 have z:=aD r;have g1:(1:Int) < (r.length:Int):=by omega
 have i0:=dL r (by omega);have q0:(b8 (at8 r 0) == 45)=false:=(aL (at8 r 0) 45).trans h2;generalize at8 r 0=x0 at i0 q0;have n7:(b8 lo != 47)=false:=by have:=fU lo 47;rw [h7] at this;exact this
 clear h h1 h2 h7;go_enter Tryz.func254,Tryz.ntmps254
 go_wp2_with (fail)
 refine (hc _).mono ?_;rintro e1 w1 ⟨rfl,n1,rfl⟩;go_wp2;exact bodyPost_ret (aJ rfl _ _ _ w.heap.size _ _ _ (cC ((((Has.fresh w 281 _).drawn n1).put 0 _).put 1 _)) rfl rfl rfl) rfl
  ⟨⟨lo,lo,r,false,rfl,HS.o⟩,(((qB.alloc qN _).drewG n1).setCell qN _).setCell qN _⟩
def cy (s:By) (lo:UInt8) (r:By) (h:dA s=some (lo,r)) (h1:1 < r.length) (h2:(at8 r 0 == 45)=false) (h7:(lo == 47)=false) (w:World) :
 qC 254 #[.string (ba s)] w fun e w'=>fY s e/\qW w w':=by
 have HS:Hid (bJ s=some ((lo,lo),r)):=by
  show _=_;unfold bJ;rw [h];simp only;rw [if_neg (by rw [h2,Bool.and_false];simp)];rw [if_pos (by rw [h7];decide)]
 have hc:∀W,qC 220 #[.string (ba s)] W fun e w'=>e=.returned (.tuple #[.int .u8 (b8 lo),.string (ba r),.bool true])/\∃n,w'=W.drewN n:=by
  intro W;have:=dC s W;rw [h] at this;exact this
 have z:=aD r;have g1:(1:Int) < (r.length:Int):=by omega
 have i0:=dL r (by omega);have q0:(b8 (at8 r 0) == 45)=false:=(aL (at8 r 0) 45).trans h2;generalize at8 r 0=x0 at i0 q0;have n7:(b8 lo != 47)=true:=by have:=fU lo 47;rw [h7] at this;exact this
 clear h h1 h2 h7;go_enter Tryz.func254,Tryz.ntmps254
 go_wp2_with (fail)
 refine (hc _).mono ?_;rintro e1 w1 ⟨rfl,n1,rfl⟩;go_wp2;exact bodyPost_ret (aJ rfl _ _ _ w.heap.size _ _ _ (cC ((((Has.fresh w 281 _).drawn n1).put 0 _).put 1 _)) rfl rfl rfl) rfl
  ⟨⟨lo,lo,r,true,rfl,HS.o⟩,(((qB.alloc qN _).drewG n1).setCell qN _).setCell qN _⟩
def aa (s:By) (lo:UInt8) (r:By) (h:dA s=some (lo,r)) (h1:1 < r.length) (h2:(at8 r 0 == 45)=true) (h3:(at8 r 1 == 93)=true) (h7:(lo == 47)=true) (w:World) :
 qC 254 #[.string (ba s)] w fun e w'=>fY s e/\qW w w':=by
 have HS:Hid (bJ s=none):=by
  show _=_;unfold bJ;rw [h];simp only;rw [if_neg (by rw [h3,Bool.not_true,Bool.and_false];simp)];rw [if_neg (by rw [h7];decide)]
 have hc:∀W,qC 220 #[.string (ba s)] W fun e w'=>e=.returned (.tuple #[.int .u8 (b8 lo),.string (ba r),.bool true])/\∃n,w'=W.drewN n:=by
  intro W;have:=dC s W;rw [h] at this;exact this
 have z:=aD r;have g1:(1:Int) < (r.length:Int):=by omega
 have i0:=dL r (by omega);have i1:=tN r h1;have q0:(b8 (at8 r 0) == 45)=true:=(aL (at8 r 0) 45).trans h2;have q1:(b8 (at8 r 1) != 93)=false:=by have:=fU (at8 r 1) 93;rw [h3] at this;exact this
 generalize at8 r 0=x0 at i0 q0 h2;generalize at8 r 1=x1 at i1 q1 h3;have n7:(b8 lo != 47)=false:=by have:=fU lo 47;rw [h7] at this;exact this
 clear h h2 h3 h7;go_enter Tryz.func254,Tryz.ntmps254
 go_wp2_with (fail)
 refine (hc _).mono ?_;rintro e1 w1 ⟨rfl,n1,rfl⟩;go_wp2;exact bodyPost_ret (aJ rfl _ _ _ w.heap.size _ _ _ (cC ((((Has.fresh w 281 _).drawn n1).put 0 _).put 1 _)) rfl rfl rfl) rfl
  ⟨⟨lo,lo,r,false,rfl,HS.o⟩,(((qB.alloc qN _).drewG n1).setCell qN _).setCell qN _⟩
def Yp (s:By) (lo:UInt8) (r:By) (h:dA s=some (lo,r)) (h1:1 < r.length) (h2:(at8 r 0 == 45)=true) (h3:(at8 r 1 == 93)=true) (h7:(lo == 47)=false) (w:World) :
 qC 254 #[.string (ba s)] w fun e w'=>fY s e/\qW w w':=by
 have HS:Hid (bJ s=some ((lo,lo),r)):=by
  show _=_;unfold bJ;rw [h];simp only;rw [if_neg (by rw [h3,Bool.not_true,Bool.and_false];simp)];rw [if_pos (by rw [h7];decide)]
 have hc:∀W,qC 220 #[.string (ba s)] W fun e w'=>e=.returned (.tuple #[.int .u8 (b8 lo),.string (ba r),.bool true])/\∃n,w'=W.drewN n:=by
  intro W;have:=dC s W;rw [h] at this;exact this
 have z:=aD r;have g1:(1:Int) < (r.length:Int):=by omega
 have i0:=dL r (by omega);have i1:=tN r h1;have q0:(b8 (at8 r 0) == 45)=true:=(aL (at8 r 0) 45).trans h2;have q1:(b8 (at8 r 1) != 93)=false:=by have:=fU (at8 r 1) 93;rw [h3] at this;exact this
 generalize at8 r 0=x0 at i0 q0 h2;generalize at8 r 1=x1 at i1 q1 h3;have n7:(b8 lo != 47)=true:=by have:=fU lo 47;rw [h7] at this;exact this
 clear h h2 h3 h7;go_enter Tryz.func254,Tryz.ntmps254
 go_wp2_with (fail)
 refine (hc _).mono ?_;rintro e1 w1 ⟨rfl,n1,rfl⟩;go_wp2;exact bodyPost_ret (aJ rfl _ _ _ w.heap.size _ _ _ (cC ((((Has.fresh w 281 _).drawn n1).put 0 _).put 1 _)) rfl rfl rfl) rfl
  ⟨⟨lo,lo,r,true,rfl,HS.o⟩,(((qB.alloc qN _).drewG n1).setCell qN _).setCell qN _⟩
def ai (s:By) (lo:UInt8) (r:By) (h:dA s=some (lo,r)) (h1:1 < r.length) (h2:(at8 r 0 == 45)=true) (h3:(at8 r 1 == 93)=false) (h4:dA (r.drop 1)=none) (w:World) :
 qC 254 #[.string (ba s)] w fun e w'=>fY s e/\qW w w':=by
 have HS:Hid (bJ s=none):=by
  show _=_;unfold bJ;rw [h];simp only;rw [if_pos (by rw [decide_eq_true h1,h2,h3];rfl),h4]
 have hc:∀W,qC 220 #[.string (ba s)] W fun e w'=>e=.returned (.tuple #[.int .u8 (b8 lo),.string (ba r),.bool true])/\∃n,w'=W.drewN n:=by
  intro W;have:=dC s W;rw [h] at this;exact this
 have z:=aD r;have g1:(1:Int) < (r.length:Int):=by omega
 have i0:=dL r (by omega);have i1:=tN r h1;have q0:(b8 (at8 r 0) == 45)=true:=(aL (at8 r 0) 45).trans h2;have q1:(b8 (at8 r 1) != 93)=true:=by have:=fU (at8 r 1) 93;rw [h3] at this;exact this
 have T0:=aR r 1;generalize r.drop 1=rd at T0 h4;generalize at8 r 0=x0 at i0 q0 h2;generalize at8 r 1=x1 at i1 q1 h3;have tj:∀W,qC 220 #[.string (ba rd)] W fun e w'=>e=.returned (.tuple #[.int .u8 0,.string ⟨#[]⟩,.bool false])/\∃n,w'=W.drewN n:=by
  intro W;have:=dC rd W;rw [h4] at this;exact this
 clear h h2 h3 h4;go_enter Tryz.func254,Tryz.ntmps254
 go_wp2_with (fail)
 refine (hc _).mono ?_;rintro e1 w1 ⟨rfl,n1,rfl⟩;go_wp2_with (fail)
 refine (tj _).mono ?_;rintro e2 w2 ⟨rfl,n2,rfl⟩;go_wp2;exact bodyPost_ret (aJ rfl _ _ _ w.heap.size _ _ _ (cC ((((Has.fresh w 281 _).drawn (n1+n2)).put 0 _).put 1 _)) rfl rfl rfl) rfl
  ⟨⟨lo,0,[],false,rfl,HS.o⟩,(((qB.alloc qN _).drewG (n1+n2)).setCell qN _).setCell qN _⟩
def de (s:By) (lo:UInt8) (r:By) (h:dA s=some (lo,r)) (h1:1 < r.length) (h2:(at8 r 0 == 45)=true) (h3:(at8 r 1 == 93)=false) (hi:UInt8) (r2:By) (h4:dA (r.drop 1)=some (hi,r2)) (h5:decide (lo.toNat<=hi.toNat)=false) (w:World) :
 qC 254 #[.string (ba s)] w fun e w'=>fY s e/\qW w w':=by
 have HS:Hid (bJ s=none):=by
  show _=_;unfold bJ;rw [h];simp only;rw [if_pos (by rw [decide_eq_true h1,h2,h3];rfl),h4];simp only;rw [if_neg (by rw [h5];simp)]
 have hc:∀W,qC 220 #[.string (ba s)] W fun e w'=>e=.returned (.tuple #[.int .u8 (b8 lo),.string (ba r),.bool true])/\∃n,w'=W.drewN n:=by
  intro W;have:=dC s W;rw [h] at this;exact this
 have z:=aD r;have g1:(1:Int) < (r.length:Int):=by omega
 have i0:=dL r (by omega);have i1:=tN r h1;have q0:(b8 (at8 r 0) == 45)=true:=(aL (at8 r 0) 45).trans h2;have q1:(b8 (at8 r 1) != 93)=true:=by have:=fU (at8 r 1) 93;rw [h3] at this;exact this
 have T0:=aR r 1;generalize r.drop 1=rd at T0 h4;generalize at8 r 0=x0 at i0 q0 h2;generalize at8 r 1=x1 at i1 q1 h3;have tj:∀W,qC 220 #[.string (ba rd)] W fun e w'=>e=.returned (.tuple #[.int .u8 (b8 hi),.string (ba r2),.bool true])/\∃n,w'=W.drewN n:=by
  intro W;have:=dC rd W;rw [h4] at this;exact this
 have n5:decide (b8 lo<=b8 hi)=false:=(Bd lo hi).trans h5;clear h h2 h3 h4 h5;go_enter Tryz.func254,Tryz.ntmps254
 go_wp2_with (fail)
 refine (hc _).mono ?_;rintro e1 w1 ⟨rfl,n1,rfl⟩;go_wp2_with (fail)
 refine (tj _).mono ?_;rintro e2 w2 ⟨rfl,n2,rfl⟩;go_wp2;exact bodyPost_ret (aJ rfl _ _ _ w.heap.size _ _ _ (cC ((((Has.fresh w 281 _).drawn (n1+n2)).put 0 _).put 1 _)) rfl rfl rfl) rfl
  ⟨⟨lo,hi,r2,false,rfl,HS.o⟩,(((qB.alloc qN _).drewG (n1+n2)).setCell qN _).setCell qN _⟩
def Xo (s:By) (lo:UInt8) (r:By) (h:dA s=some (lo,r)) (h1:1 < r.length) (h2:(at8 r 0 == 45)=true) (h3:(at8 r 1 == 93)=false) (hi:UInt8) (r2:By) (h4:dA (r.drop 1)=some (hi,r2)) (h5:decide (lo.toNat<=hi.toNat)=true) (h7:(lo == 47)=true) (w:World) :
 qC 254 #[.string (ba s)] w fun e w'=>fY s e/\qW w w':=by
 have HS:Hid (bJ s=none):=by
  show _=_;unfold bJ;rw [h];simp only;rw [if_pos (by rw [decide_eq_true h1,h2,h3];rfl),h4];simp only;rw [if_neg (by rw [h5,h7];simp)]
 have hc:∀W,qC 220 #[.string (ba s)] W fun e w'=>e=.returned (.tuple #[.int .u8 (b8 lo),.string (ba r),.bool true])/\∃n,w'=W.drewN n:=by
  intro W;have:=dC s W;rw [h] at this;exact this
 have z:=aD r;have g1:(1:Int) < (r.length:Int):=by omega
 have i0:=dL r (by omega);have i1:=tN r h1;have q0:(b8 (at8 r 0) == 45)=true:=(aL (at8 r 0) 45).trans h2;have q1:(b8 (at8 r 1) != 93)=true:=by have:=fU (at8 r 1) 93;rw [h3] at this;exact this
 have T0:=aR r 1;generalize r.drop 1=rd at T0 h4;generalize at8 r 0=x0 at i0 q0 h2;generalize at8 r 1=x1 at i1 q1 h3;have tj:∀W,qC 220 #[.string (ba rd)] W fun e w'=>e=.returned (.tuple #[.int .u8 (b8 hi),.string (ba r2),.bool true])/\∃n,w'=W.drewN n:=by
  intro W;have:=dC rd W;rw [h4] at this;exact this
 have n5:decide (b8 lo<=b8 hi)=true:=(Bd lo hi).trans h5;have n7:(b8 lo != 47)=false:=by have:=fU lo 47;rw [h7] at this;exact this
 clear h h2 h3 h4 h5 h7;go_enter Tryz.func254,Tryz.ntmps254
 go_wp2_with (fail)
 refine (hc _).mono ?_;rintro e1 w1 ⟨rfl,n1,rfl⟩;go_wp2_with (fail)
 refine (tj _).mono ?_;rintro e2 w2 ⟨rfl,n2,rfl⟩;go_wp2;exact bodyPost_ret (aJ rfl _ _ _ w.heap.size _ _ _ (cC ((((Has.fresh w 281 _).drawn (n1+n2)).put 0 _).put 1 _)) rfl rfl rfl) rfl
  ⟨⟨lo,hi,r2,false,rfl,HS.o⟩,(((qB.alloc qN _).drewG (n1+n2)).setCell qN _).setCell qN _⟩
def Pm (s:By) (lo:UInt8) (r:By) (h:dA s=some (lo,r)) (h1:1 < r.length) (h2:(at8 r 0 == 45)=true) (h3:(at8 r 1 == 93)=false) (hi:UInt8) (r2:By) (h4:dA (r.drop 1)=some (hi,r2)) (h5:decide (lo.toNat<=hi.toNat)=true) (h7:(lo == 47)=false) (h8:(hi == 47)=true) (w:World) :
 qC 254 #[.string (ba s)] w fun e w'=>fY s e/\qW w w':=by
 have HS:Hid (bJ s=none):=by
  show _=_;unfold bJ;rw [h];simp only;rw [if_pos (by rw [decide_eq_true h1,h2,h3];rfl),h4];simp only;rw [if_neg (by rw [h5,h7,h8];decide)]
 have hc:∀W,qC 220 #[.string (ba s)] W fun e w'=>e=.returned (.tuple #[.int .u8 (b8 lo),.string (ba r),.bool true])/\∃n,w'=W.drewN n:=by
  intro W;have:=dC s W;rw [h] at this;exact this
 have z:=aD r;have g1:(1:Int) < (r.length:Int):=by omega
 have i0:=dL r (by omega);have i1:=tN r h1;have q0:(b8 (at8 r 0) == 45)=true:=(aL (at8 r 0) 45).trans h2;have q1:(b8 (at8 r 1) != 93)=true:=by have:=fU (at8 r 1) 93;rw [h3] at this;exact this
 have T0:=aR r 1;generalize r.drop 1=rd at T0 h4;generalize at8 r 0=x0 at i0 q0 h2;generalize at8 r 1=x1 at i1 q1 h3;have tj:∀W,qC 220 #[.string (ba rd)] W fun e w'=>e=.returned (.tuple #[.int .u8 (b8 hi),.string (ba r2),.bool true])/\∃n,w'=W.drewN n:=by
  intro W;have:=dC rd W;rw [h4] at this;exact this
 have n5:decide (b8 lo<=b8 hi)=true:=(Bd lo hi).trans h5;have n7:(b8 lo != 47)=true:=by have:=fU lo 47;rw [h7] at this;exact this
 have n8:(b8 hi != 47)=false:=by have:=fU hi 47;rw [h8] at this;exact this
 clear h h2 h3 h4 h5 h7 h8;go_enter Tryz.func254,Tryz.ntmps254
 go_wp2_with (fail)
 refine (hc _).mono ?_;rintro e1 w1 ⟨rfl,n1,rfl⟩;go_wp2_with (fail)
 refine (tj _).mono ?_;rintro e2 w2 ⟨rfl,n2,rfl⟩;go_wp2;exact bodyPost_ret (aJ rfl _ _ _ w.heap.size _ _ _ (cC ((((Has.fresh w 281 _).drawn (n1+n2)).put 0 _).put 1 _)) rfl rfl rfl) rfl
  ⟨⟨lo,hi,r2,false,rfl,HS.o⟩,(((qB.alloc qN _).drewG (n1+n2)).setCell qN _).setCell qN _⟩
def Pz (s:By) (lo:UInt8) (r:By) (h:dA s=some (lo,r)) (h1:1 < r.length) (h2:(at8 r 0 == 45)=true) (h3:(at8 r 1 == 93)=false) (hi:UInt8) (r2:By) (h4:dA (r.drop 1)=some (hi,r2)) (h5:decide (lo.toNat<=hi.toNat)=true) (h7:(lo == 47)=false) (h8:(hi == 47)=false) (w:World) :
 qC 254 #[.string (ba s)] w fun e w'=>fY s e/\qW w w':=by
 have HS:Hid (bJ s=some ((lo,hi),r2)):=by
  show _=_;unfold bJ;rw [h];simp only;rw [if_pos (by rw [decide_eq_true h1,h2,h3];rfl),h4];simp only;rw [if_pos (by rw [h5,h7,h8];decide)]
 have hc:∀W,qC 220 #[.string (ba s)] W fun e w'=>e=.returned (.tuple #[.int .u8 (b8 lo),.string (ba r),.bool true])/\∃n,w'=W.drewN n:=by
  intro W;have:=dC s W;rw [h] at this;exact this
 have z:=aD r;have g1:(1:Int) < (r.length:Int):=by omega
 have i0:=dL r (by omega);have i1:=tN r h1;have q0:(b8 (at8 r 0) == 45)=true:=(aL (at8 r 0) 45).trans h2;have q1:(b8 (at8 r 1) != 93)=true:=by have:=fU (at8 r 1) 93;rw [h3] at this;exact this
 have T0:=aR r 1;generalize r.drop 1=rd at T0 h4;generalize at8 r 0=x0 at i0 q0 h2;generalize at8 r 1=x1 at i1 q1 h3;have tj:∀W,qC 220 #[.string (ba rd)] W fun e w'=>e=.returned (.tuple #[.int .u8 (b8 hi),.string (ba r2),.bool true])/\∃n,w'=W.drewN n:=by
  intro W;have:=dC rd W;rw [h4] at this;exact this
 have n5:decide (b8 lo<=b8 hi)=true:=(Bd lo hi).trans h5;have n7:(b8 lo != 47)=true:=by have:=fU lo 47;rw [h7] at this;exact this
 have n8:(b8 hi != 47)=true:=by have:=fU hi 47;rw [h8] at this;exact this
 clear h h2 h3 h4 h5 h7 h8;go_enter Tryz.func254,Tryz.ntmps254
 go_wp2_with (fail)
 refine (hc _).mono ?_;rintro e1 w1 ⟨rfl,n1,rfl⟩;go_wp2_with (fail)
 refine (tj _).mono ?_;rintro e2 w2 ⟨rfl,n2,rfl⟩;go_wp2;exact bodyPost_ret (aJ rfl _ _ _ w.heap.size _ _ _ (cC ((((Has.fresh w 281 _).drawn (n1+n2)).put 0 _).put 1 _)) rfl rfl rfl) rfl
  ⟨⟨lo,hi,r2,true,rfl,HS.o⟩,(((qB.alloc qN _).drewG (n1+n2)).setCell qN _).setCell qN _⟩
def Ue (s:By) (w:World) :
 qC 254 #[.string (ba s)] w fun e w'=>fY s e/\qW w w':=by
 cases h:dA s with
 | none=>exact Qf s h w
 | some y =>
  obtain ⟨lo,r⟩:=y;by_cases h1:1 < r.length
  .
   cases h2:at8 r 0 == 45 with
   | false=>cases h7:lo == 47 with
    | true=>exact da s lo r h h1 h2 h7 w
    | false=>exact cy s lo r h h1 h2 h7 w
   | true => cases h3:at8 r 1 == 93 with
    | true=>cases h7:lo == 47 with
     | true=>exact aa s lo r h h1 h2 h3 h7 w
     | false=>exact Yp s lo r h h1 h2 h3 h7 w
    | false=>cases h4:dA (r.drop 1) with
     | none=>exact ai s lo r h h1 h2 h3 h4 w
     | some y =>
      obtain ⟨hi,r2⟩:=y
      cases h5:decide (lo.toNat<=hi.toNat) with
      | false=>exact de s lo r h h1 h2 h3 hi r2 h4 h5 w
      | true=>cases h7:lo == 47 with
       | true=>exact Xo s lo r h h1 h2 h3 hi r2 h4 h5 h7 w
       | false=>cases h8:hi == 47 with
             | true=>exact Pm s lo r h h1 h2 h3 hi r2 h4 h5 h7 h8 w
             | false=>exact Pz s lo r h h1 h2 h3 hi r2 h4 h5 h7 h8 w
  cases h7:lo == 47 with
  | true=>exact Zz s lo r h h1 h7 w
  | false=>exact Zk s lo r h h1 h7 w
end Go.Proofs.YtahkcemdbfjilaaGreatDoor.Glob
