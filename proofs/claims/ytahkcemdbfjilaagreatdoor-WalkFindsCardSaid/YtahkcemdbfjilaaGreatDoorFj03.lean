/- Texts. Conditions: as said. -/
import Derived.Test.YtahkcemdbfjilaaGreatDoorFj00
import Derived.Deep.RegionHeld3
import Derived.Test.YtahkcemdbfjilaaGreatDoorFj02
import Derived.Maps.AppendAt
import Derived.Laws.AppendOwn
set_option linter.all false
set_option maxRecDepth 100000
set_option maxHeartbeats 32000000
namespace Go.Proofs.YtahkcemdbfjilaaGreatDoor
open Go.RowKit Go.Maps
structure Turn (own:Nat->Prop) (w w':World):Prop where
 os:w'.os=w.os
 tape:w'.tape=w.tape
 output:w'.output=w.output
 size:w.heap.size<=w'.heap.size
 block:∀g,g < w.heap.size->¬own g->w'.heap[g]? = w.heap[g]?
def Turn.refl (own:Nat->Prop) (w:World):Turn own w w:=⟨rfl,rfl,rfl,Nat.le_refl _,fun _ _ _=>rfl⟩
def Turn.of_below {own:Nat->Prop} {w w':World} (h:qW w w'):Turn own w w':=⟨h.os,h.tape,h.output,h.size,fun g hg _=>h.block g hg⟩
def Turn.of_grw {own:Nat->Prop} {w w':World} {g:Nat} (h:w.grownBy w' (some g)) (ho:own g):Turn own w w':=⟨h.os,h.tape,h.output,h.size,fun k hk hn=>h.block k hk (fun e=>by injection e with e;subst e;exact hn ho)⟩
def Turn.trans {own own':Nat->Prop} {a b c:World} (h:Turn own a b) (k:Turn own' b c) (ho:∀g,own' g->own g∨a.heap.size<=g):Turn own a c :=
 ⟨k.os.trans h.os,k.tape.trans h.tape,k.output.trans h.output,Nat.le_trans h.size k.size,fun g hg hn=>(k.block g (Nat.lt_of_lt_of_le hg h.size) (fun e=>by rcases ho g e with e | e;exact hn e;omega)).trans (h.block g hg hn)⟩
def Turn.then {own:Nat->Prop} {a b c:World} (h:Turn own a b) (k:Turn own b c):Turn own a c:=h.trans k (fun _ e=>.inl e)
def Turn.below {own:Nat->Prop} {w w':World} {B:Nat} (h:Turn own w w') (ho:∀g,own g->B<=g) (hB:B<=w.heap.size):Below B w w':=⟨h.os,h.tape,h.output,h.size,fun g hg=>h.block g (by omega) (fun e=>by have:=ho g e;omega)⟩
def Turn.set {own:Nat->Prop} (w:World) (g i:Nat) (v:Value) (ho:own g):Turn own w (w.setCell ⟨g,i,none⟩ v) :=
 ⟨rfl,rfl,rfl,by simp,fun k _ hn=>Below.heap_setCell w ⟨g,i,none⟩ v k (fun e=>hn (by have e:k=g:=e;rw [e];exact ho))⟩
section
variable {ops:Array Oper} {S:World->Prop} {o:Oper} {a:Act}
theorem cU (hw:Region.wanted o (yielded ops a.tmps)=true) (T:TypeId) (x:Operand) (ho:o.op=.load T x) (g off:Nat) (hx:a.eval x=.pointer (some ⟨g,off,none⟩)) (r:Value)
 (hS:∀w,S w->(loadVar T ⟨g,off,none⟩).run Tryz.prog w=.ok r w):YieldsIf Tryz.prog ops S o r a :=
 .inl ⟨hw,fun w IF=>by
  unfold execOp;simp only [ho,hx,Instr.loadAt,Instr.sureAddr,Sem.run_bind,Sem.run_pure,Result.andThen_ok,hS w IF]⟩
theorem Mq {w:World} {K:Act->World->Prop} {Q:Exit->Act->World->Prop} {E:Prop} (hw:Region.wanted o (yielded ops a.tmps)=true) {t:TypeId} (m x:Operand) (ho:o.op=.mapEntry t m x) (mv xv v:Value) (hm:a.eval m=mv) (hx:a.eval x=xv)
 {w':World} (hr:(Instr.mapEntry t mv xv).run Tryz.prog w=.ok v w') (hK:K (a.put o.dst v) w'):if Region.wanted o (yielded ops a.tmps)=true then Oper.wp Tryz.prog o a w K Q else E:=by
 rw [if_pos hw];unfold Oper.wp;simp [execOp,ho,hm,hx,hr,Result.andThen];exact hK
theorem wG {w:World} {K:Act->World->Prop} {Q:Exit->Act->World->Prop} {E:Prop} (hw:Region.wanted o (yielded ops a.tmps)=true) {t:TypeId} (m s x:Operand) (ho:o.op=.entryStore t m s x) (mv sv xv:Value) (hm:a.eval m=mv) (hs:a.eval s=sv) (hx:a.eval x=xv)
 {w':World} (hr:(Instr.entryStore t mv sv xv).run Tryz.prog w=.ok () w') (hK:K (a.put o.dst undef) w'):if Region.wanted o (yielded ops a.tmps)=true then Oper.wp Tryz.prog o a w K Q else E:=by
 rw [if_pos hw];unfold Oper.wp;simp [execOp,ho,hm,hs,hx,hr,Result.andThen];exact hK
end
def Az {w:World} {g:Nat} {k:Int} {d x:By} {tm:Int} (h:Has w g 71 #[.int .i64 k,kS d,kS x,.int .i64 tm]):(loadVar 71 ⟨g,0,none⟩).run Tryz.prog w=.ok (nodeV ⟨k,d,x,tm⟩) w :=
 run_loadVar_row (P:=Tryz.prog) w g 71 71 #[.int .i64 k,kS d,kS x,.int .i64 tm] (0,0) _ h Tryz.underlying71 rfl (by kernel_rfl)
def TreeS.drew {w:World} {g o m:Nat} {t:TypeId} {cs:Array Value} {L:Tr} {u room:Nat} (h:TreeS w g o m t cs L u room):TreeS w.drew g o m t cs L u room:=h.kept rfl rfl
def TreeS.told {w:World} {g o m:Nat} {t:TypeId} {cs:Array Value} {L:Tr} {u room:Nat} (h:TreeS w g o m t cs L u room) (u':Nat) :
 TreeS (w.setCell ⟨g,o+1,none⟩ (.int .i64 (u':Int))) g o m t (cs.setIfInBounds (o+1) (.int .i64 (u':Int))) L u' room:=by
 have d8:o+1 < cs.size:=(Array.getElem?_eq_some_iff.1 h.k1).1;exact ⟨h.has.put _ _,by rw [Array.getElem?_setIfInBounds_ne (by omega)];exact h.k0,by rw [Array.getElem?_setIfInBounds_self_of_lt d8],by rw [Array.getElem?_setIfInBounds_ne (by omega)];exact h.k2,h.mp.kept (Below.heap_setCell w _ _ m h.ne),h.srt,h.ne,h.len⟩
def TreeS.same {w:World} {g o m:Nat} {t:TypeId} {cs:Array Value} {L:Tr} {u room:Nat} (h:TreeS w g o m t cs L u room):TreeS w g o m t (cs.setIfInBounds (o+1) (.int .i64 (u:Int))) L u room:=by
 have e:cs.setIfInBounds (o+1) (.int .i64 (u:Int))=cs:=by
  apply Array.ext_getElem?;intro i;rw [Array.getElem?_setIfInBounds];split
  .
   rename_i hi
   subst hi;split
   . exact h.k1.symm
   rename_i hn
   rw [Array.getElem?_eq_none (by omega)]
  rfl
 rw [e];exact h
structure PS (w0:World) (g o m:Nat) (t:TypeId) (cs:Array Value) (L:Tr) (u room bx:Nat) (nc:Array Value) (W:World):Prop where
 tr:TreeS W g o m t cs L u room
 box:Has W bx 71 nc
 bl:qW w0 W
def PS.drew {w0 W:World} {g o m:Nat} {t:TypeId} {cs:Array Value} {L:Tr} {u room bx:Nat} {nc:Array Value} (h:PS w0 g o m t cs L u room bx nc W):PS w0 g o m t cs L u room bx nc W.drew :=
 ⟨h.tr.drew,h.box,h.bl.drew⟩
def PS.on {w0 W W':World} {g o m:Nat} {t:TypeId} {cs:Array Value} {L:Tr} {u room bx:Nat} {nc:Array Value} (h:PS w0 g o m t cs L u room bx nc W) (hb:qW W W'):PS w0 g o m t cs L u room bx nc W' :=
 ⟨h.tr.on hb qN,h.box.kept hb h.box.inside,h.bl.trans (hb.mono h.bl.size)⟩
def zQ (g m k:Nat):Prop:=k=g∨k=m
structure BS (g o m bx:Nat) (nc:Array Value) (W:World):Prop where
 c0:W.cell? ⟨g,o,none⟩=some (.map (some m))
 box:Has W bx 71 nc
def TreeS.apart {w:World} {g o m:Nat} {t:TypeId} {cs:Array Value} {L:Tr} {u room bx:Nat} {tb:TypeId} {nc:Array Value} (h:TreeS w g o m t cs L u room) (hb:Has w bx tb nc):bx≠m:=fun e=>by
 obtain ⟨es,ck,hh,_⟩:=h.mp;unfold Has at hb;rw [e,hh] at hb;cases hb
def nS {w w':World} {m g:Nat} {t:TypeId} {cs:Array Value} (h:Has w g t cs) (hg:w.grownBy w' (some m)) (j3:g≠m):Has w' g t cs:=(hg.block g h.inside (fun e=>j3 (Option.some.inj e))).trans h
def Ck {w:World} {g o m:Nat} {t:TypeId} {cs:Array Value} {L:Tr} {u room:Nat} (h:TreeS w g o m t cs L u room) (hu:u=usedL L) (hur:u<=room) (hr:room<=1048576) (p:By) (hp:p.length<=4000) (n:Nd) (hn:n.data.length<=10000000) :
 qC 137 #[.pointer (some ⟨g,o,none⟩),kS p,nodeV n] w fun e w'=>e=.returned (.int .i64 (cK room L p n).1)/\Turn (zQ g m) w w'/\TreeS w' g o m t (cs.setIfInBounds (o+1) (.int .i64 ((usedL (cK room L p n).2:Nat):Int))) (cK room L p n).2 (usedL (cK room L p n).2) room:=by
 obtain ⟨k,d,x,tm⟩:=n;simp only at hn;have hz:(ba d).size=d.length:=aD d;have q1:=ao h.srt p;have q3:=jV h.srt p ⟨k,d,x,tm⟩;obtain ⟨q,HQ⟩:=qX (useP L p);have q2:q<=u:=by have:=HQ.o;omega
 obtain ⟨s,HT⟩:∃s,Hid (s=u - q+64+d.length):=⟨_,rfl⟩;have HN:Hid (jI ⟨k,d,x,tm⟩=64+d.length):=rfl;have hs:s<=20000000:=by have:=HT.o;omega
 have HS:Hid ((u:Int) - q+64+((ba d).size:Int)=(s:Int)):=by show _=_;have:=HT.o;omega
 have HI:Hid (s<=room->usedL (bA p ⟨k,d,x,tm⟩ L)=s):=by intro _;have:=HT.o;have:=HQ.o;have:=HN.o;omega
 have HP:Hid (s<=room->cK room L p ⟨k,d,x,tm⟩=(0,bA p ⟨k,d,x,tm⟩ L)):=by
  intro hc;unfold cK;rw [if_pos];have:=HT.o;have:=HQ.o;have:=HN.o;omega
 have NO:Hid (¬s<=room->cK room L p ⟨k,d,x,tm⟩=(7,L)):=by
  intro hc;unfold cK;rw [if_neg];have:=HT.o;have:=HQ.o;have:=HN.o;omega
 have C0:Hid (∀W,TreeS W g o m t cs L u room->qC 177 #[.pointer (some ⟨g,o,none⟩),kS p] W fun e w'=>e=.returned (.int .i64 (q:Int))/\qW W w'):=by
  intro W hW;rw [<-HQ.o];exact Ty hW p hp (by have:=HQ.o;omega)
 have P0:Hid (PS w g o m t cs L u room w.heap.size #[.int .i64 k,kS d,kS x,.int .i64 tm] (w.alloc (.cells #[.int .i64 k,kS d,kS x,.int .i64 tm] 71))) :=
  ⟨h.on (qB.alloc qN _) qN,Has.fresh _ _ _,qB.alloc qN _⟩
 have C1:=hid (C0.o _ P0.o.tr.drew);have r6:IntKind.i64.wrap ((u:Int) - q)=(u:Int) - q:=IntWalk.i64_in _ (by omega);have x9:IntKind.i64.wrap ((u:Int) - q+64)=(u:Int) - q+64:=IntWalk.i64_in _ (by omega);have rh:IntKind.i64.wrap ((u:Int) - q+64+((ba d).size:Int))=(u:Int) - q+64+((ba d).size:Int):=IntWalk.i64_in _ (by omega);have HU:=hid hu;have f8:=h.len;have HG:=hid h.has.inside;clear hu hz h q1 q3;show qC 137 #[.pointer (some ⟨g,o,none⟩),kS p,.agg #[.int .i64 k,kS d,kS x,.int .i64 tm]] w _
 by_cases hc:s<=room
 .
  have HE:=hid (HP.o hc);have HI2:=hid (HI.o hc);have hb:decide (room < s)=false:=by simpa using hc
  have a9:decide ((room:Int) < (s:Int))=false:=by simpa using hc
  go_enter Tryz.func137,Tryz.ntmps137
  go_wp2;refine qG (S:=PS w g o m t cs L u room w.heap.size #[.int .i64 k,kS d,kS x,.int .i64 tm]) (by kernel_rfl) (P0.o.drew) (fun hS=>?_);refine aG 0 ?_
  iterate 3
   refine qT rfl (by kernel_rfl) ‹_› (fun w a8=>by go_simp;with_reducible rfl) ?_;simp only [Act.put,aB,aA,aC,Nat.reduceAdd]
  refine aE ?_;refine qK 3 rfl (by kernel_rfl) ‹_› (fun w a8=>by have hc:=a8.tr.c1;go_simp;with_reducible rfl) ?_;simp only [Act.put,aB,aA,aC];refine aG 4 ?_
  iterate 2
   refine qT rfl (by kernel_rfl) ‹_› (fun w a8=>by go_simp;with_reducible rfl) ?_;simp only [Act.put,aB,aA,aC,Nat.reduceAdd]
  refine aE ?_;refine qK 9 rfl (by kernel_rfl) ‹_› (fun w a8=>by go_simp;with_reducible rfl) ?_;simp only [Act.put,aB,aA,aC];refine qK 10 rfl (by kernel_rfl) ‹_› (fun w a8=>by have hc:=a8.box.at_ 1;go_simp;with_reducible rfl) ?_;simp only [Act.put,aB,aA,aC];refine qK 11 rfl (by kernel_rfl) ‹_› (fun w a8=>by go_simp;with_reducible rfl) ?_;simp only [Act.put,aB,aA,aC];refine qD 6 rfl (by kernel_rfl) fun K hK=>?_
  go_simp;refine (C1.o).mono ?_;rintro e1 w1 ⟨rfl,c8⟩;have g8:=P0.o.drew.on c8;refine hK.o _ _ g8 (fun hS=>?_);clear hK K hS;refine aG 7 ?_
  iterate 2
   refine qT rfl (by kernel_rfl) ‹_› (fun w a8=>by go_simp;with_reducible rfl) ?_;simp only [Act.put,aB,aA,aC,Nat.reduceAdd]
  refine aE ?_;refine aG 12 ?_
  iterate 2
   refine qT rfl (by kernel_rfl) ‹_› (fun w a8=>by go_simp;with_reducible rfl) ?_;simp only [Act.put,aB,aA,aC,Nat.reduceAdd]
  refine aE ?_;refine qM (by kernel_rfl) ?_;have P1:=hid g8;have tj:=g8.tr.c2;rw [HS.o];clear g8 c8 r6 x9 rh;go_wp2;obtain ⟨v0,st,w5,e1,g1,e2⟩:=P1.o.tr.drew.mp.entry P1.o.tr.srt (by have:=P1.o.tr.len;omega) (p:=p) (iK hp) ⟨k,d,x,tm⟩;have UJ:=P1.o.tr.apart P1.o.box;have RE:=P1.o.tr.ne;have Bx5:=nS P1.o.drew.box g1 UJ;have UK:=nS P1.o.tr.drew.has g1 (Ne.symm RE);obtain ⟨w6,e3,m6,g6⟩:=e2 w5 rfl;have Bx6:=nS Bx5 g6 UJ;have NP:=nS UK g6 (Ne.symm RE);have B1:Hid (BS g o m w.heap.size #[.int .i64 k,kS d,kS x,.int .i64 tm] w1.drew):=⟨P1.o.tr.c0,P1.o.box⟩;have B5:Hid (BS g o m w.heap.size #[.int .i64 k,kS d,kS x,.int .i64 tm] w5):=⟨(UK.at_ o).trans P1.o.tr.k0,Bx5⟩;have B6:Hid (BS g o m w.heap.size #[.int .i64 k,kS d,kS x,.int .i64 tm] w6):=⟨(NP.at_ o).trans P1.o.tr.k0,Bx6⟩;have hc6:w6.cell? ⟨g,o+1,none⟩=some (.int .i64 (u:Int)):=(NP.at_ (o+1)).trans P1.o.tr.k1;have ng:w6.frozen? ⟨g,o+1,none⟩=false:=NP.free (o+1);have K8:w.heap.size≠g:=Nat.ne_of_gt HG.o;have T6:Hid (TreeS w6 g o m t cs (bA p ⟨k,d,x,tm⟩ L) u room):=⟨NP,P1.o.tr.k0,P1.o.tr.k1,P1.o.tr.k2,m6,tT P1.o.tr.srt _ _,RE,by
   have h1:=jZ (L:=bA p ⟨k,d,x,tm⟩ L);have h2:=HI2.o;omega⟩
  have B7:Hid (BS g o m w.heap.size #[.int .i64 k,kS d,kS x,.int .i64 tm] (w6.setCell ⟨g,o+1,none⟩ (.int .i64 (s:Int)))):=⟨(T6.o.told s).c0,Bx6.other (p:=⟨g,o+1,none⟩) K8 _⟩;have T7:Hid (Turn (zQ g m) w (w6.setCell ⟨g,o+1,none⟩ (.int .i64 (s:Int)))) :=
   ((((Turn.of_below P1.o.bl.drew).then (Turn.of_grw g1 (.inr rfl))).then (Turn.of_grw g6 (.inr rfl))).then (Turn.set w6 g (o+1) _ (.inl rfl)))
  have E1:=hid e1;have E2:=hid e3;clear e1 e2 e3 g1 g6 m6 Bx5 Bx6 UK NP RE UJ K8 tj f8;refine qG (S:=BS g o m w.heap.size #[.int .i64 k,kS d,kS x,.int .i64 tm]) (by kernel_rfl) (B1.o) (fun hS=>?_);refine aG 0 ?_
  iterate 3
   refine qT rfl (by kernel_rfl) ‹_› (fun w a8=>by go_simp;with_reducible rfl) ?_;simp only [Act.put,aB,aA,aC,Nat.reduceAdd]
  refine aE ?_;refine qK 3 rfl (by kernel_rfl) ‹_› (fun w a8=>by have hc:=a8.c0;go_simp;with_reducible rfl) ?_;simp only [Act.put,aB,aA,aC];refine aG 4 ?_
  iterate 2
   refine qT rfl (by kernel_rfl) ‹_› (fun w a8=>by go_simp;with_reducible rfl) ?_;simp only [Act.put,aB,aA,aC,Nat.reduceAdd]
  refine aE ?_;refine' qL 6 rfl (by kernel_rfl) (cU (by rfl) 71 (.tmp 5) rfl w.heap.size 0 rfl (nodeV ⟨k,d,x,tm⟩) (fun w hS=>Az hS.box)) ‹_› ?_;simp only [Act.put,aB,aA,aC];refine qK 7 rfl (by kernel_rfl) ‹_› (fun w a8=>by go_simp;with_reducible rfl) ?_;simp only [Act.put,aB,aA,aC];refine qD 8 rfl (by kernel_rfl) fun K hK=>?_
  refine Mq (by rfl) (.tmp 30) (.tmp 31) rfl (.map (some m)) (kS p) _ rfl rfl E1.o ?_;simp only [Act.put,aB,aA,aC];refine hK.o _ _ B5.o (fun hS=>?_);clear hK K hS;refine qK 9 rfl (by kernel_rfl) ‹_› (fun w a8=>by go_simp;with_reducible rfl) ?_;simp only [Act.put,aB,aA,aC];refine qD 10 rfl (by kernel_rfl) fun K hK=>?_
  refine wG (by rfl) (.tmp 30) (.tmp 36) (.tmp 33) rfl (.map (some m)) (goInt st) (nodeV ⟨k,d,x,tm⟩) rfl rfl rfl E2.o ?_;simp only [Act.put,aB,aA,aC];refine hK.o _ _ B6.o (fun hS=>?_);clear hK K hS;refine aG 11 ?_
  iterate 2
   refine qT rfl (by kernel_rfl) ‹_› (fun w a8=>by go_simp;with_reducible rfl) ?_;simp only [Act.put,aB,aA,aC,Nat.reduceAdd]
  refine aE ?_;refine qD 13 rfl (by kernel_rfl) fun K hK=>?_
  go_simp;refine hK.o _ _ B7.o (fun hS=>?_);clear hK K hS;refine qM (by kernel_rfl) ?_;go_wp2;go_ret;rw [HE.o];simp only;rw [HI2.o];exact ⟨rfl,T7.o,T6.o.told s⟩
 have HE:=hid (NO.o hc);have hb:decide (room < s)=true:=by simpa using hc
 have a9:decide ((room:Int) < (s:Int))=true:=by simpa using hc
 go_enter Tryz.func137,Tryz.ntmps137
 go_wp2;refine qG (S:=PS w g o m t cs L u room w.heap.size #[.int .i64 k,kS d,kS x,.int .i64 tm]) (by kernel_rfl) (P0.o.drew) (fun hS=>?_);refine aG 0 ?_
 iterate 3
  refine qT rfl (by kernel_rfl) ‹_› (fun w a8=>by go_simp;with_reducible rfl) ?_;simp only [Act.put,aB,aA,aC,Nat.reduceAdd]
 refine aE ?_;refine qK 3 rfl (by kernel_rfl) ‹_› (fun w a8=>by have hc:=a8.tr.c1;go_simp;with_reducible rfl) ?_;simp only [Act.put,aB,aA,aC];refine aG 4 ?_
 iterate 2
  refine qT rfl (by kernel_rfl) ‹_› (fun w a8=>by go_simp;with_reducible rfl) ?_;simp only [Act.put,aB,aA,aC,Nat.reduceAdd]
 refine aE ?_;refine qK 9 rfl (by kernel_rfl) ‹_› (fun w a8=>by go_simp;with_reducible rfl) ?_;simp only [Act.put,aB,aA,aC];refine qK 10 rfl (by kernel_rfl) ‹_› (fun w a8=>by have hc:=a8.box.at_ 1;go_simp;with_reducible rfl) ?_;simp only [Act.put,aB,aA,aC];refine qK 11 rfl (by kernel_rfl) ‹_› (fun w a8=>by go_simp;with_reducible rfl) ?_;simp only [Act.put,aB,aA,aC];refine qD 6 rfl (by kernel_rfl) fun K hK=>?_
 go_simp;refine (C1.o).mono ?_;rintro e1 w1 ⟨rfl,c8⟩;have g8:=P0.o.drew.on c8;refine hK.o _ _ g8 (fun hS=>?_);clear hK K hS;refine aG 7 ?_
 iterate 2
  refine qT rfl (by kernel_rfl) ‹_› (fun w a8=>by go_simp;with_reducible rfl) ?_;simp only [Act.put,aB,aA,aC,Nat.reduceAdd]
 refine aE ?_;refine aG 12 ?_
 iterate 2
  refine qT rfl (by kernel_rfl) ‹_› (fun w a8=>by go_simp;with_reducible rfl) ?_;simp only [Act.put,aB,aA,aC,Nat.reduceAdd]
 refine aE ?_;refine qM (by kernel_rfl) ?_;have P1:=hid g8;have tj:=g8.tr.c2;rw [HS.o];clear g8 c8 r6 x9 rh;go_wp2;go_ret;rw [HE.o];simp only;rw [<-HU.o];exact ⟨rfl,Turn.of_below P1.o.bl,P1.o.tr.same⟩
open Go.RowKit Go.Maps
def Turn.drew {own:Nat->Prop} {w w':World} (h:Turn own w w'):Turn own w w'.drew:=⟨h.os,h.tape,h.output,h.size,h.block⟩
open Go.RowKit Go.Maps
def jC:(Tryz.prog.info? 9).map (fun i=>(i.zero,i.size,i.bytes))=some (some (.string ⟨#[]⟩),1,16):=by kernel_rfl
def wS (b:By):∀u∈[kS b],u.oneCell'=true:=by
 intro u hu;rw [List.mem_singleton] at hu;subst hu;rfl
def zO (a b:By):ba a++ba b=ba (a++b):=by
 apply ByteArray.ext;simp [ba]
def gQ (s b:By) (w:World):qC 47 #[kS s,kS b] w fun e w'=>e=.returned (.tuple #[kS (if b.isPrefixOf s then s.drop b.length else s),.bool (b.isPrefixOf s)])/\w=w' :=
 (Tryz.strings_CutPrefix (ba s) (ba b) w).mono fun _ _ ⟨h1,h2⟩=>⟨h1,h2.symm⟩
def bP (ss:List By) (b:By):List By:=ss.filterMap fun q=>if b.isPrefixOf q then some (q.drop b.length) else none
def rY (ss:List By) (x b:By):bP (ss++[x]) b=bP ss b++(if b.isPrefixOf x then [x.drop b.length] else []):=by
 unfold bP;rw [List.filterMap_append];congr 1
 cases h:b.isPrefixOf x
 . simp only [List.filterMap_cons,List.filterMap_nil,h];rfl
 simp only [List.filterMap_cons,List.filterMap_nil,h];rfl
def wQ (ss:List By) (b:By):(bP ss b).length<=ss.length:=List.length_filterMap_le _ _
def Cz (L:Tr) (b:By):iS L b=bP (L.map (·.1)) b:=by
 unfold iS bP;rw [List.filterMap_map];rfl
def keys_perm {D:DataW Value} {L:Tr} (hs:cZ L) {left:Lit->Bool} {ss:List By} (hC:Collected D left ss) (hl:∀kl,left kl=false) (hr:∀p:By,p.length<=maxLen->has D (.string p)=(look L p).isSome)
 (p5:∀x,has D (.string x)=true->x.length<=maxLen) (hL:∀q,(look L q).isSome->q.length<=maxLen):ss.Perm (L.map (·.1)):=by
 refine (List.perm_ext_iff_of_nodup hC.1 ?_).2 fun x=>?_
 . exact List.pairwise_map.2 (hs.imp fun h=>kJ h)
 rw [hC.2 x,hl];have oo:x∈L.map (·.1)↔(look L x).isSome:=by
  rw [List.mem_map];constructor
  . rintro ⟨y,hy,rfl⟩
    cases hq:look L y.1 with
    | none=>exact absurd rfl (iO.1 hq y hy)
    | some _=>rfl
  intro h;obtain ⟨n,hn⟩:=Option.isSome_iff_exists.1 h;exact ⟨_,look_mem hn,rfl⟩
 rw [oo];constructor
 . rintro ⟨h1,_⟩
   rw [<-hr x (p5 x h1)];exact h1
 intro h;exact ⟨by rw [hr x (hL x h)];exact h,rfl⟩
def fy {w:World} {b n:Nat} {D:DataW Value} (h:w.ownsMap Tryz.prog 9 Rv b n D) (x:By) (hx:has D (.string x)=true):x.length<=maxLen:=by
 obtain ⟨es,rfl,hko⟩:=h.keysOf;rw [has_eq,List.any_eq_true] at hx;obtain ⟨p,hp,hs⟩:=hx;obtain ⟨v,hv⟩:=hko p hp;obtain ⟨y,_,hy,hl⟩:=Maps.keyOf_str Tryz.underlying9 hv;rw [hy] at hs;have:y=x:=by simpa [Lit.sameKey] using hs
 rw [<-this];exact hl
def Cr (w:World) (l:List By) (e:Ending) (w':World):Prop:=∃(v:Value) (xs:List By),e=.returned v/\xs.Perm l/\w'.ownsRow w.heap.size 9 1 v xs.length (xs.map kS)/\qW w w'
def Ow (v:Value) (y:DataW Value × List MemPlace) (_:Rv v=some y):∃c,v=id c:=⟨v,rfl⟩
def uO {w:World} {g o m:Nat} {t:TypeId} {cs:Array Value} {L:Tr} {u room:Nat} (h:TreeS w g o m t cs L u room) (hL:∀q,(look L q).isSome->q.length<=4000) (p:By) (hp:p.length<=4000) :
 qC 154 #[.pointer (some ⟨g,o,none⟩),kS p] w fun e w'=>Cr w (innerL L p) e w':=by
 obtain ⟨i0,hi,o7,g8,j5⟩:=info_parts jC;obtain ⟨a,HA⟩:=qX (nI L p);have C1:Hid (qC 187 #[.pointer (some ⟨g,o,none⟩),kS p] w fun e w'=>e=.returned (.bool a)/\w=w'):=by rw [<-HA.o];exact wC h p hp
 have HI:Hid (innerL L p=if a then iS L (fT p) else []):=by
  show _=_
  rw [<-HA.o];unfold innerL nI;by_cases k:kindP L p=2<;>simp [k]
 have c0:=h.c0;obtain ⟨D,f9,p9,yg⟩:=h.mp.own;have BT:=hid (fy f9);have HK:=hid (fun ss left (hC:Collected D left ss) (hl:∀kl,left kl=false)=>keys_perm h.srt hC hl (fun p hp=>(yg p hp).1) BT.o (fun q hq=>iK (hL q hq)));have f8:=h.len;have tp:=hid p9;have HM:=hid h.mp.inside;clear h p9 yg hL
 cases a with
 | false =>
  go_enter Tryz.func154,Tryz.ntmps154
  go_wp2_with (go_at_call 187;refine C1.o.mono ?_;rintro e1 w1 ⟨rfl,rfl⟩)
  go_ret;exact ⟨_,[],rfl,by rw [HI.o];exact List.Perm.refl _,World.ownsRow_nil _ _ _ _,Below.refl _ _⟩
 | true =>
  by_cases V3:p=[]
  .
   have e1:(ba p).toList=[]:=by rw [aP,aQ,V3]
   have e2:(ba p).toList.isEmpty=true:=by simpa using e1
   have z1:(ba p).size<=4000:=by rw [aD];exact hp
   have RG:Hid (fT p=[]):=by show _=_;unfold fT;rw [if_pos V3]
   clear V3;go_enter Tryz.func154,Tryz.ntmps154
   go_wp2_with (first
    | (go_at_call 187;refine C1.o.mono ?_;rintro e1 w1 ⟨rfl,rfl⟩)
    | (at_range;refine wpList_range_own _ rfl _ 124 rfl 9 71 bV Tryz.underlying124 _ m L.length _ rfl f9 ?_;intro w0 zb IG ru)
    | go_in)
   clear ru f9;go_frame
   go_loopw [6] (fun v wr=>∃(left:Lit->Bool) (cnt:Nat) (ss:List By),Hid (wr.ranges Tryz.prog 9 Rv m w.heap.size L.length D left cnt)/\Hid (ss.length+cnt<=L.length) /\
    Hid (wr.ownsRow w.heap.size 9 1 v (bP ss []).length ((bP ss []).map kS))/\Hid (Collected D left ss)/\Hid (qW w wr))
    (fun _ wr=>wr.rangeLeft m w.heap.size)
   case atStart=>exact ⟨_,_,[],zb,by show _<=_;rw [tp.o];simp,World.ownsRow_nil _ _ _ _,Collected.start D,qB.grown IG qN (fun j hj=>by cases hj)⟩
   obtain ⟨left,cnt,ss,ri,s6,o8,hC,zc⟩:=hrel;clear IG zb;go_wp2_with (first
    | (at_next;refine wpList_next_ranges _ rfl _ rfl 9 bV Rv kS id (fun key kl hk=>by obtain ⟨x,hx,_⟩:=Maps.keyOf_str Tryz.underlying9 hk;exact ⟨x,hx⟩) Ow m w.heap.size L.length _ _ _ rfl ri.o ?_ ?_)
    | go_in)
   . intro ue uf
     have HP:=hid (HK.o ss left hC.o uf);clear uf ue;go_wp2;go_ret;exact ⟨_,_,rfl,by rw [HI.o,if_pos trivial,RG.o,Cz];exact HP.o.filterMap _,o8.o,zc.o⟩
   intro x c kl yd yp w2 cnt2 rv LK hv I9 ze d8 mn mj NQ;obtain ⟨x',ex,rfl,_⟩:=Maps.keyOf_str Tryz.underlying9 rv;obtain rfl:x=x':=encStr_inj ex;have z5:=hid (o8.o.kept mn (by
    rcases o8.o.2 with ⟨k1,_⟩ | ⟨g',_,cur,k1,_,k3,_⟩
    . rw [k1];exact .inl rfl
    refine .inr (fun e=>?_);rw [k1] at e;injection e with e;have e:g'=w.heap.size:=e;obtain ⟨_,_,_,_,_,_,_,_,_,k5,_⟩:=ri.o;rw [<-e,k3] at k5
    cases k5))
   have qj:=hid (zc.o.grown mn zc.o.size (fun j hj=>by cases hj;exact Nat.le_refl _));have J0:=hid ze;have NR:=hid (hC.o.step LK I9);have I0:=hid d8;have yh:=hid (wQ ss []);have J9:=hid (rY ss x []);have tq:=HM.o;clear mj rv LK hv I9 ze mn d8 ex
   cases xb:([]:By).isPrefixOf x with
   | false =>
    have IH:=hid xb;have CP:Hid (∀W,qC 47 #[kS x,kS []] W fun e w'=>e=.returned (.tuple #[kS x,.bool false])/\W=w'):=by
     intro W;have:=gQ x [] W;rw [xb] at this;exact this
    clear xb;go_wp2_with (go_at_call 47;refine (CP.o _).mono ?_;rintro e2 w3 ⟨rfl,rfl⟩)
    go_roundw
    case rel =>
     refine ⟨_,cnt2,ss++[x],J0,?_,?_,NR,qj⟩
     . show _<=_;have h1:=s6.o;have h2:=I0.o;simp;omega
     show World.ownsRow _ _ _ _ _ _ _
     have e:bP (ss++[x]) []=bP ss []:=by rw [J9.o,IH.o];simp
     rw [e];exact z5.o
    case measure=>rw [J0.o.left_eq,ri.o.left_eq];exact I0.o
   | true =>
    have IH:=hid xb;have CP:Hid (∀W,qC 47 #[kS x,kS []] W fun e w'=>e=.returned (.tuple #[kS (x.drop (List.length ([]:By))),.bool true])/\W=w'):=by
     intro W;have:=gQ x [] W;rw [xb] at this;exact this
    clear xb;have N2:Hid ((bP ss []).length+1<=maxLen):=by show _<=_;have:=yh.o;have:=s6.o;unfold maxLen;omega
    have N3:Hid (((bP ss []).length+1)*16<=140737488355328):=by show _<=_;have:=yh.o;have:=s6.o;omega
    have N4:Hid (∀o,w.heap.size<=(w2.alloc o).heap.size):=by intro o;have:=qj.o.size;simp;omega
    go_wp2_with (first
     | (go_at_call 47;refine (CP.o _).mono ?_;rintro e2 w3 ⟨rfl,rfl⟩)
     | (at_builtin;refine wpList_append_own _ rfl _ _ 34 rfl w.heap.size 9 i0 (.string ⟨#[]⟩) 1 16 Tryz.underlying34 hi o7 g8 j5 rfl (by decide) _ _ _ rfl (z5.o.alloc _) ⟨w2.heap.size,0,none⟩ 1 1 [kS (x.drop (List.length ([]:By)))] rfl rfl (cell_one_new _ _ _) (wS _) N2.o N3.o (N4.o _) ?_;intro v' w3 l8 xc _)
     | go_in)
    have ug:=hid l8;have uh:=hid xc;clear l8 xc;go_wp2;go_roundw
    case rel =>
     refine ⟨_,cnt2,ss++[x],(J0.o.alloc _).kept uh.o ?_ ?_,?_,?_,NR,?_⟩
     . rcases z5.o.2 with ⟨k1,_⟩ | ⟨g',_,cur,k1,k2,k3,_⟩
       . rw [k1];intro e;cases e
       rw [k1];intro e;injection e with e;have e:m=g':=e;have h8:=k2;have h9:=HM.o;omega
     . rcases z5.o.2 with ⟨k1,_⟩ | ⟨g',_,cur,k1,k2,k3,_⟩
       . rw [k1];intro e;cases e
       rw [k1];intro e;injection e with e;obtain ⟨_,_,_,_,_,_,_,_,_,k5,_⟩:=J0.o;rw [e,k3] at k5
       cases k5
     . show _<=_;have h1:=s6.o;have h2:=I0.o;simp;omega
     . show World.ownsRow _ _ _ _ _ _ _
       have e:bP (ss++[x]) []=bP ss []++[x.drop (List.length ([]:By))]:=by rw [J9.o,IH.o];simp
       rw [e,List.map_append,List.length_append];exact ug.o
     exact (qj.o.alloc qj.o.size _).grown uh.o (N4.o _) (fun j hj=>(z5.o.lt j hj).1)
    case measure=>rw [((J0.o.alloc _).kept uh.o (by
     rcases z5.o.2 with ⟨k1,_⟩ | ⟨g',_,cur,k1,k2,k3,_⟩
     . rw [k1];intro e;cases e
     . rw [k1];intro e;injection e with e;have e:m=g':=e;have h8:=k2;have h9:=HM.o;omega) (by
     rcases z5.o.2 with ⟨k1,_⟩ | ⟨g',_,cur,k1,k2,k3,_⟩
     . rw [k1];intro e;cases e
     rw [k1];intro e;injection e with e;obtain ⟨_,_,_,_,_,_,_,_,_,k5,_⟩:=J0.o;rw [e,k3] at k5
     cases k5)).left_eq,ri.o.left_eq];exact I0.o
  have e1:¬(ba p).toList=[]:=by rw [aP,aQ];exact V3
  have e2:(ba p).toList.isEmpty=false:=by simpa using e1
  have z1:(ba p).size<=4000:=by rw [aD];exact hp
  obtain ⟨b,RG⟩:=qX (fT p);have DL:Hid (ba p++⟨#[47]⟩=ba b):=by show _=_;rw [<-RG.o];unfold fT;rw [if_neg V3];exact zO p [47]
  clear V3;go_enter Tryz.func154,Tryz.ntmps154
  go_wp2_with (first
   | (go_at_call 187;refine C1.o.mono ?_;rintro e1 w1 ⟨rfl,rfl⟩)
   | (at_range;refine wpList_range_own _ rfl _ 124 rfl 9 71 bV Tryz.underlying124 _ m L.length _ rfl f9 ?_;intro w0 zb IG ru)
   | go_in)
  clear ru f9;go_frame
  rw [DL.o];go_loopw [6] (fun v wr=>∃(left:Lit->Bool) (cnt:Nat) (ss:List By),Hid (wr.ranges Tryz.prog 9 Rv m w.heap.size L.length D left cnt)/\Hid (ss.length+cnt<=L.length) /\
   Hid (wr.ownsRow w.heap.size 9 1 v (bP ss b).length ((bP ss b).map kS))/\Hid (Collected D left ss)/\Hid (qW w wr))
   (fun _ wr=>wr.rangeLeft m w.heap.size)
  case atStart=>exact ⟨_,_,[],zb,by show _<=_;rw [tp.o];simp,World.ownsRow_nil _ _ _ _,Collected.start D,qB.grown IG qN (fun j hj=>by cases hj)⟩
  obtain ⟨left,cnt,ss,ri,s6,o8,hC,zc⟩:=hrel;clear IG zb;go_wp2_with (first
   | (at_next;refine wpList_next_ranges _ rfl _ rfl 9 bV Rv kS id (fun key kl hk=>by obtain ⟨x,hx,_⟩:=Maps.keyOf_str Tryz.underlying9 hk;exact ⟨x,hx⟩) Ow m w.heap.size L.length _ _ _ rfl ri.o ?_ ?_)
   | go_in)
  .
   intro ue uf;have HP:=hid (HK.o ss left hC.o uf);clear uf ue;go_wp2;go_ret;exact ⟨_,_,rfl,by rw [HI.o,if_pos trivial,RG.o,Cz];exact HP.o.filterMap _,o8.o,zc.o⟩
  intro x c kl yd yp w2 cnt2 rv LK hv I9 ze d8 mn mj NQ;obtain ⟨x',ex,rfl,_⟩:=Maps.keyOf_str Tryz.underlying9 rv;obtain rfl:x=x':=encStr_inj ex;have z5:=hid (o8.o.kept mn (by
   rcases o8.o.2 with ⟨k1,_⟩ | ⟨g',_,cur,k1,_,k3,_⟩
   . rw [k1];exact .inl rfl
   refine .inr (fun e=>?_);rw [k1] at e;injection e with e;have e:g'=w.heap.size:=e;obtain ⟨_,_,_,_,_,_,_,_,_,k5,_⟩:=ri.o;rw [<-e,k3] at k5
   cases k5))
  have qj:=hid (zc.o.grown mn zc.o.size (fun j hj=>by cases hj;exact Nat.le_refl _));have J0:=hid ze;have NR:=hid (hC.o.step LK I9);have I0:=hid d8;have yh:=hid (wQ ss b);have J9:=hid (rY ss x b);have tq:=HM.o;clear mj rv LK hv I9 ze mn d8 ex
  cases xb:(b:By).isPrefixOf x with
  | false =>
   have IH:=hid xb;have CP:Hid (∀W,qC 47 #[kS x,kS b] W fun e w'=>e=.returned (.tuple #[kS x,.bool false])/\W=w'):=by
    intro W;have:=gQ x b W;rw [xb] at this;exact this
   clear xb;go_wp2_with (go_at_call 47;refine (CP.o _).mono ?_;rintro e2 w3 ⟨rfl,rfl⟩)
   go_roundw
   case rel =>
    refine ⟨_,cnt2,ss++[x],J0,?_,?_,NR,qj⟩
    . show _<=_;have h1:=s6.o;have h2:=I0.o;simp;omega
    show World.ownsRow _ _ _ _ _ _ _
    have e:bP (ss++[x]) b=bP ss b:=by rw [J9.o,IH.o];simp
    rw [e];exact z5.o
   case measure=>rw [J0.o.left_eq,ri.o.left_eq];exact I0.o
  | true =>
   have IH:=hid xb;have CP:Hid (∀W,qC 47 #[kS x,kS b] W fun e w'=>e=.returned (.tuple #[kS (x.drop (List.length (b:By))),.bool true])/\W=w'):=by
    intro W;have:=gQ x b W;rw [xb] at this;exact this
   clear xb;have N2:Hid ((bP ss b).length+1<=maxLen):=by show _<=_;have:=yh.o;have:=s6.o;unfold maxLen;omega
   have N3:Hid (((bP ss b).length+1)*16<=140737488355328):=by show _<=_;have:=yh.o;have:=s6.o;omega
   have N4:Hid (∀o,w.heap.size<=(w2.alloc o).heap.size):=by intro o;have:=qj.o.size;simp;omega
   go_wp2_with (first
    | (go_at_call 47;refine (CP.o _).mono ?_;rintro e2 w3 ⟨rfl,rfl⟩)
    | (at_builtin;refine wpList_append_own _ rfl _ _ 34 rfl w.heap.size 9 i0 (.string ⟨#[]⟩) 1 16 Tryz.underlying34 hi o7 g8 j5 rfl (by decide) _ _ _ rfl (z5.o.alloc _) ⟨w2.heap.size,0,none⟩ 1 1 [kS (x.drop (List.length (b:By)))] rfl rfl (cell_one_new _ _ _) (wS _) N2.o N3.o (N4.o _) ?_;intro v' w3 l8 xc _)
    | go_in)
   have ug:=hid l8;have uh:=hid xc;clear l8 xc;go_wp2;go_roundw
   case rel =>
    refine ⟨_,cnt2,ss++[x],(J0.o.alloc _).kept uh.o ?_ ?_,?_,?_,NR,?_⟩
    . rcases z5.o.2 with ⟨k1,_⟩ | ⟨g',_,cur,k1,k2,k3,_⟩
      . rw [k1];intro e;cases e
      rw [k1];intro e;injection e with e;have e:m=g':=e;have h8:=k2;have h9:=HM.o;omega
    .
     rcases z5.o.2 with ⟨k1,_⟩ | ⟨g',_,cur,k1,k2,k3,_⟩
     . rw [k1];intro e;cases e
     rw [k1];intro e;injection e with e;obtain ⟨_,_,_,_,_,_,_,_,_,k5,_⟩:=J0.o;rw [e,k3] at k5
     cases k5
    . show _<=_;have h1:=s6.o;have h2:=I0.o;simp;omega
    . show World.ownsRow _ _ _ _ _ _ _
      have e:bP (ss++[x]) b=bP ss b++[x.drop (List.length (b:By))]:=by rw [J9.o,IH.o];simp
      rw [e,List.map_append,List.length_append];exact ug.o
    exact (qj.o.alloc qj.o.size _).grown uh.o (N4.o _) (fun j hj=>(z5.o.lt j hj).1)
   case measure=>rw [((J0.o.alloc _).kept uh.o (by
    rcases z5.o.2 with ⟨k1,_⟩ | ⟨g',_,cur,k1,k2,k3,_⟩
    . rw [k1];intro e;cases e
    . rw [k1];intro e;injection e with e;have e:m=g':=e;have h8:=k2;have h9:=HM.o;omega) (by
    rcases z5.o.2 with ⟨k1,_⟩ | ⟨g',_,cur,k1,k2,k3,_⟩
    . rw [k1];intro e;cases e
    rw [k1];intro e;injection e with e;obtain ⟨_,_,_,_,_,_,_,_,_,k5,_⟩:=J0.o;rw [e,k3] at k5
    cases k5)).left_eq,ri.o.left_eq];exact I0.o
open Go.RowKit Go.Maps
def SP (w:World) (g o m:Nat) (t:TypeId) (cs:Array Value) (room:Nat) (r:Int × Tr) (e:Ending) (w':World):Prop :=
 e=.returned (.int .i64 r.1)/\Turn (zQ g m) w w'/\TreeS w' g o m t (cs.setIfInBounds (o+1) (.int .i64 ((usedL r.2:Nat):Int))) r.2 (usedL r.2) room
section
variable {w:World} {g o m:Nat} {t:TypeId} {cs:Array Value} {L:Tr} {room:Nat}
theorem SP.err (h:TreeS w g o m t cs L (usedL L) room) {w':World} (hb:qW w w') (c:Int):SP w g o m t cs room (c,L) (.returned (.int .i64 c)) w' :=
 ⟨rfl,Turn.of_below hb,(h.on hb qN).same⟩
theorem SP.ahead {w1 w2:World} {r:Int × Tr} {e:Ending} (hb:qW w w1) (h:SP w1 g o m t cs room r e w2):SP w g o m t cs room r e w2 :=
 ⟨h.1,(Turn.of_below hb).then h.2.1,h.2.2⟩
theorem wM (tm:Int) (w:World):qC 134 #[.int .i64 tm] w fun e w'=>e=.returned (.bool (cS tm))/\w=w':=by
 by_cases h0:0<=tm
 .
  by_cases h1:tm<=4294967295
  .
   have HT:Hid (cS tm=true):=by show _=_;simp [cS,h0,h1]
   have d1:decide (0<=tm)=true:=by simpa using h0
   have d2:decide (tm<=4294967295)=true:=by simpa using h1
   go_enter Tryz.func134,Tryz.ntmps134
   go_wp2;go_ret;exact ⟨by rw [HT.o];rfl,rfl⟩
  have HT:Hid (cS tm=false):=by show _=_;simp [cS,h1]
  have d1:decide (0<=tm)=true:=by simpa using h0
  have d2:decide (tm<=4294967295)=false:=by simpa using h1
  go_enter Tryz.func134,Tryz.ntmps134
  go_wp2;go_ret;exact ⟨by rw [HT.o];rfl,rfl⟩
 have HT:Hid (cS tm=false):=by show _=_;simp [cS,h0]
 have d1:decide (0<=tm)=false:=by simpa using h0
 go_enter Tryz.func134,Tryz.ntmps134
 go_wp2;go_ret;exact ⟨by rw [HT.o];rfl,rfl⟩
theorem fN (p:By) (b:Bool) (hb:mayB p=b) (w:World) (hG:Gd w) (hp:p.length<=4000):qC 99 #[kS p] w fun e w'=>e=.returned (.bool b)/\qW w w':=by
 have:=lI (ba p) w hG (by rw [aD];exact hp);rw [aQ,hb] at this;exact this
theorem Ei (h:TreeS w g o m t cs L (usedL L) room) (hW:WFT room L) (hr:room<=1048576) (hG:Gd w) (p:By) (hp:p.length<=4000) (hm:mayB p=true) (n:Nd) (hn:n.data.length<=10000000) :
 qC 129 #[.pointer (some ⟨g,o,none⟩),kS p,nodeV n] w fun e w'=>SP w g o m t cs room (eR room L p n) e w':=by
 obtain ⟨k,d,x,tm⟩:=n;obtain ⟨w0,DM⟩:=qX (w.alloc (.cells #[.int .i64 k,kS d,kS x,.int .i64 tm] 71));have B0:Hid (qW w w0):=by rw [<-DM.o];exact qB.alloc qN _
 have X0:Hid (Has w0 w.heap.size 71 #[.int .i64 k,kS d,kS x,.int .i64 tm]):=by rw [<-DM.o];exact Has.fresh _ _ _
 have h0:=h.on B0.o qN;obtain ⟨c,HC⟩:=qX (cI L p);obtain ⟨b,HB⟩:=qX (hasB L p);have C1:Hid (qC 135 #[.pointer (some ⟨g,o,none⟩),kS p] w0 fun e w'=>e=.returned (.int .i64 c)/\qW w0 w'):=by
  rw [<-HC.o];exact uZ h0 (hG.kept B0.o) p hp hm
 have C2:Hid (∀w1,qW w0 w1->qC 106 #[.pointer (some ⟨g,o,none⟩),kS p] w1 fun e w'=>e=.returned (.bool b)/\qW w1 w'):=fun w1 hb=>by
  rw [<-HB.o];exact nH (h0.on hb qN) p hp
 have C3:Hid (∀w1,qW w0 w1->qC 137 #[.pointer (some ⟨g,o,none⟩),kS p,.agg #[.int .i64 k,kS d,kS x,.int .i64 tm]] w1 fun e w'=>SP w1 g o m t cs room (cK room L p ⟨k,d,x,tm⟩) e w'):=fun w1 hb =>
  Ck (h0.on hb qN) rfl hW.used hr p hp ⟨k,d,x,tm⟩ hn
 have HE:Hid (eR room L p ⟨k,d,x,tm⟩=if c=0 then (if b then (6,L) else cK room L p ⟨k,d,x,tm⟩) else (c,L)):=by
  show _=_
  rw [<-HC.o,<-HB.o];rfl
 have H:=hid h;clear h h0 hW hG hm;show qC 129 #[.pointer (some ⟨g,o,none⟩),kS p,.agg #[.int .i64 k,kS d,kS x,.int .i64 tm]] w _
 by_cases hc:c=0
 .
  subst hc
  cases b with
  | true =>
   go_enter Tryz.func129,Tryz.ntmps129
   go_wp2_with fail
   rw [DM.o];refine C1.o.mono ?_;rintro e1 w1 ⟨rfl,c8⟩;have B1:=hid c8;clear c8;go_wp2_with fail
   refine (C2.o _ B1.o).mono ?_;rintro e2 w2 ⟨rfl,a9⟩;have B2:=hid a9;clear a9;go_wp2;go_ret;rw [HE.o];exact SP.err H.o (B0.o.trans ((B1.o.trans (B2.o.mono B1.o.size)).mono B0.o.size)) 6
  | false =>
   go_enter Tryz.func129,Tryz.ntmps129
   go_wp2_with fail
   rw [DM.o];refine C1.o.mono ?_;rintro e1 w1 ⟨rfl,c8⟩;have B1:=hid c8;clear c8;go_wp2_with fail
   refine (C2.o _ B1.o).mono ?_;rintro e2 w2 ⟨rfl,a9⟩;have B2:=hid (B1.o.trans (a9.mono B1.o.size));clear a9;have X2:Hid (Has w2 w.heap.size 71 #[.int .i64 k,kS d,kS x,.int .i64 tm]):=X0.o.kept B2.o X0.o.inside;have x0:=X2.o.at_ 0;have x1:=X2.o.at_ 1;have x2:=X2.o.at_ 2;have x3:=X2.o.at_ 3;have hl:=Az X2.o;go_wp2_with fail
   refine (C3.o _ B2.o).mono ?_;rintro e3 w3 yi;obtain ⟨r,HR⟩:=qX (cK room L p ⟨k,d,x,tm⟩);rw [HR.o] at yi;obtain ⟨rfl,h2,h3⟩:=yi;have S3:Hid (SP w2 g o m t cs room r (.returned (.int .i64 r.1)) w3):=⟨rfl,h2,h3⟩;clear h2 h3;go_wp2;go_ret;rw [HE.o];simp only [if_true];rw [if_neg (by simp),HR.o];exact S3.o.ahead (B0.o.trans (B2.o.mono B0.o.size))
 have q1:(c == 0)=false:=by simpa using hc
 have q2:(c != 0)=true:=by simpa using hc
 have UL:=hid hc;clear hc;go_enter Tryz.func129,Tryz.ntmps129
 go_wp2_with fail
 rw [DM.o];refine C1.o.mono ?_;rintro e1 w1 ⟨rfl,c8⟩;have B1:=hid c8;clear c8;go_wp2;go_ret;rw [HE.o,if_neg UL.o];exact SP.err H.o (B0.o.trans (B1.o.mono B0.o.size)) c
end
open Go.RowKit Go.Maps
section
variable {w:World} {g o m:Nat} {t:TypeId} {cs:Array Value} {L:Tr} {room:Nat}
theorem SP.split {w1 w2:World} {r r':Int × Tr} (hb:qW w w1) (h:SP w1 g o m t cs room r (.returned (.int .i64 r.1)) w2) (he:r'=r):SP w g o m t cs room r' (.returned (.int .i64 r.1)) w2:=by
 subst he;exact h.ahead hb
theorem Mj (h:TreeS w g o m t cs L (usedL L) room) (hW:WFT room L) (hr:room<=1048576) (hG:Gd w) (p:By) (hp:p.length<=4000) :
 qC 81 #[.pointer (some ⟨g,o,none⟩),kS p] w fun e w'=>SP w g o m t cs room (aK room L (.mkdir p)) e w':=by
 have H:=hid h
 cases hm:mayB p with
 | false =>
  have C1:=hid (fN p false hm w hG hp);have HE:Hid (aK room L (.mkdir p)=(10,L)):=by show _=_;simp [aK,hm]
  clear h hW hG hm;go_enter Tryz.func81,Tryz.ntmps81
  go_wp2_with (go_at_call 99;refine C1.o.mono ?_;rintro e1 w1 ⟨rfl,c8⟩;have B1:=hid c8;clear c8)
  go_ret;rw [HE.o];exact SP.err H.o B1.o 10
 | true =>
  have C1:=hid (fN p true hm w hG hp);have HE:Hid (aK room L (.mkdir p)=eR room L p ⟨2,[],[],0⟩):=by show _=_;simp [aK,hm]
  have C2:Hid (∀w1,qW w w1->qC 129 #[.pointer (some ⟨g,o,none⟩),kS p,.agg #[.int .i64 2,.string ⟨#[]⟩,.string ⟨#[]⟩,.int .i64 0]] w1 fun e w'=>SP w1 g o m t cs room (eR room L p ⟨2,[],[],0⟩) e w'):=fun w1 hb =>
   Ei (h.on hb qN) hW hr (hG.kept hb) p hp hm ⟨2,[],[],0⟩ (by simp)
  clear h hW hG hm;obtain ⟨r,HR⟩:=qX (eR room L p ⟨2,[],[],0⟩);rw [HR.o] at C2 HE;go_enter Tryz.func81,Tryz.ntmps81
  go_wp2_with fail
  refine C1.o.mono ?_;rintro e1 w1 ⟨rfl,c8⟩;have B1:=hid c8;clear c8;go_wp2_with fail
  refine (C2.o _ B1.o).mono ?_;rintro e2 w2 ⟨rfl,h2,h3⟩;have S2:Hid (SP w1 g o m t cs room r (.returned (.int .i64 r.1)) w2):=⟨rfl,h2,h3⟩;clear h2 h3;go_wp2;go_ret;exact SP.split B1.o S2.o HE.o
theorem Qo (h:TreeS w g o m t cs L (usedL L) room) (hW:WFT room L) (hr:room<=1048576) (hG:Gd w) (p x:By) (tm:Int) (hp:p.length<=4000) (hx:x.length<=1000000) :
 qC 88 #[.pointer (some ⟨g,o,none⟩),kS p,kS x,.int .i64 tm] w fun e w'=>SP w g o m t cs room (aK room L (.link p x tm)) e w':=by
 have H:=hid h
 cases hm:mayB p with
 | false =>
  have C1:=hid (fN p false hm w hG hp);have HE:Hid (aK room L (.link p x tm)=(10,L)):=by show _=_;simp [aK,hm]
  clear h hW hG hm;go_enter Tryz.func88,Tryz.ntmps88
  go_wp2_with (go_at_call 99;refine C1.o.mono ?_;rintro e1 w1 ⟨rfl,c8⟩;have B1:=hid c8;clear c8)
  go_ret;rw [HE.o];exact SP.err H.o B1.o 10
 | true =>
  have C1:=hid (fN p true hm w hG hp);obtain ⟨b,HB⟩:=qX (cS tm);have C2:Hid (∀W,qC 134 #[.int .i64 tm] W fun e w'=>e=.returned (.bool b)/\W=w'):=by
   intro W;rw [<-HB.o];exact wM tm W
  have HE:Hid (aK room L (.link p x tm)=if b=true/\1<=x.length/\x.length<=160 then eR room L p ⟨3,[],x,tm⟩ else (2,L)):=by
   show _=_;rw [<-HB.o];simp only [aK,hm,if_true]
   by_cases c:cS tm=true/\1<=x.length/\x.length<=160
   . rw [if_pos c,if_pos (by simp [c])]
   rw [if_neg c,if_neg (by simpa using c)]
  have C3:Hid (∀w1,qW w w1->qC 129 #[.pointer (some ⟨g,o,none⟩),kS p,.agg #[.int .i64 3,.string ⟨#[]⟩,kS x,.int .i64 tm]] w1 fun e w'=>SP w1 g o m t cs room (eR room L p ⟨3,[],x,tm⟩) e w'):=fun w1 hb =>
   Ei (h.on hb qN) hW hr (hG.kept hb) p hp hm ⟨3,[],x,tm⟩ (by simp)
  have hz:(ba x).size=x.length:=aD x;obtain ⟨z,HZ⟩:=qX ((ba x).size);have j5:(ba x).size<=1000000:=by omega
  have HX:=hid hz;clear h hW hG hm hz
  cases b with
  | false =>
   go_enter Tryz.func88,Tryz.ntmps88
   go_wp2_with (first
    | (go_at_call 99;refine C1.o.mono ?_;rintro e1 w1 ⟨rfl,c8⟩;have B1:=hid c8;clear c8)
    | (go_at_call 134;refine (C2.o _).mono ?_;rintro e1 w2 ⟨rfl,rfl⟩))
   go_ret;rw [HE.o,if_neg (by simp)];exact SP.err H.o B1.o 2
  | true =>
   by_cases h1:(ba x).size < 1
   .
    go_enter Tryz.func88,Tryz.ntmps88
    go_wp2_with (first
     | (go_at_call 99;refine C1.o.mono ?_;rintro e1 w1 ⟨rfl,c8⟩;have B1:=hid c8;clear c8)
     | (go_at_call 134;refine (C2.o _).mono ?_;rintro e1 w2 ⟨rfl,rfl⟩))
    go_ret;rw [HE.o,if_neg (fun h=>by have:=HX.o;omega)];exact SP.err H.o B1.o 2
   by_cases h2:160 < (ba x).size
   .
    go_enter Tryz.func88,Tryz.ntmps88
    go_wp2_with (first
     | (go_at_call 99;refine C1.o.mono ?_;rintro e1 w1 ⟨rfl,c8⟩;have B1:=hid c8;clear c8)
     | (go_at_call 134;refine (C2.o _).mono ?_;rintro e1 w2 ⟨rfl,rfl⟩))
    go_ret;rw [HE.o,if_neg (fun h=>by have:=HX.o;omega)];exact SP.err H.o B1.o 2
   have HQ:Hid (aK room L (.link p x tm)=eR room L p ⟨3,[],x,tm⟩):=by
    show _=_;rw [HE.o,if_pos ⟨rfl,by have:=HX.o;omega,by have:=HX.o;omega⟩]
   obtain ⟨r,HR⟩:=qX (eR room L p ⟨3,[],x,tm⟩);rw [HR.o] at C3 HQ;go_enter Tryz.func88,Tryz.ntmps88
   go_wp2_with (first
    | (go_at_call 99;refine C1.o.mono ?_;rintro e1 w1 ⟨rfl,c8⟩;have B1:=hid c8;clear c8)
    | (go_at_call 134;refine (C2.o _).mono ?_;rintro e1 w2 ⟨rfl,rfl⟩)
    | (go_at_call 129;refine (C3.o _ B1.o).mono ?_;rintro e2 w2 ⟨rfl,h2,h3⟩))
   have S2:Hid (SP w1 g o m t cs room r (.returned (.int .i64 r.1)) w2):=⟨rfl,h2,h3⟩;clear h2 h3;go_ret;exact SP.split B1.o S2.o HQ.o
theorem Lh (h:TreeS w g o m t cs L (usedL L) room) (hW:WFT room L) (hr:room<=1048576) (hG:Gd w) (p d:By) (tm:Int) (hp:p.length<=4000) (hd:d.length<=1000000) :
 qC 85 #[.pointer (some ⟨g,o,none⟩),kS p,kS d,.int .i64 tm] w fun e w'=>SP w g o m t cs room (aK room L (.write p d tm)) e w':=by
 have H:=hid h
 cases hm:mayB p with
 | false =>
  have C1:=hid (fN p false hm w hG hp);have HE:Hid (aK room L (.write p d tm)=(10,L)):=by show _=_;simp [aK,hm]
  clear h hW hG hm;go_enter Tryz.func85,Tryz.ntmps85
  go_wp2_with (go_at_call 99;refine C1.o.mono ?_;rintro e1 w1 ⟨rfl,c8⟩;have B1:=hid c8;clear c8)
  go_ret;rw [HE.o];exact SP.err H.o B1.o 10
 | true =>
  have C1:=hid (fN p true hm w hG hp);obtain ⟨b,HB⟩:=qX (cS tm);obtain ⟨c,HC⟩:=qX (cI L p);obtain ⟨k,HK⟩:=qX (dV L p);have C2:Hid (∀W,qC 134 #[.int .i64 tm] W fun e w'=>e=.returned (.bool b)/\W=w'):=by
   intro W;rw [<-HB.o];exact wM tm W
  have C3:Hid (∀w1,qW w w1->qC 135 #[.pointer (some ⟨g,o,none⟩),kS p] w1 fun e w'=>e=.returned (.int .i64 c)/\qW w1 w'):=fun w1 hb=>by
   rw [<-HC.o];exact uZ (h.on hb qN) (hG.kept hb) p hp hm
  have C4:Hid (∀w1,qW w w1->qC 136 #[.pointer (some ⟨g,o,none⟩),kS p] w1 fun e w'=>e=.returned (.int .i64 k)/\w1=w'):=fun w1 hb=>by
   rw [<-HK.o];exact Md (h.on hb qN) p hp
  have C5:Hid (∀w1,qW w w1->qC 137 #[.pointer (some ⟨g,o,none⟩),kS p,.agg #[.int .i64 1,kS d,.string ⟨#[]⟩,.int .i64 tm]] w1 fun e w'=>SP w1 g o m t cs room (cK room L p ⟨1,d,[],tm⟩) e w'):=fun w1 hb =>
   Ck (h.on hb qN) rfl hW.used hr p hp ⟨1,d,[],tm⟩ (by simp only;omega)
  have HE:Hid (aK room L (.write p d tm)=if b=true then (if c=0 then (if k=0 then cK room L p ⟨1,d,[],tm⟩ else (k,L)) else (c,L)) else (2,L)):=by
   show _=_;rw [<-HB.o,<-HC.o,<-HK.o];simp only [aK,hm,if_true]
  clear h hW hG hm
  cases b with
  | false =>
   go_enter Tryz.func85,Tryz.ntmps85
   go_wp2_with (first
    | (go_at_call 99;refine C1.o.mono ?_;rintro e1 w1 ⟨rfl,c8⟩;have B1:=hid c8;clear c8)
    | (go_at_call 134;refine (C2.o _).mono ?_;rintro e1 w2 ⟨rfl,rfl⟩))
   go_ret;rw [HE.o,if_neg (by simp)];exact SP.err H.o B1.o 2
  | true =>
   by_cases hc:c=0
   .
    subst hc;by_cases hk:k=0
    .
     subst hk;obtain ⟨r,HR⟩:=qX (cK room L p ⟨1,d,[],tm⟩);have HQ:Hid (aK room L (.write p d tm)=r):=by show _=_;rw [HE.o,if_pos (by trivial),if_pos (by trivial),if_pos (by trivial),HR.o]
     rw [HR.o] at C5;go_enter Tryz.func85,Tryz.ntmps85
     go_wp2_with (first
      | (go_at_call 99;refine C1.o.mono ?_;rintro e1 w1 ⟨rfl,c8⟩;have B1:=hid c8;clear c8)
      | (go_at_call 134;refine (C2.o _).mono ?_;rintro e1 w2 ⟨rfl,rfl⟩)
      | (go_at_call 135;refine (C3.o _ B1.o).mono ?_;rintro e3 w3 ⟨rfl,i7⟩;have B3:=hid (B1.o.trans (i7.mono B1.o.size));clear i7)
      | (go_at_call 136;refine (C4.o _ B3.o).mono ?_;rintro e4 w4 ⟨rfl,rfl⟩)
      | (go_at_call 137;refine (C5.o _ B3.o).mono ?_;rintro e5 w5 ⟨rfl,h2,h3⟩))
     have S2:Hid (SP w3 g o m t cs room r (.returned (.int .i64 r.1)) w5):=⟨rfl,h2,h3⟩;clear h2 h3;go_ret;exact SP.split B3.o S2.o HQ.o
    have q1:(k == 0)=false:=by simpa using hk
    have q2:(k != 0)=true:=by simpa using hk
    have s7:=hid hk;clear hk;go_enter Tryz.func85,Tryz.ntmps85
    go_wp2_with (first
     | (go_at_call 99;refine C1.o.mono ?_;rintro e1 w1 ⟨rfl,c8⟩;have B1:=hid c8;clear c8)
     | (go_at_call 134;refine (C2.o _).mono ?_;rintro e1 w2 ⟨rfl,rfl⟩)
     | (go_at_call 135;refine (C3.o _ B1.o).mono ?_;rintro e3 w3 ⟨rfl,i7⟩;have B3:=hid (B1.o.trans (i7.mono B1.o.size));clear i7)
     | (go_at_call 136;refine (C4.o _ B3.o).mono ?_;rintro e4 w4 ⟨rfl,rfl⟩))
    go_ret;rw [HE.o,if_pos (by trivial),if_pos (by trivial),if_neg s7.o];exact SP.err H.o B3.o k
   have q1:(c == 0)=false:=by simpa using hc
   have q2:(c != 0)=true:=by simpa using hc
   have UL:=hid hc;clear hc;go_enter Tryz.func85,Tryz.ntmps85
   go_wp2_with (first
    | (go_at_call 99;refine C1.o.mono ?_;rintro e1 w1 ⟨rfl,c8⟩;have B1:=hid c8;clear c8)
    | (go_at_call 134;refine (C2.o _).mono ?_;rintro e1 w2 ⟨rfl,rfl⟩)
    | (go_at_call 135;refine (C3.o _ B1.o).mono ?_;rintro e3 w3 ⟨rfl,i7⟩;have B3:=hid (B1.o.trans (i7.mono B1.o.size));clear i7))
   go_ret;rw [HE.o,if_pos (by trivial),if_neg UL.o];exact SP.err H.o B3.o c
end
open Go.RowKit Go.Maps
def Vj (L:Tr) (a:By):(innerL L a).length<=L.length:=by
 unfold innerL iS;split
 . exact List.length_filterMap_le _ _
 simp
end Go.Proofs.YtahkcemdbfjilaaGreatDoor
