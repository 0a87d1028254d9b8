/- Texts. Conditions: as said. -/
import Derived.Test.YtahkcemdbfjilaaGreatDoorFj00
import Derived.Laws.MakeOwn
import Derived.Test.YtahkcemdbfjilaaGreatDoorFj25
set_option linter.all false
set_option maxRecDepth 100000
set_option maxHeartbeats 32000000
namespace Go.Proofs.YtahkcemdbfjilaaGreatDoor.Glob
open Go.RowKit
def Dy (s:By) (k:Nat) (h:k < s.length):s.drop k=at8 s k :: s.drop (k+1):=by
 rw [List.drop_eq_getElem_cons h,Hs h]
def Hg {hs:H} {i:Nat} {x:Hx} (h:hs[i]? = some x):hs.drop i=x :: hs.drop (i+1):=by
 obtain ⟨h1,rfl⟩:=List.getElem?_eq_some_iff.1 h;exact List.drop_eq_getElem_cons h1
def gk (hs:H) (s:By) (k:Nat) (hk:k<=s.length):wh (hs.drop hs.length) (s.drop k)=(k == s.length):=by
 rw [List.drop_length,wh,Bool.eq_iff_iff,List.isEmpty_iff,beq_iff_eq,List.drop_eq_nil_iff];omega
def ch (hs:H) (s:By) (i k:Nat) (p:UInt8->Bool) (h:hs[i]? = some (p,true)) :
 wh (hs.drop i) (s.drop k)=(wh (hs.drop (i+1)) (s.drop k)||(decide (k < s.length)&&p (at8 s k))&&wh (hs.drop i) (s.drop (k+1))):=by
 rw [Hg h];by_cases hk:k < s.length
 . rw [Dy s k hk,decide_eq_true hk];simp [wh,sM]
 rw [List.drop_eq_nil_of_le (by omega:s.length<=k),decide_eq_false hk];simp [wh,sM]
def Zw (hs:H) (s:By) (i k:Nat) (p:UInt8->Bool) (h:hs[i]? = some (p,false)) :
 wh (hs.drop i) (s.drop k)=((decide (k < s.length)&&p (at8 s k))&&wh (hs.drop (i+1)) (s.drop (k+1))):=by
 rw [Hg h];by_cases hk:k < s.length
 . rw [Dy s k hk,decide_eq_true hk];simp [wh,sM]
 rw [List.drop_eq_nil_of_le (by omega:s.length<=k),decide_eq_false hk];simp [wh,sM]
def Row (w:World) (g:Nat) (hs:H) (s:By) (i lo:Nat):Prop:=∃cs,Has w g 4 cs/\cs.size=s.length+1/\∀k,lo<=k->k<=s.length->cs[k]? = some (.bool (wh (hs.drop i) (s.drop k)))
def Row.kept {B:Nat} {w w':World} {g:Nat} {hs:H} {s:By} {i lo:Nat} (h:Row w g hs s i lo) (hb:Below B w w') (hg:g < B):Row w' g hs s i lo:=by
 obtain ⟨cs,h1,h2⟩:=h;exact ⟨cs,h1.kept hb hg,h2⟩
def Row.inside {w:World} {g:Nat} {hs:H} {s:By} {i lo:Nat} (h:Row w g hs s i lo):g < w.heap.size:=by
 obtain ⟨cs,h1,h2⟩:=h;exact h1.inside
def Row.cell {w:World} {g:Nat} {hs:H} {s:By} {i lo:Nat} (h:Row w g hs s i lo) (k:Nat) (h1:lo<=k) (h2:k<=s.length):w.cell? ⟨g,k,none⟩=some (.bool (wh (hs.drop i) (s.drop k))):=by
 obtain ⟨cs,h3,h4,h5⟩:=h;exact (h3.at_ k).trans (h5 k h1 h2)
def Row.free {w:World} {g:Nat} {hs:H} {s:By} {i lo:Nat} (h:Row w g hs s i lo) (k:Nat):w.frozen? ⟨g,k,none⟩=false:=by
 obtain ⟨cs,h3,_⟩:=h;exact h3.free k
def Row.spot {w:World} {g:Nat} {hs:H} {s:By} {i lo:Nat} (h:Row w g hs s i lo) (k:Nat) (h2:k<=s.length):∃u,w.cell? ⟨g,k,none⟩=some u:=by
 obtain ⟨cs,h3,h4,_⟩:=h;exact ⟨cs[k]'(by omega),(h3.at_ k).trans (Array.getElem?_eq_getElem (by omega))⟩
def Row.put {w:World} {g:Nat} {hs:H} {s:By} {i k:Nat} (h:Row w g hs s i (k+1)) (hk:k<=s.length) (b:Bool) (hb:wh (hs.drop i) (s.drop k)=b):Row (w.setCell ⟨g,k,none⟩ (.bool b)) g hs s i k:=by
 obtain ⟨cs,h3,h4,h5⟩:=h;refine ⟨_,h3.put k (.bool b),by simp [h4],fun j h1 h2=>?_⟩;by_cases hj:j=k
 . subst hj;rw [hb,Array.getElem?_setIfInBounds_self_of_lt (by omega)]
 rw [Array.getElem?_setIfInBounds_ne (by omega)];exact h5 j (by omega) h2
def Row.fresh (w:World) (hs:H) (s:By) (i:Nat):Row (w.alloc (.cells (madeCells #[.bool false] (s.length+1)) 4)) w.heap.size hs s i (s.length+1) :=
 ⟨_,Has.fresh w 4 _,by simp [madeCells],fun k h1 h2=>by omega⟩
def kt (w:World) (g:Nat) (hs:H) (s:By) (j:Nat):Prop:=∃os,Has w g 294 os/\os.size=hs.length+1/\(j<=hs.length->∃g1,os[j]? = some (.slice (some ⟨g1,0,none⟩) (s.length+1) (s.length+1))/\Row w g1 hs s j 0)
def iL.at_ {w:World} {A:Option Addr} {l c:Nat} {els:List El} (h:iL 0 w (.slice A l c) els) (i:Nat) (el:El) (hi:els[i]? = some el) :
 ∃ge a b c' A' n' k',A=some ⟨ge,0,none⟩/\ge < w.heap.size/\w.cell? ⟨ge,i*4,none⟩=some (.int .i64 a)/\w.cell? ⟨ge,i*4+1,none⟩=some (.int .u8 b)/\w.cell? ⟨ge,i*4+2,none⟩=some (.bool c')/\w.cell? ⟨ge,i*4+3,none⟩=some (.slice A' n' k')/\oZ w el a b c' A' n' k':=by
 obtain ⟨fs,ho,hl,hf⟩:=h;have EM:i < els.length:=(List.getElem?_eq_some_iff.1 hi).1;rcases ho.2 with ⟨h1,h2⟩ | ⟨g,cp,cur,h1,hB,h3,h4,h5,h6,h7⟩
 . omega
 have hh:Has w g 218 cur:=h3;obtain ⟨f,AM⟩:∃f,fs[i]? = some f:=⟨fs[i]'(by omega),List.getElem?_eq_getElem _⟩;obtain ⟨e0,e1,e2,e3⟩:=Oy fs i f AM;rw [<-h7,List.getElem?_take_of_lt (by omega)] at e0 e1 e2 e3;refine ⟨g,f.a,f.b,f.c,f.A,f.n,f.k,?_,(Array.getElem?_eq_some_iff.1 h3).1,?_,?_,?_,?_,hf i f el AM hi⟩
 . simp only [Value.slice.injEq] at h1;exact h1.1
 . rw [hh.at_];simpa using e0
 . rw [hh.at_];simpa using e1
 . rw [hh.at_];simpa using e2
 rw [hh.at_];simpa using e3
def Vk:(Tryz.prog.info? 4).map (fun i=>(i.zero,i.size,i.bytes))=some (some (.bool false),1,1):=by kernel_rfl
def Qc:(Tryz.prog.info? 294).map (fun i=>(i.zero,i.size,i.bytes))=some (some (.slice none 0 0),1,24):=by kernel_rfl
def Mv (m:Nat) (hm:m<=1000) (w:World):(Instr.makeSlice 294 (.int .i64 ((m:Int)+1)) (.int .i64 ((m:Int)+1))).run Tryz.prog w=.ok (.slice (some ⟨w.heap.size,0,none⟩) (m+1) (m+1)) (w.alloc (.cells (madeCells #[.bool false] (m+1)) 4)):=by
 obtain ⟨i0,hi,o7,g8,j5⟩:=info_parts Vk;have:=run_make (P:=Tryz.prog) w 294 4 i0 (.bool false) Tryz.underlying294 hi o7 .i64 .i64 ((m:Int)+1) ((m:Int)+1) (by omega) (by omega) (by rw [j5];omega) (by omega);rw [this];rw [show ((m:Int)+1).toNat=m+1 by omega,g8,Nat.mul_one];rfl
def Gc (m:Nat) (hm:m<=1000) (w:World):(Instr.makeSlice 293 (.int .i64 ((m:Int)+1)) (.int .i64 ((m:Int)+1))).run Tryz.prog w=.ok (.slice (some ⟨w.heap.size,0,none⟩) (m+1) (m+1)) (w.alloc (.cells (madeCells #[.slice none 0 0] (m+1)) 294)):=by
 obtain ⟨i0,hi,o7,g8,j5⟩:=info_parts Qc;have:=run_make (P:=Tryz.prog) w 293 294 i0 (.slice none 0 0) Tryz.underlying293 hi o7 .i64 .i64 ((m:Int)+1) ((m:Int)+1) (by omega) (by omega) (by rw [j5];omega) (by omega);rw [this];rw [show ((m:Int)+1).toNat=m+1 by omega,g8,Nat.mul_one];rfl
def Zx (g k:Nat):(⟨g,k,none⟩:Addr)≠⟨g,k+1,none⟩:=by intro e;simp at e
def Jg (n f d r:Bool) (A:Option Addr) (l c:Nat) (els:List El) (s:By) (w:World) (hr:iL 0 w (.slice A l c) els) (hl:l=els.length) (hL:l<=128) (hn:∀neg rs,El.set neg rs∈els->rs.length<=1000) (ru:s.length<=160) :
 qC 196 #[.agg #[.bool n,.bool f,.bool d,.bool r,.slice A l c],.string (ba s)] w fun e w'=>e=.returned (.bool (wh (hsOf f els) s))/\qW w w':=by
 have z:=aD s;have YD:(hsOf f els).length=l:=by rw [pO,hl]
 have EL:Hid (∀i,i < l->∃el,(hsOf f els)[i]? = some (bD f el,el.many)/\(∀neg rs,el=.set neg rs->rs.length<=1000)/\∃ge a b c' A' n' k',A=some ⟨ge,0,none⟩/\ge < w.heap.size/\w.cell? ⟨ge,i*4,none⟩=some (.int .i64 a)/\w.cell? ⟨ge,i*4+1,none⟩=some (.int .u8 b)/\w.cell? ⟨ge,i*4+2,none⟩=some (.bool c')/\w.cell? ⟨ge,i*4+3,none⟩=some (.slice A' n' k')/\oZ w el a b c' A' n' k'):=by
  intro i hi;have hq:els[i]? = some (els[i]'(by omega)):=List.getElem?_eq_getElem _;refine ⟨els[i]'(by omega),by simp [hsOf,hq],fun neg rs e=>hn neg rs (e▸List.getElem_mem _),hr.at_ i _ hq⟩
 generalize hsOf f els=hs at *;clear hr hl hn;have MB:=Mv s.length (by omega);have MBB:=Gc l (by omega);obtain ⟨W0,o6⟩:=qY (w.alloc (.cells #[.bool n,.bool f,.bool d,.bool r,.slice A l c] 175));have o7:W0.heap.size=w.heap.size+1:=by rw [<-o6];simp
 have P0:Has W0 w.heap.size 175 #[.bool n,.bool f,.bool d,.bool r,.slice A l c]:=o6▸Has.fresh _ _ _;have B0:qW w W0:=o6▸qB.alloc qN _;have k04:=P0.at_ 4;obtain ⟨W1,p3⟩:=qY (W0.alloc (.cells (madeCells #[.slice none 0 0] (l+1)) 294));have P1:Hid (Has W1 w.heap.size 175 #[.bool n,.bool f,.bool d,.bool r,.slice A l c]):=p3▸P0.more _;have B1:Hid (qW w W1):=p3▸B0.alloc (by omega) _;have T1:Hid (kt W1 (w.heap.size+1) hs s (l+1)):=p3▸⟨_,Has.fresh' W0 294 _ o7.symm,by simp [madeCells,YD],fun h=>by omega⟩;have FV:=hid YD;clear P0 B0 YD;obtain ⟨pb,QG⟩:=qY (w.heap.size);unfold qW at B1;rw [QG] at o7 k04 P1 B1 T1;have MU:=hid QG;go_enter Tryz.func196,Tryz.ntmps196
 go_wp2;clear MBB k04 o6 p3 o7;go_loopw [8,9,10,11] (fun v _ _ _ wr=>∃(j:Nat) (q:Int),v=.int .i64 q/\Hid (q=(j:Int) - 1)/\j<=l+1/\Hid (kt wr (pb+1) hs s j)/\Hid (Has wr pb 175 #[.bool n,.bool f,.bool d,.bool r,.slice A l c])/\Hid (Below pb w wr))
  (fun v _ _ _ _=>(intOf v+1).toNat)
 case atStart=>exact ⟨l+1,l,rfl,by show _=_;omega,by omega,T1,P1,B1⟩
 obtain ⟨j,q,rfl,HQ,hj,HT,HP,HB⟩:=hrel;by_cases d8:0 < j
 .
  obtain ⟨i,rfl⟩:∃i,j=i+1:=⟨j - 1,by omega⟩;obtain rfl:q=(i:Int):=by have:=HQ.o;omega
  have hi:i<=l:=by omega
  have WX:(0:Int)<=(i:Int):=by omega
  obtain ⟨os,O1,O2,O3⟩:=HT.o;rw [FV.o] at O2 O3;obtain ⟨gi,QH⟩:=qY (wr.heap.size);obtain ⟨Wa,z7⟩:=qY (wr.alloc (.cells (madeCells #[.bool false] (s.length+1)) 4));have rj:pb+1 < gi:=QH▸O1.inside;have KM:pb < gi:=by omega
  have A1:Has Wa (pb+1) 294 os:=z7▸O1.more _;have AB:Below gi wr Wa:=z7▸qB.alloc (by omega) _;have AR:Row Wa gi hs s i (s.length+1):=by rw [<-z7,<-QH];exact Row.fresh wr hs s i
  obtain ⟨u1,c1⟩:∃u,Wa.cell? ⟨pb+1,i,none⟩=some u:=⟨os[i]'(by omega),(A1.at_ i).trans (Array.getElem?_eq_getElem (by omega))⟩;have f1:=A1.free i;obtain ⟨Wi,KN⟩:=qY (Wa.setCell ⟨pb+1,i,none⟩ (.slice (some ⟨gi,0,none⟩) (s.length+1) (s.length+1)));have I1:Has Wi (pb+1) 294 (os.setIfInBounds i (.slice (some ⟨gi,0,none⟩) (s.length+1) (s.length+1))):=KN▸A1.put i _;have XO:Hid (Wi.cell? ⟨pb+1,i,none⟩=some (.slice (some ⟨gi,0,none⟩) (s.length+1) (s.length+1))):=(I1.at_ i).trans (Array.getElem?_setIfInBounds_self_of_lt (by omega));have XR:Hid (Row Wi gi hs s i (s.length+1)):=by
   obtain ⟨cs,h1,h2⟩:=AR;exact KN▸⟨cs,h1.other (by simp;omega) _,h2⟩
  have XP:Hid (Has Wi pb 175 #[.bool n,.bool f,.bool d,.bool r,.slice A l c]):=KN▸(HP.o.kept AB (by omega)).other (by simp) _;have XB:Hid (Below pb w Wi):=KN▸(HB.o.trans (AB.mono (by omega))).setCell (by simp) _;have XS:Hid (gi < Wi.heap.size):=by
   have:=AR.inside;rw [<-KN];show _ < _;simpa using this
  have XN:Hid (i < l->∃g1,g1 < gi/\Wi.cell? ⟨pb+1,i+1,none⟩=some (.slice (some ⟨g1,0,none⟩) (s.length+1) (s.length+1))/\Row Wi g1 hs s (i+1) 0):=by
   intro EM;obtain ⟨g1,h1,cs,h2,h3⟩:=O3 (by omega);refine ⟨g1,QH▸h2.inside,(I1.at_ (i+1)).trans ?_,cs,?_,h3⟩
   . rw [Array.getElem?_setIfInBounds_ne (by omega)];exact h1
   have j3:g1≠pb+1:=by
    intro e;subst e;have:=Option.some.inj (h2.symm.trans O1);simp only [Obj.cells.injEq] at this;exact absurd this.2.1 (by decide)
   exact KN▸(h2.kept AB (QH▸h2.inside)).other j3 _
  have XT:Hid (∃os',Has Wi (pb+1) 294 os'/\os'.size=l+1/\os'[i]? = some (.slice (some ⟨gi,0,none⟩) (s.length+1) (s.length+1))):=⟨_,I1,by simp [O2],Array.getElem?_setIfInBounds_self_of_lt (by omega)⟩;have HQI:=HQ;clear O1 O2 O3 A1 AB AR I1 HT HP HB HQ;go_wp2;clear c1 f1 z7 KN QH;go_loopw [9,10,11] (fun v _ _ wr=>∃(j:Nat) (q:Int),v=.int .i64 q/\Hid (q=(j:Int) - 1)/\j<=s.length+1/\Hid (Row wr gi hs s i j)/\Hid (Below gi Wi wr))
   (fun v _ _ _=>(intOf v+1).toNat)
  case atStart=>exact ⟨s.length+1,s.length,rfl,by show _=_;omega,by omega,XR,Below.refl _ _⟩
  obtain ⟨j2,q,rfl,HQ,EB,HR,i9⟩:=hrel;obtain ⟨w2,rfl⟩:∃w2,w2=wr:=⟨_,rfl⟩;by_cases j4:0 < j2
  .
   obtain ⟨k,rfl⟩:∃k,j2=k+1:=⟨j2 - 1,by omega⟩;obtain rfl:q=(k:Int):=by have:=HQ.o;omega
   have hk:k<=s.length:=by omega
   have CJ:(0:Int)<=(k:Int):=by omega
   have c1:w2.cell? ⟨pb+1,i,none⟩=some (.slice (some ⟨gi,0,none⟩) (s.length+1) (s.length+1)):=(i9.o.cell (p:=⟨pb+1,i,none⟩) rj).trans XO.o;by_cases EM:i=l
   .
    subst EM;have e1:((i:Int) == (i:Int))=true:=by simp
    obtain ⟨u2,c2⟩:=HR.o.spot k hk;have f2:=HR.o.free k;have km:((k:Int) == (s.length:Int))=(k == s.length):=by rw [Bool.eq_iff_iff];simp;omega
    have HW:Hid (wh (hs.drop i) (s.drop k)=(k == s.length)):=by show _=_;rw [<-gk hs s k hk,FV.o]
    obtain ⟨bb,um⟩:=qY ((k == s.length));rw [um] at km HW;clear um XN EL;go_wp2;go_roundw
    case rel=>exact ⟨k,_,rfl,rfl,by omega,HR.o.put hk _ HW.o,i9.o.setCell qN _⟩
    case measure=>simp [intOf]
   have e1:((i:Int) == (l:Int))=false:=by simp;omega
   have hil2:i < l:=by omega
   obtain ⟨el,tz,KQ,ge,a,b,c',A',n',k',hA,R8,y0,y1,y2,y3,td⟩:=EL.o i hil2;obtain ⟨g1,T9,XN1,XN2⟩:=XN.o hil2;have uq:Hid (Below pb w w2):=XB.o.trans (i9.o.mono (by omega));have q4:w2.cell? ⟨pb,4,none⟩=some (.slice (some ⟨ge,0,none⟩) l c):=by
      rw [<-hA];exact ((XP.o.kept i9.o KM).at_ 4)
   clear hA;have FB:ge < pb:=by rw [<-MU.o];exact R8
   have x0:=(uq.o.cell (p:=⟨ge,i*4,none⟩) FB).trans y0;have x1:=(uq.o.cell (p:=⟨ge,i*4+1,none⟩) FB).trans y1;have x2:=(uq.o.cell (p:=⟨ge,i*4+2,none⟩) FB).trans y2;have x3:=(uq.o.cell (p:=⟨ge,i*4+3,none⟩) FB).trans y3;obtain ⟨ex,YE⟩:=qY (w2.heap.size);have hgx:gi < ex:=by have:=XS.o;have:=i9.o.size;omega
   obtain ⟨W3,C8⟩:=qY (w2.alloc (.cells #[.int .i64 a,.int .u8 b,.bool c',.slice A' n' k'] 218));have B3:Below ex w2 W3:=C8▸qB.alloc (by omega) _;have E3:Hid (Has W3 ex 218 #[.int .i64 a,.int .u8 b,.bool c',.slice A' n' k']):=C8▸Has.fresh' _ _ _ YE.symm;have B3i:Hid (Below gi Wi W3):=i9.o.trans (B3.mono (by omega));have R3:Hid (Row W3 gi hs s i (k+1)):=HR.o.kept B3 hgx;have P3:Hid (Has W3 pb 175 #[.bool n,.bool f,.bool d,.bool r,.slice A l c]):=XP.o.kept B3i.o KM;have CH:Hid (∀W,qW W3 W->qC 233 #[.agg #[.bool n,.bool f,.bool d,.bool r,.slice A l c],.agg #[.int .i64 a,.int .u8 b,.bool c',.slice A' n' k'],.int .u8 (b8 (at8 s k))] W fun e w'=>e=.returned (.bool (bD f el (at8 s k)))/\qW W w'):=fun W hW =>
      Je n f d r A l c el a b c' A' n' k' (at8 s k) W (((td.stays (MU.o▸uq.o)).stays (by unfold qW;rw [YE];exact B3)).stays hW) KQ
   have HS3:Hid (ex < W3.heap.size):=E3.o.inside;clear y0 y1 y2 y3 B3 HR XN EL uq;go_upto_region 13 with (fail)
   clear q4 x0 x1 x2 x3 c1 C8 YE;obtain ⟨hb,KR⟩:=qX ((decide (k < s.length)&&bD f el (at8 s k)));go_cut [11] from 32 to 116 (fun t w'=>t=.bool hb/\Hid (qW W3 w'))
   case first=>as_aux_lemma =>
      have z0:qW W3 W3.drew:=qB.drew;have LP:Hid (∀W,qW W3 W->(loadVar 175 ⟨pb,0,none⟩).run Tryz.prog W=.ok (.agg #[.bool n,.bool f,.bool d,.bool r,.slice A l c]) W):=fun W h=>jA (P3.o.stays h)
      have LE:Hid (∀W,qW W3 W->(loadVar 218 ⟨ex,0,none⟩).run Tryz.prog W=.ok (.agg #[.int .i64 a,.int .u8 b,.bool c',.slice A' n' k']) W):=fun W h=>eD (E3.o.stays h)
      by_cases vg:k < s.length
      .
       have GQ:(k:Int) < (s.length:Int):=by omega
       have QI:Hid (∀W,(Instr.index 9 (.string (ba s)) (.int .i64 (k:Int))).run Tryz.prog W=.ok (.int .u8 (b8 (at8 s k))) W):=aX s k vg;rw [decide_eq_true vg,Bool.true_and] at KR;rw [KR.o] at CH;generalize b8 (at8 s k)=x at QI CH;clear vg;refine qG (S:=Below W3.heap.size W3) (by kernel_rfl) (z0) (fun hS=>?_);refine aG 0 ?_
       iterate 4
        refine qT rfl (by kernel_rfl) ‹_› (fun w a8=>by go_simp;with_reducible rfl) ?_;simp only [Act.put,aB,aA,aC,Nat.reduceAdd]
       refine aE ?_;refine' qL 4 rfl (by kernel_rfl) (cU (by rfl) 175 (.tmp 2) rfl pb 0 rfl #[.bool n,.bool f,.bool d,.bool r,.slice A l c] (LP.o)) ‹_› ?_;simp only [Act.put,aB,aA,aC];refine' qL 5 rfl (by kernel_rfl) (cU (by rfl) 218 (.tmp 10) rfl ex 0 rfl #[.int .i64 a,.int .u8 b,.bool c',.slice A' n' k'] (LE.o)) ‹_› ?_;simp only [Act.put,aB,aA,aC];refine aG 6 ?_
       iterate 2
        refine qT rfl (by kernel_rfl) ‹_› (fun w a8=>by go_simp;with_reducible rfl) ?_;simp only [Act.put,aB,aA,aC,Nat.reduceAdd]
       refine aE ?_;refine qK 8 rfl (by kernel_rfl) ‹_› (fun w a8=>by have qi:=QI.o w;go_simp;with_reducible rfl) ?_;simp only [Act.put,aB,aA,aC];refine qD 9 rfl (by kernel_rfl) fun K hK=>?_
       go_simp;refine (CH.o _ z0).mono ?_;rintro e9 y9 ⟨rfl,x7⟩;have g8:=z0.thenG x7;refine hK.o _ _ g8 (fun hS=>?_);clear hK K hS;refine aG 10 ?_
       iterate 2
        refine qT rfl (by kernel_rfl) ‹_› (fun w a8=>by go_simp;with_reducible rfl) ?_;simp only [Act.put,aB,aA,aC,Nat.reduceAdd]
       refine aE ?_;refine qM (by kernel_rfl) ?_;go_wp2;go_meet
       case rel=>exact ⟨rfl,z0.thenG x7⟩
      .
       have GQ:¬((k:Int) < (s.length:Int)):=by omega
       have HF:Hid (hb=false):=by rw [decide_eq_false vg,Bool.false_and] at KR;exact KR.o.symm
       clear vg;refine qG (S:=Below W3.heap.size W3) (by kernel_rfl) (z0) (fun hS=>?_);refine aG 0 ?_
       iterate 4
        refine qT rfl (by kernel_rfl) ‹_› (fun w a8=>by go_simp;with_reducible rfl) ?_;simp only [Act.put,aB,aA,aC,Nat.reduceAdd]
       refine aE ?_;refine aG 4 ?_
       iterate 6
        refine qU rfl (by kernel_rfl) ‹_› ?_;simp only [Act.put,aB,aA,aC,Nat.reduceAdd]
       refine aE ?_;refine aG 10 ?_
       iterate 2
        refine qT rfl (by kernel_rfl) ‹_› (fun w a8=>by go_simp;with_reducible rfl) ?_;simp only [Act.put,aB,aA,aC,Nat.reduceAdd]
       refine aE ?_;refine qM (by kernel_rfl) ?_;go_wp2;go_meet
       case rel=>exact ⟨by rw [HF.o],z0⟩
   obtain ⟨rfl,vu⟩:=hcut;obtain ⟨W4,rfl⟩:∃W4,W4=wc:=⟨_,rfl⟩;have x0:=(E3.o.stays vu.o).at_ 0;have wv:el.many=(a == 1||a == 2):=by
    cases el with
    | set neg rs=>obtain ⟨rfl,_⟩:=td;rfl
    | all=>obtain ⟨rfl,_⟩:=td;rfl
    | part=>obtain ⟨rfl,_⟩:=td;rfl
    | one=>obtain ⟨rfl,_⟩:=td;rfl
    | byt x=>obtain ⟨rfl,_⟩:=td;rfl
   go_upto_region 14 with (fail)
   go_cut [71] from 32 to 116 (fun t w'=>t=.bool el.many/\W4=w')
   case first=>as_aux_lemma =>
    have ut:=hid wv;clear wv;obtain ⟨b1,c8⟩:=qY ((a == 1));obtain ⟨b2,a9⟩:=qY ((a == 2));rw [c8,a9] at ut
    cases b1 with
    | true =>
      go_wp2;go_meet
      case rel=>exact ⟨by rw [ut.o];rfl,rfl⟩
    | false =>
      go_wp2;go_meet
      case rel=>exact ⟨by rw [ut.o];rfl,rfl⟩
   obtain ⟨rfl,rfl⟩:=hcut;have te:Hid (Below gi Wi W4):=B3i.o.trans (vu.o.mono (by have:=HS3.o;omega));have R4:Hid (Row W4 gi hs s i (k+1)):=R3.o.kept vu.o (by have:=HS3.o;omega);have HB4s:Hid (gi < W4.heap.size):=R4.o.inside;have XA:Hid (∀W,Below gi W4 W->W.cell? ⟨pb+1,i,none⟩=some (.slice (some ⟨gi,0,none⟩) (s.length+1) (s.length+1))):=fun W h=>((te.o.trans h).cell (p:=⟨pb+1,i,none⟩) rj).trans XO.o
   have TN:Hid (∀W,Below gi W4 W->W.cell? ⟨pb+1,i+1,none⟩=some (.slice (some ⟨g1,0,none⟩) (s.length+1) (s.length+1))):=fun W h=>((te.o.trans h).cell (p:=⟨pb+1,i+1,none⟩) rj).trans XN1
   have QJ:Hid (∀W,Below gi W4 W->Row W g1 hs s (i+1) 0):=fun W h=>XN2.kept (te.o.trans h) T9
   have wi:IntKind.i64.wrap ((i:Int)+1)=(i:Int)+1:=aM _ (by omega) (by omega);have wk:IntKind.i64.wrap ((k:Int)+1)=(k:Int)+1:=aM _ (by omega) (by omega);have ti:((i:Int)+1).toNat=i+1:=by omega
   have tk:((k:Int)+1).toNat=k+1:=by omega
   have bi:(i:Int) < (l:Int)+1:=by omega
   have bi1:(i:Int)+1 < (l:Int)+1:=by omega
   have bi2:(i:Int) < (l:Int):=by omega
   have bi3:(0:Int)<=(i:Int)+1:=by omega
   have bk:(k:Int) < (s.length:Int)+1:=by omega
   have bk3:(0:Int)<=(k:Int)+1:=by omega
   have zg:Below gi W4 W4.drew:=qB.drew;obtain ⟨u2,tt⟩:=R4.o.spot k hk;have CK:Hid (W4.drew.cell? ⟨gi,k,none⟩=some u2):=tt;have FK:Hid (W4.drew.frozen? ⟨gi,k,none⟩=false):=R4.o.free k;have RD:Hid (Row W4.drew gi hs s i (k+1)):=R4.o;have GQ:Hid (hb=true->k < s.length):=fun h=>by
     have:=KR.o;rw [h] at this;simp at this;exact this.1
   cases hmny:el.many with
   | true =>
     rw [hmny] at tz;have HW:=hid (ch hs s i k _ tz);rw [KR.o] at HW;clear wv x0 tt;obtain ⟨t1,YF⟩:=qY (wh (hs.drop (i+1)) (s.drop k));have QK:Hid (∀W,Below gi W4 W->W.cell? ⟨g1,k,none⟩=some (.bool t1)):=fun W h=>YF▸(QJ.o W h).cell k (Nat.zero_le _) hk
     rw [YF] at HW;clear YF QJ CH tz td KQ
     cases t1 with
     | true =>
          go_wp2;refine qG (S:=Below gi W4) (by kernel_rfl) (zg) (fun hS=>?_);refine aG 0 ?_
          iterate 3
           refine qT rfl (by kernel_rfl) ‹_› (fun w a8=>by go_simp;with_reducible rfl) ?_;simp only [Act.put,aB,aA,aC,Nat.reduceAdd]
          refine aE ?_;refine qK 3 rfl (by kernel_rfl) ‹_› (fun w a8=>by have qa:=XA.o w a8;go_simp;with_reducible rfl) ?_;simp only [Act.put,aB,aA,aC];refine aG 4 ?_
          iterate 5
           refine qT rfl (by kernel_rfl) ‹_› (fun w a8=>by go_simp;with_reducible rfl) ?_;simp only [Act.put,aB,aA,aC,Nat.reduceAdd]
          refine aE ?_;refine qK 9 rfl (by kernel_rfl) ‹_› (fun w a8=>by have qb:=TN.o w a8;go_simp;with_reducible rfl) ?_;simp only [Act.put,aB,aA,aC];refine aG 10 ?_
          iterate 2
           refine qT rfl (by kernel_rfl) ‹_› (fun w a8=>by go_simp;with_reducible rfl) ?_;simp only [Act.put,aB,aA,aC,Nat.reduceAdd]
          refine aE ?_;refine qK 12 rfl (by kernel_rfl) ‹_› (fun w a8=>by have qc:=QK.o w a8;go_simp;with_reducible rfl) ?_;simp only [Act.put,aB,aA,aC];refine qK 13 rfl (by kernel_rfl) ‹_› (fun w a8=>by go_simp;with_reducible rfl) ?_;simp only [Act.put,aB,aA,aC];refine aG 14 ?_
          iterate 11
           refine qU rfl (by kernel_rfl) ‹_› ?_;simp only [Act.put,aB,aA,aC,Nat.reduceAdd]
          refine aE ?_;refine aG 25 ?_
          iterate 2
           refine qT rfl (by kernel_rfl) ‹_› (fun w a8=>by go_simp;with_reducible rfl) ?_;simp only [Act.put,aB,aA,aC,Nat.reduceAdd]
          refine aE ?_;refine qD 27 rfl (by kernel_rfl) fun K hK=>?_
          have ck:=CK.o;have fk:=FK.o;go_simp;refine hK.o _ _ ((zg).setCell (p:=⟨gi,k,none⟩) qN _) (fun hS=>?_);clear hK K hS;refine qM (by kernel_rfl) ?_;go_wp2;go_roundw
          case rel=>exact ⟨k,_,rfl,rfl,by omega,RD.o.put hk _ (by rw [HW.o];first | rfl | simp),(te.o.trans zg).setCell qN _⟩
          case measure=>simp [intOf]
     | false =>
          cases hb with
          | false =>
           go_wp2;refine qG (S:=Below gi W4) (by kernel_rfl) (zg) (fun hS=>?_);refine aG 0 ?_
           iterate 3
            refine qT rfl (by kernel_rfl) ‹_› (fun w a8=>by go_simp;with_reducible rfl) ?_;simp only [Act.put,aB,aA,aC,Nat.reduceAdd]
           refine aE ?_;refine qK 3 rfl (by kernel_rfl) ‹_› (fun w a8=>by have qa:=XA.o w a8;go_simp;with_reducible rfl) ?_;simp only [Act.put,aB,aA,aC];refine aG 4 ?_
           iterate 5
            refine qT rfl (by kernel_rfl) ‹_› (fun w a8=>by go_simp;with_reducible rfl) ?_;simp only [Act.put,aB,aA,aC,Nat.reduceAdd]
           refine aE ?_;refine qK 9 rfl (by kernel_rfl) ‹_› (fun w a8=>by have qb:=TN.o w a8;go_simp;with_reducible rfl) ?_;simp only [Act.put,aB,aA,aC];refine aG 10 ?_
           iterate 2
            refine qT rfl (by kernel_rfl) ‹_› (fun w a8=>by go_simp;with_reducible rfl) ?_;simp only [Act.put,aB,aA,aC,Nat.reduceAdd]
           refine aE ?_;refine qK 12 rfl (by kernel_rfl) ‹_› (fun w a8=>by have qc:=QK.o w a8;go_simp;with_reducible rfl) ?_;simp only [Act.put,aB,aA,aC];refine aG 13 ?_
           iterate 3
            refine qT rfl (by kernel_rfl) ‹_› (fun w a8=>by go_simp;with_reducible rfl) ?_;simp only [Act.put,aB,aA,aC,Nat.reduceAdd]
           refine aE ?_;refine aG 16 ?_
           iterate 8
            refine qU rfl (by kernel_rfl) ‹_› ?_;simp only [Act.put,aB,aA,aC,Nat.reduceAdd]
           refine aE ?_;refine aG 24 ?_
           iterate 3
            refine qT rfl (by kernel_rfl) ‹_› (fun w a8=>by go_simp;with_reducible rfl) ?_;simp only [Act.put,aB,aA,aC,Nat.reduceAdd]
           refine aE ?_;refine qD 27 rfl (by kernel_rfl) fun K hK=>?_
           have ck:=CK.o;have fk:=FK.o;go_simp;refine hK.o _ _ ((zg).setCell (p:=⟨gi,k,none⟩) qN _) (fun hS=>?_);clear hK K hS;refine qM (by kernel_rfl) ?_;go_wp2;go_roundw
           case rel=>exact ⟨k,_,rfl,rfl,by omega,RD.o.put hk _ (by rw [HW.o];first | rfl | simp),(te.o.trans zg).setCell qN _⟩
           case measure=>simp [intOf]
          | true =>
           have DQ:k < s.length:=GQ.o rfl;have bk1:(k:Int)+1 < (s.length:Int)+1:=by omega
           have bk2:(k:Int) < (s.length:Int):=by omega
           obtain ⟨t2,qk⟩:=qY (wh (hs.drop i) (s.drop (k+1)));have zh:Below gi W4 W4.drew/\W4.drew.cell? ⟨gi,k+1,none⟩=some (.bool t2):=⟨zg,qk▸R4.o.cell (k+1) qN (by omega)⟩;rw [qk] at HW;clear qk;go_wp2;refine qG (S:=fun W=>Below gi W4 W/\W.cell? ⟨gi,k+1,none⟩=some (.bool t2)) (by kernel_rfl) (zh) (fun hS=>?_);refine aG 0 ?_
           iterate 3
            refine qT rfl (by kernel_rfl) ‹_› (fun w a8=>by go_simp;with_reducible rfl) ?_;simp only [Act.put,aB,aA,aC,Nat.reduceAdd]
           refine aE ?_;refine qK 3 rfl (by kernel_rfl) ‹_› (fun w a8=>by have qa:=XA.o w a8.1;go_simp;with_reducible rfl) ?_;simp only [Act.put,aB,aA,aC];refine aG 4 ?_
           iterate 5
            refine qT rfl (by kernel_rfl) ‹_› (fun w a8=>by go_simp;with_reducible rfl) ?_;simp only [Act.put,aB,aA,aC,Nat.reduceAdd]
           refine aE ?_;refine qK 9 rfl (by kernel_rfl) ‹_› (fun w a8=>by have qb:=TN.o w a8.1;go_simp;with_reducible rfl) ?_;simp only [Act.put,aB,aA,aC];refine aG 10 ?_
           iterate 2
            refine qT rfl (by kernel_rfl) ‹_› (fun w a8=>by go_simp;with_reducible rfl) ?_;simp only [Act.put,aB,aA,aC,Nat.reduceAdd]
           refine aE ?_;refine qK 12 rfl (by kernel_rfl) ‹_› (fun w a8=>by have qc:=QK.o w a8.1;go_simp;with_reducible rfl) ?_;simp only [Act.put,aB,aA,aC];refine aG 13 ?_
           iterate 6
            refine qT rfl (by kernel_rfl) ‹_› (fun w a8=>by go_simp;with_reducible rfl) ?_;simp only [Act.put,aB,aA,aC,Nat.reduceAdd]
           refine aE ?_;refine qK 19 rfl (by kernel_rfl) ‹_› (fun w a8=>by have qa:=XA.o w a8.1;go_simp;with_reducible rfl) ?_;simp only [Act.put,aB,aA,aC];refine aG 20 ?_
           iterate 3
            refine qT rfl (by kernel_rfl) ‹_› (fun w a8=>by go_simp;with_reducible rfl) ?_;simp only [Act.put,aB,aA,aC,Nat.reduceAdd]
           refine aE ?_;refine qK 23 rfl (by kernel_rfl) ‹_› (fun w a8=>by have qd:=a8.2;go_simp;with_reducible rfl) ?_;simp only [Act.put,aB,aA,aC];refine aG 24 ?_
           iterate 3
            refine qT rfl (by kernel_rfl) ‹_› (fun w a8=>by go_simp;with_reducible rfl) ?_;simp only [Act.put,aB,aA,aC,Nat.reduceAdd]
           refine aE ?_;refine qD 27 rfl (by kernel_rfl) fun K hK=>?_
           have ck:=CK.o;have fk:=FK.o;go_simp;refine hK.o _ _ (⟨(zh.1).setCell (p:=⟨gi,k,none⟩) qN _,(World.cell?_setCell_other _ _ _ _ (Zx gi k)).trans zh.2⟩) (fun hS=>?_);clear hK K hS;refine qM (by kernel_rfl) ?_;go_wp2;go_roundw
           case rel=>exact ⟨k,_,rfl,rfl,by omega,RD.o.put hk _ (by rw [HW.o];first | rfl | simp),(te.o.trans zg).setCell qN _⟩
           case measure=>simp [intOf]
   | false =>
     rw [hmny] at tz;have HW:=hid (Zw hs s i k _ tz);rw [KR.o] at HW;clear wv x0 tt CH tz td KQ
     cases hb with
     | false =>
          clear QJ;go_wp2;refine qG (S:=Below gi W4) (by kernel_rfl) (zg) (fun hS=>?_);refine aG 0 ?_
          iterate 3
           refine qT rfl (by kernel_rfl) ‹_› (fun w a8=>by go_simp;with_reducible rfl) ?_;simp only [Act.put,aB,aA,aC,Nat.reduceAdd]
          refine aE ?_;refine qK 3 rfl (by kernel_rfl) ‹_› (fun w a8=>by have qa:=XA.o w a8;go_simp;with_reducible rfl) ?_;simp only [Act.put,aB,aA,aC];refine aG 4 ?_
          iterate 3
           refine qT rfl (by kernel_rfl) ‹_› (fun w a8=>by go_simp;with_reducible rfl) ?_;simp only [Act.put,aB,aA,aC,Nat.reduceAdd]
          refine aE ?_;refine aG 7 ?_
          iterate 9
           refine qU rfl (by kernel_rfl) ‹_› ?_;simp only [Act.put,aB,aA,aC,Nat.reduceAdd]
          refine aE ?_;refine aG 16 ?_
          iterate 2
           refine qT rfl (by kernel_rfl) ‹_› (fun w a8=>by go_simp;with_reducible rfl) ?_;simp only [Act.put,aB,aA,aC,Nat.reduceAdd]
          refine aE ?_;refine qD 18 rfl (by kernel_rfl) fun K hK=>?_
          have ck:=CK.o;have fk:=FK.o;go_simp;refine hK.o _ _ ((zg).setCell (p:=⟨gi,k,none⟩) qN _) (fun hS=>?_);clear hK K hS;refine qM (by kernel_rfl) ?_;go_wp2;go_roundw
          case rel=>exact ⟨k,_,rfl,rfl,by omega,RD.o.put hk _ (by rw [HW.o];first | rfl | simp),(te.o.trans zg).setCell qN _⟩
          case measure=>simp [intOf]
     | true =>
          have DQ:k < s.length:=GQ.o rfl;have bk1:(k:Int)+1 < (s.length:Int)+1:=by omega
          have bk2:(k:Int) < (s.length:Int):=by omega
          obtain ⟨t2,qk⟩:=qY (wh (hs.drop (i+1)) (s.drop (k+1)));have QK:Hid (∀W,Below gi W4 W->W.cell? ⟨g1,k+1,none⟩=some (.bool t2)):=fun W h=>qk▸(QJ.o W h).cell (k+1) (Nat.zero_le _) (by omega)
          rw [qk] at HW;clear qk QJ;go_wp2;refine qG (S:=Below gi W4) (by kernel_rfl) (zg) (fun hS=>?_);refine aG 0 ?_
          iterate 3
           refine qT rfl (by kernel_rfl) ‹_› (fun w a8=>by go_simp;with_reducible rfl) ?_;simp only [Act.put,aB,aA,aC,Nat.reduceAdd]
          refine aE ?_;refine qK 3 rfl (by kernel_rfl) ‹_› (fun w a8=>by have qa:=XA.o w a8;go_simp;with_reducible rfl) ?_;simp only [Act.put,aB,aA,aC];refine aG 4 ?_
          iterate 7
           refine qT rfl (by kernel_rfl) ‹_› (fun w a8=>by go_simp;with_reducible rfl) ?_;simp only [Act.put,aB,aA,aC,Nat.reduceAdd]
          refine aE ?_;refine qK 11 rfl (by kernel_rfl) ‹_› (fun w a8=>by have qb:=TN.o w a8;go_simp;with_reducible rfl) ?_;simp only [Act.put,aB,aA,aC];refine aG 12 ?_
          iterate 3
           refine qT rfl (by kernel_rfl) ‹_› (fun w a8=>by go_simp;with_reducible rfl) ?_;simp only [Act.put,aB,aA,aC,Nat.reduceAdd]
          refine aE ?_;refine qK 15 rfl (by kernel_rfl) ‹_› (fun w a8=>by have qc:=QK.o w a8;go_simp;with_reducible rfl) ?_;simp only [Act.put,aB,aA,aC];refine aG 16 ?_
          iterate 2
           refine qT rfl (by kernel_rfl) ‹_› (fun w a8=>by go_simp;with_reducible rfl) ?_;simp only [Act.put,aB,aA,aC,Nat.reduceAdd]
          refine aE ?_;refine qD 18 rfl (by kernel_rfl) fun K hK=>?_
          have ck:=CK.o;have fk:=FK.o;go_simp;refine hK.o _ _ ((zg).setCell (p:=⟨gi,k,none⟩) qN _) (fun hS=>?_);clear hK K hS;refine qM (by kernel_rfl) ?_;go_wp2;go_roundw
          case rel=>exact ⟨k,_,rfl,rfl,by omega,RD.o.put hk _ (by rw [HW.o];first | rfl | simp),(te.o.trans zg).setCell qN _⟩
          case measure=>simp [intOf]
  obtain rfl:j2=0:=by omega
  obtain rfl:q = -1:=by have:=HQ.o;omega
  clear j4 EL XN;go_wp2;go_roundw
  case rel =>
   refine ⟨i,_,rfl,rfl,by omega,?_,XP.o.kept i9.o KM,XB.o.trans (i9.o.mono (by omega))⟩;obtain ⟨os',h1,h2,h3⟩:=XT.o;exact ⟨os',h1.kept i9.o rj,by rw [FV.o];exact h2,fun _=>⟨gi,h3,HR.o⟩⟩
  case measure=>simp [intOf]
 obtain rfl:j=0:=by omega
 obtain rfl:q = -1:=by have:=HQ.o;omega
 obtain ⟨os,O1,O2,O3⟩:=HT.o;obtain ⟨g1,h1,h2⟩:=O3 (Nat.zero_le _);have c1:=(O1.at_ 0).trans h1;have c2:=h2.cell 0 qN (Nat.zero_le _);rw [List.drop_zero,List.drop_zero] at c2;clear O1 O2 O3 h1 h2 EL d8;go_wp2;go_ret;exact ⟨rfl,by first | exact HB.o | (unfold qW;rw [MU.o];exact HB.o)⟩
end Go.Proofs.YtahkcemdbfjilaaGreatDoor.Glob
