/- Texts. Conditions: as said. -/
import Derived.Test.YtahkcemdbfjilaaGreatDoorFj00
import Derived.Test.YtahkcemdbfjilaaGreatDoorFj29
set_option linter.all false
set_option maxRecDepth 100000
set_option maxHeartbeats 32000000
namespace Go.Proofs.YtahkcemdbfjilaaGreatDoor.Sha
open Go.RowKit
@[irreducible] def pM (ys r:List UInt8):Prop:=lE ys=r
def pM.mk {ys r:List UInt8} (h:lE ys=r):pM ys r:=by unfold pM;exact h
def pM.eq {ys r:List UInt8} (h:pM ys r):lE ys=r:=by unfold pM at h;exact h
@[irreducible] def nW (r P:List UInt8) (m:Nat):Prop:=r=jM (kV P m) 8
def nW.mk {r P:List UInt8} {m:Nat} (h:r=jM (kV P m) 8):nW r P m:=by unfold nW;exact h
def nW.eq {r P:List UInt8} {m:Nat} (h:nW r P m):r=jM (kV P m) 8:=by unfold nW at h;exact h
@[irreducible] def lX (st:List (BitVec 32)) (r:List UInt8):Prop:=kB st 32=r
def lX.mk {st:List (BitVec 32)} {r:List UInt8} (h:kB st 32=r):lX st r:=by unfold lX;exact h
def lX.eq {st:List (BitVec 32)} {r:List UInt8} (h:lX st r):kB st 32=r:=by unfold lX at h;exact h
def Mu (w w1:World) (z:Array Value) (hb:Below (w.alloc (.cells z 81)).heap.size (w.alloc (.cells z 81)) w1) (hz:z=zero32):Hid (qW w w1)/\Hid (Has w1 w.heap.size 81 zero32)/\Hid (w.heap.size < w1.heap.size):=by
 subst hz;have:=hb.size;simp at this;exact ⟨(qB.alloc qN _).trans (hb.mono (by simp)),(Has.fresh w 81 zero32).kept hb (by simp),by show _ < _;omega⟩
def Iy (ys:List UInt8) (A:Option Addr) (n cap bb off:Nat) (w:World) (hn:ys.length=n) (hm:n<=100000) (hs:Bytes w (.slice A n cap) ys A cap bb off) :
 qC 164 #[.slice A n cap] w fun e w'=>e=.returned (.agg (bvec (lE ys)))/\qW w w':=by
 obtain ⟨i0,hi,o7,g8,j5⟩:=info_parts Ip;have HS:=hid hs;have HN:=hid hn;obtain ⟨r,ui⟩:=qY (lE ys);have HR:=pM.mk ui;rw [ui];clear ui;clear hs hn;go_enter Tryz.func164,Tryz.ntmps164
 go_wp2_with fail
 refine (Ju _).mono ?_;rintro e1 w1 ⟨v,rfl,f9,c8⟩;obtain ⟨g3,c3,rfl,h3a,h3b,h3c⟩:=Dc f9;obtain ⟨B1,R1,L1⟩:=Mu w w1 _ c8 rfl;have P3:=hid h3c;have G3:=hid h3a;clear f9 c8 h3a h3b h3c;go_wp2;go_loopw [5,6] (fun v i wr=>∃(k:Nat) (B:Option Addr) (c:Nat),k<=64/\v=.slice B k c/\i=.int .i64 (k:Int)/\Hid (wr.ownsRow w1.heap.size 53 1 (.slice B k c) k ((dK.take k).map fA))/\Hid (qW w1 wr))
  (fun _ i _=>64 - (intOf i).toNat)
 case atStart=>exact ⟨0,none,0,by omega,rfl,rfl,World.ownsRow_nil _ _ _ _,Below.refl _ _⟩
 obtain ⟨k,B,c,hk,rfl,rfl,HO,HB⟩:=hrel;by_cases d8:k < 64
 .
  as_aux_lemma =>
  have ck:=(HB.o.cell (p:=⟨g3,k,none⟩) G3.o).trans (P3.o k d8);have CC:Hid (∀W,qC 198 #[.int .u64 (prm k:Nat)] W fun e w'=>e=.returned (.int .u32 (u (at32 dK k)))/\W=w'):=fun W=>by rw [<-di k d8];exact Ut (prm k) (Qt k d8) W
  have N2:Hid (k+1<=maxLen):=by show _<=_;unfold maxLen;omega
  have N3:Hid ((k+1)*4<=140737488355328):=by show _<=_;omega
  have N4:Hid (∀o,w1.heap.size<=(wr.alloc o).heap.size):=by intro o;have:=HB.o.size;simp;omega
  go_wp2_with fail
  refine (CC.o _).mono ?_;rintro ee ww ⟨rfl,rfl⟩;go_wp2_with (at_builtin;refine wpList_append_own _ rfl _ _ 264 rfl w1.heap.size 53 i0 (.int .u32 0) 1 4 Tryz.underlying264 hi o7 g8 j5 rfl (by omega) _ _ _ rfl (HO.o.alloc _) ⟨wr.heap.size,0,none⟩ 1 1 [Value.int .u32 (u (at32 dK k))] rfl rfl (cell_one_new _ _ _) (oT _) N2.o N3.o (N4.o _) ?_;intro v3 w3 f9 i8 _)
  have B8:Hid (qW w1 w3) :=
   ((HB.o.alloc HB.o.size _).grown i8 (N4.o _) (fun g hk=>(HO.o.lt g hk).1))
  obtain ⟨g5,c5,rfl⟩:=ownsRow_succ f9;have ug:Hid (w3.ownsRow w1.heap.size 53 1 (.slice (some ⟨g5,0,none⟩) (k+1) c5) (k+1) ((dK.take (k+1)).map fA)):=by
   rw [oD _ _ d8];exact f9
  clear f9 i8;go_wp2;go_roundw
  case rel=>exact ⟨k+1,_,_,by omega,rfl,rfl,ug,B8⟩
  case measure=>simp [intOf];omega
 obtain rfl:k=64:=by omega
 as_aux_lemma =>
 obtain ⟨g5,rfl,K2,_⟩:=yN (l:=dK) (n:=64) rfl (by omega) HO.o;have B2:Hid (qW w wr):=B1.o.trans (HB.o.mono (Nat.le_of_lt L1.o));have R2:Hid (Has wr w.heap.size 81 zero32):=R1.o.kept HB.o L1.o;have P2:Hid (∀i,i < 64->wr.cell? ⟨g3,i,none⟩=some (.int .u64 (prm i:Nat))):=fun i hi=>(HB.o.cell (p:=⟨g3,i,none⟩) G3.o).trans (P3.o i hi)
 have G2:Hid (g3 < wr.heap.size):=Nat.lt_of_lt_of_le G3.o HB.o.size;have K2:=hid K2;clear P3 G3 HO HB B1 R1 L1;generalize wr=w2 at *;rw [show ((64:Nat):Int)=64 from rfl];go_wp2;go_loopw [4,8] (fun v i wr=>∃(k:Nat) (B:Option Addr) (c:Nat),k<=8/\v=.slice B k c/\i=.int .i64 (k:Int)/\Hid (wr.ownsRow w2.heap.size 53 1 (.slice B k c) k ((jT.take k).map fA))/\Hid (qW w2 wr))
  (fun _ i _=>8 - (intOf i).toNat)
 case atStart=>exact ⟨0,none,0,by omega,rfl,rfl,World.ownsRow_nil _ _ _ _,Below.refl _ _⟩
 obtain ⟨k,B,cc,hk,rfl,rfl,HO,HB⟩:=hrel;by_cases d8:k < 8
 .
  as_aux_lemma =>
  have ck:=(HB.o.cell (p:=⟨g3,k,none⟩) G2.o).trans (P2.o k (by omega));have CC:Hid (∀W,qC 199 #[.int .u64 (prm k:Nat)] W fun e w'=>e=.returned (.int .u32 (u (at32 jT k)))/\W=w'):=fun W=>by rw [<-Rk k d8];exact Jz (prm k) (Qt k (by omega)) W
  have N2:Hid (k+1<=maxLen):=by show _<=_;unfold maxLen;omega
  have N3:Hid ((k+1)*4<=140737488355328):=by show _<=_;omega
  have N4:Hid (∀o,w2.heap.size<=(wr.alloc o).heap.size):=by intro o;have:=HB.o.size;simp;omega
  go_wp2_with fail
  refine (CC.o _).mono ?_;rintro ee ww ⟨rfl,rfl⟩;go_wp2_with (at_builtin;refine wpList_append_own _ rfl _ _ 264 rfl w2.heap.size 53 i0 (.int .u32 0) 1 4 Tryz.underlying264 hi o7 g8 j5 rfl (by omega) _ _ _ rfl (HO.o.alloc _) ⟨wr.heap.size,0,none⟩ 1 1 [Value.int .u32 (u (at32 jT k))] rfl rfl (cell_one_new _ _ _) (oT _) N2.o N3.o (N4.o _) ?_;intro v3 w3 f9 i8 _)
  have B8:Hid (qW w2 w3) :=
   ((HB.o.alloc HB.o.size _).grown i8 (N4.o _) (fun g hk=>(HO.o.lt g hk).1))
  obtain ⟨g4,c4,rfl⟩:=ownsRow_succ f9;have ug:Hid (w3.ownsRow w2.heap.size 53 1 (.slice (some ⟨g4,0,none⟩) (k+1) c4) (k+1) ((jT.take (k+1)).map fA)):=by
   rw [oD _ _ d8];exact f9
  clear f9 i8;go_wp2;go_roundw
  case rel=>exact ⟨k+1,_,_,by omega,rfl,rfl,ug,B8⟩
  case measure=>simp [intOf];omega
 obtain rfl:k=8:=by omega
 as_aux_lemma =>
 obtain ⟨g4,rfl,S3,S3b⟩:=yN (l:=jT) (n:=8) rfl (by omega) HO.o;have B3:Hid (qW w wr):=B2.o.trans (HB.o.mono B2.o.size);have R3:Hid (Has wr w.heap.size 81 zero32):=R2.o.kept HB.o R2.o.inside;have K3:Hid (Row wr g5 dK):=K2.o.kept HB.o K2.o.inside;have D3:Hid (g4≠g5):=by show _≠_;have:=K2.o.inside;omega
 have D4:Hid (w.heap.size < g4):=by show _ < _;have:=R2.o.inside;omega
 have S3:=hid S3;clear P2 G2 HO HB B2 R2 K2 S3b;generalize wr=w3 at *;have E3:Hid (Uk w g4 g5 w3):=⟨S3.o,K3.o,R3.o,B3.o⟩;clear S3 K3 R3 B3;rw [show ((8:Nat):Int)=8 from rfl];go_wp2_with fail
 refine (Me ys A cap bb off _ n HN.o hm (HS.o.kept E3.o.below qN)).mono ?_;rintro ee w4 ⟨v,rfl,f9,hb⟩;obtain ⟨P,HP⟩:=qX (ys++padL n);rw [HP.o] at f9;obtain ⟨m,HM⟩:∃m,Hid (P.length=64*m):=⟨P.length / 64,by
  show _=_
  have:=Ug n;rw [<-HP.o,List.length_append,HN.o];omega⟩
 have hm0:0 < m:=by
  have:=HM.o;rw [<-HP.o,List.length_append] at this;have:=Ce n;omega
 rw [HM.o] at f9;obtain ⟨gp,cp,rfl,uo,hgp,hgq,hpc⟩:=Gg (by omega) f9;have E4:Hid (Env w g4 g5 gp (kV P 0) P w4):=E3.o.env hb hgq hpc;have D6:Hid (gp≠g4/\gp≠g5/\gp≠w.heap.size):=by
  have h1:=E3.o.st.inside;have h2:=E3.o.k.inside;have h3:=E3.o.res.inside;exact ⟨by omega,by omega,by omega⟩
 have HSH:nW r P m:=nW.mk (by
  rw [<-HR.eq,Mr ys m (by rw [HN.o,HP.o,HM.o]),HN.o,HP.o])
 have ML:Hid (64*m<=110000):=by
  show _<=_
  have:=HM.o;rw [<-HP.o,List.length_append,HN.o] at this;have:=Dh n;omega
 have HC:=hid uo;clear E3 hb f9 hgp hgq hpc uo hm HP HN HS HR;go_wp2;obtain ⟨L,HL⟩:=qX (64*m);rw [HL.o];go_loopw [11] (fun i wr=>∃q,q<=m/\i=.int .i64 ((64*q:Nat):Int)/\Hid (Env w g4 g5 gp (kV P q) P wr))
  (fun i _=>L - (intOf i).toNat)
 case atStart=>exact ⟨0,by omega,rfl,E4⟩
 obtain ⟨q,hq,rfl,J⟩:=hrel;by_cases d8:q < m
 .
  obtain ⟨a,HA⟩:=qX (64*q);rw [HA.o];have LO:a+64<=L:=by have:=HA.o;have:=HL.o;omega
  have LY:(a:Int) < (L:Int):=by omega
  have hLm:L<=110000:=by have:=ML.o;have:=HL.o;omega
  have DN:L<=cp:=by have:=HC.o;have:=HL.o;omega
  have hca:¬cp=a:=by omega
  have PV:¬cp - a=0:=by omega
  go_wp2_with fail
  have QL:Hid (64*(q+1)<=P.length):=by show _<=_;rw [HM.o];omega
  have hBB:Bytes wr (.slice (some ⟨gp,a,none⟩) 64 (cp - a)) (blk P q) (some ⟨gp,a,none⟩) (cp - a) gp a:=by
   have:=Py J.o q (cp - a) QL.o (by omega);rw [HA.o] at this;exact this
  refine (Da (blk P q) _ (cp - a) gp a wr (yH P q QL.o) hBB).mono ?_;rintro ee w6 ⟨xf,rfl,f9,hb⟩;rw [ay] at f9;have D7:∃A c,xf=.slice A 64 c:=by
   rcases f9.2 with ⟨_,h⟩ | ⟨g,c,_,h,_⟩
   . omega
   exact ⟨_,_,h⟩
  obtain ⟨A12,c12,rfl⟩:=D7;obtain ⟨mh,rfl,hW,hg12⟩:=yN (Ig _) (by omega) f9;have TZ:Hid (mh≠g4):=by show _≠_;have:=J.o.st.inside;omega
  have J6:=J.o.step hb;have AP:=hid (fK.apart J6 hW);obtain ⟨st,C9⟩:=qX (kV P q);rw [C9.o] at J6;have QU:Hid (st.length=8):=by show _=_;rw [<-C9.o];exact Ex P q
  have J6:=hid J6;have hW:=hid hW;clear hBB f9 hb J hca PV hg12;go_wp2;generalize hG:World.alloc w6 _=W7;obtain ⟨W8,vo,F⟩:=fK.start (l:=st) J6.o hW.o _ rfl;obtain rfl:W8=W7:=vo.symm.trans hG;have F:=hid F;obtain ⟨N,tu⟩:=qX (w6.heap.size);rw [tu.o] at F AP ⊢;clear hG vo J6 hW tu;as_aux_lemma =>
  go_loopw [14] (fun i wr=>∃k:Nat,k<=8/\i=.int .i64 (k:Int)/\Hid (fK w g4 g5 gp N mh st P (mZ (blk P q)) (copied st k) wr))
   (fun i _=>8 - (intOf i).toNat)
  case atStart=>exact ⟨0,by omega,rfl,F⟩
  obtain ⟨k,hk,rfl,F⟩:=hrel;by_cases hlt8:k < 8
  .
   as_aux_lemma =>
   have ck:=F.o.env.st.cell k (by rw [QU.o];exact hlt8);have cv:=(F.o.v.at_ k).trans (eU _ k (by rw [Jq];exact hlt8));have fv:=F.o.v.free k;go_wp2;go_roundw
   case rel=>exact ⟨k+1,by omega,by go_num,F.o.put AP.o k _⟩
   case measure=>simp [intOf];omega
  obtain rfl:k=8:=by omega
  as_aux_lemma =>
  rw [Iu] at F;rw [show ((8:Nat):Int)=8 from rfl];go_wp2;go_loopw [15] (fun i wr=>∃k:Nat,k<=64/\i=.int .i64 (k:Int)/\Hid (fK w g4 g5 gp N mh st P (mZ (blk P q)) (jG (aV (words (blk P q) 16) (lA st) k)) wr))
         (fun i _=>64 - (intOf i).toNat)
  case atStart=>exact ⟨0,by omega,rfl,F⟩
  obtain ⟨k,hk,rfl,F⟩:=hrel;by_cases hlt6:k < 64
  .
   as_aux_lemma =>
   have UA:=hid (bh (blk P q) (lA st) k hlt6);obtain ⟨s,QO⟩:=qX (aV (words (blk P q) 16) (lA st) k);rw [QO.o] at F UA;have ck:=F.o.env.k.cell k hlt6;have cw:=F.o.row.cell k (by rw [Ig];exact hlt6);obtain ⟨kk,V4⟩:=qX (at32 dK k);obtain ⟨ww,HWW⟩:=qX (at32 (mZ (blk P q)) k);rw [V4.o] at ck UA;rw [HWW.o] at cw UA;have v0:wr.cell? ⟨N,0,none⟩=some (.int .u32 (u s.a)):=F.o.v.at_ 0;have v1:wr.cell? ⟨N,1,none⟩=some (.int .u32 (u s.b)):=F.o.v.at_ 1;have v2:wr.cell? ⟨N,2,none⟩=some (.int .u32 (u s.c)):=F.o.v.at_ 2;have v4:wr.cell? ⟨N,4,none⟩=some (.int .u32 (u s.e)):=F.o.v.at_ 4;have v5:wr.cell? ⟨N,5,none⟩=some (.int .u32 (u s.f)):=F.o.v.at_ 5;have v6:wr.cell? ⟨N,6,none⟩=some (.int .u32 (u s.g)):=F.o.v.at_ 6;have v7:wr.cell? ⟨N,7,none⟩=some (.int .u32 (u s.h)):=F.o.v.at_ 7;go_wp2;go_quiet ((go_at_call 202;exact Calls.quiet_of_same (Cf _ _ (by decide) _)))
   go_wp2;generalize QV:World.drewN wr _=wq;have FQ:Hid (fK w g4 g5 gp N mh st P (mZ (blk P q)) (jG s) wq):=by rw [<-QV];exact F.o.drawn _
   clear QV v0 v1 v2 v4 v5 v6 v7 ck cw F;have v0:wq.cell? ⟨N,0,none⟩=some (.int .u32 (u s.a)):=FQ.o.v.at_ 0;have v1:wq.cell? ⟨N,1,none⟩=some (.int .u32 (u s.b)):=FQ.o.v.at_ 1;have v2:wq.cell? ⟨N,2,none⟩=some (.int .u32 (u s.c)):=FQ.o.v.at_ 2;go_quiet ((go_at_call 202;exact Calls.quiet_of_same (Cf _ _ (by decide) _)))
   go_wp2;generalize QV:World.drewN wq _=wz;have FZ:Hid (fK w g4 g5 gp N mh st P (mZ (blk P q)) (jG s) wz):=by rw [<-QV];exact FQ.o.drawn _
   clear QV v0 v1 v2 FQ;rw [dc,Ek];obtain ⟨X,HX⟩:=qX (sx s kk ww);obtain ⟨Y,HY⟩:=qX (sy s);rw [HX.o,HY.o];go_loopw [18] (fun i wr=>∃j d:Nat,i=.int .i64 (d:Int)/\Hid (j+d=7)/\Hid (fK w g4 g5 gp N mh st P (mZ (blk P q)) (iV (jG s) j) wr))
    (fun i _=>(intOf i).toNat)
   case atStart=>exact ⟨0,7,rfl,rfl,FZ⟩
   obtain ⟨j,d,rfl,HD,F⟩:=hrel;by_cases RO:0 < d
   .
    as_aux_lemma =>
    obtain ⟨d1,e1,E1⟩:∃d1:Nat,(d:Int) - 1=(d1:Int)/\Hid (d=d1+1):=⟨d - 1,by omega,by show _=_;omega⟩;have hd8:(d:Int) < 8:=by have:=HD.o;omega
    have hl:Hid ((iV (jG s) j).length=8):=Oo _ _;have c1:=(F.o.v.at_ d1).trans (eU _ d1 (by rw [hl.o];have:=E1.o;omega));have c2:=(F.o.v.at_ d).trans (eU _ d (by rw [hl.o];omega));have f2:=F.o.v.free d;have hdd:(0:Int) < (d:Int):=by omega
    have hMV:Hid (iV (jG s) (j+1)=(iV (jG s) j).set d (at32 (iV (jG s) j) d1)):=by
     have h1:7 - j=d:=by have:=HD.o;omega
     have h2:6 - j=d1:=by have:=HD.o;have:=E1.o;omega
     show _=_
     rw [iV,h1,h2]
    go_wp2;go_roundw
    case rel=>exact ⟨j+1,d1,rfl,by show _=_;have:=HD.o;have:=E1.o;omega,by rw [hMV.o];exact F.o.put AP.o d _⟩
    case measure=>simp [intOf];have:=E1.o;omega
   obtain rfl:d=0:=by omega
   as_aux_lemma =>
   have hj7:j=7:=by have:=HD.o;omega
   subst hj7;rw [zZ] at F;have c4:wr.cell? ⟨N,4,none⟩=some (.int .u32 (u s.d)):=F.o.v.at_ 4;have c0:wr.cell? ⟨N,0,none⟩=some (.int .u32 (u s.a)):=F.o.v.at_ 0;have f4:=F.o.v.free 4;have f0:=F.o.v.free 0;go_wp2;go_roundw
   case rel =>
    refine ⟨k+1,by omega,by go_num,?_⟩;rw [UA.o,<-Kt,zZ,eL,eL,HX.o,HY.o];exact (F.o.put AP.o 4 _).put AP.o 0 _
   case measure=>simp [intOf];omega
  obtain rfl:k=64:=by omega
  as_aux_lemma =>
  obtain ⟨vv,UB⟩:=qX (jG (aV (words (blk P q) 16) (lA st) 64));have QD:Hid (vv.length=8):=by show _=_;rw [<-UB.o];rfl
  have HFD:Hid (eI st vv 8=kV P (q+1)):=by
   show _=_
   rw [<-UB.o,Mz st QU.o,kV,C9.o]
  rw [UB.o] at F;rw [show ((64:Nat):Int)=64 from rfl];clear UB;go_wp2;go_loopw [19] (fun i wr=>∃k:Nat,k<=8/\i=.int .i64 (k:Int)/\Hid (fK w g4 g5 gp N mh (eI st vv k) P (mZ (blk P q)) vv wr))
   (fun i _=>8 - (intOf i).toNat)
  case atStart=>exact ⟨0,by omega,rfl,F⟩
  obtain ⟨k,hk,rfl,F⟩:=hrel;by_cases hlt8:k < 8
  .
   as_aux_lemma =>
   have c1:=F.o.env.st.cell k (by rw [Dd,QU.o];exact hlt8);have f1:=F.o.env.st.free k;have c2:=(F.o.v.at_ k).trans (eU _ k (by rw [QD.o];exact hlt8));go_wp2;go_region
   rw [eL];have F2:Hid (fK w g4 g5 gp N mh (eI st vv (k+1)) P (mZ (blk P q)) vv (wr.setCell ⟨g4,k,none⟩ (.int .u32 (u (at32 (eI st vv k) k+at32 vv k)))).drew) :=
    (F.o.raise D3.o.symm D4.o D6.o.1 TZ.o AP.o.1.symm k _).drawn 1
   clear c1 c2 f1 F;go_wp2;go_roundw
   case rel=>exact ⟨k+1,by omega,by go_num,F2⟩
   case measure=>simp [intOf];omega
  obtain rfl:k=8:=by omega
  as_aux_lemma =>
  rw [HFD.o] at F;go_wp2;go_roundw
  case rel=>exact ⟨q+1,by omega,by have:=HA.o;rw [show 64*(q+1)=a+64 by omega];go_num,F.o.env⟩
  case measure=>simp [intOf];omega
 obtain rfl:q=m:=by omega
 as_aux_lemma =>
 rw [HL.o];obtain ⟨st,C9⟩:=qX (kV P q);have QU:Hid (st.length=8):=by show _=_;rw [<-C9.o];exact Ex P q
 have MW:lX st r:=lX.mk (by rw [HSH.eq,C9.o,<-kF]);rw [C9.o] at J;go_wp2;generalize hG:World.alloc wr _=W9;obtain ⟨N2,W8,hN2,vo,Q1,Q2,Q3,Q4,Q5⟩:=To J.o _ rfl;obtain rfl:W8=W9:=vo.symm.trans hG;rw [hN2];clear hG vo hN2 J;go_loopw [21] (fun i wr=>∃k:Nat,k<=32/\i=.int .i64 (k:Int)/\Hid (Row wr g4 st)/\Hid (Has wr w.heap.size 81 zero32)/\Hid (Has wr N2 81 (bvec (kB st k)))/\Hid (qW w wr))
  (fun i _=>32 - (intOf i).toNat)
 case atStart=>exact ⟨0,by omega,rfl,Q1,Q2,Q3,Q4⟩
 obtain ⟨k,hk,rfl,J1,J2,J3,J4⟩:=hrel;by_cases d8:k < 32
 .
  as_aux_lemma =>
  obtain ⟨k4,e4,E4⟩:∃a:Nat,(k:Int) / 4=(a:Int)/\Hid (k / 4=a):=⟨k / 4,by omega,rfl⟩;obtain ⟨k5,e5,E5⟩:∃a:Nat,(k:Int) % 4=(a:Int)/\Hid (k % 4=a):=⟨k % 4,by omega,rfl⟩;obtain ⟨k6,e6,E6⟩:∃a:Nat,(24:Int) - 8*(k5:Int)=(a:Int)/\Hid (24 - 8*k5=a):=⟨24 - 8*k5,by have:=E5.o;omega,rfl⟩;have c1:=J1.o.cell k4 (by rw [QU.o];have:=E4.o;omega);have c2:=(J3.o.at_ k).trans (fL _ k (by rw [eP];exact d8));have f2:=J3.o.free k;have b1:(k4:Int) < 8:=by have:=E4.o;omega
  have b2:(0:Int)<=(k6:Int):=by omega
  have b3:(k6:Int)<=24:=by have:=E6.o;omega
  have b4:(k5:Int)<=3:=by have:=E5.o;omega
  have b5:(0:Int)<=(k5:Int):=by omega
  go_wp2;rw [nA];have HW:Hid ((kB st k).set k (byteOf (at32 st k4) k6)=kB st (k+1)):=by
         show _=_
         rw [kB,E4.o,E5.o,E6.o]
  have K3:Hid (Has (wr.setCell ⟨N2,k,none⟩ (.int .u8 (b8 (byteOf (at32 st k4) k6)))) N2 81 (bvec (kB st (k+1)))):=by
         rw [<-HW.o,<-lO];exact J3.o.put k _
  go_roundw
  case rel=>exact ⟨k+1,by omega,by go_num,J1.o.other (p:=⟨N2,k,none⟩) Q5.o.1 _,J2.o.other (p:=⟨N2,k,none⟩) (Nat.ne_of_lt Q5.o.2) _,K3,J4.o.setCell (p:=⟨N2,k,none⟩) (Nat.le_of_lt Q5.o.2) _⟩
  case measure=>simp [intOf];omega
 obtain rfl:k=32:=by omega
 as_aux_lemma =>
 rw [MW.eq] at J3;have MS:Hid (r.length=32):=by show _=_;rw [<-MW.eq];exact eP _ _
 have Y1:=Df r MS.o;have Y2:=zK r MS.o;go_wp2_with (first
        | (refine wpList_load_row rfl 81 (.tmp 20) rfl N2 rfl 81 (bvec r) (0,0) _ J3.o Tryz.underlying81 rfl Y1.o ?_)
        | (refine wpList_store_row rfl 81 (.tmp 2) (.tmp 195) rfl w.heap.size (bvec r) rfl rfl 81 zero32 J2.o Y1.o Y2.o (pS _) ?_))
 exact bodyPost_ret (results_cell_row rfl _ _ w.heap.size 81 (bvec r) (0,0) _ rfl J2.o.row Tryz.underlying81 rfl Y1.o) rfl ⟨rfl,J4.o.rowK qN _⟩
end Go.Proofs.YtahkcemdbfjilaaGreatDoor.Sha
namespace Go.Proofs.YtahkcemdbfjilaaGreatDoor
open Go.RowKit
def ez:List Nat:=[16,32,64,128,256]
def tI (n:Int) (w:World):qC 105 #[.int .i64 n] w fun e w'=>e=.returned (.int .i64 (sizeI n:Int))/\qW w w':=by
 by_cases h1:n < 0
 .
  have HV:Hid ((sizeI n:Int)=0):=by show _=_;rw [lN n (.inl h1)];rfl
  go_enter Tryz.func105,Tryz.ntmps105
  go_wp2;go_ret;exact ⟨oA HV.o.symm,Below.refl _ _⟩
 by_cases h2:4096 < n
 .
  have HV:Hid ((sizeI n:Int)=0):=by show _=_;rw [lN n (.inr h2)];rfl
  go_enter Tryz.func105,Tryz.ntmps105
  go_wp2;go_ret;exact ⟨oA HV.o.symm,Below.refl _ _⟩
 obtain ⟨m,rfl⟩:=Int.eq_ofNat_of_zero_le (a:=n) (by omega);have h3:¬4096 < m:=by omega
 have HV:Hid ((sizeI (m:Int):Int)=(szL m:Int)):=by show _=_;rw [lU m (by omega)]
 have HH:Hid (Has (w.alloc (.cells #[.int .i64 16,.int .i64 32,.int .i64 64,.int .i64 128,.int .i64 256] 3)) w.heap.size 3 #[.int .i64 16,.int .i64 32,.int .i64 64,.int .i64 128,.int .i64 256]):=Has.fresh w 3 _;have HB:Hid (qW w (w.alloc (.cells #[.int .i64 16,.int .i64 32,.int .i64 64,.int .i64 128,.int .i64 256] 3))):=qB.alloc qN _;go_enter Tryz.func105,Tryz.ntmps105
 go_wp2;go_loopw [4] (fun v wr=>∃k:Nat,v=.int .i64 (k:Int)/\k<=3/\Hid (k=0∨2 ^ (k - 1)*512 < m)/\wr=w.alloc (.cells #[.int .i64 16,.int .i64 32,.int .i64 64,.int .i64 128,.int .i64 256] 3)) (fun v _=>5 - (intOf v).toNat)
 case atStart=>exact ⟨0,rfl,by omega,(.inl rfl:0=0∨_),rfl⟩
 obtain ⟨k,rfl,hk,H,rfl⟩:=hrel;have w1:IntKind.i64.wrap ((k:Int)+1)=(k:Int)+1:=aM _ (by omega) (by omega);have SI:(k:Int) < 5:=by omega
 have c0:(w.alloc (.cells #[.int .i64 16,.int .i64 32,.int .i64 64,.int .i64 128,.int .i64 256] 3)).cell? ⟨w.heap.size,k,none⟩=some (.int .i64 ((ez.getD k 0:Nat):Int)):=by
  rw [HH.o.at_];rcases k with _ | _ | _ | _ | k<;>first | rfl | omega
 obtain ⟨z,HZ⟩:=qX (ez.getD k 0);rw [HZ.o] at c0;have hz:z=16∨z=32∨z=64∨z=128:=by
  have:=HZ.o;rcases k with _ | _ | _ | _ | k
  . exact .inl this.symm
  . exact .inr (.inl this.symm)
  . exact .inr (.inr (.inl this.symm))
  . exact .inr (.inr (.inr this.symm))
  omega
 have w2:IntKind.i64.wrap ((z:Int)*32)=(z:Int)*32:=aM _ (by omega) (by omega);by_cases d8:(m:Int)<=(z:Int)*32
 .
  have HE:Hid (z=szL m):=by
   show _=_
   have h5:szL m=if m<=512 then 16 else if m<=1024 then 32 else if m<=2048 then 64 else 128:=rfl
   have h6:=H.o;have h7:=HZ.o;rcases k with _ | _ | _ | _ | k
   . obtain rfl:z=16:=h7.symm
     rw [if_pos (by omega)] at h5;exact h5.symm
   . obtain rfl:z=32:=h7.symm
     simp at h6;rw [if_neg (by omega),if_pos (by omega)] at h5;exact h5.symm
   . obtain rfl:z=64:=h7.symm
     simp at h6;rw [if_neg (by omega),if_neg (by omega),if_pos (by omega)] at h5;exact h5.symm
   . obtain rfl:z=128:=h7.symm
     simp at h6;rw [if_neg (by omega),if_neg (by omega),if_neg (by omega)] at h5;exact h5.symm
   omega
  clear hz;go_wp2;go_ret;exact ⟨oA (by rw [HV.o,HE.o]),HB.o⟩
 have HN:Hid (k+1<=3/\2 ^ (k+1 - 1)*512 < m):=by
  show _/\_
  have h7:=HZ.o;rcases k with _ | _ | _ | _ | k
  . obtain rfl:z=16:=h7.symm
    simp;omega
  . obtain rfl:z=32:=h7.symm
    simp;omega
  . obtain rfl:z=64:=h7.symm
    simp;omega
  . obtain rfl:z=128:=h7.symm
    omega
  omega
 clear hz;go_wp2;go_roundw
 case rel=>exact ⟨k+1,by go_num,HN.o.1,(.inr HN.o.2:k+1=0∨2 ^ (k+1 - 1)*512 < m),trivial⟩
 case measure=>simp [intOf];omega
def qP {w:World} {B1 B2:Nat} {e1 e2:TypeId} {s1 s2 n1 n2:Nat} {v1 v2:Value} {x1 x2:List Value} (h1:w.ownsRow B1 e1 s1 v1 n1 x1) (h2:w.ownsRow B2 e2 s2 v2 n2 x2) (j3:e1≠e2):v1.ownBlock=none∨v1.ownBlock≠v2.ownBlock:=by
 rcases h1.2 with ⟨k1,_⟩ | ⟨g,c,cur,k1,_,k3,_⟩
 . rw [k1];exact .inl rfl
 refine .inr fun e=>?_
 rcases h2.2 with ⟨z1,_⟩ | ⟨g',c',cur',z1,_,z3,_⟩
 . rw [k1,z1] at e;cases e
 rw [k1,z1] at e;injection e with e;have e:g=g':=e;rw [e,z3] at k3;injection k3 with k3;injection k3 with _ k3;exact j3 k3.symm
def cr (n k:Nat):k*szL n < n↔k < gA n:=by
 have hp:=Hw n;rw [gA,Nat.lt_div_iff_mul_lt hp];constructor<;>intro h<;>omega
def ft (d:By) (hd:d.length=32):(Tryz.prog.info? 81).map (·.size)=some (hvec d).size:=by rw [nP,hd];kernel_rfl
def ef (d:By) (hd:d.length=32):(hvec (List.replicate 32 0)).size=(hvec d).size:=by rw [nP,nP,hd];rfl
def jp (wr:World) (d:By) (_hd:d.length=32):∃W1,(wr.alloc (.cells (hvec (List.replicate 32 0)) 81)).setRow wr.heap.size (hvec d)=W1/\Hid (Has W1 wr.heap.size 81 (hvec d))/\Hid (qW wr W1):=by
 refine ⟨_,rfl,?_,?_⟩
 . exact setRow_heap _ _ _ _ 81 (0,0) (Has.fresh wr 81 _)
 exact (qB.alloc qN _).rowK qN _
def Xd (l:List UInt8):(hvec l).all (·.oneCell')=true:=by simp [hvec,V8,Value.oneCell']
def Xw (v:Value) (xs:By) (A:Option Addr) (cap bb off:Nat) (w:World) (h:Bytes w v xs A cap bb off) (hl:xs.length<=100000) :
 qC 164 #[v] w fun e w'=>e=.returned (.agg (hvec (dg xs)))/\qW w w':=by
 have e0:=h.form;rw [e0];refine (Sha.Iy xs A xs.length cap bb off w rfl hl ⟨rfl,h.le,h.zero,h.at_,h.blk,h.src⟩).mono ?_;rintro e w' ⟨rfl,hb⟩;refine ⟨?_,hb⟩;unfold dg;rfl
def jw:(Tryz.prog.info? 79).map (fun i=>(i.zero,i.size,i.bytes))=some (some (.slice none 0 0),1,24):=by kernel_rfl
def iH (B:Nat) (w:World) (v:Value) (xss:List By):Prop :=
 ∃vs:List Value,w.ownsRow B 79 1 v xss.length vs/\∀i,i < xss.length->∃u,vs[i]? = some u/\Fresh B w u (xss.getD i [])
def iH.nil (B:Nat) (w:World):iH B w (.slice none 0 0) []:=⟨[],World.ownsRow_nil _ _ _ _,fun i h=>by cases h⟩
def iH.kept {B:Nat} {w w':World} {v:Value} {xss:List By} (h:iH B w v xss) (hb:qW w w'):iH B w' v xss:=by
 obtain ⟨vs,ho,hf⟩:=h;refine ⟨vs,row_of ho (fun g hg=>hb.block g (World.ownsRow.lt ho g hg).2),fun i hi=>?_⟩;obtain ⟨u,h1,h2⟩:=hf i hi;exact ⟨u,h1,mN h2 hb⟩
def iH.grown {B B2:Nat} {w w':World} {v v2:Value} {xss:List By} {e2:TypeId} {s2 n2:Nat} {x2:List Value} (h:iH B w v xss) (h2:w.ownsRow B2 e2 s2 v2 n2 x2) (h3:79≠e2) (h4:5≠e2) (hg:w.grownBy w' v2.ownBlock):iH B w' v xss:=by
 obtain ⟨vs,ho,hf⟩:=h;refine ⟨vs,World.ownsRow.kept ho hg (qP ho h2 h3),fun i hi=>?_⟩;obtain ⟨u,k1,k2⟩:=hf i hi;exact ⟨u,k1,World.ownsRow.kept k2 hg (qP k2 h2 h4)⟩
def iH.form {B:Nat} {w:World} {v:Value} {xss:List By} (h:iH B w v xss):∃A c,v=.slice A xss.length c:=by
 obtain ⟨vs,ho,_⟩:=h;rcases ho.2 with ⟨h1,h2⟩ | ⟨g,c,cur,h1,_⟩
 . exact ⟨none,0,by rw [h1,h2]⟩
 exact ⟨some ⟨g,0,none⟩,c,h1⟩
def iH.at_ {B:Nat} {w:World} {v:Value} {xss:List By} (h:iH B w v xss) (k:Nat) (hk:k < xss.length) :
 ∃g c u,v=.slice (some ⟨g,0,none⟩) xss.length c/\w.cell? ⟨g,k,none⟩=some u/\Fresh B w u (xss.getD k []):=by
 obtain ⟨vs,ho,hf⟩:=h;obtain ⟨u,h1,h2⟩:=hf k hk;rcases ho.2 with ⟨_,h3⟩ | ⟨g,c,cur,h3,hB,h4,h5⟩
 . omega
 refine ⟨g,c,u,h3,?_,h2⟩;subst h3;have:=World.ownsRow.cells (g:=g) ho rfl k u h1;rwa [bY,Nat.zero_add] at this
def Td {B:Nat} {w:World} {u:Value} {ys:By} (h:Fresh B w u ys):u.oneCell'=true:=by
 rcases h.2 with ⟨rfl,_⟩ | ⟨g,c,cur,rfl,_⟩<;>rfl
def Pr (w:World) (B:Nat) (v:Value) (xss:List By) (h:iH B w v xss) (u:Value) (ys:By) (hu:Fresh B w u ys) (a:Addr) (ha:w.cell? (a.add 0)=some u) (hn:xss.length<=100000) (hB:B<=w.heap.size) (ty:TypeId) :
 ∃v' w',(Builtin.append_ #[225,225] ty #[v,.slice (some a) 1 1]).run Tryz.prog w=.ok v' w'/\iH B w' v' (xss++[ys])/\w.grownBy w' v.ownBlock:=by
 obtain ⟨vs,ho,hf⟩:=h;obtain ⟨i0,hi,o7,g8,j5⟩:=info_parts jw;obtain ⟨v',w',hr,ny,hg,_,_⟩:=run_append_own_at (P:=Tryz.prog) w B 225 ty 79 i0 (.slice none 0 0) 1 24 Tryz.underlying225 hi o7 g8 j5 rfl (by omega) v xss.length vs ho a 1 1 [u] rfl (fun j u' hj=>by
  match j,hj with
  | 0,hj=>obtain rfl:=Option.some.inj hj;exact ha
  | j+1,hj=>simp at hj) (fun x hx=>by simp only [List.mem_singleton] at hx;subst hx;exact Td hu) (by unfold maxLen;omega) (by omega) hB
 have hl:vs.length=xss.length:=by have:=ho.1;omega
 have hk:∀{u ys},Fresh B w u ys->Fresh B w' u ys:=fun hu=>World.ownsRow.kept hu hg (qP hu ho (by decide))
 refine ⟨v',w',hr,⟨vs++[u],by rw [List.length_append];exact ny,fun i hi=>?_⟩,hg⟩;rw [List.length_append,List.length_singleton] at hi;by_cases d8:i < xss.length
 . obtain ⟨u',h1,h2⟩:=hf i d8
   refine ⟨u',by rw [List.getElem?_append_left (by omega)];exact h1,?_⟩;have:(xss++[ys]).getD i []=xss.getD i []:=by simp only [List.getD,List.getElem?_append_left d8]
   rw [this];exact hk h2
 obtain rfl:i=xss.length:=by omega
 refine ⟨u,by rw [List.getElem?_append_right (by omega),hl];simp,?_⟩;have:(xss++[ys]).getD xss.length []=ys:=by simp [List.getD]
 rw [this];exact hk hu
def blocksTo (xs:By) (k:Nat):List By:=(List.range k).map (dY xs)
def lM (xs:By):List By:=if xs.length<=4096 then blocksTo xs (gA xs.length) else []
def rU (xs:By) (k:Nat):(blocksTo xs k).length=k:=by simp [blocksTo]
def Bg (xs:By) (k:Nat):blocksTo xs (k+1)=blocksTo xs k++[dY xs k]:=by simp [blocksTo,List.range_succ]
def Ha (xs:By) (k i:Nat) (h:i < k):(blocksTo xs k).getD i []=dY xs i:=by simp [blocksTo,List.getD,h]
def Dj (xs:By) (h:4096 < xs.length):lM xs=[]:=by rw [lM,if_neg (by omega)]
def wV (xs:By) (h:xs.length<=4096):lM xs=blocksTo xs (gA xs.length):=by rw [lM,if_pos h]
def Fs (v:Value) (xs:By) (A:Option Addr) (cap bb off:Nat) (w:World) (h:Bytes w v xs A cap bb off) (hp:0 < w.heap.size) (hmax:xs.length<=100000) :
 qC 163 #[v] w fun e w'=>∃v',e=.returned v'/\iH w.heap.size w' v' (lM xs)/\qW w w':=by
 have e0:=h.form;obtain ⟨n,HN⟩:=qX (xs.length);by_cases hl:4096 < xs.length
 .
  have HV:Hid (lM xs=[]):=Dj xs hl;rw [HN.o] at e0 hl;have C1:=hid (tI (n:Int) w);rw [lN (n:Int) (.inr (by omega))] at C1;rw [e0];clear h e0 hl hmax;go_enter Tryz.func163,Tryz.ntmps163
  go_wp2_with (go_at_call 105;refine C1.o.mono ?_;rintro e1 w1 ⟨rfl,c8⟩)
  go_loopw [4,5,6] (fun v4 v5 _ wr=>v4=.slice none 0 0/\v5=.int .i64 0/\wr=w1) (fun _ _ _ _=>0)
  case atStart=>exact ⟨rfl,rfl,rfl⟩
  obtain ⟨rfl,rfl,rfl⟩:=hrel;go_wp2;go_ret;exact ⟨_,rfl,by rw [HV.o];exact iH.nil _ _,c8⟩
 have hl:xs.length<=4096:=by omega
 have HV:Hid (lM xs=blocksTo xs (gA xs.length)):=wV xs hl;have C1:=hid (tI (n:Int) w);rw [lU n (by rw [<-HN.o];exact hl)] at C1;have HK:=hid (fun k=>cr xs.length k);obtain ⟨s,HS⟩:=qX (szL xs.length);obtain ⟨c,HC⟩:=qX (gA xs.length);have uj:c<=32:=by rw [<-HC.o];exact tX _ hl
 have hs:=fJ xs.length;rw [HS.o] at hs;rw [show szL n=s by rw [<-HN.o,HS.o]] at C1;have V4:Hid (∀k:Nat,k*s < n↔k < c):=fun k=>by
  have:=HK.o k;rw [HS.o,HC.o,HN.o] at this;exact this
 clear HK;have CG:=hid h;have p5:=h.le;rw [HN.o] at p5 e0;have hn:n<=4096:=by rw [<-HN.o];exact hl
 have hncap:(n:Int)<=(cap:Int):=by omega
 rw [HC.o] at HV;have ru:(0:Int) < (s:Int):=by omega
 have hs8:s<=128:=by omega
 have xg:=hid hp;rw [e0] at CG ⊢;clear h e0 hl hmax p5 hs hp;go_enter Tryz.func163,Tryz.ntmps163
 go_wp2_with (go_at_call 105;refine C1.o.mono ?_;rintro e1 w1 ⟨rfl,c8⟩)
 have ub:=hid c8;clear c8;go_loopw [4,5,6] (fun v4 v5 _ wr=>∃k m:Nat,k<=c/\k*s=m/\v5=.int .i64 (m:Int)/\Hid (iH w.heap.size wr v4 (blocksTo xs k))/\Hid (qW w wr)) (fun _ v5 _ _=>5000 - (intOf v5).toNat)
 case atStart=>exact ⟨0,0,by omega,by omega,rfl,iH.nil _ _,ub.o⟩
 obtain ⟨k,m,hk,vg,rfl,J1,J2⟩:=hrel;have hK:=V4.o k;rw [vg] at hK;by_cases d8:m < n
 .
  have j4:(m:Int) < (n:Int):=by omega
  have HKC:Hid (k < c):=hK.1 d8;obtain ⟨q,hq⟩:∃q:Nat,m+s=q:=⟨_,rfl⟩;have hkq:(k+1)*s=q:=by rw [Nat.add_mul,vg];omega
  have w1:IntKind.i64.wrap ((m:Int)+(s:Int))=(q:Int):=by rw [<-hq];exact aM _ (by omega) (by omega)
  obtain ⟨p,HP⟩:=qX (min s (n - m));have hp:=HP.o;have YM:=CG.o.kept J2.o qN;have V5:=YM.src (by rw [HN.o];omega);subst V5;have RJ:¬cap=m:=by omega
  have hmn:(m:Int)<=(n:Int):=by omega
  have rz:=(YM.mid m p (by rw [HN.o];omega) (by omega)).2;have IL:Hid ((xs.drop m).take p=dY xs k):=by
   show _=_
   rw [dY,HS.o,vg,<-HP.o];have hl:(xs.drop m).length=n - m:=by rw [List.length_drop,HN.o]
   rw [Nat.min_comm,<-hl,<-List.take_take];exact List.take_of_length_le (by rw [List.length_take];omega)
  rw [IL.o] at rz;obtain ⟨v5,w5,i6,J8,r8⟩:=zB (oG w.heap.size wr) rz (by have:=vV xs k;simp;omega) J2.o.size;rw [List.nil_append] at J8;obtain ⟨A5,c5,b5,hy5,_,_⟩:=J8.bytes (Nat.lt_of_lt_of_le xg.o (Nat.le_trans J2.o.size r8.size));have e5:=hy5.form;generalize (dY xs k).length=m5 at e5;subst e5;clear hy5;have B5:qW wr w5:=qB.grown r8 qN (fun _ e=>by cases e);have B5w:qW w w5:=J2.o.trans (B5.mono J2.o.size);have L5:iH w.heap.size w5 u4 (blocksTo xs k):=J1.o.kept B5;have BA:qW w5 (w5.alloc (.cells #[.slice A5 m5 c5] 79)):=qB.alloc qN _;obtain ⟨v6,w6,hr6,EI,TC⟩:=Pr (w5.alloc (.cells #[.slice A5 m5 c5] 79)) w.heap.size u4 (blocksTo xs k) (L5.kept BA) (.slice A5 m5 c5) (dY xs k) (mN J8 BA) ⟨w5.heap.size,0,none⟩ (by rw [bY];exact (Has.fresh w5 79 #[.slice A5 m5 c5]).at_ 0) (by rw [rU];omega) (by have:=B5w.size;simp;omega) 225;rw [<-Bg] at EI;have B6:Hid (qW w w6):=(B5w.alloc B5w.size (.cells #[.slice A5 m5 c5] 79)).grown TC (by have:=B5w.size;simp;omega) (fun g hg=>by
   obtain ⟨vs,ho,_⟩:=L5;exact (World.ownsRow.lt ho g hg).1)
  have R5:=hid i6;have R6:=hid hr6;have L6:=hid EI;clear J8 r8 i6 B5 B5w L5 BA hr6 EI TC rz IL YM hK;rcases Nat.lt_or_ge n q with NT | NT
  .
   have sf:p=n - m:=by omega
   have h5:(n:Int) < (q:Int):=by omega
   have h6:¬(q:Int)<=(n:Int):=by omega
   have h8:min (q:Int) (n:Int)=(n:Int):=by omega
   rw [sf] at R5;clear hp sf HP;go_wp2_with (first
    | (at_builtin;refine wpList_append_run rfl (.tmp 21) (.tmp 30) 79 79 rfl ⟨_,_,R5.o,?_⟩)
    | (at_builtin;refine wpList_append_run rfl (.tmp 32) (.tmp 34) 225 225 rfl ⟨_,_,R6.o,?_⟩))
   go_roundw
   case rel=>exact ⟨k+1,q,HKC.o,hkq,by go_num,L6.o,B6.o⟩
   case measure=>simp [intOf];omega
  have sf:p=q - m:=by omega
  have h5:(q:Int)<=(n:Int):=by omega
  have h6:(m:Int)<=(q:Int):=by omega
  have h7:(q:Int)<=(cap:Int):=by omega
  have h8:min (q:Int) (n:Int)=(q:Int):=by omega
  rw [sf] at R5;clear hp sf HP;go_wp2_with (first
   | (at_builtin;refine wpList_append_run rfl (.tmp 21) (.tmp 30) 79 79 rfl ⟨_,_,R5.o,?_⟩)
   | (at_builtin;refine wpList_append_run rfl (.tmp 32) (.tmp 34) 225 225 rfl ⟨_,_,R6.o,?_⟩))
  go_roundw
  case rel=>exact ⟨k+1,q,HKC.o,hkq,by go_num,L6.o,B6.o⟩
  case measure=>simp [intOf];omega
 have j4:¬(m:Int) < (n:Int):=by omega
 have HE:Hid (k=c):=by show _=_;have:¬k < c:=fun e=>d8 (hK.2 e);omega
 clear hK;go_wp2;go_ret;exact ⟨_,rfl,by rw [HV.o,<-HE.o];exact J1.o,J2.o⟩
def Kd (v:Value) (xs:By) (A:Option Addr) (cap bb off:Nat) (w:World) (h:Bytes w v xs A cap bb off) (hl:4096 < xs.length) :
 qC 104 #[v] w fun e w'=>e=.returned (.tuple #[.slice none 0 0,.int .i64 3])/\w=w':=by
 have e0:=h.form;rw [e0];obtain ⟨n,HN⟩:=qX (xs.length);rw [HN.o] at hl ⊢;have h1:(4096:Int) < (n:Int):=by omega
 clear h e0 hl;go_enter Tryz.func104,Tryz.ntmps104
 go_wp2;go_ret2;exact ⟨rfl,rfl⟩
def Rn (v:Value) (xs:By) (A:Option Addr) (cap bb off:Nat) (w:World) (h:Bytes w v xs A cap bb off) (hp:0 < w.heap.size) (hl:xs.length<=4096) :
 qC 104 #[v] w fun e w'=>∃v',e=.returned (.tuple #[v',.int .i64 0])/\Dgs w.heap.size w' v' (hashes xs)/\qW w w':=by
 have CB:=hid (Fs v xs A cap bb off w h hp (by omega));have e0:=h.form;obtain ⟨n,HN⟩:=qX (xs.length);obtain ⟨c,HC⟩:=qX (gA xs.length);have uj:=tX xs.length hl;rw [HC.o] at uj;rw [wV xs hl,HC.o] at CB;have GC:Hid ((blocksTo xs c).length=c):=rU xs c;have vr:Hid (∀k,k < c->(blocksTo xs c).getD k []=dY xs k):=fun k hk=>Ha xs c k hk
 have HV:Hid (hashes xs=cG xs c):=by show _=_;rw [hashes,HC.o]
 have xg:=hid hp;have h1:¬(4096:Int) < (n:Int):=by rw [<-HN.o];omega
 obtain ⟨bs,BY⟩:=qX (blocksTo xs c);rw [BY.o] at CB GC vr;rw [HN.o] at e0;rw [e0] at CB ⊢;clear h e0 hl hp;go_enter Tryz.func104,Tryz.ntmps104
 go_wp2_with (go_at_call 163;refine CB.o.mono ?_;rintro e1 w1 ⟨v1,rfl,pp,c8⟩
              obtain ⟨A1,c1,xu⟩:=pp.form;rw [GC.o] at xu;subst xu;have L1:=hid pp;have B1:=hid c8;clear pp c8)
 go_loopw [5,6,7] (fun v5 v6 _ wr=>∃k:Nat,k<=c/\v6=.int .i64 (k:Int)/\Hid (Dgs w.heap.size wr v5 (cG xs k))/\Hid (qW w wr)/\Hid (iH w.heap.size wr (.slice A1 c c1) bs)) (fun _ v6 _ _=>c - (intOf v6).toNat)
 case atStart=>exact ⟨0,by omega,rfl,Dgs.nil _ _,B1.o,L1.o⟩
 obtain ⟨k,hk,rfl,J1,J2,J3⟩:=hrel;by_cases d8:k < c
 .
  have j4:(k:Int) < (c:Int):=by omega
  have w1:IntKind.i64.wrap ((k:Int)+1)=(k:Int)+1:=aM _ (by omega) (by omega);obtain ⟨g,c9,u,hv9,d9,YN⟩:=J3.o.at_ k (by rw [GC.o];exact d8);rw [GC.o] at hv9;injection hv9 with hA1 FO DN;subst hA1;subst DN;clear FO;rw [vr.o k d8] at YN;obtain ⟨A2,c2,b2,mu,_,_⟩:=YN.bytes (Nat.lt_of_lt_of_le xg.o J2.o.size);have hyf:=mu.form;obtain ⟨m,HM⟩:=qX ((dY xs k).length);rw [HM.o] at hyf;subst hyf;have Y2:=hid mu;obtain ⟨d,HD⟩:=qX (dg (dY xs k));have nh:Hid (d.length=32):=by show _=_;rw [<-HD.o];exact Ri _
  have M6:Hid (cG xs (k+1)=cG xs k++[d]):=by show _=_;rw [uH,HD.o]
  have G5:=hid (vV xs k);have rq:=hid (ft d nh.o);have HZ2:=hid (ef d nh.o);clear YN mu;go_wp2_with (first
   | (go_at_call 164;refine (Xw _ _ _ _ _ _ _ Y2.o (Nat.le_trans G5.o (by omega))).mono ?_;rintro e3 w3 ⟨rfl,i7⟩
      rw [HD.o];have B3:Hid (qW w w3):=J2.o.trans (i7.mono J2.o.size);have D3:Hid (Dgs w.heap.size w3 u5 (cG xs k)):=J1.o.kept i7 qN;have L3:Hid (iH w.heap.size w3 (.slice (some ⟨g,0,none⟩) c c1) bs):=J3.o.kept i7;clear i7)
   | (refine wpList_store_row rfl 81 (.tmp 7) (.tmp 23) rfl w3.heap.size (hvec d) rfl rfl 81 (hvec (List.replicate 32 0)) (Has.fresh w3 81 _) rq.o HZ2.o (Xd _) ?_
      generalize hG:World.setRow _ _ _=W1;obtain ⟨W0,vo,X1,X2⟩:=jp w3 d nh.o;obtain rfl:W0=W1:=vo.symm.trans hG;have BW:Hid (qW w W0):=B3.o.trans (X2.o.mono B3.o.size);have DW:Hid (Dgs w.heap.size W0 u5 (cG xs k)):=D3.o.kept X2.o qN;have LW:Hid (iH w.heap.size W0 (.slice (some ⟨g,0,none⟩) c c1) bs):=L3.o.kept X2.o;have AP:=hid (zF (W0.alloc (.cells (hvec d) 81)) w.heap.size u5 (cG xs k) (DW.o.kept (qB.alloc qN _) qN) d nh.o ⟨W0.heap.size,0,none⟩ (fun j hj=>by rw [bY,Nat.zero_add,(Has.fresh W0 81 (hvec d)).at_ j,hvec,List.getElem?_toArray];exact yR (by rw [nh.o];exact hj)) (by rw [pR];omega) (by have:=BW.o.size;simp;omega) 56);obtain ⟨v5,w5,i6,NZ,r8⟩:=AP.o;have R5:=hid i6;have D5:Hid (Dgs w.heap.size w5 v5 (cG xs (k+1))):=by show Dgs _ _ _ _;rw [M6.o];exact NZ
      have B5:Hid (qW w w5):=(BW.o.alloc BW.o.size (.cells (hvec d) 81)).grown r8 (by have:=BW.o.size;simp;omega) (fun g hg=>(DW.o.own.lt g hg).1);have L5:Hid (iH w.heap.size w5 (.slice (some ⟨g,0,none⟩) c c1) bs):=(LW.o.kept ((Below.refl _ W0).alloc qN (.cells (hvec d) 81))).grown (DW.o.kept ((Below.refl _ W0).alloc qN (.cells (hvec d) 81)) qN).own (by decide) (by decide) r8;clear hG vo AP i6 NZ r8)
   | (refine wpList_load_row rfl 81 (.tmp 7) rfl w3.heap.size rfl 81 (hvec d) (0,0) _ X1.o Tryz.underlying81 rfl rq.o ?_)
   | (refine oE (by rfl) (.tmp 25) rfl d rfl nh.o ?_)
   | (refine wpList_append_run rfl (.tmp 24) (.tmp 26) 56 56 rfl ⟨_,_,R5.o,?_⟩))
  go_roundw
  case rel=>exact ⟨k+1,by omega,by go_num,D5.o,B5.o,L5.o⟩
  case measure=>simp [intOf];omega
 obtain rfl:k=c:=by omega
 go_wp2;go_ret2;exact ⟨_,rfl,by rw [HV.o];exact J1.o,J2.o⟩
open Go.RowKit Go.Maps
def tD (w:World) (p:By) (n:Nd) (e:Ending) (w':World):Prop :=
 if n.kind=1/\4096 < n.data.length then e=.returned (.tuple #[.agg vX,.int .i64 3])/\qW w w'
 else ∃bv,e=.returned (.tuple #[.agg (recN p n bv),.int .i64 0])/\Dgs w.heap.size w' bv (hasN n)/\qW w w'
def Gi (p:By) (n:Nd) (w:World) (hp:0 < w.heap.size) (hd:n.data.length<=100000000) :
 qC 57 #[kS p,nodeV n] w fun e w'=>tD w p n e w':=by
 obtain ⟨k,d,x,t⟩:=n;show qC 57 #[kS p,.agg #[.int .i64 k,kS d,kS x,.int .i64 t]] w _
 dsimp only at hd;obtain ⟨w1,r6⟩:=qY (w.alloc (.cells #[.int .i64 k,kS d,kS x,.int .i64 t] 71));have b1:qW w w1:=r6▸qB.alloc qN _;have s1:w1.heap.size=w.heap.size+1:=by rw [<-r6];simp
 have X1:Has w1 w.heap.size 71 #[.int .i64 k,kS d,kS x,.int .i64 t]:=by rw [<-r6];exact Has.fresh _ _ _
 obtain ⟨w2,x9⟩:=qY (w1.alloc (.cells qZ 58));have b2:qW w w2:=x9▸b1.alloc b1.size _;have s2:w2.heap.size=w.heap.size+2:=by rw [<-x9];simp [s1]
 have Y2:Has w2 (w.heap.size+1) 58 qZ:=by rw [<-x9,<-s1];exact Has.fresh _ _ _
 have X2:Has w2 w.heap.size 71 #[.int .i64 k,kS d,kS x,.int .i64 t]:=by rw [<-x9];exact X1.more _
 obtain ⟨w3,rh⟩:=qY (w2.alloc (.cells qZ 58));have b3:qW w w3:=rh▸b2.alloc b2.size _;have s3:w3.heap.size=w.heap.size+3:=by rw [<-rh];simp [s2]
 have Z3:Hid (Has w3 (w.heap.size+2) 58 qZ):=by rw [<-rh,<-s2];exact Has.fresh _ _ _
 have Y3:Has w3 (w.heap.size+1) 58 qZ:=by rw [<-rh];exact Y2.more _
 have X3:Has w3 w.heap.size 71 #[.int .i64 k,kS d,kS x,.int .i64 t]:=by rw [<-rh];exact X2.more _
 obtain ⟨w4,N7⟩:=qY (w3.setRow (w.heap.size+2) (recC p k 0 t 0 (.slice none 0 0) x));have b4:Hid (qW w w4):=by rw [<-N7];exact b3.rowK (by omega) _
 have Z4:Hid (Has w4 (w.heap.size+2) 58 (recC p k 0 t 0 (.slice none 0 0) x)):=by rw [<-N7];exact Z3.o.row
 have Y4:Hid (Has w4 (w.heap.size+1) 58 qZ):=by rw [<-N7];exact Y3.rowOther (by omega)
 have X4:Hid (Has w4 w.heap.size 71 #[.int .i64 k,kS d,kS x,.int .i64 t]):=by rw [<-N7];exact X3.rowOther (by omega)
 have s4:Hid (w4.heap.size=w.heap.size+3):=by show _=_;rw [<-N7];simpa using s3
 have n0:=X2.at_ 0;have n2:=X2.at_ 2;have n3:=X2.at_ 3;have n30:=X3.at_ 0;have n32:=X3.at_ 2;have n33:=X3.at_ 3;have m0:=X4.o.at_ 0;have m1:=X4.o.at_ 1;clear b1 b2 b3 X1 X2 X3 Y2 Y3 s3;by_cases h1:k=1
 .
  subst h1;have q:((1:Int) == 1)=true:=rfl;have BZ:=uU (ba d) w4;obtain ⟨cp,uo⟩:=qY (grownCap w4 (ba d).size 0 5);obtain ⟨w8,ul⟩:=qY (Lib.bytesWorld w4 5 (ba d));have CG:=xX (ba d) w4;have QW:qW w4 w8:=ul▸wW (ba d) w4;rw [uo,ul] at CG BZ;have DU:Hid (Bytes w8 (.slice (some ⟨w4.heap.size,0,none⟩) (ba d).size cp) d (some ⟨w4.heap.size,0,none⟩) cp w4.heap.size 0):=CG;have b8:Hid (qW w w8):=b4.o.trans (QW.mono b4.o.size);have Z8:Hid (Has w8 (w.heap.size+2) 58 (recC p 1 0 t 0 (.slice none 0 0) x)):=Z4.o.kept QW Z4.o.inside;have Y8:Hid (Has w8 (w.heap.size+1) 58 qZ):=Y4.o.kept QW Y4.o.inside;have X8:Hid (Has w8 w.heap.size 71 #[.int .i64 1,kS d,kS x,.int .i64 t]):=X4.o.kept QW X4.o.inside;have HP8:Hid (0 < w8.heap.size):=Nat.lt_of_lt_of_le hp b8.o.size;have HS4:=s4;clear ul uo CG QW hp s4;by_cases hl:4096 < d.length
  .
   suffices key:qC 57 #[kS p,.agg #[.int .i64 1,kS d,kS x,.int .i64 t]] w (fun e w'=>e=.returned (.tuple #[.agg vX,.int .i64 3])/\qW w w') from key.mono fun e w' h=>by unfold tD;rw [if_pos ⟨rfl,hl⟩];exact h
   have CL:=hid (Kd _ d _ cp w4.heap.size 0 w8 DU.o hl);obtain ⟨w9,YO⟩:=qY (w8.setRow (w.heap.size+1) vX);have b9:Hid (qW w w9):=by rw [<-YO];exact b8.o.rowK (by omega) _
   have Y9:Hid (Has w9 (w.heap.size+1) 58 vX):=by rw [<-YO];exact Y8.o.row
   clear hl hd;go_enter Tryz.func57,Tryz.ntmps57
   go_wp2_with (first
    | (refine wpList_store_row rfl 58 (.tmp 6) (.tmp 16) rfl (w.heap.size+2) (recC p 1 0 t 0 (.slice none 0 0) x) rfl rfl 58 _ Z3.o (by kernel_rfl) rfl (by simp [recC,Value.oneCell']) ?_;rw [N7]))
   refine CL.o.mono ?_;rintro e9 wx ⟨rfl,rfl⟩;go_wp2_with (first
    | (refine wpList_store_row rfl 58 (.tmp 4) (.tmp 29) rfl (w.heap.size+1) vX rfl rfl 58 _ Y8.o (by kernel_rfl) rfl Uj ?_;rw [YO]))
   refine bodyPost_ret (oO rfl _ _ (w.heap.size+1) vX rfl Y9.o rfl) rfl ?_;exact ⟨rfl,b9.o⟩
  suffices key:qC 57 #[kS p,.agg #[.int .i64 1,kS d,kS x,.int .i64 t]] w (fun e w'=>∃bv,e=.returned (.tuple #[.agg (recN p ⟨1,d,x,t⟩ bv),.int .i64 0])/\Dgs w.heap.size w' bv (hasN ⟨1,d,x,t⟩)/\qW w w') from key.mono fun e w' h=>by unfold tD;rw [if_neg (fun h=>hl h.2)];exact h
  have p5:d.length<=4096:=by omega
  have CL:=hid (Rn _ d _ cp w4.heap.size 0 w8 DU.o HP8.o p5);have p9:(((ba d).size:Nat):Int) < 9223372036854775808:=by rw [aD];omega
  obtain ⟨bs,BY⟩:∃bs:Nat,Hid (sizeI (((ba d).size:Nat):Int)=bs):=⟨_,rfl⟩;have CS:Hid (∀W,qC 105 #[.int .i64 (((ba d).size:Nat):Int)] W fun e w'=>e=.returned (.int .i64 (bs:Int))/\qW W w'):=fun W=>by
   have:=tI (((ba d).size:Nat):Int) W;rw [BY.o] at this;exact this
  have UV:Hid (∀v,recN p ⟨1,d,x,t⟩ v=recC p 1 (((ba d).size:Nat):Int) t (bs:Int) v x):=by
   intro v;show recC p 1 (qF _) t (xZ _) v x=_
   have e1:qF ⟨1,d,x,t⟩=(((ba d).size:Nat):Int):=by unfold qF;rw [if_pos rfl,aD]
   have e2:xZ ⟨1,d,x,t⟩=(bs:Int):=by unfold xZ;rw [if_pos rfl,<-BY.o,aD]
   rw [e1,e2]
  have UW:Hid (hasN ⟨1,d,x,t⟩=hashes d):=by show _=_;unfold hasN;rw [if_pos rfl]
  clear hl hd p5;go_enter Tryz.func57,Tryz.ntmps57
  go_wp2_with (first
   | (refine wpList_store_row rfl 58 (.tmp 6) (.tmp 16) rfl (w.heap.size+2) (recC p 1 0 t 0 (.slice none 0 0) x) rfl rfl 58 _ Z3.o (by kernel_rfl) rfl (by simp [recC,Value.oneCell']) ?_;rw [N7]))
  refine CL.o.mono ?_;rintro e9 w9 ⟨bv,rfl,hD,x7⟩;obtain ⟨A9,c9,rfl⟩:=hD.form;obtain ⟨hn,FV⟩:=qX ((hashes d).length);rw [FV.o] at hD ⊢;have b9:Hid (qW w w9):=b8.o.trans (x7.mono b8.o.size);have Z9:Hid (Has w9 (w.heap.size+2) 58 (recC p 1 0 t 0 (.slice none 0 0) x)):=Z8.o.kept x7 Z8.o.inside;have Y9:Hid (Has w9 (w.heap.size+1) 58 qZ):=Y8.o.kept x7 Y8.o.inside;have X9:Hid (Has w9 w.heap.size 71 #[.int .i64 1,kS d,kS x,.int .i64 t]):=X8.o.kept x7 X8.o.inside;have D9:Hid (Dgs w8.heap.size w9 (.slice A9 hn c9) (hashes d)):=hD;have ot:Hid (∀b,(Value.slice A9 hn c9).ownBlock=some b->w.heap.size+2 < b):=fun b hb=>by
   have h1:=(D9.o.own.lt b hb).1;have h2:=Z8.o.inside;omega
  clear hD x7;have c9c:w9.cell? ⟨w.heap.size+2,23,none⟩=some (.slice none 0 0):=Z9.o.at_ 23;have c9f:=Z9.o.free 23;obtain ⟨r5,N8⟩:=qY (w9.setCell ⟨w.heap.size+2,23,none⟩ (.slice A9 hn c9));have G6:Hid (qW w r5):=by rw [<-N8];exact b9.o.setCell (p:=⟨w.heap.size+2,23,none⟩) (by show _<=w.heap.size+2;omega) _
  have LS:Hid (Has r5 (w.heap.size+2) 58 (recC p 1 0 t 0 (.slice A9 hn c9) x)):=by rw [<-N8];exact Z9.o.put 23 _
  have RP:Hid (Has r5 (w.heap.size+1) 58 qZ):=by rw [<-N8];exact Y9.o.other (by show _≠w.heap.size+2;omega) _
  have X10:Hid (Has r5 w.heap.size 71 #[.int .i64 1,kS d,kS x,.int .i64 t]):=by rw [<-N8];exact X9.o.other (by show _≠w.heap.size+2;omega) _
  have OC:Hid (Dgs w8.heap.size r5 (.slice A9 hn c9) (hashes d)):=⟨row_of D9.o.own fun b hb=>by rw [<-N8];exact Below.heap_setCell w9 ⟨w.heap.size+2,23,none⟩ _ b (by have:=ot.o b hb;show b≠w.heap.size+2;omega),D9.o.len⟩;have p10:r5.cell? ⟨w.heap.size,1,none⟩=some (kS d):=X10.o.at_ 1;have c10:r5.cell? ⟨w.heap.size+2,3,none⟩=some (.int .i64 0):=LS.o.at_ 3;have f10:=LS.o.free 3;obtain ⟨pw,nj⟩:=qY (r5.setCell ⟨w.heap.size+2,3,none⟩ (.int .i64 (((ba d).size:Nat):Int)));have RQ:Hid (qW w pw):=by rw [<-nj];exact G6.o.setCell (p:=⟨w.heap.size+2,3,none⟩) (by show _<=w.heap.size+2;omega) _
  have YP:Hid (Has pw (w.heap.size+2) 58 (recC p 1 (((ba d).size:Nat):Int) t 0 (.slice A9 hn c9) x)):=by rw [<-nj];exact LS.o.put 3 _
  have OF:Hid (Has pw (w.heap.size+1) 58 qZ):=by rw [<-nj];exact RP.o.other (by show _≠w.heap.size+2;omega) _
  have RS:Hid (Dgs w8.heap.size pw (.slice A9 hn c9) (hashes d)):=⟨row_of OC.o.own fun b hb=>by rw [<-nj];exact Below.heap_setCell r5 ⟨w.heap.size+2,3,none⟩ _ b (by have:=ot.o b hb;show b≠w.heap.size+2;omega),OC.o.len⟩;have c11:pw.cell? ⟨w.heap.size+2,3,none⟩=some (.int .i64 (((ba d).size:Nat):Int)):=YP.o.at_ 3;go_wp2_with fail
  try rw [N8]
  try rw [nj]
  refine (CS.o _).mono ?_;rintro e12 BN ⟨rfl,th⟩;have I7:Hid (qW w BN):=RQ.o.trans (th.mono RQ.o.size);have YQ:Hid (Has BN (w.heap.size+2) 58 (recC p 1 (((ba d).size:Nat):Int) t 0 (.slice A9 hn c9) x)):=YP.o.kept th YP.o.inside;have Y12:Hid (Has BN (w.heap.size+1) 58 qZ):=OF.o.kept th OF.o.inside;have TZ:Hid (Dgs w8.heap.size BN (.slice A9 hn c9) (hashes d)):=RS.o.kq (Kq.of_below th);have c12:BN.cell? ⟨w.heap.size+2,22,none⟩=some (.int .i64 0):=YQ.o.at_ 22;have f12:=YQ.o.free 22;obtain ⟨MZ,FE⟩:=qY (BN.setCell ⟨w.heap.size+2,22,none⟩ (.int .i64 (bs:Int)));have b13:Hid (qW w MZ):=by rw [<-FE];exact I7.o.setCell (p:=⟨w.heap.size+2,22,none⟩) (by show _<=w.heap.size+2;omega) _
  have Z13:Hid (Has MZ (w.heap.size+2) 58 (recC p 1 (((ba d).size:Nat):Int) t (bs:Int) (.slice A9 hn c9) x)):=by rw [<-FE];exact YQ.o.put 22 _
  have Y13:Hid (Has MZ (w.heap.size+1) 58 qZ):=by rw [<-FE];exact Y12.o.other (by show _≠w.heap.size+2;omega) _
  have D13:Hid (Dgs w8.heap.size MZ (.slice A9 hn c9) (hashes d)):=⟨row_of TZ.o.own fun b hb=>by rw [<-FE];exact Below.heap_setCell BN ⟨w.heap.size+2,22,none⟩ _ b (by have:=ot.o b hb;show b≠w.heap.size+2;omega),TZ.o.len⟩;obtain ⟨RK,FF⟩:=qY (MZ.setRow (w.heap.size+1) (recC p 1 (((ba d).size:Nat):Int) t (bs:Int) (.slice A9 hn c9) x));have b14:Hid (qW w RK):=by rw [<-FF];exact b13.o.rowK (by omega) _
  have Y14:Hid (Has RK (w.heap.size+1) 58 (recC p 1 (((ba d).size:Nat):Int) t (bs:Int) (.slice A9 hn c9) x)):=by rw [<-FF];exact Y13.o.row
  have D14:Hid (Dgs w.heap.size RK (.slice A9 hn c9) (hashes d)):=Dgs.mono ⟨row_of D13.o.own fun b hb=>by rw [<-FF];exact setRow_other MZ (w.heap.size+1) b _ (by have:=ot.o b hb;omega),D13.o.len⟩ b8.o.size;clear th;go_wp2_with (first
   | (refine aT rfl 58 (.tmp 6) rfl (w.heap.size+2) 0 rfl (recC p 1 (((ba d).size:Nat):Int) t (bs:Int) (.slice A9 hn c9) x) (gI Z13.o rfl) ?_)
   | (refine wpList_store_row rfl 58 (.tmp 4) (.tmp 40) rfl (w.heap.size+1) (recC p 1 (((ba d).size:Nat):Int) t (bs:Int) (.slice A9 hn c9) x) rfl rfl 58 _ Y13.o (by kernel_rfl) rfl (by simp [recC,Value.oneCell']) ?_;rw [FF]))
  refine bodyPost_ret (oO rfl _ _ (w.heap.size+1) (recC p 1 (((ba d).size:Nat):Int) t (bs:Int) (.slice A9 hn c9) x) rfl Y14.o rfl) rfl ?_;exact ⟨.slice A9 hn c9,(by rw [UV.o];rfl),(by rw [UW.o];exact D14.o),b14.o⟩
 have q:(k == 1)=false:=by simpa using h1
 suffices key:qC 57 #[kS p,.agg #[.int .i64 k,kS d,kS x,.int .i64 t]] w (fun e w'=>∃bv,e=.returned (.tuple #[.agg (recN p ⟨k,d,x,t⟩ bv),.int .i64 0])/\Dgs w.heap.size w' bv (hasN ⟨k,d,x,t⟩)/\qW w w') from key.mono fun e w' h=>by unfold tD;rw [if_neg (fun h=>h1 h.1)];exact h
 have HR:Hid (recN p ⟨k,d,x,t⟩ (.slice none 0 0)=recC p k 0 t 0 (.slice none 0 0) x):=by show _=_;unfold recN qF xZ;simp only [if_neg h1]
 have HH:Hid (hasN ⟨k,d,x,t⟩=[]):=by show _=_;unfold hasN;rw [if_neg h1]
 obtain ⟨w5,si⟩:=qY (w4.setRow (w.heap.size+1) (recC p k 0 t 0 (.slice none 0 0) x));have b5:Hid (qW w w5):=by rw [<-si];exact b4.o.rowK (by omega) _
 have Y5:Hid (Has w5 (w.heap.size+1) 58 (recC p k 0 t 0 (.slice none 0 0) x)):=by rw [<-si];exact Y4.o.row
 clear h1 hd hp;go_enter Tryz.func57,Tryz.ntmps57
 go_wp2_with (first
  | (refine wpList_store_row rfl 58 (.tmp 6) (.tmp 16) rfl (w.heap.size+2) (recC p k 0 t 0 (.slice none 0 0) x) rfl rfl 58 _ Z3.o (by kernel_rfl) rfl (by simp [recC,Value.oneCell']) ?_;rw [N7])
  | (refine aT rfl 58 (.tmp 6) rfl (w.heap.size+2) 0 rfl (recC p k 0 t 0 (.slice none 0 0) x) (gI Z4.o rfl) ?_)
  | (refine wpList_store_row rfl 58 (.tmp 4) (.tmp 40) rfl (w.heap.size+1) (recC p k 0 t 0 (.slice none 0 0) x) rfl rfl 58 _ Y4.o (by kernel_rfl) rfl (by simp [recC,Value.oneCell']) ?_;rw [si]))
 refine bodyPost_ret (oO rfl _ _ (w.heap.size+1) (recC p k 0 t 0 (.slice none 0 0) x) rfl Y5.o rfl) rfl ?_;exact ⟨.slice none 0 0,(by rw [HR.o];rfl),(by rw [HH.o];exact Dgs.nil _ _),b5.o⟩
end Go.Proofs.YtahkcemdbfjilaaGreatDoor
