/- Texts. Conditions: as said. -/
import Derived.Test.YtahkcemdbfjilaaGreatDoorFj00
import Derived.Test.YtahkcemdbfjilaaGreatDoorFj18
import Derived.IntWalk
set_option linter.all false
set_option maxRecDepth 100000
set_option maxHeartbeats 32000000
namespace Go.Proofs.YtahkcemdbfjilaaGreatDoor
open Go.RowKit Go.Maps
def Gs {w:World} {u:Nat} {L:Tr} {room:Nat} (h:TreeR w u L room) (hW:WFT room L) (hT:TG L) (hr:room<=1048576) (p q d:By) (tm m:Int) (pk:Bool) (hm:0<=m) (hd:d.length<=100000000) (wt:mayB p=true) :
 qC 83 #[.pointer (some ⟨u,0,none⟩),.agg (lZ 3 p q d tm m pk)] w fun e w'=>dQ w room (cR room L (oI (.mkdir p) m pk)) e w':=by
 rw [show oI (.mkdir p) m pk=.mkdir p by unfold oI;cases pk<;>rfl];have hL:L.length<=16384:=by have h1:=jZ (L:=L);have:=hW.used;omega
 have hU:=hW.used;obtain ⟨D,HD⟩:=qX (oL d m pk);have GM:D.length<=100000000:=by rw [<-HD.o];have:=vG d m pk;omega
 obtain ⟨kk,V4⟩:=qX (kindP L p);obtain ⟨hh,HH⟩:=qX (cI L p);obtain ⟨r,oq⟩:=qX (cR room L (.mkdir p));rw [oq.o];have yu:Hid (r=if hh=0 then (if kk≠0 then (6,L) else if usedL (bA p ⟨2,[],[],0⟩ L)<=room then (0,bA p ⟨2,[],[],0⟩ L) else (7,L)) else (hh,L)):=by
  show _=_
  have h1:=uI hW (dE wt);rw [V4.o] at h1;rw [<-oq.o];simp only [cR,eR,HH.o,tB hW.srt,h1]
 have ur:qW w (w.alloc (.cells (lZ 3 p q d tm m pk) 99)):=qB.alloc qN _;obtain ⟨b,HB⟩:=qX (w.heap.size);have XB:Hid (Has (w.alloc (.cells (lZ 3 p q d tm m pk) 99)) b 99 #[.int .i64 3,kS p,kS q,kS d,.int .i64 tm,.int .i64 m,.bool pk]):=by rw [<-HB.o];exact Has.fresh _ _ _
 have B0:=hid ur;obtain ⟨w1,qe⟩:=qX (w.alloc (.cells (lZ 3 p q d tm m pk) 99));rw [qe.o] at B0 XB;have r6:=qe.o;have zy:Hid (w1.heap.size=b+1):=by show _=_;rw [<-qe.o,<-HB.o];simp
 have T1:=hid (h.on B0.o);have CK:Hid (qC 112 #[.pointer (some ⟨u,0,none⟩),kS p] w1 fun e w'=>e=.returned (.int .i64 kk)/\w1=w'):=by rw [<-V4.o];exact lW T1.o p (by omega)
 have qf:=hid hW;have HTG:=hid hT;have HR:=hid hr;have ro:=hid hL;have PE:=hid hU;obtain ⟨cc,so⟩:=qX ((pk&&decide (m < (d.length:Int))));have qg:Hid (cc=true->D=d.take m.toNat/\m<=(d.length:Int)):=fun e=>by
  rw [<-HD.o,vQ (by rw [so.o];exact e)];refine ⟨rfl,?_⟩;have h1:=so.o;rw [e,Bool.and_eq_true,decide_eq_true_eq] at h1;omega
 have T8:Hid (cc=false->D=d):=fun e=>by rw [<-HD.o,yM (by rw [so.o];exact e)]
 have x0:=XB.o.at_ 0;have x1:=XB.o.at_ 1;have x2:=XB.o.at_ 2;have x3:=XB.o.at_ 3;have x4:=XB.o.at_ 4;have x5:=XB.o.at_ 5;have x6:=XB.o.at_ 6;have zd:(ba d).size=d.length:=aD d;have nh:=hid GM;have CH:Hid (qC 132 #[.pointer (some ⟨u,0,none⟩),kS p] w1 fun e w'=>e=.returned (.int .i64 hh)/\qW w1 w'):=by rw [<-HH.o];exact tG T1.o qf.o p wt (by have:=(aU wt).1;omega) (by omega)
 have G5:Hid (p.length<=4000):=by have:=(aU wt).1;show _<=_;omega
 clear h hW hT hr ur hL hU GM hd;go_enter Tryz.func83,Tryz.ntmps83
 have rt:=HB.o;go_wp2_with fail
 refine CK.o.mono ?_;rintro e1 LU ⟨rfl,rfl⟩;clear r6 rt;go_upto_region 3 with fail
 go_cut [27] (fun t w'=>t=.bool cc/\w1=w')
 case first =>
  cases pk with
  | false =>
   have hc:cc=false:=by rw [<-so.o];rfl
   clear qg T8;go_wp2_with fail
   go_meet;exact ⟨by rw [hc],rfl⟩
  | true =>
   have hc:decide (m < (d.length:Int))=cc:=by rw [<-so.o];rfl
   clear qg T8;go_wp2_with fail
   go_meet;exact ⟨rfl,rfl⟩
 obtain ⟨rfl,rfl⟩:=hcut;go_upto_if 27 with fail
 go_cut [7] (fun t w'=>t=kS D/\w1=w')
 case first =>
  cases cc with
  | false =>
   have hc:=T8.o rfl;clear qg T8;go_wp2_with fail
   go_meet;exact ⟨by rw [hc],rfl⟩
  | true =>
   obtain ⟨hc,zo⟩:=qg.o rfl;have e1:(ba d).extract 0 m.toNat=ba D:=by rw [hc];exact yU d _
   clear qg T8 hc;go_wp2_with fail
   go_meet;exact ⟨rfl,rfl⟩
 obtain ⟨rfl,rfl⟩:=hcut;clear qg T8;go_wp2_with fail
 refine CH.o.mono ?_;rintro e2 w2 ⟨rfl,a9⟩;have N9:=hid (XB.o.kept a9 XB.o.inside);have B2:Hid (qW w w2):=B0.o.trans (a9.mono B0.o.size);have T2:=hid (T1.o.on a9);clear x0 x1 x2 x3 x4 x5 x6;clear a9;have x0:=N9.o.at_ 0;have x1:=N9.o.at_ 1;have x2:=N9.o.at_ 2;have x3:=N9.o.at_ 3;have x4:=N9.o.at_ 4;have x5:=N9.o.at_ 5;have x6:=N9.o.at_ 6;by_cases og:hh=0
 .
  have q0:(hh != 0)=false:=by simp [og]
  have DD:=hid (yu.o.trans (if_pos og));clear og;by_cases k0:kk=0
  .
   have q2:(kk != 0)=false:=by simp [k0]
   have J0:=hid (DD.o.trans (if_neg (fun k=>k k0)));clear k0;go_upto_region 26 with fail
   obtain ⟨w3,qw⟩:=qX (w2.alloc (.cells #[.int .i64 1,.string (ba D),.string ⟨#[]⟩,.int .i64 tm] 71));obtain ⟨b2,i9⟩:=qX (w2.heap.size);have XN:Hid (Has w3 b2 71 (dU 1 D [] tm)):=by rw [<-qw.o,<-i9.o];exact Has.fresh _ _ _
   have i7:qW w2 w3:=by rw [<-qw.o];exact qB.alloc qN _
   have Q0:=hid (N9.o.kept i7 N9.o.inside);have B3:Hid (qW w w3):=B2.o.trans (i7.mono B2.o.size);have T3:=hid (T2.o.on i7);rw [qw.o,i9.o];have B8:=hid i7;clear i7;clear x0 x1 x2 x3 x4 x5 x6;have x0:=Q0.o.at_ 0;have x1:=Q0.o.at_ 1;have x2:=Q0.o.at_ 2;have x3:=Q0.o.at_ 3;have x4:=Q0.o.at_ 4;have x5:=Q0.o.at_ 5;have x6:=Q0.o.at_ 6;have TH:=hid (XN.o.there 0 4 (by show 0+4<=4;omega));obtain ⟨w3b,vf⟩:=qX (w3.setCells b2 0 [.int .i64 2,kS [],kS [],.int .i64 0]);have p5:w2.heap.size<=b2:=by rw [i9.o];exact Nat.le_refl _
   have WP:Hid (Has w3b b2 71 (dU 2 [] [] 0)):=by rw [<-vf.o];exact (((XN.o.put 0 _).put 1 _).put 2 _).put 3 _
   have qx:qW w2 w3b:=by rw [<-vf.o];exact ((((B8.o.setCell (p:=⟨b2,0,none⟩) p5 _).setCell (p:=⟨b2,1,none⟩) p5 _).setCell (p:=⟨b2,2,none⟩) p5 _).setCell (p:=⟨b2,3,none⟩) p5 _)
   have Q6:=hid (N9.o.kept qx N9.o.inside);have B4b:Hid (qW w w3b):=B2.o.trans (qx.mono B2.o.size);have T4b:=hid (T2.o.on qx);have AZ:=J0;clear qx;have y0:=Q6.o.at_ 0;have y1:=Q6.o.at_ 1;have y2:=Q6.o.at_ 2;have y3:=Q6.o.at_ 3;have y4:=Q6.o.at_ 4;have y5:=Q6.o.at_ 5;have y6:=Q6.o.at_ 6;go_upto_region 34 with (refine wpList_store_mid rfl 71 (.tmp 10) (.tmp 139) rfl b2 0 #[.int .i64 2,kS [],kS [],.int .i64 0] rfl rfl TH.o (by kernel_rfl) (by simp [Value.oneCell']) ?_;change wpList _ _ _ _ _ (World.setCells w3 b2 0 [.int .i64 2,kS [],kS [],.int .i64 0]);rw [vf.o])
   clear p5 y0 y1 y2 y3 y4 y5 y6;clear x0 x1 x2 x3 x4 x5 x6;have x0:=Q6.o.at_ 0;have x1:=Q6.o.at_ 1;have x2:=Q6.o.at_ 2;have x3:=Q6.o.at_ 3;have x4:=Q6.o.at_ 4;have x5:=Q6.o.at_ 5;have x6:=Q6.o.at_ 6;have PF:Hid (qC 133 #[.pointer (some ⟨u,0,none⟩),kS p,.agg (dU 2 [] [] 0)] w3b fun e w'=>Mx w3b (bA p ⟨2,[],[],0⟩ L) room e w'):=tA T4b.o p 2 [] [] 0 G5.o (by have:=ro.o;omega) (qf.o.short);go_wp2_with (first
    | (refine fR rfl (.tmp 10) rfl b2 rfl 2 [] [] 0 WP.o ?_))
   refine PF.o.mono ?_;rintro e4 w4 ⟨o4,rfl,GN,x8⟩;have T4:=hid (GN.mono B4b.o.size);have B4:Hid (qW w w4):=B4b.o.trans (x8.mono B4b.o.size);have zj:=(T4b.o.on x8);have HK:=hid (jV qf.o.srt p ⟨2,[],[],0⟩);obtain ⟨K,ut⟩:=qX (bA p ⟨2,[],[],0⟩ L);rw [ut.o] at T4 AZ HK;have IT:Hid (usedL K<=1000000000):=by have h1:=HK.o;have h2:=PE.o;have h3:=HR.o;show _<=_;unfold jI at h1;simp only [List.length_nil] at h1;omega
   have GO:Hid (w4.drew.cell? ⟨u,1,none⟩=some (.int .i64 (room:Int))):=by obtain ⟨A,n,c,hv⟩:=zj.view;exact hv.c1
   have CU:=hid (nX (T4.o.tree.on qB.drew) IT.o);have T5:=hid (T4.o.on qB.drew);have B5:=hid B4.o.drew;clear GN x8 zj x0 x1 x2 x3 x4 x5 x6;go_upto_region 35 with fail
   refine qG (S:=fun W=>W.cell? ⟨u,1,none⟩=some (.int .i64 (room:Int))) (by kernel_rfl) (GO.o) (fun hS=>?_);generalize w4.drew=w5 at *;refine qK 0 rfl (by kernel_rfl) ‹_› (fun w a8=>by go_simp;with_reducible rfl) ?_;simp only [Act.put,aB,aA,aC];refine aG 2 ?_
   iterate 3
    refine qT rfl (by kernel_rfl) ‹_› (fun w a8=>by go_simp;with_reducible rfl) ?_;simp only [Act.put,aB,aA,aC,Nat.reduceAdd]
   refine aE ?_;refine qK 5 rfl (by kernel_rfl) ‹_› (fun w a8=>by have hc:w.cell? ⟨u,1,none⟩=some (.int .i64 (room:Int)):=a8;go_simp;with_reducible rfl) ?_;simp only [Act.put,aB,aA,aC];refine qD 1 rfl (by kernel_rfl) fun K hK=>?_
   go_simp;refine (CU.o).mono ?_;rintro e5 w6 ⟨rfl,rfl⟩;have g8:=GO.o;refine hK.o _ _ g8 (fun hS=>?_);clear hK K hS;refine qK 6 rfl (by kernel_rfl) ‹_› (fun w a8=>by go_simp;with_reducible rfl) ?_;simp only [Act.put,aB,aA,aC];refine qM (by kernel_rfl) ?_;by_cases hu:usedL K<=room
   . have hq:¬((room:Int) < ((usedL K:Nat):Int)):=by omega
     have M7:=hid (AZ.o.trans (if_pos hu));clear hu;go_wp2;go_ret2;exact .inl ⟨by rw [M7.o],o4,rfl,by rw [M7.o];exact T5.o,B5.o⟩
   have hq:(room:Int) < ((usedL K:Nat):Int):=by omega
   have HE:Hid (r.1=7):=by show _=_;rw [AZ.o,if_neg hu]
   clear hu;go_wp2;go_ret2;exact dQ.bad HE.o (by decide) B5.o
  have q2:(kk != 0)=true:=by simpa using k0
  have HE:Hid (r.1=6):=by show _=_;rw [DD.o,if_pos k0]
  clear k0;go_wp2;go_ret2;exact dQ.bad HE.o (by decide) B2.o
 have q0:(hh != 0)=true:=by simpa using og
 have HE:Hid (r.1=hh):=by show _=_;rw [yu.o,if_neg og]
 have PG:=hid og;clear og;go_wp2;go_ret2;exact dQ.bad HE.o PG.o B2.o
def Kr {w:World} {u:Nat} {L:Tr} {room:Nat} (h:TreeR w u L room) (hW:WFT room L) (hT:TG L) (hr:room<=1048576) (p q d:By) (tm m:Int) (pk:Bool) (hm:0<=m) (hd:d.length<=100000000) (wt:mayB p=true) :
 qC 83 #[.pointer (some ⟨u,0,none⟩),.agg (lZ 4 p q d tm m pk)] w fun e w'=>dQ w room (cR room L (oI (.link p d tm) m pk)) e w':=by
 rw [show oI (.link p d tm) m pk=.link p d tm by unfold oI;cases pk<;>rfl];have hL:L.length<=16384:=by have h1:=jZ (L:=L);have:=hW.used;omega
 have hU:=hW.used;obtain ⟨D,HD⟩:=qX (oL d m pk);have GM:D.length<=100000000:=by rw [<-HD.o];have:=vG d m pk;omega
 obtain ⟨kk,V4⟩:=qX (kindP L p);obtain ⟨hh,HH⟩:=qX (cI L p);obtain ⟨r,oq⟩:=qX (cR room L (.link p d tm));rw [oq.o];have yu:Hid (r=if hh=0 then (if kk≠0 then (6,L) else if usedL (bA p ⟨3,[],d,tm⟩ L)<=room then (0,bA p ⟨3,[],d,tm⟩ L) else (7,L)) else (hh,L)):=by
  show _=_
  have h1:=uI hW (dE wt);rw [V4.o] at h1;rw [<-oq.o];simp only [cR,eR,HH.o,tB hW.srt,h1]
 have ur:qW w (w.alloc (.cells (lZ 4 p q d tm m pk) 99)):=qB.alloc qN _;obtain ⟨b,HB⟩:=qX (w.heap.size);have XB:Hid (Has (w.alloc (.cells (lZ 4 p q d tm m pk) 99)) b 99 #[.int .i64 4,kS p,kS q,kS d,.int .i64 tm,.int .i64 m,.bool pk]):=by rw [<-HB.o];exact Has.fresh _ _ _
 have B0:=hid ur;obtain ⟨w1,qe⟩:=qX (w.alloc (.cells (lZ 4 p q d tm m pk) 99));rw [qe.o] at B0 XB;have r6:=qe.o;have zy:Hid (w1.heap.size=b+1):=by show _=_;rw [<-qe.o,<-HB.o];simp
 have T1:=hid (h.on B0.o);have CK:Hid (qC 112 #[.pointer (some ⟨u,0,none⟩),kS p] w1 fun e w'=>e=.returned (.int .i64 kk)/\w1=w'):=by rw [<-V4.o];exact lW T1.o p (by omega)
 have qf:=hid hW;have HTG:=hid hT;have HR:=hid hr;have ro:=hid hL;have PE:=hid hU;obtain ⟨cc,so⟩:=qX ((pk&&decide (m < (d.length:Int))));have qg:Hid (cc=true->D=d.take m.toNat/\m<=(d.length:Int)):=fun e=>by
  rw [<-HD.o,vQ (by rw [so.o];exact e)];refine ⟨rfl,?_⟩;have h1:=so.o;rw [e,Bool.and_eq_true,decide_eq_true_eq] at h1;omega
 have T8:Hid (cc=false->D=d):=fun e=>by rw [<-HD.o,yM (by rw [so.o];exact e)]
 have x0:=XB.o.at_ 0;have x1:=XB.o.at_ 1;have x2:=XB.o.at_ 2;have x3:=XB.o.at_ 3;have x4:=XB.o.at_ 4;have x5:=XB.o.at_ 5;have x6:=XB.o.at_ 6;have zd:(ba d).size=d.length:=aD d;have nh:=hid GM;have CH:Hid (qC 132 #[.pointer (some ⟨u,0,none⟩),kS p] w1 fun e w'=>e=.returned (.int .i64 hh)/\qW w1 w'):=by rw [<-HH.o];exact tG T1.o qf.o p wt (by have:=(aU wt).1;omega) (by omega)
 have G5:Hid (p.length<=4000):=by have:=(aU wt).1;show _<=_;omega
 clear h hW hT hr ur hL hU GM hd;go_enter Tryz.func83,Tryz.ntmps83
 have rt:=HB.o;go_wp2_with fail
 refine CK.o.mono ?_;rintro e1 LU ⟨rfl,rfl⟩;clear r6 rt;go_upto_region 3 with fail
 go_cut [27] (fun t w'=>t=.bool cc/\w1=w')
 case first =>
  cases pk with
  | false =>
   have hc:cc=false:=by rw [<-so.o];rfl
   clear qg T8;go_wp2_with fail
   go_meet;exact ⟨by rw [hc],rfl⟩
  | true =>
   have hc:decide (m < (d.length:Int))=cc:=by rw [<-so.o];rfl
   clear qg T8;go_wp2_with fail
   go_meet;exact ⟨rfl,rfl⟩
 obtain ⟨rfl,rfl⟩:=hcut;go_upto_if 27 with fail
 go_cut [7] (fun t w'=>t=kS D/\w1=w')
 case first =>
  cases cc with
  | false =>
   have hc:=T8.o rfl;clear qg T8;go_wp2_with fail
   go_meet;exact ⟨by rw [hc],rfl⟩
  | true =>
   obtain ⟨hc,zo⟩:=qg.o rfl;have e1:(ba d).extract 0 m.toNat=ba D:=by rw [hc];exact yU d _
   clear qg T8 hc;go_wp2_with fail
   go_meet;exact ⟨rfl,rfl⟩
 obtain ⟨rfl,rfl⟩:=hcut;clear qg T8;go_wp2_with fail
 refine CH.o.mono ?_;rintro e2 w2 ⟨rfl,a9⟩;have N9:=hid (XB.o.kept a9 XB.o.inside);have B2:Hid (qW w w2):=B0.o.trans (a9.mono B0.o.size);have T2:=hid (T1.o.on a9);clear x0 x1 x2 x3 x4 x5 x6;clear a9;have x0:=N9.o.at_ 0;have x1:=N9.o.at_ 1;have x2:=N9.o.at_ 2;have x3:=N9.o.at_ 3;have x4:=N9.o.at_ 4;have x5:=N9.o.at_ 5;have x6:=N9.o.at_ 6;by_cases og:hh=0
 .
  have q0:(hh != 0)=false:=by simp [og]
  have DD:=hid (yu.o.trans (if_pos og));clear og;by_cases k0:kk=0
  .
   have q2:(kk != 0)=false:=by simp [k0]
   have J0:=hid (DD.o.trans (if_neg (fun k=>k k0)));clear k0;go_upto_region 26 with fail
   obtain ⟨w3,qw⟩:=qX (w2.alloc (.cells #[.int .i64 1,.string (ba D),.string ⟨#[]⟩,.int .i64 tm] 71));obtain ⟨b2,i9⟩:=qX (w2.heap.size);have XN:Hid (Has w3 b2 71 (dU 1 D [] tm)):=by rw [<-qw.o,<-i9.o];exact Has.fresh _ _ _
   have i7:qW w2 w3:=by rw [<-qw.o];exact qB.alloc qN _
   have Q0:=hid (N9.o.kept i7 N9.o.inside);have B3:Hid (qW w w3):=B2.o.trans (i7.mono B2.o.size);have T3:=hid (T2.o.on i7);rw [qw.o,i9.o];have B8:=hid i7;clear i7;clear x0 x1 x2 x3 x4 x5 x6;have x0:=Q0.o.at_ 0;have x1:=Q0.o.at_ 1;have x2:=Q0.o.at_ 2;have x3:=Q0.o.at_ 3;have x4:=Q0.o.at_ 4;have x5:=Q0.o.at_ 5;have x6:=Q0.o.at_ 6;have TH:=hid (XN.o.there 0 4 (by show 0+4<=4;omega));obtain ⟨w3b,vf⟩:=qX (w3.setCells b2 0 [.int .i64 3,kS [],kS d,.int .i64 tm]);have p5:w2.heap.size<=b2:=by rw [i9.o];exact Nat.le_refl _
   have WP:Hid (Has w3b b2 71 (dU 3 [] d tm)):=by rw [<-vf.o];exact (((XN.o.put 0 _).put 1 _).put 2 _).put 3 _
   have qx:qW w2 w3b:=by rw [<-vf.o];exact ((((B8.o.setCell (p:=⟨b2,0,none⟩) p5 _).setCell (p:=⟨b2,1,none⟩) p5 _).setCell (p:=⟨b2,2,none⟩) p5 _).setCell (p:=⟨b2,3,none⟩) p5 _)
   have Q6:=hid (N9.o.kept qx N9.o.inside);have B4b:Hid (qW w w3b):=B2.o.trans (qx.mono B2.o.size);have T4b:=hid (T2.o.on qx);have AZ:=J0;clear qx;have y0:=Q6.o.at_ 0;have y1:=Q6.o.at_ 1;have y2:=Q6.o.at_ 2;have y3:=Q6.o.at_ 3;have y4:=Q6.o.at_ 4;have y5:=Q6.o.at_ 5;have y6:=Q6.o.at_ 6;go_upto_region 34 with (refine wpList_store_mid rfl 71 (.tmp 10) (.tmp 147) rfl b2 0 #[.int .i64 3,kS [],kS d,.int .i64 tm] rfl rfl TH.o (by kernel_rfl) (by simp [Value.oneCell']) ?_;change wpList _ _ _ _ _ (World.setCells w3 b2 0 [.int .i64 3,kS [],kS d,.int .i64 tm]);rw [vf.o])
   clear p5 y0 y1 y2 y3 y4 y5 y6;clear x0 x1 x2 x3 x4 x5 x6;have x0:=Q6.o.at_ 0;have x1:=Q6.o.at_ 1;have x2:=Q6.o.at_ 2;have x3:=Q6.o.at_ 3;have x4:=Q6.o.at_ 4;have x5:=Q6.o.at_ 5;have x6:=Q6.o.at_ 6;have PF:Hid (qC 133 #[.pointer (some ⟨u,0,none⟩),kS p,.agg (dU 3 [] d tm)] w3b fun e w'=>Mx w3b (bA p ⟨3,[],d,tm⟩ L) room e w'):=tA T4b.o p 3 [] d tm G5.o (by have:=ro.o;omega) (qf.o.short);go_wp2_with (first
    | (refine fR rfl (.tmp 10) rfl b2 rfl 3 [] d tm WP.o ?_))
   refine PF.o.mono ?_;rintro e4 w4 ⟨o4,rfl,GN,x8⟩;have T4:=hid (GN.mono B4b.o.size);have B4:Hid (qW w w4):=B4b.o.trans (x8.mono B4b.o.size);have zj:=(T4b.o.on x8);have HK:=hid (jV qf.o.srt p ⟨3,[],d,tm⟩);obtain ⟨K,ut⟩:=qX (bA p ⟨3,[],d,tm⟩ L);rw [ut.o] at T4 AZ HK;have IT:Hid (usedL K<=1000000000):=by have h1:=HK.o;have h2:=PE.o;have h3:=HR.o;show _<=_;unfold jI at h1;simp only [List.length_nil] at h1;omega
   have GO:Hid (w4.drew.cell? ⟨u,1,none⟩=some (.int .i64 (room:Int))):=by obtain ⟨A,n,c,hv⟩:=zj.view;exact hv.c1
   have CU:=hid (nX (T4.o.tree.on qB.drew) IT.o);have T5:=hid (T4.o.on qB.drew);have B5:=hid B4.o.drew;clear GN x8 zj x0 x1 x2 x3 x4 x5 x6;go_upto_region 35 with fail
   refine qG (S:=fun W=>W.cell? ⟨u,1,none⟩=some (.int .i64 (room:Int))) (by kernel_rfl) (GO.o) (fun hS=>?_);generalize w4.drew=w5 at *;refine qK 0 rfl (by kernel_rfl) ‹_› (fun w a8=>by go_simp;with_reducible rfl) ?_;simp only [Act.put,aB,aA,aC];refine aG 2 ?_
   iterate 3
    refine qT rfl (by kernel_rfl) ‹_› (fun w a8=>by go_simp;with_reducible rfl) ?_;simp only [Act.put,aB,aA,aC,Nat.reduceAdd]
   refine aE ?_;refine qK 5 rfl (by kernel_rfl) ‹_› (fun w a8=>by have hc:w.cell? ⟨u,1,none⟩=some (.int .i64 (room:Int)):=a8;go_simp;with_reducible rfl) ?_;simp only [Act.put,aB,aA,aC];refine qD 1 rfl (by kernel_rfl) fun K hK=>?_
   go_simp;refine (CU.o).mono ?_;rintro e5 w6 ⟨rfl,rfl⟩;have g8:=GO.o;refine hK.o _ _ g8 (fun hS=>?_);clear hK K hS;refine qK 6 rfl (by kernel_rfl) ‹_› (fun w a8=>by go_simp;with_reducible rfl) ?_;simp only [Act.put,aB,aA,aC];refine qM (by kernel_rfl) ?_;by_cases hu:usedL K<=room
   . have hq:¬((room:Int) < ((usedL K:Nat):Int)):=by omega
     have M7:=hid (AZ.o.trans (if_pos hu));clear hu;go_wp2;go_ret2;exact .inl ⟨by rw [M7.o],o4,rfl,by rw [M7.o];exact T5.o,B5.o⟩
   have hq:(room:Int) < ((usedL K:Nat):Int):=by omega
   have HE:Hid (r.1=7):=by show _=_;rw [AZ.o,if_neg hu]
   clear hu;go_wp2;go_ret2;exact dQ.bad HE.o (by decide) B5.o
  have q2:(kk != 0)=true:=by simpa using k0
  have HE:Hid (r.1=6):=by show _=_;rw [DD.o,if_pos k0]
  clear k0;go_wp2;go_ret2;exact dQ.bad HE.o (by decide) B2.o
 have q0:(hh != 0)=true:=by simpa using og
 have HE:Hid (r.1=hh):=by show _=_;rw [yu.o,if_neg og]
 have PG:=hid og;clear og;go_wp2;go_ret2;exact dQ.bad HE.o PG.o B2.o
def six {z:Int} (h0:1<=z) (h1:z<=6):z=1∨z=2∨z=3∨z=4∨z=5∨z=6:=by omega
def yJ {p:By} {c d:Int} (h:(if mayB p then c else 10)=0):mayB p=true:=by
 cases k:mayB p with
 | true=>rfl
 | false=>rw [k] at h;simp at h
def Qz {w:World} {u:Nat} {L:Tr} {room:Nat} (h:TreeR w u L room) (hW:WFT room L) (hT:TG L) (hr:room<=1048576) (e:Rw) (he:RwOk e) (ha:argE (xJ e)=0) (m:Int) (pk:Bool) (hm:0<=m) :
 qC 83 #[.pointer (some ⟨u,0,none⟩),.agg (lZ e.dO e.p e.q e.d e.tm m pk)] w fun en w'=>dQ w room (cR room L (oI (xJ e) m pk)) en w':=by
 obtain ⟨dO,p,q,d,tm⟩:=e;have hd:d.length<=100000000:=he.ld;rcases he.kk with k | k | k<;>simp only at k<;>subst k
 . exact Fd h hW hT hr p q d tm m pk hm hd (yJ (d:=0) ha)
 . exact Gs h hW hT hr p q d tm m pk hm hd (yJ (d:=0) ha)
 exact Kr h hW hT hr p q d tm m pk hm hd (yJ (d:=0) ha)
def Xq {fused:Bool} {left f:Int} (h:pD fused left f):(fused&&decide (left<=0))=(f == 0):=by
 rcases h with ⟨rfl,rfl⟩ | ⟨rfl,rfl,h0⟩
 . rfl
 rw [Bool.true_and];by_cases k:left=0
 . subst k;rfl
 have h1:¬left<=0:=by omega
 have h2:(left == 0)=false:=by simpa using k
 rw [h2,decide_eq_false h1]
def Qy {fused:Bool} {left f:Int} (h:pD fused left f) (h0:f≠0) (h1:f<=9223372036854775807):pD fused (wrap64 (left - 1)) (eM f):=by
 rcases h with ⟨rfl,rfl⟩ | ⟨rfl,rfl,k0⟩
 . exact .inl ⟨rfl,rfl⟩
 have hp:0 < left:=by omega
 have e:eM left=left - 1:=by unfold eM;rw [if_pos hp]
 rw [e,IntWalk.wrap64_in _ (by omega)];exact .inr ⟨rfl,rfl,by omega⟩
section
variable {own:Nat->Prop} {w:World} {r:Nat} {M:Mo}
theorem Ua (h:RDk own w r M):qC 82 #[.pointer (some ⟨r,0,none⟩)] w fun e w'=>e=.returned (.bool (M.fuse == 0))/\w=w':=by
 obtain ⟨tl,ts,sv,es,fused,left,h⟩:=h;have c3:w.cell? ⟨r,3,none⟩=some (.bool fused):=h.has.at_ 3;have c4:w.cell? ⟨r,4,none⟩=some (.int .i64 left):=h.has.at_ 4;have HF:=hid (Xq h.fu);obtain ⟨f,HM⟩:=qX ((M.fuse == 0));rw [HM.o] at HF ⊢;clear h HM
 cases fused with
 | false =>
  go_enter Tryz.func82,Tryz.ntmps82
  go_wp2;go_ret;exact ⟨by rw [<-HF.o];rfl,rfl⟩
 | true =>
  go_enter Tryz.func82,Tryz.ntmps82
  go_wp2;go_ret;exact ⟨by rw [<-HF.o];rfl,rfl⟩
end
def ky (w:World) (M:Mo) (e:Ending) (w':World):Prop:=∃own r,e=.returned (.pointer (some ⟨r,0,none⟩))/\RDk own w' r M/\(∀g,own g->w.heap.size<=g)/\qW w w'
def Nj (w:World) (room:Nat) (h0:1024<=room) (h1:room<=1048576):qC 35 #[.int .i64 (room:Int)] w fun e w'=>ky w (newM room) e w':=by
 obtain ⟨b,HB⟩:=qX (w.heap.size);obtain ⟨w1,qe⟩:=qX (w.alloc (.cells #[.slice none 0 0,.int .i64 (room:Int)] 131));have B1:Hid (qW w w1):=by rw [<-qe.o];exact qB.alloc qN _
 have X1:Hid (Has w1 b 131 #[.slice none 0 0,.int .i64 (room:Int)]):=by rw [<-qe.o,<-HB.o];exact Has.fresh _ _ _
 have S1:Hid (w1.heap.size=b+1):=by show _=_;rw [<-qe.o,<-HB.o];simp
 obtain ⟨w2,uz⟩:=qX (w1.alloc (.cells #[.slice none 0 0,.int .i64 (room:Int)] 131));have b2:qW w1 w2:=by rw [<-uz.o];exact qB.alloc qN _
 have X12:=hid (X1.o.kept b2 X1.o.inside);have X2:Hid (Has w2 (b+1) 131 #[.slice none 0 0,.int .i64 (room:Int)]):=by rw [<-uz.o,<-S1.o];exact Has.fresh _ _ _
 have B2:Hid (qW w w2):=B1.o.trans (b2.mono B1.o.size);have S2:Hid (w2.heap.size=b+2):=by show _=_;rw [<-uz.o];simp;exact S1.o
 obtain ⟨w3,qw⟩:=qX (w2.alloc (.cells #[.pointer (some ⟨b,0,none⟩),.pointer (some ⟨b+1,0,none⟩),.slice none 0 0,.bool false,.int .i64 0] 51));have b3:qW w2 w3:=by rw [<-qw.o];exact qB.alloc qN _
 have WQ:=hid (X12.o.kept b3 X12.o.inside);have WR:=hid (X2.o.kept b3 X2.o.inside);have X3:Hid (Has w3 (b+2) 51 (cH b (b+1) (.slice none 0 0) false 0)):=by rw [<-qw.o,<-S2.o];exact Has.fresh _ _ _
 have B3:Hid (qW w w3):=B2.o.trans (b3.mono B2.o.size);have z1:=qe.o;have z2:=uz.o;have z3:=qw.o;have y0:=HB.o;have y1:=S1.o;have y2:=S2.o;clear b2 b3;go_enter Tryz.func35,Tryz.ntmps35
 go_wp2;go_ret;refine ⟨fun g=>g=b∨g=b+1∨g=b+2,b+2,rfl,⟨b,b+1,.slice none 0 0,[],false,0,?_⟩,?_,B3.o⟩
 .
  refine ⟨?_,?_,X3.o,.inr (.inr rfl),⟨⟨_,WQ.o,dR.nil _ _,fun b hb=>(by cases hb)⟩,.inl rfl⟩,⟨⟨_,WR.o,dR.nil _ _,fun b hb=>(by cases hb)⟩,.inr (.inl rfl)⟩,gD.nil _ _,fun b hb=>(by cases hb),rfl,fun e he=>(by cases he),.inl ⟨rfl,rfl⟩,lR.new _,h0,h1,by show 0<=_;omega⟩
  . rintro g (e | e | e)<;>rw [e]
    . exact WQ.o.inside
    . exact WR.o.inside
    . exact X3.o.inside
  rintro g (e | e | e)<;>rw [e]
  . exact WQ.o.loose (by decide)
  . exact WR.o.loose (by decide)
  exact X3.o.loose (by decide)
 rintro g (e | e | e)<;>rw [e,HB.o]<;>omega
open Go.RowKit Go.Maps
def gD.aside {w w':World} {r:Nat} {cs:Array Value} {v:Value} {es:List Rw} (h:gD 0 w v es) (hr:Has w r 51 cs) (hu:Turn (xL r) w w'):gD 0 w' v es :=
 row_of h (fun b hb=>hu.block b (World.ownsRow.lt h b hb).2 (fun e=>by
  obtain ⟨cur,hc⟩:=bI h hb;have e':b=r:=e;unfold Has at hr;rw [<-e',hc] at hr;injection hr with hr;injection hr with _ hr;revert hr;decide))
def gD.on {w w':World} {v:Value} {es:List Rw} (h:gD 0 w v es) (hb:qW w w'):gD 0 w' v es:=row_of h fun g hg=>hb.block g (World.ownsRow.lt h g hg).2
def Yy {w:World} {sv:Value} {es:List Rw} (h:gD 0 w sv es) (x:Rw) (hn:es.length<=100000) :
 ∃v' w',(Builtin.append_ #[49,49] 49 #[sv,.slice (some ⟨w.heap.size,0,none⟩) 1 1]).run Tryz.prog (w.alloc (.cells (rwC x) 99))=.ok v' w'/\gD 0 w' v' (es++[x])/\Turn (fun g=>sv.ownBlock=some g) w w'/\(v'.ownBlock=sv.ownBlock∨∃b,v'.ownBlock=some b/\w.heap.size<=b):=by
 have hb:qW w (w.alloc (.cells (rwC x) 99)):=qB.alloc qN _;obtain ⟨v',w',k1,k2,k3,k4⟩:=Oa _ 0 sv es (h.on hb) x w.heap.size (Has.fresh w 99 _) hn (Nat.zero_le _) 49;refine ⟨v',w',k1,k2,(Turn.of_below hb).then (Turn.of_grown k3 (fun g hg=>hg)),?_⟩;rcases k4 with e | e
 . exact .inl e
 exact .inr ⟨_,e,hb.size⟩
def jX (e:Rw):Bool:=mayB e.p&&(!(e.dO == 5)||mayB e.q)
def vK (e:Rw):Bool:=(e.dO == 1||e.dO == 4)&&(decide (e.tm < 0)||decide (4294967295 < e.tm))
def vS (e:Rw):Bool:=(e.dO == 4)&&(decide (e.d.length < 1)||decide (160 < e.d.length))
def vD (e:Rw):Bool:=(e.dO == 5)&&(decide (e.p=e.q)||withinB e.q e.p)
def kE (e:Rw):Bool:=vK e||vS e||vD e
def Ol (t:Int):(decide (t < 0)||decide (4294967295 < t)) = !cS t:=by
 unfold cS;by_cases h0:t < 0
 . have:¬0<=t:=by omega
   simp [h0,this]
 have:0<=t:=by omega
 by_cases h1:4294967295 < t
 . have h2:¬t<=4294967295:=by omega
   simp [h1,h2]
 have h2:t<=4294967295:=by omega
 simp [h0,h1,this,h2]
def eo (e:Rw) (he:RwOk e):argE (xJ e)=if jX e=true then (if kE e=true then 2 else 0) else 10:=by
 obtain ⟨dO,p,q,d,tm⟩:=e;rcases six he.k0 he.k1 with k | k | k | k | k | k<;>simp only at k<;>subst k
 .
  have e1:jX ⟨1,p,q,d,tm⟩=mayB p:=by simp [jX]
  have e2:kE ⟨1,p,q,d,tm⟩ = !cS tm:=by simp only [kE,vK,vS,vD,Ol];simp
  show (if mayB p then (if cS tm then (0:Int) else 2) else 10)=_
  rw [e1,e2]
  cases mayB p<;>cases cS tm<;>rfl
 .
  have e1:jX ⟨2,p,q,d,tm⟩=mayB p:=by simp [jX]
  have e2:kE ⟨2,p,q,d,tm⟩=false:=by simp [kE,vK,vS,vD]
  show (if mayB p then (0:Int) else 10)=_
  rw [e1,e2]
  cases mayB p<;>rfl
 .
  have e1:jX ⟨3,p,q,d,tm⟩=mayB p:=by simp [jX]
  have e2:kE ⟨3,p,q,d,tm⟩=false:=by simp [kE,vK,vS,vD]
  show (if mayB p then (0:Int) else 10)=_
  rw [e1,e2]
  cases mayB p<;>rfl
 .
  have e1:jX ⟨4,p,q,d,tm⟩=mayB p:=by simp [jX]
  have e2:kE ⟨4,p,q,d,tm⟩ = !(cS tm&&decide (1<=d.length)&&decide (d.length<=160)):=by
   simp only [kE,vK,vS,vD,Ol];by_cases h1:1<=d.length
   . have k1:¬d.length < 1:=by omega
     by_cases h2:d.length<=160
     . have k2:¬160 < d.length:=by omega
       simp [h1,h2,k1,k2]
     have k2:160 < d.length:=by omega
     simp [h2,k2]
   have k1:d.length < 1:=by omega
   simp [h1,k1]
  show (if mayB p then (if cS tm&&decide (1<=d.length)&&decide (d.length<=160) then (0:Int) else 2) else 10)=_
  rw [e1,e2];generalize (cS tm&&decide (1<=d.length)&&decide (d.length<=160))=b
  cases mayB p<;>cases b<;>rfl
 .
  have e1:jX ⟨5,p,q,d,tm⟩=(mayB p&&mayB q):=by simp [jX]
  have e2:kE ⟨5,p,q,d,tm⟩=decide (q=p∨withinB q p=true):=by
   simp only [kE,vK,vS,vD];by_cases h1:p=q
   . simp [h1]
   have h2:¬q=p:=fun e=>h1 e.symm
   simp [h1,h2]
  show (if mayB p&&mayB q then (if q=p∨withinB q p=true then (2:Int) else 0) else 10)=_
  rw [e1,e2];by_cases K:q=p∨withinB q p=true
  . rw [if_pos K,decide_eq_true K];cases mayB p<;>cases mayB q<;>rfl
  rw [if_neg K,decide_eq_false K];cases mayB p<;>cases mayB q<;>rfl
 have e1:jX ⟨6,p,q,d,tm⟩=mayB p:=by simp [jX]
 have e2:kE ⟨6,p,q,d,tm⟩=false:=by simp [kE,vK,vS,vD]
 show (if mayB p then (0:Int) else 10)=_
 rw [e1,e2]
 cases mayB p<;>rfl
def dQ.both {w w':World} {room:Nat} {r:Int × Tr} {e:Ending} (h:dQ w room r e w'):∃v,e=.returned (.tuple #[v,.int .i64 r.1])/\qW w w'/\(r.1=0->∃o,v=.pointer (some ⟨o,0,none⟩)/\gN w.heap.size w' o r.2 room):=by
 rcases h with ⟨h0,o,rfl,ht,hb⟩ | ⟨h0,rfl,hb⟩
 . exact ⟨_,by rw [h0],hb,fun _=>⟨o,rfl,ht⟩⟩
 exact ⟨_,rfl,hb,fun k=>absurd k h0⟩
def lq:(Tryz.prog.info? 99).map (·.size)=some 7:=by kernel_rfl
def Hd {w:World} {g:Nat} {dO:Int} {p q d:By} {t m:Int} {pk:Bool} (hg:Has w g 99 (lZ dO p q d t m pk)):(loadVar 99 ⟨g,0,none⟩).run Tryz.prog w=.ok (.agg (lZ dO p q d t m pk)) w :=
 run_loadVar_row (P:=Tryz.prog) w g 99 99 _ (0,0) _ hg Tryz.underlying99 rfl lq
def iB.aside2 {own:Nat->Prop} {w w':World} {t r:Nat} {L:Tr} {room:Nat} {cs:Array Value} {sv:Value} {es:List Rw} (h:iB own w t L room) (hr:Has w r 51 cs) (hs:gD 0 w sv es) (hb:∀g,own g->g≠r->sv.ownBlock≠some g->w'.heap[g]? = w.heap[g]?) :
 iB (fun g=>own g/\sv.ownBlock≠some g) w' t L room:=by
 obtain ⟨v,h1,h2,h3⟩:=h.ex;have n1:t≠r:=by
  rintro rfl;unfold Has at h1 hr;rw [h1] at hr;injection hr with hr;injection hr with _ hr;revert hr;decide
 have m1:sv.ownBlock≠some t:=by
  intro e;obtain ⟨cur,hc⟩:=bI hs e;unfold Has at h1;rw [hc] at h1;injection h1 with h1;injection h1 with _ h1;revert h1;decide
 have n2:∀b,v.ownBlock=some b->b≠r/\sv.ownBlock≠some b:=by
  intro b hb;obtain ⟨cur,hc⟩:=bI h2 hb;refine ⟨?_,fun e=>?_⟩
  . rintro rfl
    unfold Has at hr;rw [hc] at hr;injection hr with hr;injection hr with _ hr;revert hr;decide
  obtain ⟨cur',PH⟩:=bI hs e;rw [PH] at hc;injection hc with hc;injection hc with _ hc;revert hc;decide
 exact ⟨⟨v,(hb t h.op n1 m1).trans h1,row_of h2 (fun g hg=>hb g (h3 g hg) (n2 g hg).1 (n2 g hg).2),fun b hb=>⟨h3 b hb,(n2 b hb).2⟩⟩,⟨h.op,m1⟩⟩
def im (r:Nat) (sv:Value) (g:Nat):Prop:=g=r∨sv.ownBlock=some g
def RDkI.done {own:Nat->Prop} {w w':World} {r tl ts:Nat} {sv:Value} {es:List Rw} {fused:Bool} {left:Int} {M:Mo} (h:RDkI own w r tl ts sv es fused left M) {B o:Nat} {L':Tr} {sv':Value} {left':Int} {M':Mo} {x:Rw}
 (ot:∀g,own g->g < B) (ht:gN B w o L' M.room) (hu:Turn (im r sv) w w') (hh:Has w' r 51 (cH o ts sv' fused left')) (hr:gD 0 w' sv' (es++[x])) (hv:sv'.ownBlock=sv.ownBlock∨∃b,sv'.ownBlock=some b/\w.heap.size<=b) (hB:B<=w.heap.size)
 (hn:M'.now=L') (hla:M'.last=M.last) (JQ:M'.since=M.since++[xJ x]) (SV:M'.room=M.room) (hg:lR M') (hf:pD fused left' M'.fuse) (hx:RwOk x) (hl:M.since.length+1<=100000) :
 ∃own',RDkI own' w' r o ts sv' (es++[x]) fused left' M'/\Turn own w w'/\∀g,own' g->own g∨B<=g:=by
 obtain ⟨nb,k1,k2,k3,k4⟩:=ht.blocks;have hsvlt:∀b,sv'.ownBlock=some b->b < w'.heap.size:=fun b hb=>(World.ownsRow.lt hr b hb).2
 have ID:∀g,nb g->w'.heap[g]? = w.heap[g]?:=fun g hg=>hu.block g (k3 g hg) (fun k=>by
  rcases k with e | e
  . have:=ot r h.op;have:=k2 g hg;omega
  have:=ot g (h.osv g e);have:=k2 g hg;omega)
 refine ⟨fun g=>(own g/\sv.ownBlock≠some g)∨nb g∨sv'.ownBlock=some g,⟨?_,?_,hh,.inl ⟨h.op,?_⟩,?_,?_,hr,fun b hb=>.inr (.inr hb),?_,?_,hf,hg,?_,?_,?_⟩,hu.mono ?_,?_⟩
 . rintro g (e | e | e)
   . exact Nat.lt_of_lt_of_le (h.low g e.1) hu.size
   . exact Nat.lt_of_lt_of_le (k3 g e) hu.size
   exact hsvlt g e
 .
  intro g e;by_cases GB:g=r
  . rw [GB];exact hh.loose (by decide)
  by_cases hgs:sv'.ownBlock=some g
  . obtain ⟨cur,hc⟩:=bI hr hgs
    intro cs t2 q ho;rw [hc] at ho;injection ho with ho;injection ho with _ ho;rw [<-ho];decide
  rcases e with e | e | e
  . intro cs t q ho
    refine h.loose g e.1 cs t q ((hu.block g (h.low g e.1) (fun k=>?_)).symm.trans ho);rcases k with k | k
    . exact GB k
    exact e.2 k
  . intro cs t q ho
    exact k4 g e cs t q ((ID g e).symm.trans ho)
  exact absurd e hgs
 .
  intro e;obtain ⟨cur,hc⟩:=bI h.row e;have hd:=h.has;unfold Has at hd;rw [hc] at hd;injection hd with hd;injection hd with _ hd;revert hd;decide
 . rw [hn,SV];exact (k1.kept ID).mono (fun g hg=>.inr (.inl hg))
 .
  rw [hla,SV];exact (h.t2.aside2 h.has h.row (fun g hg n1 n2=>hu.block g (h.low g hg) (fun k=>by
   rcases k with k | k
   . exact n1 k
   exact n2 k))).mono (fun g hg=>.inl hg)
 . rw [List.map_append,h.effs,JQ];rfl
 . intro e he
   rcases List.mem_append.1 he with k | k
   . exact h.ok e k
   rw [List.mem_singleton] at k;rw [k];exact hx
 . rw [SV];exact h.r0
 . rw [SV];exact h.r1
 . rw [JQ,List.length_append];exact hl
 . intro g k
   rcases k with e | e
   . rw [e];exact h.op
   exact h.osv g e
 rintro g (e | e | e)
 . exact .inl e.1
 . exact .inr (k2 g e)
 rcases hv with k | ⟨b,kb,kw⟩
 . exact .inl (h.osv g (by rw [<-k];exact e))
 rw [kb] at e;injection e with e;rw [<-e];exact .inr (by omega)
structure Ra (r b tl:Nat) (cs:Array Value) (W:World):Prop where
 c0:W.cell? ⟨r,0,none⟩=some (.pointer (some ⟨tl,0,none⟩))
 h:Has W b 99 cs
def Ra.on {r b tl:Nat} {cs:Array Value} {W W':World} (h:Ra r b tl cs W) (hb:qW W W'):Ra r b tl cs W' :=
 ⟨(hb.cell (p:=⟨r,0,none⟩) (block_lt_of_cell (a:=⟨r,0,none⟩) h.c0)).trans h.c0,h.h.kept hb h.h.inside⟩
structure Cg (b:Nat) (cs:Array Value) (W:World):Prop where
 h:Has W b 99 cs
def Cg.on {b:Nat} {cs:Array Value} {W W':World} (h:Cg b cs W) (hb:qW W W'):Cg b cs W':=⟨h.h.kept hb h.h.inside⟩
def rG {ops:Array Oper} {o:Oper} {a:Act} {w:World} {K:Act->World->Prop} {Q:Exit->Act->World->Prop} {E:Prop} (hw:Region.wanted o (yielded ops a.tmps)=true)
 (y:Operand) (ho:o.op=.buildSlice 49 1 #[(0,y)]) (x:Rw) (hx:a.eval y=.agg (rwC x))
 (h:K (a.put o.dst (.slice (some ⟨w.heap.size,0,none⟩) 1 1)) (w.alloc (.cells (rwC x) 99))):if Region.wanted o (yielded ops a.tmps)=true then Oper.wp Tryz.prog o a w K Q else E:=by
 rw [if_pos hw];unfold Oper.wp execOp;simp only [ho,Sem.run_bind,List.map_toArray,List.map_cons,List.map_nil,hx,Ej w x,Result.andThen_ok];exact h
def ae {own:Nat->Prop} {w:World} {r:Nat} {M:Mo} (h:RDk own w r M) (e:Rw) (he:RwOk e) (hp:e.p.length<=4000) (hq:e.q.length<=4000) (f8:M.since.length+1<=100000) :
 qC 38 #[.pointer (some ⟨r,0,none⟩),.agg (rwC e)] w fun en w'=>en=.returned (.int .i64 (bL M (xJ e)).1)/\RPost own w r (bL M (xJ e)).2 w':=by
 have H:=hid h;obtain ⟨x,HX⟩:=qX (xJ e);rw [HX.o];have HA:Hid (argE x=if jX e=true then (if kE e=true then 2 else 0) else 10):=by show _=_;rw [<-HX.o];exact eo e he
 have HRE:=hid he;have K0:=hid f8;obtain ⟨mr,PJ⟩:=qX (jX e);obtain ⟨ar,mx⟩:=qX (kE e);rw [PJ.o,mx.o] at HA;have CN:Hid (argE x=0->∀W u L,TreeR W u L M.room->WFT M.room L->TG L->qC 83 #[.pointer (some ⟨u,0,none⟩),.agg (rwC e)] W fun en w'=>dQ W M.room (cR M.room L x) en w'):=fun ha W u L hT hW hG=>by
  obtain ⟨_,_,_,_,_,_,h⟩:=h;have:=Qz hT hW hG h.r1 e he (by rw [HX.o];exact ha) 0 false (Int.le_refl 0);rw [HX.o] at this;exact this
 obtain ⟨dO,p,q,d,tm⟩:=e;simp only at hp hq;have hld:d.length<=100000000:=he.ld;have GK:mr=(mayB p&&(!(dO == 5)||mayB q)):=PJ.o.symm;have M8:ar=(((dO == 1||dO == 4)&&(decide (tm < 0)||decide (4294967295 < tm)))||((dO == 4)&&(decide (d.length < 1)||decide (160 < d.length)))||((dO == 5)&&(decide (p=q)||withinB q p))):=mx.o.symm;have hmr':=hid GK;have har':=hid M8;have CJ:=hid he.k0;have NF:=hid he.k1;have ur:qW w (w.alloc (.cells (rwC ⟨dO,p,q,d,tm⟩) 99)):=qB.alloc qN _;obtain ⟨b,HB⟩:=qX (w.heap.size);have XB:Hid (Has (w.alloc (.cells (rwC ⟨dO,p,q,d,tm⟩) 99)) b 99 #[.int .i64 dO,kS p,kS q,kS d,.int .i64 tm,.int .i64 0,.bool false]):=by rw [<-HB.o];exact Has.fresh _ _ _
 have B0:=hid ur;obtain ⟨w1,qe⟩:=qX (w.alloc (.cells (rwC ⟨dO,p,q,d,tm⟩) 99));replace XB:Hid (Has w1 b 99 #[.int .i64 dO,kS p,kS q,kS d,.int .i64 tm,.int .i64 0,.bool false]):=by rw [<-qe.o];exact XB.o
 replace B0:Hid (qW w w1):=by rw [<-qe.o];exact B0.o
 have R1:=hid (h.on B0.o);have CO:=hid (Ua R1.o);have vq:Hid (p.length<=4000):=hp;have HLQ:Hid (q.length<=4000):=hq;have SX:Hid (∀W,qC 62 #[kS p] W fun e w'=>e=.returned (.bool (mayB p))/\qW W w'):=fun W=>by
  have:=Rf.dN (ba p) (mayB p) (by show mayB (tl (ba p))=_;rw [aQ]) W (by rw [aD];exact vq.o);exact this
 have CMQ:Hid (∀W,qC 62 #[kS q] W fun e w'=>e=.returned (.bool (mayB q))/\qW W w'):=fun W=>by
  have:=Rf.dN (ba q) (mayB q) (by show mayB (tl (ba q))=_;rw [aQ]) W (by rw [aD];exact HLQ.o);exact this
 have MN:Hid (∀W,qC 55 #[kS q,kS p] W fun e w'=>e=.returned (.bool (withinB q p))/\qW W w'):=fun W=>by
  have:=Rf.cV (ba q) (ba p) W (by rw [aD];exact HLQ.o) (by rw [aD];exact vq.o);rw [aQ,aQ] at this;exact this
 obtain ⟨mp,MD⟩:=qX (mayB p);obtain ⟨mq,HMQ⟩:=qX (mayB q);obtain ⟨wi,HWI⟩:=qX (withinB q p);rw [MD.o] at SX;rw [HMQ.o] at CMQ;rw [HWI.o] at MN;have WS:Hid (mr=(mp&&(!(dO == 5)||mq))):=by show _=_;rw [hmr'.o,MD.o,HMQ.o]
 have xy:Hid (ar=(((dO == 1||dO == 4)&&(decide (tm < 0)||decide (4294967295 < tm)))||((dO == 4)&&(decide (d.length < 1)||decide (160 < d.length)))||((dO == 5)&&(decide (p=q)||wi)))):=by show _=_;rw [har'.o,HWI.o]
 have r6:=qe.o;have rt:=HB.o;have x0:=XB.o.at_ 0;have x1:=XB.o.at_ 1;have x2:=XB.o.at_ 2;have x3:=XB.o.at_ 3;have x4:=XB.o.at_ 4;have zd:(ba d).size=d.length:=aD d;have zpq:((ba p).toList == (ba q).toList)=decide (p=q):=rJ p q;clear h he f8 GK M8 ur hp hq;by_cases hf:M.fuse=0
 .
  have G7:(M.fuse == 0)=true:=by simpa using hf
  have HD:Hid (bL M x=(20,M)):=by show _=_;unfold bL;rw [if_pos hf]
  rw [G7] at CO;clear hf G7 x0 x1 x2 x3 x4 zd zpq;go_enter Tryz.func38,Tryz.ntmps38
  go_wp2_with fail
  refine CO.o.mono ?_;rintro e1 LU ⟨rfl,rfl⟩;clear r6 rt;go_wp2;go_ret;rw [HD.o];exact ⟨rfl,RPost.refl H.o B0.o⟩
 have G7:(M.fuse == 0)=false:=by simpa using hf
 rw [G7] at CO;have HF:=hid hf;clear hf G7;go_enter Tryz.func38,Tryz.ntmps38
 go_wp2_with fail
 refine CO.o.mono ?_;rintro e1 LU ⟨rfl,rfl⟩;clear r6 rt;go_upto_region 3 with fail
 go_cut [23] (fun t w'=>t=.bool (!mr)/\Hid (qW w1 w'))
 case first =>
  cases mp with
  | false =>
   go_wp2_with fail
   refine (SX.o _).mono ?_;rintro e2 w2 ⟨rfl,a9⟩;go_wp2_with fail
   go_meet;exact ⟨by rw [WS.o];rfl,a9⟩
  | true =>
   by_cases k5:dO=5
   .
    have q5:(dO == 5)=true:=by simpa using k5
    go_wp2_with fail
    refine (SX.o _).mono ?_;rintro e2 w2 ⟨rfl,a9⟩;have y0:=(XB.o.kept a9 XB.o.inside).at_ 0;have y2:=(XB.o.kept a9 XB.o.inside).at_ 2;have B2:=hid a9;clear a9 k5;go_wp2_with fail
    refine (CMQ.o _).mono ?_;rintro e3 w3 ⟨rfl,i7⟩;have B3:Hid (qW w1 w3):=B2.o.trans (i7.mono B2.o.size);clear i7;go_wp2_with fail
    go_meet;exact ⟨by rw [WS.o,q5];cases mq<;>rfl,B3.o⟩
   have q5:(dO == 5)=false:=by simpa using k5
   go_wp2_with fail
   refine (SX.o _).mono ?_;rintro e2 w2 ⟨rfl,a9⟩;have y0:=(XB.o.kept a9 XB.o.inside).at_ 0;have B2:=hid a9;clear a9 k5;go_wp2_with fail
   go_meet;exact ⟨by rw [WS.o,q5];rfl,B2.o⟩
 case rest =>
 obtain ⟨rfl,i7⟩:=hcut;have Q0:=hid (XB.o.kept i7.o XB.o.inside);have B3:Hid (qW w wc):=B0.o.trans (i7.o.mono B0.o.size);clear i7 x0 x1 x2 x3 x4
 cases mr with
 | false =>
  have HE:Hid (argE x=10):=by show _=_;rw [HA.o];rfl
  have HD:Hid (bL M x=(10,M)):=by show _=_;unfold bL;rw [if_neg HF.o,kT,HE.o];rfl
  clear zd zpq;go_wp2;go_ret;rw [HD.o];exact ⟨rfl,RPost.refl H.o B3.o⟩
 | true =>
 have x0:=Q0.o.at_ 0;have x1:=Q0.o.at_ 1;have x2:=Q0.o.at_ 2;have x3:=Q0.o.at_ 3;have x4:=Q0.o.at_ 4;go_upto_region 5 with fail
 go_cut [77] (fun t w'=>t=.bool ar/\Hid (qW wc w'))
 case first =>
  rcases six CJ.o NF.o with k | k | k | k | k | k<;>(try simp only at k)<;>subst k
  .
   by_cases t0:tm < 0
   . go_wp2_with fail
     go_meet;exact ⟨by rw [xy.o];simp [t0],Below.refl _ _⟩
   by_cases t1:4294967295 < tm
   . go_wp2_with fail
     go_meet;exact ⟨by rw [xy.o];simp [t0,t1],Below.refl _ _⟩
   go_wp2_with fail
   go_meet;exact ⟨by rw [xy.o];simp [t0,t1],Below.refl _ _⟩
  . go_wp2_with fail
    go_meet;exact ⟨by rw [xy.o];simp,Below.refl _ _⟩
  . go_wp2_with fail
    go_meet;exact ⟨by rw [xy.o];simp,Below.refl _ _⟩
  .
   by_cases t0:tm < 0
   . go_wp2_with fail
     go_meet;exact ⟨by rw [xy.o];simp [t0],Below.refl _ _⟩
   by_cases t1:4294967295 < tm
   . go_wp2_with fail
     go_meet;exact ⟨by rw [xy.o];simp [t0,t1],Below.refl _ _⟩
   have t2:¬(tm < 0):=t0;by_cases l0:d.length < 1
   . have l0':((d.length:Nat):Int) < 1:=by omega
     go_wp2_with fail
     go_meet;exact ⟨by rw [xy.o];simp [t0,t1,l0],Below.refl _ _⟩
   have l0':¬((d.length:Nat):Int) < 1:=by omega
   by_cases l1:160 < d.length
   . have l1':(160:Int) < ((d.length:Nat):Int):=by omega
     go_wp2_with fail
     go_meet;exact ⟨by rw [xy.o];simp [t0,t1,l0,l1],Below.refl _ _⟩
   have l1':¬(160:Int) < ((d.length:Nat):Int):=by omega
   go_wp2_with fail
   go_meet;exact ⟨by rw [xy.o];simp [t0,t1,l0,l1],Below.refl _ _⟩
  .
   by_cases e0:p=q
   . have zq:((ba p).toList == (ba q).toList)=true:=by rw [zpq];simpa using e0
     have e1:=hid e0;clear zpq e0;go_wp2_with fail
     go_meet;exact ⟨by rw [xy.o,decide_eq_true e1.o];simp,Below.refl _ _⟩
   have zq:((ba p).toList == (ba q).toList)=false:=by rw [zpq];simpa using e0
   have e1:=hid e0;clear zpq e0;go_wp2_with fail
   refine (MN.o _).mono ?_;rintro e5 w5 ⟨rfl,z6⟩;go_wp2_with fail
   go_meet;exact ⟨by rw [xy.o,decide_eq_false e1.o];simp,z6⟩
  . go_wp2_with fail
    go_meet;exact ⟨by rw [xy.o];simp,Below.refl _ _⟩
 case rest =>
 obtain ⟨rfl,x8⟩:=hcut;obtain ⟨wB,hWB⟩:∃v,v=wc:=⟨wc,rfl⟩;subst hWB;have Q6:=hid (Q0.o.kept x8.o Q0.o.inside);have B4:Hid (qW w wB):=B3.o.trans (x8.o.mono B3.o.size);clear x8 x0 x1 x2 x3 x4 zd zpq
 cases ar with
 | true =>
  have HE:Hid (argE x=2):=by show _=_;rw [HA.o];rfl
  have HD:Hid (bL M x=(2,M)):=by show _=_;unfold bL;rw [if_neg HF.o,kT,HE.o];rfl
  go_wp2;go_ret;rw [HD.o];exact ⟨rfl,RPost.refl H.o B4.o⟩
 | false =>
  have HE:Hid (argE x=0):=by show _=_;rw [HA.o];rfl
  have p6:aK M.room M.now x=cR M.room M.now x:=by rw [kT,if_pos HE.o]
  obtain ⟨rr,oq⟩:=qX (cR M.room M.now x);rw [oq.o] at p6;have C9:=hid p6;obtain ⟨tl,ts,sv,es,fused,left,hI⟩:=H.o;have MO:=hid hI;have B4d:=hid B4.o.drew;have SY:Hid (RDkI own wB.drew r tl ts sv es fused left M):=hI.kept B4d.o.size (fun g hg=>B4d.o.block g (hI.low g hg));have CNX:Hid (qC 83 #[.pointer (some ⟨tl,0,none⟩),.agg (rwC ⟨dO,p,q,d,tm⟩)] wB.drew fun en w'=>dQ wB.drew M.room rr en w'):=by
   have:=CN.o HE.o wB.drew tl M.now SY.o.t1.tree hI.good.good.w1 hI.good.t1;rw [oq.o] at this;exact this
  have XB4d:Hid (Has wB.drew b 99 (rwC ⟨dO,p,q,d,tm⟩)):=Q6.o;have SD:Hid (Ra r b tl (rwC ⟨dO,p,q,d,tm⟩) wB.drew):=⟨SY.o.has.at_ 0,XB4d.o⟩;clear p6 hI;go_wp2;refine qG (S:=Ra r b tl (rwC ⟨dO,p,q,d,tm⟩)) (by kernel_rfl) (SD.o) (fun hS=>?_);generalize wB.drew=w5 at *;refine aG 0 ?_
  iterate 3
   refine qT rfl (by kernel_rfl) ‹_› (fun w a8=>by go_simp;with_reducible rfl) ?_;simp only [Act.put,aB,aA,aC,Nat.reduceAdd]
  refine aE ?_;refine qK 3 rfl (by kernel_rfl) ‹_› (fun w a8=>by have hc:=a8.c0;go_simp;with_reducible rfl) ?_;simp only [Act.put,aB,aA,aC];refine' qL 4 rfl (by kernel_rfl) (aY (by rfl) 99 (.tmp 3) rfl b 0 rfl (rwC ⟨dO,p,q,d,tm⟩) (fun w a8=>Hd a8.h)) ‹_› ?_;simp only [Act.put,aB,aA,aC];refine qD 5 rfl (by kernel_rfl) fun K hK=>?_
  go_simp;refine (CNX.o).mono ?_;rintro e6 w6 hp6;obtain ⟨v6,rfl,S7,ht6⟩:=hp6.both;have g8:=SD.o.on S7;refine hK.o _ _ g8 (fun hS=>?_);clear hK K hS;refine aG 6 ?_
  iterate 5
   refine qT rfl (by kernel_rfl) ‹_› (fun w a8=>by go_simp;with_reducible rfl) ?_;simp only [Act.put,aB,aA,aC,Nat.reduceAdd]
  refine aE ?_;refine qM (by kernel_rfl) ?_;have yy:Hid (RDkI own w6 r tl ts sv es fused left M):=SY.o.kept S7.size (fun g hg=>S7.block g (SY.o.low g hg));have HT6:=hid ht6;have XB6:=hid (XB4d.o.kept S7 XB4d.o.inside);have B6:Hid (qW w w6):=B4d.o.trans (S7.mono B4d.o.size);clear S7 ht6;by_cases h0:rr.1=0
  .
   have q0:(rr.1 != 0)=false:=by simp [h0]
   obtain ⟨o,rfl,ht⟩:=HT6.o h0;have HTF:=hid (ht.mono B4d.o.size);obtain ⟨f2,GJ⟩:=qX (eM M.fuse);have HD:Hid (bL M x=(0,⟨rr.2,M.last,M.since++[x],f2,M.room⟩)):=by show _=_;unfold bL;rw [if_neg HF.o,C9.o,if_pos h0,GJ.o]
   have WD:Hid (lR ⟨rr.2,M.last,M.since++[x],f2,M.room⟩):=by have:=yy.o.good.do x;rw [HD.o] at this;exact this
   have PK:Hid (pD fused (wrap64 (left - 1)) f2):=by rw [<-GJ.o];exact Qy yy.o.fu HF.o yy.o.good.good.f1
   have c0:w6.cell? ⟨r,0,none⟩=some (.pointer (some ⟨tl,0,none⟩)):=yy.o.has.at_ 0;have f0:=yy.o.has.free 0;obtain ⟨w7,WT⟩:=qX (w6.setCell ⟨r,0,none⟩ (.pointer (some ⟨o,0,none⟩)));have yj:=WT.o;have P7:Hid (Has w7.drew r 51 (cH o ts sv fused left)):=by rw [<-WT.o];exact yy.o.has.put 0 _
   have U7:Hid (Turn (xL r) w6 w7.drew):=by rw [<-WT.o];exact (Turn.set (own:=xL r) w6 r 0 _ rfl).drew
   have hbr:b≠r:=fun e=>by have:=MO.o.low r MO.o.op;rw [<-e,<-HB.o] at this;omega
   have JR:Hid (Cg b (rwC ⟨dO,p,q,d,tm⟩) w7.drew):=⟨(U7.o.block b XB6.o.inside (fun k=>hbr k)).trans XB6.o⟩;have E7:Hid (gD 0 w7.drew sv es):=yy.o.row.aside yy.o.has U7.o;obtain ⟨v9,w9,r9,e9,u9,o9⟩:=Yy (w:=w7.drew) E7.o ⟨dO,p,q,d,tm⟩ (by have:=congrArg List.length yy.o.effs;rw [List.length_map] at this;have:=yy.o.len;omega);obtain ⟨A9,n9,c9,rfl⟩:∃A n c,v9=.slice A n c:=by obtain ⟨A,c,e⟩:=e9.form;exact ⟨A,_,c,e⟩
   have R9:=hid r9;have E9:=hid e9;have U9:=hid u9;have O9:=hid o9;have hsr:¬sv.ownBlock=some r:=fun e=>by
    obtain ⟨cur,hc⟩:=bI E7.o e;have hd:=P7.o;unfold Has at hd;rw [hc] at hd;injection hd with hd;injection hd with _ hd;revert hd;decide
   have IP:¬sv.ownBlock=some b:=fun e=>by have:=MO.o.low b (MO.o.osv b e);rw [HB.o] at this;omega
   have P9:Hid (Has w9 r 51 (cH o ts sv fused left)):=(U9.o.block r P7.o.inside hsr).trans P7.o;have WU:Hid (Cg b (rwC ⟨dO,p,q,d,tm⟩) w9):=⟨(U9.o.block b JR.o.h.inside IP).trans JR.o.h⟩;obtain ⟨r5,xz⟩:=qX (w9.setCell ⟨r,2,none⟩ (.slice A9 n9 c9));have MP:Hid (Has r5 r 51 (cH o ts (.slice A9 n9 c9) fused left)):=by rw [<-xz.o];exact P9.o.put 2 _
   have SD10:Hid (Cg b (rwC ⟨dO,p,q,d,tm⟩) r5):=by rw [<-xz.o];exact ⟨WU.o.h.other hbr _⟩
   clear r9 e9 u9 o9 h0 hsr IP ht;go_wp2;refine qG (S:=Cg b (rwC ⟨dO,p,q,d,tm⟩)) (by kernel_rfl) (JR.o) (fun hS=>?_);generalize w7.drew=w8 at *;refine aG 0 ?_
   iterate 4
    refine qT rfl (by kernel_rfl) ‹_› (fun w a8=>by go_simp;with_reducible rfl) ?_;simp only [Act.put,aB,aA,aC,Nat.reduceAdd]
   refine aE ?_;refine' qL 5 rfl (by kernel_rfl) (aY (by rfl) 99 (.tmp 3) rfl b 0 rfl (rwC ⟨dO,p,q,d,tm⟩) (fun w a8=>Hd a8.h)) ‹_› ?_;simp only [Act.put,aB,aA,aC];refine qE 4 6 rfl rfl (by kernel_rfl) (fun K hK=>?_) fun K hK=>?_
   .
    have hc:=P7.o.at_ 2;go_simp;refine hK.o _ _ JR.o (fun hS=>?_);clear hK K;refine qD 6 rfl (by kernel_rfl) fun K hK=>?_
    refine rG (by rfl) (.tmp 99) rfl ⟨dO,p,q,d,tm⟩ rfl ?_;refine hK.o _ _ (JR.o.on (qB.alloc qN _)) (fun hS=>?_);clear hK K;refine qD 7 rfl (by kernel_rfl) fun K hK=>?_
    refine aH (by rfl) (.tmp 98) (.tmp 100) 49 49 rfl sv (.slice (some ⟨w8.heap.size,0,none⟩) 1 1) rfl rfl R9.o ?_;refine hK.o _ _ WU.o (fun hS=>?_);clear hK K;refine aG 8 ?_
    iterate 2
     refine qT rfl (by kernel_rfl) ‹_› (fun w a8=>by go_simp;with_reducible rfl) ?_;simp only [Act.put,aB,aA,aC,Nat.reduceAdd]
    refine aE ?_;refine qD 10 rfl (by kernel_rfl) fun K hK=>?_
    have V6:=P9.o.at_ 2;have J8:=P9.o.free 2;have N8:=xz.o;go_simp;refine hK.o _ _ SD10.o (fun hS=>?_);clear hK K V6 J8 N8;refine qM (by kernel_rfl) ?_;have c4:r5.cell? ⟨r,4,none⟩=some (.int .i64 left):=MP.o.at_ 4;have f4:=MP.o.free 4;have PL:Has (r5.setCell ⟨r,4,none⟩ (.int .i64 (wrap64 (left - 1)))) r 51 (cH o ts (.slice A9 n9 c9) fused (wrap64 (left - 1))):=MP.o.put 4 _;have WV:=hid PL;clear PL;go_wp2;go_ret;rw [HD.o];have u11:Turn (xL r) w9 (r5.setCell ⟨r,4,none⟩ (.int .i64 (wrap64 (left - 1)))):=by
     have e:=xz.o;subst e;exact (Turn.set (own:=xL r) w9 r 2 _ rfl).then (Turn.set _ r 4 _ rfl)
    have PM:=E9.o.aside P9.o u11;have u12:Turn (im r sv) w6 (r5.setCell ⟨r,4,none⟩ (.int .i64 (wrap64 (left - 1)))) :=
     ((U7.o.mono (fun g k=>.inl k)).then (U9.o.mono (fun g k=>.inr k))).then (u11.mono (fun g k=>.inl k))
    obtain ⟨own',i1,i2,i3⟩:=yy.o.done (M':=⟨rr.2,M.last,M.since++[x],f2,M.room⟩) (fun g hg=>MO.o.low g hg) HTF.o u12 WV.o PM (by
     rcases O9.o with k | ⟨g,k1,k2⟩
     . exact .inl k
     exact .inr ⟨g,k1,Nat.le_trans U7.o.size k2⟩) B6.o.size rfl rfl (by rw [<-HX.o]) rfl WD.o PK.o HRE.o K0.o
    exact ⟨rfl,own',⟨_,_,_,_,_,_,i1⟩,(Turn.of_below B6.o).then i2,i3⟩
   refine rG (by rfl) (.tmp 99) rfl ⟨dO,p,q,d,tm⟩ rfl ?_;refine hK.o _ _ (JR.o.on (qB.alloc qN _)) (fun hS=>?_);clear hK K;refine qD 4 rfl (by kernel_rfl) fun K hK=>?_
   have hc:=(P7.o.more (.cells (rwC ⟨dO,p,q,d,tm⟩) 99)).at_ 2;go_simp;refine hK.o _ _ (JR.o.on (qB.alloc qN _)) (fun hS=>?_);clear hK K;refine qD 7 rfl (by kernel_rfl) fun K hK=>?_
   refine aH (by rfl) (.tmp 98) (.tmp 100) 49 49 rfl sv (.slice (some ⟨w8.heap.size,0,none⟩) 1 1) rfl rfl R9.o ?_;refine hK.o _ _ WU.o (fun hS=>?_);clear hK K;refine aG 8 ?_
   iterate 2
    refine qT rfl (by kernel_rfl) ‹_› (fun w a8=>by go_simp;with_reducible rfl) ?_;simp only [Act.put,aB,aA,aC,Nat.reduceAdd]
   refine aE ?_;refine qD 10 rfl (by kernel_rfl) fun K hK=>?_
   have V6:=P9.o.at_ 2;have J8:=P9.o.free 2;have N8:=xz.o;go_simp;refine hK.o _ _ SD10.o (fun hS=>?_);clear hK K V6 J8 N8;refine qM (by kernel_rfl) ?_;have c4:r5.cell? ⟨r,4,none⟩=some (.int .i64 left):=MP.o.at_ 4;have f4:=MP.o.free 4;have PL:Has (r5.setCell ⟨r,4,none⟩ (.int .i64 (wrap64 (left - 1)))) r 51 (cH o ts (.slice A9 n9 c9) fused (wrap64 (left - 1))):=MP.o.put 4 _;have WV:=hid PL;clear PL;go_wp2;go_ret;rw [HD.o];have u11:Turn (xL r) w9 (r5.setCell ⟨r,4,none⟩ (.int .i64 (wrap64 (left - 1)))):=by
    have e:=xz.o;subst e;exact (Turn.set (own:=xL r) w9 r 2 _ rfl).then (Turn.set _ r 4 _ rfl)
   have PM:=E9.o.aside P9.o u11;have u12:Turn (im r sv) w6 (r5.setCell ⟨r,4,none⟩ (.int .i64 (wrap64 (left - 1)))) :=
    ((U7.o.mono (fun g k=>.inl k)).then (U9.o.mono (fun g k=>.inr k))).then (u11.mono (fun g k=>.inl k))
   obtain ⟨own',i1,i2,i3⟩:=yy.o.done (M':=⟨rr.2,M.last,M.since++[x],f2,M.room⟩) (fun g hg=>MO.o.low g hg) HTF.o u12 WV.o PM (by
    rcases O9.o with k | ⟨g,k1,k2⟩
    . exact .inl k
    exact .inr ⟨g,k1,Nat.le_trans U7.o.size k2⟩) B6.o.size rfl rfl (by rw [<-HX.o]) rfl WD.o PK.o HRE.o K0.o
   exact ⟨rfl,own',⟨_,_,_,_,_,_,i1⟩,(Turn.of_below B6.o).then i2,i3⟩
  have q0:(rr.1 != 0)=true:=by simpa using h0
  have HD:Hid (bL M x=(rr.1,M)):=by show _=_;unfold bL;rw [if_neg HF.o,C9.o,if_neg h0]
  clear h0;go_wp2;go_ret;rw [HD.o];exact ⟨rfl,RPost.refl H.o B6.o⟩
end Go.Proofs.YtahkcemdbfjilaaGreatDoor
