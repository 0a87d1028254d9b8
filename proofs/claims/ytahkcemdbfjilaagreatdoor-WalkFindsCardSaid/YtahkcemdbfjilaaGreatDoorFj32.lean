/- Texts. Conditions: as said. -/
import Derived.Test.YtahkcemdbfjilaaGreatDoorFj00
import Derived.Test.YtahkcemdbfjilaaGreatDoorFj31
set_option linter.all false
set_option maxRecDepth 100000
set_option maxHeartbeats 32000000
namespace Go.Proofs.YtahkcemdbfjilaaGreatDoor
open Go.RowKit Go.Maps
def tM {w wa wb:World} {va vb:Value} {xs:List By} (h1:StrR wa.heap.size w va xs) (h2:StrR wb.heap.size w vb xs) (hn:xs.length<=100000) :
 qC 16 #[va,vb] w fun e w'=>e=.returned (.bool true)/\qW w w':=by
 obtain ⟨A,c,g,rfl,k1⟩:=fW h1;obtain ⟨A',c',g',rfl,k2⟩:=fW h2;have C:=hid (Pe w A A' c c' g g' xs k1 k2 hn);obtain ⟨n,HN⟩:=qX (xs.length);rw [HN.o] at C ⊢;clear h1 h2 k1 k2;go_enter Tryz.func16,Tryz.ntmps16
 go_wp2_with fail
 refine C.o.mono ?_;rintro e1 w1 ⟨rfl,c8⟩;go_wp2;go_ret;exact ⟨rfl,c8⟩
def Vm {own:Nat->Prop} {w:World} {p:Nat} {M:Mo} (h:Dsk own w p M) (AY:DG M.now) (lo:Option (List By)) (qs:List By) (hi:∀p,igB lo p=nK qs p) (root:By):Jf (nK qs) M.now root=gC lo M.now root:=by
 unfold Jf gC;rw [Hf (yD h.good.w1 root) (AY.inR root),show igB lo=nK qs from funext hi]
structure jj (X:jD):Prop where
 len:X.items.length<=100000
 blk:∀x∈X.items,(hasN x.2).length<=100000
 ls:∀k,(lsOf X k).length<=100000
def Xy {own:Nat->Prop} {w:World} {p:Nat} {M:Mo} (h:Dsk own w p M) (AY:DG M.now) (lo:Option (List By)) (root:By):jj (gC lo M.now root):=by
 by_cases hc:fI M.now root=0
 .
  have hA:=ic h AY lo root hc;refine ⟨hA.len,fun x hx=>?_,hA.lens⟩;have hd:=hA.siz x hx;unfold hasN;split
  . rw [Lj]
    unfold gA;exact Nat.le_trans (Nat.div_le_self _ _) (by have hs:=fJ x.2.data.length;omega)
  simp
 unfold gC;rw [if_neg hc];refine ⟨Nat.zero_le _,fun x hx=>(by cases hx),fun k=>?_⟩;have:lsOf zL k=[]:=by unfold lsOf zL;simp
 rw [this];exact Nat.zero_le _
def Nz {A A2:Option Addr} {n n2 cap cap2 bb oe off off2:Nat} {xs:List bS} {fs:Glob.Fl} (w:World) (hI:mA w A n bb off xs) (hF:Glob.kI w A2 n2 oe off2 fs) (G7:∀f∈fs,f.1.length<=140737488351232/\f.2.length<=140737488351232) (hn:n<=maxLen) (AG:n2<=maxLen) (hG:Gd w) (hT:Sha.Tab w) (root:By) (un:root.length<=140737488355328)
 (HPQ:bG xs fs=false->∃(c:Int) (lo:Option (List By)) (qs:List By),qs.length<=64/\(∀s∈qs,Glob.perr s=0)/\(∀p,igB lo p=nK qs p) /\
   (∀W,qW w W->qC 11 #[.slice A2 n2 cap2,.string ⟨#[105]⟩] W fun e w'=>∃o,e=.returned (.tuple #[.pointer o,.int .i64 c])/\rL w' (.pointer o) lo/\qW W w') /\
   (∀W,qW w W->qC 12 #[.slice A2 n2 cap2,.string ⟨#[105]⟩] W fun e w'=>∃A' n' k',e=.returned (.tuple #[.slice A' n' k',.int .i64 c])/\Glob.Ar 0 w' (.slice A' n' k') qs/\qW W w')) :
 qC 3 #[.slice A n cap,kS root,.slice A2 n2 cap2] w fun e w'=>e=.returned (.bool true)/\qW w w':=by
 have CL:=hid (Qq (cap:=cap) (cap2:=cap2) w hI hF G7 hn AG);have HI:=hid hI;have HG:=hid hG;have HT:=hid hT;have HPZ:=hid HPQ;have GW:Hid (∀W,qW w W->Gd W/\Sha.Tab W):=fun W hb=>⟨HG.o.kept hb,HT.o.kept hb HG.o.pos⟩
 have CA:Hid (∀W,qW w W->qC 9 #[] W fun e w'=>e=.returned (.bool true)/\qW W w'):=fun W hb=>Of W (HG.o.kept hb) (HT.o.kept hb HG.o.pos)
 have zr:(ba root).size=root.length:=aD root;obtain ⟨lg,HL⟩:=qX (bG xs fs);rw [HL.o] at CL;clear hI hF G7 HPQ hG hT;go_enter Tryz.func3,Tryz.ntmps3
 go_wp2_with fail
 refine CL.o.mono ?_;rintro e1 w1 ⟨rfl,c8⟩;have B1:=hid c8;clear c8
 cases lg with
 | true =>
  go_wp2_with fail
  refine (CA.o _ B1.o).mono ?_;rintro e2 w2 ⟨rfl,a9⟩;go_wp2;go_ret;exact ⟨rfl,B1.o.trans (a9.mono B1.o.size)⟩
 | false =>
  by_cases h400:400 < root.length
  .
   have g4:(400:Int) < (root.length:Int):=by omega
   go_wp2_with fail
   refine (CA.o _ B1.o).mono ?_;rintro e2 w2 ⟨rfl,a9⟩;go_wp2;go_ret;exact ⟨rfl,B1.o.trans (a9.mono B1.o.size)⟩
  have g4:¬(400:Int) < (root.length:Int):=by omega
  have MS:Hid (root.length<=4000):=by show _<=_;omega
  obtain ⟨hx1,YH,hx3,_⟩:=uM HL.o;have CM:=hid (Dl (cap:=cap) w1 (HI.o.on B1.o) (HG.o.kept B1.o) (by have:=HI.o.len;omega) hx3);have MI:=hid (DG.made xs);obtain ⟨M,HM⟩:=qX (cN xs);rw [HM.o] at CM MI;obtain ⟨c,lo,qs,FS,hq2,hq3,hq4,hq5⟩:=HPZ.o HL.o;have Q1:=hid FS;have Q2:=hid hq2;have Q3:=hid hq3;have CP:=hid hq4;have CQ:=hid hq5;clear hx1 YH hx3 h400 FS hq2 hq3 hq4 hq5;go_wp2_with fail
  refine CM.o.mono ?_;rintro e2 w2 ⟨p,q0,rfl,zk⟩;have L2:=hid (zk.ahead B1.o);clear zk;go_wp2_with fail
  refine (CP.o w2 L2.o.bl).mono ?_;rintro e3 w3 ⟨o,rfl,hlst,i7⟩;have L3:=hid (L2.o.on i7);have LS3:=hid hlst;clear hlst i7;go_wp2_with fail
  refine (CQ.o w3 L3.o.bl).mono ?_;rintro e4 w4 ⟨pA,pn,pk,rfl,M8,x8⟩;have L4:=hid (L3.o.on x8);have LS4:=hid (LS3.o.on x8);have AR4:=hid M8;obtain ⟨own4,UF⟩:=L4.o.headD;have C5:=hid (Ec UF (GW.o _ L4.o.bl).1 (GW.o _ L4.o.bl).2 MI.o root (.pointer o) lo LS4.o);have HIS:=hid (Vm UF MI.o lo qs Q3.o root);have L0:=hid (Xy UF MI.o lo root);obtain ⟨rc,HC⟩:=qX (fI M.now root);obtain ⟨X,HX⟩:=qX (gC lo M.now root);rw [HC.o,HX.o] at C5;rw [HX.o] at HIS L0;clear M8 x8 UF;go_wp2_with fail
  refine C5.o.mono ?_;rintro e5 w5 ⟨vi,vs,rfl,hR,hS,z6⟩;have L5:=hid (L4.o.on z6);have AR5:=hid (Glob.own_below AR4.o z6);obtain ⟨A0,c0,rfl⟩:=hR.form;obtain ⟨A1,c1,f1⟩:=(hS 1 (by omega) (by omega)).form;obtain ⟨A2x,c2,f2⟩:=(hS 2 (by omega) (by omega)).form;obtain ⟨A3,c3,f3⟩:=(hS 3 (by omega) (by omega)).form;have s1:=hS 1 (by omega) (by omega);have s2:=hS 2 (by omega) (by omega);have s3:=hS 3 (by omega) (by omega);rw [f1] at s1;rw [f2] at s2;rw [f3] at s3;rw [f1,f2,f3];have S1:=hid s1;have S2:=hid s2;have S3:=hid s3;obtain ⟨psx,LG,YX⟩:=hR;obtain ⟨nx,M6⟩:=qX (X.items.length);obtain ⟨n1,wy⟩:=qX ((lsOf X 1).length);obtain ⟨n2x,G9⟩:=qX ((lsOf X 2).length);obtain ⟨n3,ME⟩:=qX ((lsOf X 3).length);rw [M6.o] at YX ⊢;rw [wy.o] at S1 ⊢;rw [G9.o] at S2 ⊢;rw [ME.o] at S3 ⊢;have PX:=hid YX;have PSX:=hid LG;have LX:Hid (psx.length=nx):=by show _=_;rw [<-M6.o,<-LG,List.length_map]
  clear z6 hS f1 f2 f3 s1 s2 s3 YX LG;obtain ⟨w6,uk⟩:=qY (w5.alloc (.cells #[.slice A0 nx c0,.slice A1 n1 c1,.slice A2x n2x c2,.slice A3 n3 c3] 39));have b6:qW w5 w6:=uk▸qB.alloc qN _;have F6:Hid (Has w6 w5.heap.size 39 #[.slice A0 nx c0,.slice A1 n1 c1,.slice A2x n2x c2,.slice A3 n3 c3]):=by rw [<-uk];exact Has.fresh _ _ _
  have L6:=hid (L5.o.on b6);have B56:=hid b6;obtain ⟨own6,hR6,_⟩:=L6.o.swap.headR;have C7:=hid (Se hR6 MI.o (Nat.lt_of_lt_of_le HG.o.pos L6.o.bl.size) root MS.o (Glob.own_below AR5.o b6) Q1.o Q2.o);rw [HC.o,HIS.o] at C7;clear b6 hR6;go_wp2_with fail
  try rw [uk]
  refine C7.o.mono ?_;rintro e7 w7 ⟨vj,vt,rfl,hR,hS,z4⟩;have L7:=hid (L6.o.on z4);have F7:=hid (F6.o.kept z4 F6.o.inside);obtain ⟨D0,d0,rfl⟩:=hR.form;obtain ⟨D1,d1,f1⟩:=(hS 1 (by omega) (by omega)).form;obtain ⟨D2,d2,f2⟩:=(hS 2 (by omega) (by omega)).form;obtain ⟨D3,d3,f3⟩:=(hS 3 (by omega) (by omega)).form;have s1:=hS 1 (by omega) (by omega);have s2:=hS 2 (by omega) (by omega);have s3:=hS 3 (by omega) (by omega);rw [f1] at s1;rw [f2] at s2;rw [f3] at s3;rw [f1,f2,f3];have T1:=hid s1;have T2:=hid s2;have T3:=hid s3;obtain ⟨psy,hpsy,YY⟩:=hR;rw [M6.o] at YY ⊢;rw [wy.o] at T1 ⊢;rw [G9.o] at T2 ⊢;rw [ME.o] at T3 ⊢;have PY:=hid YY;have PSY:=hid hpsy;have B57:Hid (qW w5 w7):=B56.o.trans (z4.mono B56.o.size);clear z4 hS f1 f2 f3 s1 s2 s3 YY hpsy uk;obtain ⟨w8,ul⟩:=qY (w7.alloc (.cells #[.slice D0 nx d0,.slice D1 n1 d1,.slice D2 n2x d2,.slice D3 n3 d3] 42));have b8:qW w7 w8:=ul▸qB.alloc qN _;have G8:Hid (Has w8 w7.heap.size 42 #[.slice D0 nx d0,.slice D1 n1 d1,.slice D2 n2x d2,.slice D3 n3 d3]):=by rw [<-ul];exact Has.fresh _ _ _
  have F8:=hid (F7.o.kept b8 F7.o.inside);have L8:=hid (L7.o.on b8);have B58:Hid (qW w5 w8):=B57.o.trans (b8.mono B57.o.size);have B78:=hid b8;have KX:Hid (∀V,qW w8 V->Kq w5 V):=fun V hV=>Kq.of_below (B58.o.trans (hV.mono B58.o.size))
  have KY:Hid (∀V,qW w8 V->Kq w7 V):=fun V hV=>Kq.of_below (B78.o.trans (hV.mono B78.o.size))
  have CLI:Hid (qC 15 #[.slice A0 nx c0,.slice D0 nx d0] w8 fun e w'=>e=.returned (.bool true)/\qW w8 w') :=
   It (PX.o.kq4 (KX.o _ qB)) (PY.o.kq4 (KY.o _ qB)) LX.o (by rw [PSX.o,PSY.o]) (by rw [<-M6.o];exact L0.o.len) (fun z hz=>L0.o.blk _ (by rw [<-PSX.o];exact List.mem_map_of_mem hz))
  have CS1:Hid (∀V,qW w8 V->qC 16 #[.slice A1 n1 c1,.slice D1 n1 d1] V fun e w'=>e=.returned (.bool true)/\qW V w'):=fun V hV=>tM (S1.o.kq (KX.o V hV)) (T1.o.kq (KY.o V hV)) (L0.o.ls 1)
  have CS2:Hid (∀V,qW w8 V->qC 16 #[.slice A2x n2x c2,.slice D2 n2x d2] V fun e w'=>e=.returned (.bool true)/\qW V w'):=fun V hV=>tM (S2.o.kq (KX.o V hV)) (T2.o.kq (KY.o V hV)) (L0.o.ls 2)
  have CS3:Hid (∀V,qW w8 V->qC 16 #[.slice A3 n3 c3,.slice D3 n3 d3] V fun e w'=>e=.returned (.bool true)/\qW V w'):=fun V hV=>tM (S3.o.kq (KX.o V hV)) (T3.o.kq (KY.o V hV)) (L0.o.ls 3)
  have FC:Hid (∀V,qW w8 V->Has V w5.heap.size 39 #[.slice A0 nx c0,.slice A1 n1 c1,.slice A2x n2x c2,.slice A3 n3 c3]/\Has V w7.heap.size 42 #[.slice D0 nx d0,.slice D1 n1 d1,.slice D2 n2x d2,.slice D3 n3 d3]):=fun V hV=>⟨F8.o.kept hV F8.o.inside,G8.o.kept hV G8.o.inside⟩
  have x0:=F8.o.at_ 0;have y0:=G8.o.at_ 0;clear b8;go_wp2_with fail
  try rw [ul]
  refine CLI.o.mono ?_;rintro e9 w9 ⟨rfl,x7⟩;have B9:=hid x7;have x1:=(FC.o _ x7).1.at_ 1;have y1:=(FC.o _ x7).2.at_ 1;clear x7 x0 y0 ul;go_wp2_with fail
  refine (CS1.o _ B9.o).mono ?_;rintro e10 r5 ⟨rfl,hb10⟩;have RA:Hid (qW w8 r5):=B9.o.trans (hb10.mono B9.o.size);have x2:=(FC.o _ RA.o).1.at_ 2;have y2:=(FC.o _ RA.o).2.at_ 2;clear hb10 x1 y1;go_wp2_with fail
  refine (CS2.o _ RA.o).mono ?_;rintro PM pw ⟨rfl,hb11⟩;have RC:Hid (qW w8 pw):=RA.o.trans (hb11.mono RA.o.size);have x3:=(FC.o _ RC.o).1.at_ 3;have y3:=(FC.o _ RC.o).2.at_ 3;clear hb11 x2 y2;go_wp2_with fail
  refine (CS3.o _ RC.o).mono ?_;rintro e12 BN ⟨rfl,th⟩;have B12:Hid (qW w8 BN):=RC.o.trans (th.mono RC.o.size);have L12:=hid (L8.o.on B12.o);obtain ⟨wf,N0⟩:=qY (BN.drew);have bf:qW BN wf:=N0▸qB.drew;have LF:=hid (L12.o.on bf);obtain ⟨ownR,hR9,_⟩:=LF.o.swap.headR;obtain ⟨tl,ts,sv,es,fused,left,LH⟩:=hR9;have HUB:Hid (usedL M.now<=1000000000):=by have h1:=LH.good.good.w1.used;have h2:=LH.r1;show _<=_;omega
  have TR9:=hid (LH.t1.tree);have BR:=hid LH.has;have DH:es.length=M.since.length:=by rw [<-LH.effs,List.length_map]
  obtain ⟨Av,cv,zf⟩:∃A c,sv=.slice A M.since.length c:=by
   rcases LH.row.2 with ⟨e1,e2⟩ | ⟨g,c,cur,e1,_⟩
   . exact ⟨none,0,by rw [e1,<-DH,e2]⟩
   exact ⟨some ⟨g,0,none⟩,c,by rw [e1,DH]⟩
  subst zf;obtain ⟨ns,HNS⟩:=qX (M.since.length);obtain ⟨us,RV⟩:=qX (usedL M.now);rw [HNS.o] at BR;have SW:Hid (∀V,qW wf V->V.cell? ⟨q0,0,none⟩=some (.pointer (some ⟨tl,0,none⟩))/\V.cell? ⟨q0,2,none⟩=some (.slice Av ns cv)):=fun V hV=>⟨(BR.o.kept hV BR.o.inside).at_ 0,(BR.o.kept hV BR.o.inside).at_ 2⟩
  have CU:Hid (∀V,qW wf V->qC 17 #[.pointer (some ⟨p,0,none⟩)] V fun e w'=>e=.returned (.int .i64 ((us:Nat):Int))/\V=w'):=fun V hV=>by
   obtain ⟨ownD,YZ⟩:=(LF.o.on hV).headD;have:=Qm YZ;rw [RV.o] at this;exact this
  have CPE:Hid (∀V,qW wf V->qC 19 #[.pointer (some ⟨p,0,none⟩)] V fun e w'=>e=.returned (.int .i64 ((ns:Nat):Int))/\V=w'):=fun V hV=>by
   obtain ⟨ownD,YZ⟩:=(LF.o.on hV).headD;have:=Em YZ;rw [HNS.o] at this;exact this
  have CRU:Hid (∀V,qW wf V->qC 18 #[.pointer (some ⟨tl,0,none⟩)] V fun e w'=>e=.returned (.int .i64 ((us:Nat):Int))/\V=w'):=fun V hV=>by
   have:=nX (TR9.o.on hV) HUB.o;rw [RV.o] at this;exact this
  have KZ:Hid (qW w wf):=LF.o.bl;clear th x3 y3 bf LH DH;go_wp2;refine qG (S:=fun V=>V.cell? ⟨q0,0,none⟩=some (.pointer (some ⟨tl,0,none⟩))/\V.cell? ⟨q0,2,none⟩=some (.slice Av ns cv)) (by kernel_rfl) (by rw [N0];exact SW.o _ qB) (fun hS=>?_);clear hS;rw [N0];have l7:=SW.o _ qB;refine qK 0 rfl (by kernel_rfl) ‹_› (fun w a8=>by obtain ⟨s1,s2⟩:=a8;go_simp;with_reducible rfl) ?_;simp only [Act.put,aB,aA,aC];refine aG 2 ?_
  iterate 4
   refine qT rfl (by kernel_rfl) ‹_› (fun w a8=>by obtain ⟨s1,s2⟩:=a8;go_simp;with_reducible rfl) ?_;simp only [Act.put,aB,aA,aC,Nat.reduceAdd]
  refine aE ?_;refine qD 1 rfl (by kernel_rfl) fun K hK=>?_
  go_simp;refine (CU.o _ qB).mono ?_;rintro e9 w9x ⟨rfl,rfl⟩;refine hK.o _ _ l7 (fun hS=>?_);clear hK K hS;refine qD 6 rfl (by kernel_rfl) fun K hK=>?_
  go_simp;refine (CRU.o _ qB).mono ?_;rintro e9 w9x ⟨rfl,rfl⟩;refine hK.o _ _ l7 (fun hS=>?_);clear hK K hS;refine aG 7 ?_
  iterate 3
   refine qT rfl (by kernel_rfl) ‹_› (fun w a8=>by obtain ⟨s1,s2⟩:=a8;go_simp;with_reducible rfl) ?_;simp only [Act.put,aB,aA,aC,Nat.reduceAdd]
  refine aE ?_;refine aG 11 ?_
  iterate 5
   refine qT rfl (by kernel_rfl) ‹_› (fun w a8=>by obtain ⟨s1,s2⟩:=a8;go_simp;with_reducible rfl) ?_;simp only [Act.put,aB,aA,aC,Nat.reduceAdd]
  refine aE ?_;refine qD 10 rfl (by kernel_rfl) fun K hK=>?_
  go_simp;refine (CPE.o _ qB).mono ?_;rintro e9 w9x ⟨rfl,rfl⟩;refine hK.o _ _ l7 (fun hS=>?_);clear hK K hS;refine aG 16 ?_
  iterate 3
   refine qT rfl (by kernel_rfl) ‹_› (fun w a8=>by obtain ⟨s1,s2⟩:=a8;go_simp;with_reducible rfl) ?_;simp only [Act.put,aB,aA,aC,Nat.reduceAdd]
  refine aE ?_;refine qD 19 rfl (by kernel_rfl) fun K hK=>?_
  go_simp;clear l7;refine (CA.o _ KZ.o).mono ?_;rintro e9 we ⟨rfl,GZ⟩;have BE:=hid GZ;have l7:=SW.o _ GZ;clear GZ;refine hK.o _ _ l7 (fun hS=>?_);clear hK K hS;refine aG 20 ?_
  iterate 2
   refine qT rfl (by kernel_rfl) ‹_› (fun w a8=>by obtain ⟨s1,s2⟩:=a8;go_simp;with_reducible rfl) ?_;simp only [Act.put,aB,aA,aC,Nat.reduceAdd]
  refine aE ?_;clear l7;refine qM (by kernel_rfl) ?_;go_wp2;go_ret;exact ⟨rfl,KZ.o.trans (BE.o.mono KZ.o.size)⟩
end Go.Proofs.YtahkcemdbfjilaaGreatDoor
