/- Texts. Conditions: as said. -/
import Derived.Test.YtahkcemdbfjilaaGreatDoorFj00
import Derived.Test.YtahkcemdbfjilaaGreatDoorFj08
set_option linter.all false
set_option maxRecDepth 100000
set_option maxHeartbeats 32000000
namespace Go.Proofs.YtahkcemdbfjilaaGreatDoor
open Go.RowKit Go.Maps
def cW (done:Bool) (p:By) (n:Nd) (R:Tr):Tr:=if done then del R p else bA p n R
def zU (p:By) (n:Nd) (x:At) (R:Tr):cW true p n (x :: R)=if x.1=p then cW true p n R else x :: cW true p n R:=Vs x R p
def Wh (p:By) (n:Nd) (x:At) (R:Tr) (h:cmpL p x.1<=0):cW false p n (x :: R)=(p,n) :: cW true p n (x :: R):=by
 obtain ⟨q,m⟩:=x;show bA p n ((q,m) :: R)=(p,n) :: del ((q,m) :: R) p
 rw [bA,if_pos h]
def Pf (p:By) (n:Nd) (x:At) (R:Tr) (h:¬cmpL p x.1<=0):cW false p n (x :: R)=x :: cW false p n R:=by
 obtain ⟨q,m⟩:=x;show bA p n ((q,m) :: R)=(q,m) :: bA p n R
 rw [bA,if_neg h]
def gm {p q:By} (h:¬cmpL p q<=0):q≠p:=by rintro rfl;rw [fE] at h;exact h (Int.le_refl 0)
def tA {w:World} {t:Nat} {L:Tr} {room:Nat} (h:TreeR w t L room) (p:By) (nk:Int) (nd nt:By) (nm:Int) (hp:p.length<=4000) (hl:L.length<=99990) (IU:∀x∈L,x.1.length<=4000) :
 qC 133 #[.pointer (some ⟨t,0,none⟩),kS p,.agg (dU nk nd nt nm)] w fun e w'=>Mx w (bA p ⟨nk,nd,nt,nm⟩ L) room e w':=by
 have ur:qW w (w.alloc (.cells (dU nk nd nt nm) 71)):=qB.alloc qN _;have BX:=hid ur;obtain ⟨A,n,c,FX⟩:=h.view;have hv:=FX.on ur;have c1:=hv.c1;have xh:=hid hv.c0;have HL:=hid hv.len;have HR:=hid hv.row;have vp:=hid (block_lt_of_cell (a:=⟨t,0,none⟩) hv.c0);have hn:n<=99990:=by rw [<-hv.len];exact hl
 have vq:=hid IU;have HP:=hid hp;have NB:Hid (Has (w.alloc (.cells (dU nk nd nt nm) 71)) w.heap.size 71 (dU nk nd nt nm)):=Has.fresh _ _ _;have O0:=hid (cP.start (w.alloc (.cells (dU nk nd nt nm) 71)) room);obtain ⟨w0,DM⟩:=qX (w.alloc (.cells (dU nk nd nt nm) 71));have yl:Hid (w0.heap.size=w.heap.size+1):=by show _=_;rw [<-DM.o];simp
 rw [DM.o] at BX xh HR vp NB O0 c1;clear h hv FX hl ur IU hp;go_enter Tryz.func133,Tryz.ntmps133
 have LN:=DM.o;go_wp2;clear c1 LN;go_loopw [8,9] (fun v8 v9 wr=>∃(k:Nat) (done:Bool) (A':Option Addr) (c' m:Nat) (K:Tr),v8=.bool done/\v9=.int .i64 (k:Int)/\k<=n/\Hid (m<=k+(if done then 1 else 0))/\Hid (cP w0 wr w0.heap.size room K (.slice A' m c'))/\Hid (K.length=m)/\Hid (K++cW done p ⟨nk,nd,nt,nm⟩ (L.drop k)=bA p ⟨nk,nd,nt,nm⟩ L)) (fun _ v9 _=>n - (intOf v9).toNat)
 case atStart=>exact ⟨0,false,none,0,0,[],rfl,rfl,by omega,(show 0<=0+0 by omega),O0.o,rfl,rfl⟩
 obtain ⟨k,done,A',c',m,K,rfl,rfl,hk,VB,J,HM,HK⟩:=hrel;have c0:wr.cell? ⟨t,0,none⟩=some (.slice A n c):=(J.o.bl.cell (p:=⟨t,0,none⟩) vp.o).trans xh.o;by_cases d8:k < n
 .
  have hA9:=HR.o (by omega);obtain ⟨g,hA,I9⟩:=hA9;subst hA;have o3:k < L.length:=by rw [HL.o];exact d8
  have ha:=I9 k d8;obtain ⟨x,hx⟩:∃x,x=L.getD k at0:=⟨_,rfl⟩;rw [<-hx] at ha;have HX:=hid hx;have HT:=hid ha;have HKL:=hid o3;have ni:(k:Int) < (n:Int):=by omega
  have h0:(0:Int)<=(k:Int):=by omega
  have w1:IntKind.i64.wrap ((k:Int)+1)=(k:Int)+1:=aM _ (by omega) (by omega);have d0:wr.cell? ⟨g,k*5,none⟩=some (kS x.1):=(ha.on J.o.bl).c0;have VC:Hid (L.drop k=x :: L.drop (k+1)):=by show _=_;rw [Qn o3,<-HX.o]
  have CC:Hid (∀W,qC 176 #[kS p,kS x.1] W fun e w'=>e=.returned (.int .i64 (cmpL p x.1))/\W=w'):=fun W=>by
   have IN:=vq.o x (by rw [hx];exact fg o3);have:=Rf.Xr (ba p) (ba x.1) W (by rw [aD];have:=HP.o;omega) (by rw [aD];omega);rw [aQ,aQ] at this;exact this
  have RX:Hid (rM t (some ⟨g,0,none⟩) n c g k x w0):=⟨xh.o,HT.o⟩;clear hx ha o3 I9
  cases done with
  | true =>
   have NY:m<=k+1:=VB.o;have ut:Hid (K++(if x.1=p then cW true p ⟨nk,nd,nt,nm⟩ (L.drop (k+1)) else x :: cW true p ⟨nk,nd,nt,nm⟩ (L.drop (k+1)))=bA p ⟨nk,nd,nt,nm⟩ L):=by
    show _=_;rw [<-zU,<-VC.o];exact HK.o
   by_cases Q7:x.1=p
   .
    have q:((ba x.1).toList == (ba p).toList)=true:=by rw [rJ,decide_eq_true Q7]
    have q2:((ba x.1).toList != (ba p).toList)=false:=by rw [bne,q];rfl
    have G9:Hid (K++cW true p ⟨nk,nd,nt,nm⟩ (L.drop (k+1))=bA p ⟨nk,nd,nt,nm⟩ L):=by have:=ut.o;rw [if_pos Q7] at this;exact this
    clear Q7;go_wp2;go_roundw
    case rel=>exact ⟨k+1,true,A',c',m,K,rfl,by go_num,by omega,(show m<=k+1+1 by omega),J.o,HM.o,G9.o⟩
    case measure=>simp [intOf];omega
   have q:((ba x.1).toList == (ba p).toList)=false:=by rw [rJ,decide_eq_false Q7]
   have q2:((ba x.1).toList != (ba p).toList)=true:=by rw [bne,q];rfl
   have G9:Hid ((K++[x])++cW true p ⟨nk,nd,nt,nm⟩ (L.drop (k+1))=bA p ⟨nk,nd,nt,nm⟩ L):=by have:=ut.o;rw [if_neg Q7] at this;show _=_;rw [List.append_assoc];exact this
   have nq:=RX;clear Q7;obtain ⟨v5,w5,i6,px,AA,z6,A5,c5,I6⟩:=J.o.drew.app x (by rw [HM.o];omega);subst I6;have R5:=hid i6;have O5:=hid px;have H5:=hid AA;have B5:=hid z6;have nu:Hid (rM t (some ⟨g,0,none⟩) n c g k x wr.drew):=nq.o.on J.o.bl.drew;have OD:=hid J.o.drew;clear i6 px AA z6;go_wp2;refine qG (S:=rM t (some ⟨g,0,none⟩) n c g k x) (by kernel_rfl) (nu.o) (fun hS=>?_);generalize wr.drew=w3 at *;refine aG 0 ?_
   iterate 4
    refine qT rfl (by kernel_rfl) ‹_› (fun w a8=>by go_simp;with_reducible rfl) ?_;simp only [Act.put,aB,aA,aC,Nat.reduceAdd]
   refine aE ?_;refine aG 5 ?_
   iterate 3
    refine qT rfl (by kernel_rfl) ‹_› (fun w a8=>by go_simp;with_reducible rfl) ?_;simp only [Act.put,aB,aA,aC,Nat.reduceAdd]
   refine aE ?_;refine qK 8 rfl (by kernel_rfl) ‹_› (fun w a8=>by have hc:=a8.c0;go_simp;with_reducible rfl) ?_;simp only [Act.put,aB,aA,aC];refine aG 9 ?_
   iterate 2
    refine qT rfl (by kernel_rfl) ‹_› (fun w a8=>by go_simp;with_reducible rfl) ?_;simp only [Act.put,aB,aA,aC,Nat.reduceAdd]
   refine aE ?_;refine' qL 11 rfl (by kernel_rfl) (aY (by rfl) 73 (.tmp 72) rfl g (k*5) rfl (atCells x) (fun w a8=>a8.at_.load)) ‹_› ?_;simp only [Act.put,aB,aA,aC];refine qE 4 12 rfl rfl (by kernel_rfl) (fun K hK=>?_) fun K hK=>?_
   .
    have hc:=OD.o.has.at_ 0;go_simp;refine hK.o _ _ nu.o (fun hS=>?_);clear hK K;refine qD 12 rfl (by kernel_rfl) fun K hK=>?_
    refine bF (by rfl) (.tmp 73) rfl x rfl ?_;refine hK.o _ _ (nu.o.on (qB.alloc qN _)) (fun hS=>?_);clear hK K;refine qD 13 rfl (by kernel_rfl) fun K hK=>?_
    refine aH (by rfl) (.tmp 66) (.tmp 74) 64 64 rfl (.slice A' m c') (.slice (some ⟨w3.heap.size,0,none⟩) 1 1) rfl rfl R5.o ?_;refine hK.o _ _ (nq.o.on B5.o) (fun hS=>?_);clear hK K;refine aG 14 ?_
    iterate 2
     refine qT rfl (by kernel_rfl) ‹_› (fun w a8=>by go_simp;with_reducible rfl) ?_;simp only [Act.put,aB,aA,aC,Nat.reduceAdd]
    refine aE ?_;refine qD 16 rfl (by kernel_rfl) fun K hK=>?_
    have V6:=H5.o.at_ 0;have J8:=H5.o.free 0;go_simp;refine hK.o _ _ (nq.o.on O5.o.bl) (fun hS=>?_);clear hK K V6 J8;refine qM (by kernel_rfl) ?_;go_wp2;go_roundw
    case rel =>
     refine ⟨k+1,true,A5,c5,m+1,K++[x],rfl,by go_num,by omega,(show m+1<=k+1+1 by omega),?_,?_,G9.o⟩
     . rw [<-HM.o];exact O5.o
     show _=_;rw [List.length_append,HM.o];rfl
    case measure=>simp [intOf];omega
   refine bF (by rfl) (.tmp 73) rfl x rfl ?_;refine hK.o _ _ (nu.o.on (qB.alloc qN _)) (fun hS=>?_);clear hK K;refine qD 4 rfl (by kernel_rfl) fun K hK=>?_
   have hc:=(OD.o.has.more (.cells (atCells x) 73)).at_ 0;go_simp;refine hK.o _ _ (nu.o.on (qB.alloc qN _)) (fun hS=>?_);clear hK K;refine qD 13 rfl (by kernel_rfl) fun K hK=>?_
   refine aH (by rfl) (.tmp 66) (.tmp 74) 64 64 rfl (.slice A' m c') (.slice (some ⟨w3.heap.size,0,none⟩) 1 1) rfl rfl R5.o ?_;refine hK.o _ _ (nq.o.on B5.o) (fun hS=>?_);clear hK K;refine aG 14 ?_
   iterate 2
    refine qT rfl (by kernel_rfl) ‹_› (fun w a8=>by go_simp;with_reducible rfl) ?_;simp only [Act.put,aB,aA,aC,Nat.reduceAdd]
   refine aE ?_;refine qD 16 rfl (by kernel_rfl) fun K hK=>?_
   have V6:=H5.o.at_ 0;have J8:=H5.o.free 0;go_simp;refine hK.o _ _ (nq.o.on O5.o.bl) (fun hS=>?_);clear hK K V6 J8;refine qM (by kernel_rfl) ?_;go_wp2;go_roundw
   case rel =>
    refine ⟨k+1,true,A5,c5,m+1,K++[x],rfl,by go_num,by omega,(show m+1<=k+1+1 by omega),?_,?_,G9.o⟩
    . rw [<-HM.o];exact O5.o
    show _=_;rw [List.length_append,HM.o];rfl
   case measure=>simp [intOf];omega
  | false =>
   have NY:m<=k:=VB.o;by_cases hc:cmpL p x.1<=0
   .
    have ut:Hid ((K++[(p,⟨nk,nd,nt,nm⟩)])++(if x.1=p then cW true p ⟨nk,nd,nt,nm⟩ (L.drop (k+1)) else x :: cW true p ⟨nk,nd,nt,nm⟩ (L.drop (k+1)))=bA p ⟨nk,nd,nt,nm⟩ L):=by
     show _=_;rw [<-zU,List.append_assoc,List.singleton_append,<-Wh p _ x _ hc,<-VC.o];exact HK.o
    go_wp2_with fail
    refine (CC.o _).mono ?_;rintro e8 w8 ⟨rfl,rfl⟩;have nq:Hid (wJ w.heap.size (dU nk nd nt nm) w0):=⟨NB.o⟩;obtain ⟨v5,w5,i6,px,AA,z6,A5,c5,I6⟩:=J.o.drew.app (p,⟨nk,nd,nt,nm⟩) (by rw [HM.o];omega);subst I6;have R5:=hid i6;have O5:=hid px;have H5:=hid AA;have B5:=hid z6;have nu:Hid (wJ w.heap.size (dU nk nd nt nm) wr.drew):=nq.o.on J.o.bl.drew;have OD:=hid J.o.drew;clear i6 px AA z6;go_wp2;refine qG (S:=wJ w.heap.size (dU nk nd nt nm)) (by kernel_rfl) (nu.o) (fun hS=>?_);generalize wr.drew=w3 at *;refine aG 0 ?_
    iterate 4
     refine qT rfl (by kernel_rfl) ‹_› (fun w a8=>by go_simp;with_reducible rfl) ?_;simp only [Act.put,aB,aA,aC,Nat.reduceAdd]
    refine aE ?_;refine qK 5 rfl (by kernel_rfl) ‹_› (fun w a8=>by go_simp;with_reducible rfl) ?_;simp only [Act.put,aB,aA,aC];refine' qL 6 rfl (by kernel_rfl) (aY (by rfl) 71 (.tmp 5) rfl w.heap.size 0 rfl (dU nk nd nt nm) (fun w a8=>eB a8.h)) ‹_› ?_;simp only [Act.put,aB,aA,aC];refine qK 7 rfl (by kernel_rfl) ‹_› (fun w a8=>by go_simp;with_reducible rfl) ?_;simp only [Act.put,aB,aA,aC];refine qE 4 8 rfl rfl (by kernel_rfl) (fun K hK=>?_) fun K hK=>?_
    .
     have hc:=OD.o.has.at_ 0;go_simp;refine hK.o _ _ nu.o (fun hS=>?_);clear hK K;refine qD 8 rfl (by kernel_rfl) fun K hK=>?_
     refine bF (by rfl) (.tmp 47) rfl (p,⟨nk,nd,nt,nm⟩) rfl ?_;refine hK.o _ _ (nu.o.on (qB.alloc qN _)) (fun hS=>?_);clear hK K;refine qD 9 rfl (by kernel_rfl) fun K hK=>?_
     refine aH (by rfl) (.tmp 44) (.tmp 48) 64 64 rfl (.slice A' m c') (.slice (some ⟨w3.heap.size,0,none⟩) 1 1) rfl rfl R5.o ?_;refine hK.o _ _ (nq.o.on B5.o) (fun hS=>?_);clear hK K;refine aG 10 ?_
     iterate 2
      refine qT rfl (by kernel_rfl) ‹_› (fun w a8=>by go_simp;with_reducible rfl) ?_;simp only [Act.put,aB,aA,aC,Nat.reduceAdd]
     refine aE ?_;refine qD 12 rfl (by kernel_rfl) fun K hK=>?_
     have V6:=H5.o.at_ 0;have J8:=H5.o.free 0;go_simp;refine hK.o _ _ (nq.o.on O5.o.bl) (fun hS=>?_);clear hK K V6 J8;refine qM (by kernel_rfl) ?_;obtain ⟨wq,OK⟩:=qX (w5.setCell ⟨w0.heap.size,0,none⟩ (.slice A5 (K.length+1) c5));have J6:Hid (cP w0 wq w0.heap.size room (K++[(p,⟨nk,nd,nt,nm⟩)]) (.slice A5 (m+1) c5)):=by have:=O5.o;rw [OK.o,HM.o] at this;exact this
     have uu:Hid ((K++[(p,(⟨nk,nd,nt,nm⟩:Nd))]).length=m+1):=by show _=_;rw [List.length_append,HM.o];rfl
     rw [OK.o];obtain ⟨K6,VD⟩:=qX (K++[(p,(⟨nk,nd,nt,nm⟩:Nd))]);have P6:=ut.o;rw [VD.o] at J6 uu P6;have c0q:wq.cell? ⟨t,0,none⟩=some (.slice (some ⟨g,0,none⟩) n c):=(J6.o.bl.cell (p:=⟨t,0,none⟩) vp.o).trans xh.o;have d0q:wq.cell? ⟨g,k*5,none⟩=some (kS x.1):=(HT.o.on J6.o.bl).c0;clear c0 d0;by_cases Q7:x.1=p
     . have q:((ba x.1).toList == (ba p).toList)=true:=by rw [rJ,decide_eq_true Q7]
       have q2:((ba x.1).toList != (ba p).toList)=false:=by rw [bne,q];rfl
       have G9:Hid (K6++cW true p ⟨nk,nd,nt,nm⟩ (L.drop (k+1))=bA p ⟨nk,nd,nt,nm⟩ L):=by rw [if_pos Q7] at P6;exact P6
       clear Q7 P6;go_wp2;go_roundw
       case rel=>exact ⟨k+1,true,A5,c5,m+1,K6,rfl,by go_num,by omega,(show m+1<=k+1+1 by omega),J6.o,uu.o,G9.o⟩
       case measure=>simp [intOf];omega
     have q:((ba x.1).toList == (ba p).toList)=false:=by rw [rJ,decide_eq_false Q7]
     have q2:((ba x.1).toList != (ba p).toList)=true:=by rw [bne,q];rfl
     have G9:Hid (K6++[x]++cW true p ⟨nk,nd,nt,nm⟩ (L.drop (k+1))=bA p ⟨nk,nd,nt,nm⟩ L):=by rw [if_neg Q7] at P6;show _=_;rw [List.append_assoc];exact P6
     have AC:=RX;clear Q7 P6;obtain ⟨v7,w7,FY,OL,OM,z4,A7,c7,uv⟩:=J6.o.drew.app x (by rw [uu.o];omega);subst uv;have R7:=hid FY;have O7:=hid OL;have H7:=hid OM;have B7:=hid z4;have AD:Hid (rM t (some ⟨g,0,none⟩) n c g k x wq.drew):=AC.o.on J6.o.bl.drew;have OE:=hid J6.o.drew;clear FY OL OM z4;go_wp2;refine qG (S:=rM t (some ⟨g,0,none⟩) n c g k x) (by kernel_rfl) (AD.o) (fun hS=>?_);generalize wq.drew=w4 at *;refine aG 0 ?_
     iterate 4
      refine qT rfl (by kernel_rfl) ‹_› (fun w a8=>by go_simp;with_reducible rfl) ?_;simp only [Act.put,aB,aA,aC,Nat.reduceAdd]
     refine aE ?_;refine aG 5 ?_
     iterate 3
      refine qT rfl (by kernel_rfl) ‹_› (fun w a8=>by go_simp;with_reducible rfl) ?_;simp only [Act.put,aB,aA,aC,Nat.reduceAdd]
     refine aE ?_;refine qK 8 rfl (by kernel_rfl) ‹_› (fun w a8=>by have hc:=a8.c0;go_simp;with_reducible rfl) ?_;simp only [Act.put,aB,aA,aC];refine aG 9 ?_
     iterate 2
      refine qT rfl (by kernel_rfl) ‹_› (fun w a8=>by go_simp;with_reducible rfl) ?_;simp only [Act.put,aB,aA,aC,Nat.reduceAdd]
     refine aE ?_;refine' qL 11 rfl (by kernel_rfl) (aY (by rfl) 73 (.tmp 72) rfl g (k*5) rfl (atCells x) (fun w a8=>a8.at_.load)) ‹_› ?_;simp only [Act.put,aB,aA,aC];refine qE 4 12 rfl rfl (by kernel_rfl) (fun K hK=>?_) fun K hK=>?_
     .
      have hc:=OE.o.has.at_ 0;go_simp;refine hK.o _ _ AD.o (fun hS=>?_);clear hK K;refine qD 12 rfl (by kernel_rfl) fun K hK=>?_
      refine bF (by rfl) (.tmp 73) rfl x rfl ?_;refine hK.o _ _ (AD.o.on (qB.alloc qN _)) (fun hS=>?_);clear hK K;refine qD 13 rfl (by kernel_rfl) fun K hK=>?_
      refine aH (by rfl) (.tmp 66) (.tmp 74) 64 64 rfl (.slice A5 (m+1) c5) (.slice (some ⟨w4.heap.size,0,none⟩) 1 1) rfl rfl R7.o ?_;refine hK.o _ _ (AC.o.on B7.o) (fun hS=>?_);clear hK K;refine aG 14 ?_
      iterate 2
       refine qT rfl (by kernel_rfl) ‹_› (fun w a8=>by go_simp;with_reducible rfl) ?_;simp only [Act.put,aB,aA,aC,Nat.reduceAdd]
      refine aE ?_;refine qD 16 rfl (by kernel_rfl) fun K hK=>?_
      have V6:=H7.o.at_ 0;have J8:=H7.o.free 0;go_simp;refine hK.o _ _ (AC.o.on O7.o.bl) (fun hS=>?_);clear hK K V6 J8;refine qM (by kernel_rfl) ?_;go_wp2;go_roundw
      case rel =>
       refine ⟨k+1,true,A7,c7,m+2,K6++[x],rfl,by go_num,by omega,(show m+2<=k+1+1 by omega),?_,?_,G9.o⟩
       . rw [show m+2=m+1+1 from rfl,<-uu.o];exact O7.o
       show _=_;rw [List.length_append,uu.o];rfl
      case measure=>simp [intOf];omega
     refine bF (by rfl) (.tmp 73) rfl x rfl ?_;refine hK.o _ _ (AD.o.on (qB.alloc qN _)) (fun hS=>?_);clear hK K;refine qD 4 rfl (by kernel_rfl) fun K hK=>?_
     have hc:=(OE.o.has.more (.cells (atCells x) 73)).at_ 0;go_simp;refine hK.o _ _ (AD.o.on (qB.alloc qN _)) (fun hS=>?_);clear hK K;refine qD 13 rfl (by kernel_rfl) fun K hK=>?_
     refine aH (by rfl) (.tmp 66) (.tmp 74) 64 64 rfl (.slice A5 (m+1) c5) (.slice (some ⟨w4.heap.size,0,none⟩) 1 1) rfl rfl R7.o ?_;refine hK.o _ _ (AC.o.on B7.o) (fun hS=>?_);clear hK K;refine aG 14 ?_
     iterate 2
      refine qT rfl (by kernel_rfl) ‹_› (fun w a8=>by go_simp;with_reducible rfl) ?_;simp only [Act.put,aB,aA,aC,Nat.reduceAdd]
     refine aE ?_;refine qD 16 rfl (by kernel_rfl) fun K hK=>?_
     have V6:=H7.o.at_ 0;have J8:=H7.o.free 0;go_simp;refine hK.o _ _ (AC.o.on O7.o.bl) (fun hS=>?_);clear hK K V6 J8;refine qM (by kernel_rfl) ?_;go_wp2;go_roundw
     case rel =>
      refine ⟨k+1,true,A7,c7,m+2,K6++[x],rfl,by go_num,by omega,(show m+2<=k+1+1 by omega),?_,?_,G9.o⟩
      . rw [show m+2=m+1+1 from rfl,<-uu.o];exact O7.o
      show _=_;rw [List.length_append,uu.o];rfl
     case measure=>simp [intOf];omega
    refine bF (by rfl) (.tmp 47) rfl (p,⟨nk,nd,nt,nm⟩) rfl ?_;refine hK.o _ _ (nu.o.on (qB.alloc qN _)) (fun hS=>?_);clear hK K;refine qD 4 rfl (by kernel_rfl) fun K hK=>?_
    have hc:=(OD.o.has.more (.cells (atCells (p,⟨nk,nd,nt,nm⟩)) 73)).at_ 0;go_simp;refine hK.o _ _ (nu.o.on (qB.alloc qN _)) (fun hS=>?_);clear hK K;refine qD 9 rfl (by kernel_rfl) fun K hK=>?_
    refine aH (by rfl) (.tmp 44) (.tmp 48) 64 64 rfl (.slice A' m c') (.slice (some ⟨w3.heap.size,0,none⟩) 1 1) rfl rfl R5.o ?_;refine hK.o _ _ (nq.o.on B5.o) (fun hS=>?_);clear hK K;refine aG 10 ?_
    iterate 2
     refine qT rfl (by kernel_rfl) ‹_› (fun w a8=>by go_simp;with_reducible rfl) ?_;simp only [Act.put,aB,aA,aC,Nat.reduceAdd]
    refine aE ?_;refine qD 12 rfl (by kernel_rfl) fun K hK=>?_
    have V6:=H5.o.at_ 0;have J8:=H5.o.free 0;go_simp;refine hK.o _ _ (nq.o.on O5.o.bl) (fun hS=>?_);clear hK K V6 J8;refine qM (by kernel_rfl) ?_;obtain ⟨wq,OK⟩:=qX (w5.setCell ⟨w0.heap.size,0,none⟩ (.slice A5 (K.length+1) c5));have J6:Hid (cP w0 wq w0.heap.size room (K++[(p,⟨nk,nd,nt,nm⟩)]) (.slice A5 (m+1) c5)):=by have:=O5.o;rw [OK.o,HM.o] at this;exact this
    have uu:Hid ((K++[(p,(⟨nk,nd,nt,nm⟩:Nd))]).length=m+1):=by show _=_;rw [List.length_append,HM.o];rfl
    rw [OK.o];obtain ⟨K6,VD⟩:=qX (K++[(p,(⟨nk,nd,nt,nm⟩:Nd))]);have P6:=ut.o;rw [VD.o] at J6 uu P6;have c0q:wq.cell? ⟨t,0,none⟩=some (.slice (some ⟨g,0,none⟩) n c):=(J6.o.bl.cell (p:=⟨t,0,none⟩) vp.o).trans xh.o;have d0q:wq.cell? ⟨g,k*5,none⟩=some (kS x.1):=(HT.o.on J6.o.bl).c0;clear c0 d0;by_cases Q7:x.1=p
    .
     have q:((ba x.1).toList == (ba p).toList)=true:=by rw [rJ,decide_eq_true Q7]
     have q2:((ba x.1).toList != (ba p).toList)=false:=by rw [bne,q];rfl
     have G9:Hid (K6++cW true p ⟨nk,nd,nt,nm⟩ (L.drop (k+1))=bA p ⟨nk,nd,nt,nm⟩ L):=by rw [if_pos Q7] at P6;exact P6
     clear Q7 P6;go_wp2;go_roundw
     case rel=>exact ⟨k+1,true,A5,c5,m+1,K6,rfl,by go_num,by omega,(show m+1<=k+1+1 by omega),J6.o,uu.o,G9.o⟩
     case measure=>simp [intOf];omega
    have q:((ba x.1).toList == (ba p).toList)=false:=by rw [rJ,decide_eq_false Q7]
    have q2:((ba x.1).toList != (ba p).toList)=true:=by rw [bne,q];rfl
    have G9:Hid (K6++[x]++cW true p ⟨nk,nd,nt,nm⟩ (L.drop (k+1))=bA p ⟨nk,nd,nt,nm⟩ L):=by rw [if_neg Q7] at P6;show _=_;rw [List.append_assoc];exact P6
    have AC:=RX;clear Q7 P6;obtain ⟨v7,w7,FY,OL,OM,z4,A7,c7,uv⟩:=J6.o.drew.app x (by rw [uu.o];omega);subst uv;have R7:=hid FY;have O7:=hid OL;have H7:=hid OM;have B7:=hid z4;have AD:Hid (rM t (some ⟨g,0,none⟩) n c g k x wq.drew):=AC.o.on J6.o.bl.drew;have OE:=hid J6.o.drew;clear FY OL OM z4;go_wp2;refine qG (S:=rM t (some ⟨g,0,none⟩) n c g k x) (by kernel_rfl) (AD.o) (fun hS=>?_);generalize wq.drew=w4 at *;refine aG 0 ?_
    iterate 4
     refine qT rfl (by kernel_rfl) ‹_› (fun w a8=>by go_simp;with_reducible rfl) ?_;simp only [Act.put,aB,aA,aC,Nat.reduceAdd]
    refine aE ?_;refine aG 5 ?_
    iterate 3
     refine qT rfl (by kernel_rfl) ‹_› (fun w a8=>by go_simp;with_reducible rfl) ?_;simp only [Act.put,aB,aA,aC,Nat.reduceAdd]
    refine aE ?_;refine qK 8 rfl (by kernel_rfl) ‹_› (fun w a8=>by have hc:=a8.c0;go_simp;with_reducible rfl) ?_;simp only [Act.put,aB,aA,aC];refine aG 9 ?_
    iterate 2
     refine qT rfl (by kernel_rfl) ‹_› (fun w a8=>by go_simp;with_reducible rfl) ?_;simp only [Act.put,aB,aA,aC,Nat.reduceAdd]
    refine aE ?_;refine' qL 11 rfl (by kernel_rfl) (aY (by rfl) 73 (.tmp 72) rfl g (k*5) rfl (atCells x) (fun w a8=>a8.at_.load)) ‹_› ?_;simp only [Act.put,aB,aA,aC];refine qE 4 12 rfl rfl (by kernel_rfl) (fun K hK=>?_) fun K hK=>?_
    .
     have hc:=OE.o.has.at_ 0;go_simp;refine hK.o _ _ AD.o (fun hS=>?_);clear hK K;refine qD 12 rfl (by kernel_rfl) fun K hK=>?_
     refine bF (by rfl) (.tmp 73) rfl x rfl ?_;refine hK.o _ _ (AD.o.on (qB.alloc qN _)) (fun hS=>?_);clear hK K;refine qD 13 rfl (by kernel_rfl) fun K hK=>?_
     refine aH (by rfl) (.tmp 66) (.tmp 74) 64 64 rfl (.slice A5 (m+1) c5) (.slice (some ⟨w4.heap.size,0,none⟩) 1 1) rfl rfl R7.o ?_;refine hK.o _ _ (AC.o.on B7.o) (fun hS=>?_);clear hK K;refine aG 14 ?_
     iterate 2
      refine qT rfl (by kernel_rfl) ‹_› (fun w a8=>by go_simp;with_reducible rfl) ?_;simp only [Act.put,aB,aA,aC,Nat.reduceAdd]
     refine aE ?_;refine qD 16 rfl (by kernel_rfl) fun K hK=>?_
     have V6:=H7.o.at_ 0;have J8:=H7.o.free 0;go_simp;refine hK.o _ _ (AC.o.on O7.o.bl) (fun hS=>?_);clear hK K V6 J8;refine qM (by kernel_rfl) ?_;go_wp2;go_roundw
     case rel =>
      refine ⟨k+1,true,A7,c7,m+2,K6++[x],rfl,by go_num,by omega,(show m+2<=k+1+1 by omega),?_,?_,G9.o⟩
      . rw [show m+2=m+1+1 from rfl,<-uu.o];exact O7.o
      show _=_;rw [List.length_append,uu.o];rfl
     case measure=>simp [intOf];omega
    refine bF (by rfl) (.tmp 73) rfl x rfl ?_;refine hK.o _ _ (AD.o.on (qB.alloc qN _)) (fun hS=>?_);clear hK K;refine qD 4 rfl (by kernel_rfl) fun K hK=>?_
    have hc:=(OE.o.has.more (.cells (atCells x) 73)).at_ 0;go_simp;refine hK.o _ _ (AD.o.on (qB.alloc qN _)) (fun hS=>?_);clear hK K;refine qD 13 rfl (by kernel_rfl) fun K hK=>?_
    refine aH (by rfl) (.tmp 66) (.tmp 74) 64 64 rfl (.slice A5 (m+1) c5) (.slice (some ⟨w4.heap.size,0,none⟩) 1 1) rfl rfl R7.o ?_;refine hK.o _ _ (AC.o.on B7.o) (fun hS=>?_);clear hK K;refine aG 14 ?_
    iterate 2
     refine qT rfl (by kernel_rfl) ‹_› (fun w a8=>by go_simp;with_reducible rfl) ?_;simp only [Act.put,aB,aA,aC,Nat.reduceAdd]
    refine aE ?_;refine qD 16 rfl (by kernel_rfl) fun K hK=>?_
    have V6:=H7.o.at_ 0;have J8:=H7.o.free 0;go_simp;refine hK.o _ _ (AC.o.on O7.o.bl) (fun hS=>?_);clear hK K V6 J8;refine qM (by kernel_rfl) ?_;go_wp2;go_roundw
    case rel =>
     refine ⟨k+1,true,A7,c7,m+2,K6++[x],rfl,by go_num,by omega,(show m+2<=k+1+1 by omega),?_,?_,G9.o⟩
     . rw [show m+2=m+1+1 from rfl,<-uu.o];exact O7.o
     show _=_;rw [List.length_append,uu.o];rfl
    case measure=>simp [intOf];omega
   have G9:Hid ((K++[x])++cW false p ⟨nk,nd,nt,nm⟩ (L.drop (k+1))=bA p ⟨nk,nd,nt,nm⟩ L):=by
    show _=_;rw [List.append_assoc,List.singleton_append,<-Pf p _ x _ hc,<-VC.o];exact HK.o
   have Q7:=gm hc;have q:((ba x.1).toList == (ba p).toList)=false:=by rw [rJ,decide_eq_false Q7]
   have q2:((ba x.1).toList != (ba p).toList)=true:=by rw [bne,q];rfl
   have nq:=RX;clear Q7;go_wp2_with fail
   refine (CC.o _).mono ?_;rintro e8 w8 ⟨rfl,rfl⟩;obtain ⟨v5,w5,i6,px,AA,z6,A5,c5,I6⟩:=J.o.drew.app x (by rw [HM.o];omega);subst I6;have R5:=hid i6;have O5:=hid px;have H5:=hid AA;have B5:=hid z6;have nu:Hid (rM t (some ⟨g,0,none⟩) n c g k x wr.drew):=nq.o.on J.o.bl.drew;have OD:=hid J.o.drew;clear i6 px AA z6;go_wp2;refine qG (S:=rM t (some ⟨g,0,none⟩) n c g k x) (by kernel_rfl) (nu.o) (fun hS=>?_);generalize wr.drew=w3 at *;refine aG 0 ?_
   iterate 4
    refine qT rfl (by kernel_rfl) ‹_› (fun w a8=>by go_simp;with_reducible rfl) ?_;simp only [Act.put,aB,aA,aC,Nat.reduceAdd]
   refine aE ?_;refine aG 5 ?_
   iterate 3
    refine qT rfl (by kernel_rfl) ‹_› (fun w a8=>by go_simp;with_reducible rfl) ?_;simp only [Act.put,aB,aA,aC,Nat.reduceAdd]
   refine aE ?_;refine qK 8 rfl (by kernel_rfl) ‹_› (fun w a8=>by have hc:=a8.c0;go_simp;with_reducible rfl) ?_;simp only [Act.put,aB,aA,aC];refine aG 9 ?_
   iterate 2
    refine qT rfl (by kernel_rfl) ‹_› (fun w a8=>by go_simp;with_reducible rfl) ?_;simp only [Act.put,aB,aA,aC,Nat.reduceAdd]
   refine aE ?_;refine' qL 11 rfl (by kernel_rfl) (aY (by rfl) 73 (.tmp 72) rfl g (k*5) rfl (atCells x) (fun w a8=>a8.at_.load)) ‹_› ?_;simp only [Act.put,aB,aA,aC];refine qE 4 12 rfl rfl (by kernel_rfl) (fun K hK=>?_) fun K hK=>?_
   .
    have hc:=OD.o.has.at_ 0;go_simp;refine hK.o _ _ nu.o (fun hS=>?_);clear hK K;refine qD 12 rfl (by kernel_rfl) fun K hK=>?_
    refine bF (by rfl) (.tmp 73) rfl x rfl ?_;refine hK.o _ _ (nu.o.on (qB.alloc qN _)) (fun hS=>?_);clear hK K;refine qD 13 rfl (by kernel_rfl) fun K hK=>?_
    refine aH (by rfl) (.tmp 66) (.tmp 74) 64 64 rfl (.slice A' m c') (.slice (some ⟨w3.heap.size,0,none⟩) 1 1) rfl rfl R5.o ?_;refine hK.o _ _ (nq.o.on B5.o) (fun hS=>?_);clear hK K;refine aG 14 ?_
    iterate 2
     refine qT rfl (by kernel_rfl) ‹_› (fun w a8=>by go_simp;with_reducible rfl) ?_;simp only [Act.put,aB,aA,aC,Nat.reduceAdd]
    refine aE ?_;refine qD 16 rfl (by kernel_rfl) fun K hK=>?_
    have V6:=H5.o.at_ 0;have J8:=H5.o.free 0;go_simp;refine hK.o _ _ (nq.o.on O5.o.bl) (fun hS=>?_);clear hK K V6 J8;refine qM (by kernel_rfl) ?_;go_wp2;go_roundw
    case rel =>
     refine ⟨k+1,false,A5,c5,m+1,K++[x],rfl,by go_num,by omega,(show m+1<=k+1+0 by omega),?_,?_,G9.o⟩
     . rw [<-HM.o];exact O5.o
     show _=_;rw [List.length_append,HM.o];rfl
    case measure=>simp [intOf];omega
   refine bF (by rfl) (.tmp 73) rfl x rfl ?_;refine hK.o _ _ (nu.o.on (qB.alloc qN _)) (fun hS=>?_);clear hK K;refine qD 4 rfl (by kernel_rfl) fun K hK=>?_
   have hc:=(OD.o.has.more (.cells (atCells x) 73)).at_ 0;go_simp;refine hK.o _ _ (nu.o.on (qB.alloc qN _)) (fun hS=>?_);clear hK K;refine qD 13 rfl (by kernel_rfl) fun K hK=>?_
   refine aH (by rfl) (.tmp 66) (.tmp 74) 64 64 rfl (.slice A' m c') (.slice (some ⟨w3.heap.size,0,none⟩) 1 1) rfl rfl R5.o ?_;refine hK.o _ _ (nq.o.on B5.o) (fun hS=>?_);clear hK K;refine aG 14 ?_
   iterate 2
    refine qT rfl (by kernel_rfl) ‹_› (fun w a8=>by go_simp;with_reducible rfl) ?_;simp only [Act.put,aB,aA,aC,Nat.reduceAdd]
   refine aE ?_;refine qD 16 rfl (by kernel_rfl) fun K hK=>?_
   have V6:=H5.o.at_ 0;have J8:=H5.o.free 0;go_simp;refine hK.o _ _ (nq.o.on O5.o.bl) (fun hS=>?_);clear hK K V6 J8;refine qM (by kernel_rfl) ?_;go_wp2;go_roundw
   case rel =>
    refine ⟨k+1,false,A5,c5,m+1,K++[x],rfl,by go_num,by omega,(show m+1<=k+1+0 by omega),?_,?_,G9.o⟩
    . rw [<-HM.o];exact O5.o
    show _=_;rw [List.length_append,HM.o];rfl
   case measure=>simp [intOf];omega
 have VE:Hid (K++cW done p ⟨nk,nd,nt,nm⟩ []=bA p ⟨nk,nd,nt,nm⟩ L):=by
  have:=HK.o;rw [List.drop_of_length_le (by rw [HL.o];omega)] at this;exact this
 cases done with
 | true =>
  go_wp2;go_ret;have ht:=J.o.tree;have he:=VE.o;rw [show cW true p ⟨nk,nd,nt,nm⟩ []=[] from rfl,List.append_nil] at he;rw [he] at ht;exact ⟨_,rfl,ht.mono (by have:=yl.o;omega),BX.o.trans (J.o.bl.mono (by have:=yl.o;omega))⟩
 | false =>
  have NY:m<=k:=VB.o;have nq:Hid (wJ w.heap.size (dU nk nd nt nm) w0):=⟨NB.o⟩;obtain ⟨v5,w5,i6,px,AA,z6,A5,c5,I6⟩:=J.o.drew.app (p,⟨nk,nd,nt,nm⟩) (by rw [HM.o];omega);subst I6;have R5:=hid i6;have O5:=hid px;have H5:=hid AA;have B5:=hid z6;have nu:Hid (wJ w.heap.size (dU nk nd nt nm) wr.drew):=nq.o.on J.o.bl.drew;have OD:=hid J.o.drew;clear i6 px AA z6;go_wp2;refine qG (S:=wJ w.heap.size (dU nk nd nt nm)) (by kernel_rfl) (nu.o) (fun hS=>?_);generalize wr.drew=w3 at *;refine aG 0 ?_
  iterate 4
   refine qT rfl (by kernel_rfl) ‹_› (fun w a8=>by go_simp;with_reducible rfl) ?_;simp only [Act.put,aB,aA,aC,Nat.reduceAdd]
  refine aE ?_;refine qK 5 rfl (by kernel_rfl) ‹_› (fun w a8=>by go_simp;with_reducible rfl) ?_;simp only [Act.put,aB,aA,aC];refine' qL 6 rfl (by kernel_rfl) (aY (by rfl) 71 (.tmp 5) rfl w.heap.size 0 rfl (dU nk nd nt nm) (fun w a8=>eB a8.h)) ‹_› ?_;simp only [Act.put,aB,aA,aC];refine qK 7 rfl (by kernel_rfl) ‹_› (fun w a8=>by go_simp;with_reducible rfl) ?_;simp only [Act.put,aB,aA,aC];refine qE 4 8 rfl rfl (by kernel_rfl) (fun K hK=>?_) fun K hK=>?_
  .
   have hc:=OD.o.has.at_ 0;go_simp;refine hK.o _ _ nu.o (fun hS=>?_);clear hK K;refine qD 8 rfl (by kernel_rfl) fun K hK=>?_
   refine bF (by rfl) (.tmp 87) rfl (p,⟨nk,nd,nt,nm⟩) rfl ?_;refine hK.o _ _ (nu.o.on (qB.alloc qN _)) (fun hS=>?_);clear hK K;refine qD 9 rfl (by kernel_rfl) fun K hK=>?_
   refine aH (by rfl) (.tmp 84) (.tmp 88) 64 64 rfl (.slice A' m c') (.slice (some ⟨w3.heap.size,0,none⟩) 1 1) rfl rfl R5.o ?_;refine hK.o _ _ (nq.o.on B5.o) (fun hS=>?_);clear hK K;refine aG 10 ?_
   iterate 2
    refine qT rfl (by kernel_rfl) ‹_› (fun w a8=>by go_simp;with_reducible rfl) ?_;simp only [Act.put,aB,aA,aC,Nat.reduceAdd]
   refine aE ?_;refine qD 12 rfl (by kernel_rfl) fun K hK=>?_
   have V6:=H5.o.at_ 0;have J8:=H5.o.free 0;go_simp;refine hK.o _ _ (nq.o.on O5.o.bl) (fun hS=>?_);clear hK K V6 J8;refine qM (by kernel_rfl) ?_;go_wp2;go_ret;have ht:=O5.o.tree;have he:=VE.o;rw [show cW false p ⟨nk,nd,nt,nm⟩ []=[(p,⟨nk,nd,nt,nm⟩)] from rfl] at he;rw [he] at ht;exact ⟨_,rfl,ht.mono (by have:=yl.o;omega),BX.o.trans (O5.o.bl.mono (by have:=yl.o;omega))⟩
  refine bF (by rfl) (.tmp 87) rfl (p,⟨nk,nd,nt,nm⟩) rfl ?_;refine hK.o _ _ (nu.o.on (qB.alloc qN _)) (fun hS=>?_);clear hK K;refine qD 4 rfl (by kernel_rfl) fun K hK=>?_
  have hc:=(OD.o.has.more (.cells (atCells (p,⟨nk,nd,nt,nm⟩)) 73)).at_ 0;go_simp;refine hK.o _ _ (nu.o.on (qB.alloc qN _)) (fun hS=>?_);clear hK K;refine qD 9 rfl (by kernel_rfl) fun K hK=>?_
  refine aH (by rfl) (.tmp 84) (.tmp 88) 64 64 rfl (.slice A' m c') (.slice (some ⟨w3.heap.size,0,none⟩) 1 1) rfl rfl R5.o ?_;refine hK.o _ _ (nq.o.on B5.o) (fun hS=>?_);clear hK K;refine aG 10 ?_
  iterate 2
   refine qT rfl (by kernel_rfl) ‹_› (fun w a8=>by go_simp;with_reducible rfl) ?_;simp only [Act.put,aB,aA,aC,Nat.reduceAdd]
  refine aE ?_;refine qD 12 rfl (by kernel_rfl) fun K hK=>?_
  have V6:=H5.o.at_ 0;have J8:=H5.o.free 0;go_simp;refine hK.o _ _ (nq.o.on O5.o.bl) (fun hS=>?_);clear hK K V6 J8;refine qM (by kernel_rfl) ?_;go_wp2;go_ret;have ht:=O5.o.tree;have he:=VE.o;rw [show cW false p ⟨nk,nd,nt,nm⟩ []=[(p,⟨nk,nd,nt,nm⟩)] from rfl] at he;rw [he] at ht;exact ⟨_,rfl,ht.mono (by have:=yl.o;omega),BX.o.trans (O5.o.bl.mono (by have:=yl.o;omega))⟩
end Go.Proofs.YtahkcemdbfjilaaGreatDoor
