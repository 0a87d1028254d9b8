/- Texts. Conditions: as said. -/
import Derived.Test.YtahkcemdbfjilaaGreatDoorFj00
import Derived.Test.YtahkcemdbfjilaaGreatDoorFj14
set_option linter.all false
set_option maxRecDepth 100000
set_option maxHeartbeats 32000000
namespace Go.Proofs.YtahkcemdbfjilaaGreatDoor.Glob
open Go.RowKit Go.Maps
open Classical in
def Vp (x:Bx) (fs:Fl) (w0:World) (k:Nat) (yg:ReadOk x fs w0 k) (O6:Gd w0) (AM:bO w0 x.fv fs) (uc:x.B=w0.heap.size) (within:List By) (name:By) (ps:List By) (v:Value) (w:World) (hk:within.length+1+k=4) (np:name.length<=1000000000000000) (he:Env x fs w) (hs:St x fs ps w) (ha:Ar x.B w v within) (ox:eZ fs within name) (D7:ps.length<=64) (hb:Below x.B w0 w) (t:By) (hf:bQ fs name=some t) (hm:name∉within) (hn:within.length<=3) (oz:fs.length<=1000) (py:t.length<=100000) (ml:∀c f,MapZ w zR x.D c f->Done fs f c ps->f (.string (ba name))=none) :
 qC 42 #[.string (ba name),v,ptrV x.tb,ptrV x.db,ptrV x.lb,ptrV x.fb,ptrV x.rb] w fun e W =>
  Out (readL fs (k+1) within name ps) e True (fun qs=>St x fs qs W/\Ar x.B W v within)/\Fr x.L x.D v.ownBlock w W/\Below x.B w0 W:=by
 have p9:x.B<=w.heap.size:=by have:=hs.low;obtain ⟨_,q,_⟩:=hs.list;have:=q.inside;omega
 obtain ⟨Wa,z7⟩:=qY (w.alloc (.cells #[.string (ba name)] 9));obtain ⟨W2,r7⟩:=qY (Wa.alloc (.cells #[v] 34));have sa:Wa.heap.size=w.heap.size+1:=by rw [<-z7];simp
 have s2:W2.heap.size=w.heap.size+2:=by rw [<-r7];simp [sa]
 have sm:qW w Wa:=z7▸qB.alloc qN _;have b2:qW w W2:=r7▸sm.alloc (by omega) _;have n2:Has W2 w.heap.size 9 #[.string (ba name)]:=r7▸(z7▸Has.fresh w 9 _:Has Wa w.heap.size 9 _).more _;have v2:Has W2 (w.heap.size+1) 34 #[v]:=r7▸Has.fresh' Wa 34 _ sa.symm;have j7:=hid (he.below b2);have C6:=hid (hs.below b2);have qm:Hid (Ar x.B W2 v within):=own_below ha b2;have i9:=hid b2;have mw:Hid (Below x.B w0 W2):=hb.trans (b2.mono p9);have tp:=hid p9;have HK:=hid (eE name (by unfold maxLen;omega));have GH:=hid hs;obtain ⟨cp,y7⟩:=j7.o.places;have m7:=y7.lookOk Tryz.underlying101 (kC W2) HK.o;have OT:=j7.o.t.at_ 0;have T8:=n2.at_ 0;have BZ:=v2.at_ 0;obtain ⟨j,hj,wl,AL⟩:=lH hf 0;rw [wl] at m7;simp only [Option.getD_some,Option.isSome_some,Nat.zero_add] at m7;have wm:=hid (iF x.B W2 v within name qm.o (by omega));rw [decide_eq_false hm] at wm;obtain ⟨cd,fd,EG,JD⟩:=C6.o.done;have E8:=EG.lookOk Tryz.underlying103 (jB W2) HK.o;have hcd:=j7.o.d.at_ 0;have EH:fd (.string (ba name))=none:=by
  obtain ⟨c',f',k1,k2⟩:=hs.done;have e1:=ml c' f' k1 k2;have i7:=(k1.kept (i9.o.block _ k1.inside)).lookOk Tryz.underlying103 (jB W2) HK.o;rw [i7] at E8;simp only [Result.ok.injEq,Value.tuple.injEq,and_true] at E8;have e2:=congrArg (fun a:Array Value=>a.toList) E8;simp only [List.cons.injEq,Value.bool.injEq,and_true] at e2;rw [e1] at e2
  cases hq:fd (.string (ba name)) with
  | none=>rfl
  | some u=>rw [hq] at e2;simp at e2
 rw [EH] at E8;simp only [Option.getD_none,Option.isSome_none] at E8;obtain ⟨d,hd⟩:∃d:Nat,d=0:=⟨_,rfl⟩;obtain ⟨a,LO⟩:∃a:Nat,a=0:=⟨_,rfl⟩;obtain ⟨b,P5⟩:∃b:Nat,b=0:=⟨_,rfl⟩;have l7:zR=.agg #[.int .i64 (d:Int),.int .i64 (a:Int),.int .i64 (b:Int)]:=by rw [hd,LO,P5];rfl
 rw [l7] at E8;clear hd LO P5 l7 EH ml;obtain ⟨W3,C8⟩:=qY (W2.alloc (.cells #[.int .i64 (d:Int),.int .i64 (a:Int),.int .i64 (b:Int)] 111));have b3:qW W2 W3:=C8▸qB.alloc qN _;have r3:Has W3 (w.heap.size+2) 111 #[.int .i64 (d:Int),.int .i64 (a:Int),.int .i64 (b:Int)]:=C8▸Has.fresh' W2 111 _ s2.symm;have B8:=hid b3;have zi:=hid (C6.o.list.below b3);have oa:=hid (j7.o.below b3);have hcv3:W3.cell? ⟨w.heap.size+1,0,none⟩=some v:=(v2.stays b3).at_ 0;have hrd0:=r3.at_ 0;have AN:=oa.o.l.at_ 0;obtain ⟨lv,yv,yw⟩:=zi.o;obtain ⟨A,c,xq⟩:=yw.form;obtain ⟨n,oy⟩:=qY (ps.length);rw [oy] at xq;subst xq;have hcL:=yv.at_ 0;obtain ⟨gf,of,cf,yt,VZ,d9⟩:=(AM.stays (by have hq:=mw.o.trans (b3.mono (Nat.le_trans p9 b2.size));rw [uc] at hq;exact hq)).row (by omega);have OV:=oa.o.f.at_ 0;rw [yt] at OV;have OW:=(d9 j hj).2;rw [AL] at OW;have JH:(j:Int) < (fs.length:Int):=by omega
 have JI:Hid (Ln x fs w0 W3 within name v w.heap.size (w.heap.size+1) ps W3):=⟨oa.o,C6.o.below b3,n2.stays b3,v2.stays b3,own_below qm.o b3,D7,Fr.refl _ _ _ _,mw.o.trans (b3.mono (Nat.le_trans p9 b2.size)),fun e=>by have:=(aS ha _ e.symm).2;omega⟩;have qp:Hid (qC 45 #[.string (ba t),.func (.func 46) #[] #[ptrV x.rb,ptrV (w.heap.size+1),ptrV w.heap.size,ptrV x.lb]] W3 fun e W=>Out (readL fs (k+1) within name ps) e (Fr x.L x.D v.ownBlock W3 W/\Below x.B w0 W) (fun qs=>Ln x fs w0 W3 within name v w.heap.size (w.heap.size+1) qs W)):=by
  have hR:readL fs (k+1) within name ps=iC (jR (readL fs k (within++[name]))) (linesL t) ps:=by
   rw [<-xE];unfold readL;rw [hf];simp only;rw [if_neg hm]
  rw [hR];refine zX t 46 _ (enters_of Tryz.func46 (by kernel_rfl) rfl) (Ln x fs w0 W3 within name v w.heap.size (w.heap.size+1)) (fun W=>Fr x.L x.D v.ownBlock W3 W/\Below x.B w0 W) (jR (readL fs k (within++[name]))) (fun ps W W' h hb=>h.below hb) (fun ps W h=>O6.kept (show Below _ _ _ from uc▸h.low)) (fun qs W s mj h=>?_) ps W3 JI.o py;have ql:s.length<=100000:=Nat.le_trans (xN mj) py
  cases hp:pre incM s with
  | false=>exact wF x fs w0 W3 k within name v _ _ qs s W h ql hp
  | true=>exact Dq x fs w0 W3 k yg within name v _ _ qs s W h ql hp hk (ox.down hf mj hp)
 obtain ⟨g,HG⟩:=qX (readL fs (k+1) within name ps);rw [HG.o] at qp;rw [HG.o];have JJ:=hid (nU hf).1;have ME:=hid hn;have V4:=hid hk;have WA:=hid oz;have EJ:=hid oy;have G9:=hid n2;have xp:=hid v2;obtain ⟨Av,cv,hv⟩:=aO ha;obtain ⟨nv,od⟩:=qY (within.length);rw [od] at hv;subst hv;have OU:¬((nv:Int)=4):=by omega
 have AO:=hid od;unfold ptrV at qp AN;unfold ptrV;generalize ba t=tx at OW qp;generalize fs.length=nf at OV JH;clear he hs ha ox hb sm b2 n2 v2 y7 hf hm wl AL hj JD EG r3 b3 yv yw D7 oy d9 yt VZ py yg O6 AM uc hn hk oz;go_enter Tryz.func42,Tryz.ntmps42
 go_wp2_with (go_at_call 43;refine wm.o.mono ?_;rintro e1 w1 ⟨rfl,rfl⟩)
 refine qp.o.mono ?_;intro e4 w4 h4
 cases g with
 | error c =>
  obtain ⟨rfl,hc,ou,x8⟩:=h4.of_err;have MA:(c == 0)=false:=by simp [hc]
  have HC:=hid hc;have xj:=hid ou;have vu:=hid x8;clear h4 hc ou x8;go_wp2;go_ret;exact ⟨Out.err rfl rfl HC.o trivial,(Fr.of_below (i9.o.thenG B8.o)).tr xj.o,vu.o⟩
 | ok rs =>
  obtain ⟨rfl,s9⟩:=h4.of_ok;have V7:=hid s9;clear h4;obtain ⟨c4,f4,AQ,JK⟩:=s9.st.done;obtain ⟨v4,OX,OY⟩:=s9.st.list;obtain ⟨A4,OZ,AS⟩:=OY.form;obtain ⟨n4,V9⟩:=qY (rs.length);rw [V9] at AS;subst AS;have PA:=hid OX;have LL:=hid V9;have sn:=hid AQ;obtain ⟨l4,AT,vd⟩:=wT _ _ _ _ _ _ HG.o;have WB:Hid (Done fs (fun y=>if y=.string (ba name) then some (kM nv n n4) else f4 y) (if (f4 (.string (ba name))).isSome then c4 else c4+1) rs):=by
   have e1:=AO.o;have e2:=EJ.o;have e3:=ME.o;have e4:=V4.o;refine Done.put (d:=nv) (a:=n) (b:=n4) JK JJ.o (by omega) ?_ (Nat.le_of_eq V9.symm) ?_
   . rw [<-V9,vd,List.length_append];omega
   have e5:4 - nv=k+1:=by omega
   rw [e5,AT,<-V9,vd,<-e2,List.drop_left,List.length_append,Nat.add_sub_cancel_left,List.take_length]
  obtain ⟨w5,AU,PB,r8⟩:=AQ.store (w:=w4.drew) Tryz.underlying103 (by have:=JK.few;have:=WA.o;omega) (v:=kM nv n n4) HK.o;have JL:=hid AU;have DV:=hid PB;have mt:=hid r8;clear s9 AQ JK OX OY V9 AT vd AU PB r8;go_wp2_with (fail)
  refine qG (S:=fun U=>Has U x.db 103 #[.map (some x.D)]/\Has U w.heap.size 9 #[.string (ba name)]/\Has U (w.heap.size+1) 34 #[.slice Av nv cv]/\Has U x.lb 30 #[ptrV x.L]/\Has U x.L 106 #[.slice A4 n4 OZ]) (by kernel_rfl) (⟨V7.o.env.d,V7.o.nbx,V7.o.abx,V7.o.env.l,PA.o⟩) (fun hS=>?_);refine aG 0 ?_
  iterate 11
   refine qT rfl (by kernel_rfl) ‹_› (fun w a8=>by have c1:=a8.1.at_ 0;have c2:=a8.2.1.at_ 0;have c3:=a8.2.2.1.at_ 0;have c4:=a8.2.2.2.1.at_ 0;have c5:=a8.2.2.2.2.at_ 0;unfold ptrV at c4;go_simp;with_reducible rfl) ?_;simp only [Act.put,aB,aA,aC,Nat.reduceAdd]
  refine aE ?_;refine qD 11 rfl (by kernel_rfl) fun K hK=>?_
  refine uY (by rfl) (.tmp 72) (.tmp 73) (.tmp 82) rfl (.map (some x.D)) (.string (ba name)) (kM nv n n4) rfl rfl rfl JL.o ?_;have ph:Has w5 x.db 103 #[.map (some x.D)]/\Has w5 w.heap.size 9 #[.string (ba name)]/\Has w5 (w.heap.size+1) 34 #[.slice Av nv cv]/\Has w5 x.lb 30 #[ptrV x.L]/\Has w5 x.L 106 #[.slice A4 n4 OZ]:=⟨Has.map (w:=w4.drew) V7.o.env.d sn.o mt.o,Has.map (w:=w4.drew) V7.o.nbx sn.o mt.o,Has.map (w:=w4.drew) V7.o.abx sn.o mt.o,Has.map (w:=w4.drew) V7.o.env.l sn.o mt.o,Has.map (w:=w4.drew) PA.o sn.o mt.o⟩;refine hK.o _ _ ph (fun hS=>?_);clear hK K hS;refine qM (by kernel_rfl) ?_;go_wp2;go_ret;have AV:Hid (w4.grownBy w5 (some x.D)):=⟨mt.o.os,mt.o.tape,mt.o.output,mt.o.size,mt.o.block⟩;refine ⟨Out.ok rfl rfl ⟨⟨V7.o.st.list.map sn.o AV.o,⟨_,_,DV.o,WB.o⟩,GH.o.low⟩,?_⟩,?_,?_⟩
  . exact V7.o.ar.fr (Fr.of_map (L:=x.L) (r:=none) sn.o AV.o) (fun k _ e=>nomatch e)
  . exact (Fr.of_below (i9.o.thenG B8.o)).tr (V7.o.fr.tr (Fr.of_map sn.o AV.o))
  exact bM AV.o V7.o.low (fun k hk=>by injection hk with hk;rw [<-hk];exact j7.o.lowD) V7.o.size
open Classical in
def Np (x:Bx) (fs:Fl) (w0:World) (k:Nat) (yg:ReadOk x fs w0 k) (O6:Gd w0) (AM:bO w0 x.fv fs) (uc:x.B=w0.heap.size) (within:List By) (name:By) (ps:List By) (v:Value) (w:World) (hk:within.length+1+k=4) (np:name.length<=1000000000000000) (he:Env x fs w) (hs:St x fs ps w) (ha:Ar x.B w v within) (ox:eZ fs within name) (D7:ps.length<=64) (hb:Below x.B w0 w) (t:By) (hf:bQ fs name=some t) (hm:name∉within) (hn:within.length<=3) (oz:fs.length<=1000) (py:t.length<=100000) (d a b:Nat) (ml:∀c f,MapZ w zR x.D c f->Done fs f c ps->f (.string (ba name))=some (kM d a b)) (LM:d < within.length) :
 qC 42 #[.string (ba name),v,ptrV x.tb,ptrV x.db,ptrV x.lb,ptrV x.fb,ptrV x.rb] w fun e W =>
  Out (readL fs (k+1) within name ps) e True (fun qs=>St x fs qs W/\Ar x.B W v within)/\Fr x.L x.D v.ownBlock w W/\Below x.B w0 W:=by
 have p9:x.B<=w.heap.size:=by have:=hs.low;obtain ⟨_,q,_⟩:=hs.list;have:=q.inside;omega
 obtain ⟨Wa,z7⟩:=qY (w.alloc (.cells #[.string (ba name)] 9));obtain ⟨W2,r7⟩:=qY (Wa.alloc (.cells #[v] 34));have sa:Wa.heap.size=w.heap.size+1:=by rw [<-z7];simp
 have s2:W2.heap.size=w.heap.size+2:=by rw [<-r7];simp [sa]
 have sm:qW w Wa:=z7▸qB.alloc qN _;have b2:qW w W2:=r7▸sm.alloc (by omega) _;have n2:Has W2 w.heap.size 9 #[.string (ba name)]:=r7▸(z7▸Has.fresh w 9 _:Has Wa w.heap.size 9 _).more _;have v2:Has W2 (w.heap.size+1) 34 #[v]:=r7▸Has.fresh' Wa 34 _ sa.symm;have j7:=hid (he.below b2);have C6:=hid (hs.below b2);have qm:Hid (Ar x.B W2 v within):=own_below ha b2;have i9:=hid b2;have mw:Hid (Below x.B w0 W2):=hb.trans (b2.mono p9);have tp:=hid p9;have HK:=hid (eE name (by unfold maxLen;omega));have GH:=hid hs;obtain ⟨cp,y7⟩:=j7.o.places;have m7:=y7.lookOk Tryz.underlying101 (kC W2) HK.o;have OT:=j7.o.t.at_ 0;have T8:=n2.at_ 0;have BZ:=v2.at_ 0;obtain ⟨j,hj,wl,AL⟩:=lH hf 0;rw [wl] at m7;simp only [Option.getD_some,Option.isSome_some,Nat.zero_add] at m7;have wm:=hid (iF x.B W2 v within name qm.o (by omega));rw [decide_eq_false hm] at wm;obtain ⟨cd,fd,EG,JD⟩:=C6.o.done;have E8:=EG.lookOk Tryz.underlying103 (jB W2) HK.o;have hcd:=j7.o.d.at_ 0;have EH:fd (.string (ba name))=some (kM d a b):=by
  obtain ⟨c',f',k1,k2⟩:=hs.done;have e1:=ml c' f' k1 k2;have i7:=(k1.kept (i9.o.block _ k1.inside)).lookOk Tryz.underlying103 (jB W2) HK.o;rw [i7] at E8;simp only [Result.ok.injEq,Value.tuple.injEq,and_true] at E8;have e2:=congrArg (fun a:Array Value=>a.toList) E8;simp only [List.cons.injEq,Value.bool.injEq,and_true] at e2;rw [e1] at e2;simp only [Option.getD_some,Option.isSome_some] at e2
  cases hq:fd (.string (ba name)) with
  | none=>rw [hq] at e2;simp at e2
  | some u=>rw [hq] at e2;simp at e2;rw [e2]
 rw [EH] at E8;simp only [Option.getD_some,Option.isSome_some] at E8;unfold kM at E8;have JG:¬((within.length:Int)<=(d:Int)):=by omega
 clear EH ml LM;obtain ⟨W3,C8⟩:=qY (W2.alloc (.cells #[.int .i64 (d:Int),.int .i64 (a:Int),.int .i64 (b:Int)] 111));have b3:qW W2 W3:=C8▸qB.alloc qN _;have r3:Has W3 (w.heap.size+2) 111 #[.int .i64 (d:Int),.int .i64 (a:Int),.int .i64 (b:Int)]:=C8▸Has.fresh' W2 111 _ s2.symm;have B8:=hid b3;have zi:=hid (C6.o.list.below b3);have oa:=hid (j7.o.below b3);have hcv3:W3.cell? ⟨w.heap.size+1,0,none⟩=some v:=(v2.stays b3).at_ 0;have hrd0:=r3.at_ 0;have AN:=oa.o.l.at_ 0;obtain ⟨lv,yv,yw⟩:=zi.o;obtain ⟨A,c,xq⟩:=yw.form;obtain ⟨n,oy⟩:=qY (ps.length);rw [oy] at xq;subst xq;have hcL:=yv.at_ 0;obtain ⟨gf,of,cf,yt,VZ,d9⟩:=(AM.stays (by have hq:=mw.o.trans (b3.mono (Nat.le_trans p9 b2.size));rw [uc] at hq;exact hq)).row (by omega);have OV:=oa.o.f.at_ 0;rw [yt] at OV;have OW:=(d9 j hj).2;rw [AL] at OW;have JH:(j:Int) < (fs.length:Int):=by omega
 have JI:Hid (Ln x fs w0 W3 within name v w.heap.size (w.heap.size+1) ps W3):=⟨oa.o,C6.o.below b3,n2.stays b3,v2.stays b3,own_below qm.o b3,D7,Fr.refl _ _ _ _,mw.o.trans (b3.mono (Nat.le_trans p9 b2.size)),fun e=>by have:=(aS ha _ e.symm).2;omega⟩;have qp:Hid (qC 45 #[.string (ba t),.func (.func 46) #[] #[ptrV x.rb,ptrV (w.heap.size+1),ptrV w.heap.size,ptrV x.lb]] W3 fun e W=>Out (readL fs (k+1) within name ps) e (Fr x.L x.D v.ownBlock W3 W/\Below x.B w0 W) (fun qs=>Ln x fs w0 W3 within name v w.heap.size (w.heap.size+1) qs W)):=by
  have hR:readL fs (k+1) within name ps=iC (jR (readL fs k (within++[name]))) (linesL t) ps:=by
   rw [<-xE];unfold readL;rw [hf];simp only;rw [if_neg hm]
  rw [hR];refine zX t 46 _ (enters_of Tryz.func46 (by kernel_rfl) rfl) (Ln x fs w0 W3 within name v w.heap.size (w.heap.size+1)) (fun W=>Fr x.L x.D v.ownBlock W3 W/\Below x.B w0 W) (jR (readL fs k (within++[name]))) (fun ps W W' h hb=>h.below hb) (fun ps W h=>O6.kept (show Below _ _ _ from uc▸h.low)) (fun qs W s mj h=>?_) ps W3 JI.o py;have ql:s.length<=100000:=Nat.le_trans (xN mj) py
  cases hp:pre incM s with
  | false=>exact wF x fs w0 W3 k within name v _ _ qs s W h ql hp
  | true=>exact Dq x fs w0 W3 k yg within name v _ _ qs s W h ql hp hk (ox.down hf mj hp)
 obtain ⟨g,HG⟩:=qX (readL fs (k+1) within name ps);rw [HG.o] at qp;rw [HG.o];have JJ:=hid (nU hf).1;have ME:=hid hn;have V4:=hid hk;have WA:=hid oz;have EJ:=hid oy;have G9:=hid n2;have xp:=hid v2;obtain ⟨Av,cv,hv⟩:=aO ha;obtain ⟨nv,od⟩:=qY (within.length);rw [od] at hv;subst hv;rw [od] at JG;have OU:¬((nv:Int)=4):=by omega
 have AO:=hid od;unfold ptrV at qp AN;unfold ptrV;generalize ba t=tx at OW qp;generalize fs.length=nf at OV JH;clear he hs ha ox hb sm b2 n2 v2 y7 hf hm wl AL hj JD EG r3 b3 yv yw D7 oy d9 yt VZ py yg O6 AM uc hn hk oz;go_enter Tryz.func42,Tryz.ntmps42
 go_wp2_with (go_at_call 43;refine wm.o.mono ?_;rintro e1 w1 ⟨rfl,rfl⟩)
 refine qp.o.mono ?_;intro e4 w4 h4
 cases g with
 | error c =>
  obtain ⟨rfl,hc,ou,x8⟩:=h4.of_err;have MA:(c == 0)=false:=by simp [hc]
  have HC:=hid hc;have xj:=hid ou;have vu:=hid x8;clear h4 hc ou x8;go_wp2;go_ret;exact ⟨Out.err rfl rfl HC.o trivial,(Fr.of_below (i9.o.thenG B8.o)).tr xj.o,vu.o⟩
 | ok rs =>
  obtain ⟨rfl,s9⟩:=h4.of_ok;have V7:=hid s9;clear h4;obtain ⟨c4,f4,AQ,JK⟩:=s9.st.done;obtain ⟨v4,OX,OY⟩:=s9.st.list;obtain ⟨A4,OZ,AS⟩:=OY.form;obtain ⟨n4,V9⟩:=qY (rs.length);rw [V9] at AS;subst AS;have PA:=hid OX;have LL:=hid V9;have sn:=hid AQ;obtain ⟨l4,AT,vd⟩:=wT _ _ _ _ _ _ HG.o;have WB:Hid (Done fs (fun y=>if y=.string (ba name) then some (kM nv n n4) else f4 y) (if (f4 (.string (ba name))).isSome then c4 else c4+1) rs):=by
   have e1:=AO.o;have e2:=EJ.o;have e3:=ME.o;have e4:=V4.o;refine Done.put (d:=nv) (a:=n) (b:=n4) JK JJ.o (by omega) ?_ (Nat.le_of_eq V9.symm) ?_
   . rw [<-V9,vd,List.length_append];omega
   have e5:4 - nv=k+1:=by omega
   rw [e5,AT,<-V9,vd,<-e2,List.drop_left,List.length_append,Nat.add_sub_cancel_left,List.take_length]
  obtain ⟨w5,AU,PB,r8⟩:=AQ.store (w:=w4.drew) Tryz.underlying103 (by have:=JK.few;have:=WA.o;omega) (v:=kM nv n n4) HK.o;have JL:=hid AU;have DV:=hid PB;have mt:=hid r8;clear s9 AQ JK OX OY V9 AT vd AU PB r8;go_wp2_with (fail)
  refine qG (S:=fun U=>Has U x.db 103 #[.map (some x.D)]/\Has U w.heap.size 9 #[.string (ba name)]/\Has U (w.heap.size+1) 34 #[.slice Av nv cv]/\Has U x.lb 30 #[ptrV x.L]/\Has U x.L 106 #[.slice A4 n4 OZ]) (by kernel_rfl) (⟨V7.o.env.d,V7.o.nbx,V7.o.abx,V7.o.env.l,PA.o⟩) (fun hS=>?_);refine aG 0 ?_
  iterate 11
   refine qT rfl (by kernel_rfl) ‹_› (fun w a8=>by have c1:=a8.1.at_ 0;have c2:=a8.2.1.at_ 0;have c3:=a8.2.2.1.at_ 0;have c4:=a8.2.2.2.1.at_ 0;have c5:=a8.2.2.2.2.at_ 0;unfold ptrV at c4;go_simp;with_reducible rfl) ?_;simp only [Act.put,aB,aA,aC,Nat.reduceAdd]
  refine aE ?_;refine qD 11 rfl (by kernel_rfl) fun K hK=>?_
  refine uY (by rfl) (.tmp 72) (.tmp 73) (.tmp 82) rfl (.map (some x.D)) (.string (ba name)) (kM nv n n4) rfl rfl rfl JL.o ?_;have ph:Has w5 x.db 103 #[.map (some x.D)]/\Has w5 w.heap.size 9 #[.string (ba name)]/\Has w5 (w.heap.size+1) 34 #[.slice Av nv cv]/\Has w5 x.lb 30 #[ptrV x.L]/\Has w5 x.L 106 #[.slice A4 n4 OZ]:=⟨Has.map (w:=w4.drew) V7.o.env.d sn.o mt.o,Has.map (w:=w4.drew) V7.o.nbx sn.o mt.o,Has.map (w:=w4.drew) V7.o.abx sn.o mt.o,Has.map (w:=w4.drew) V7.o.env.l sn.o mt.o,Has.map (w:=w4.drew) PA.o sn.o mt.o⟩;refine hK.o _ _ ph (fun hS=>?_);clear hK K hS;refine qM (by kernel_rfl) ?_;go_wp2;go_ret;have AV:Hid (w4.grownBy w5 (some x.D)):=⟨mt.o.os,mt.o.tape,mt.o.output,mt.o.size,mt.o.block⟩;refine ⟨Out.ok rfl rfl ⟨⟨V7.o.st.list.map sn.o AV.o,⟨_,_,DV.o,WB.o⟩,GH.o.low⟩,?_⟩,?_,?_⟩
  . exact V7.o.ar.fr (Fr.of_map (L:=x.L) (r:=none) sn.o AV.o) (fun k _ e=>nomatch e)
  . exact (Fr.of_below (i9.o.thenG B8.o)).tr (V7.o.fr.tr (Fr.of_map sn.o AV.o))
  exact bM AV.o V7.o.low (fun k hk=>by injection hk with hk;rw [<-hk];exact j7.o.lowD) V7.o.size
def Zp (x:Bx) (fs:Fl) (w0:World) (O6:Gd w0) (AM:bO w0 x.fv fs) (uc:x.B=w0.heap.size) (oz:fs.length<=1000) (py:∀i (hi:i < fs.length),fs[i].2.length<=100000):∀k,ReadOk x fs w0 k:=by
 intro k;induction k with
 | zero =>
  intro within name ps v w hk np he hs ha ox D7 hb
  cases hf:bQ fs name with
  | none=>exact Aq x fs w0 0 within name ps v w hk np he hs ha ox D7 hb hf
  | some t =>
   by_cases hm:name∈within
   . exact Be x fs w0 0 within name ps v w hk np he hs ha ox D7 hb t hf hm
   exact Pu x fs w0 0 within name ps v w hk np he hs ha ox D7 hb t hf hm rfl
 | succ k ih =>
  intro within name ps v w hk np he hs ha ox D7 hb
  cases hf:bQ fs name with
  | none=>exact Aq x fs w0 (k+1) within name ps v w hk np he hs ha ox D7 hb hf
  | some t =>
   by_cases hm:name∈within
   . exact Be x fs w0 (k+1) within name ps v w hk np he hs ha ox D7 hb t hf hm
   have ht:t.length<=100000:=by obtain ⟨_,i,hi,rfl⟩:=nU hf;exact py i hi
   obtain ⟨c,f,h1,h2⟩:=hs.done;have rv:=eE name (by unfold maxLen;omega);have uniq:∀c' f',MapZ w zR x.D c' f'->Done fs f' c' ps->f' (.string (ba name))=f (.string (ba name)):=by
    intro c' f' k1 k2;have a1:=k1.lookOk Tryz.underlying103 (jB w) rv;have a2:=h1.lookOk Tryz.underlying103 (jB w) rv;rw [a1] at a2;simp only [Result.ok.injEq,Value.tuple.injEq,and_true] at a2;have e2:=congrArg (fun a:Array Value=>a.toList) a2;simp only [List.cons.injEq,Value.bool.injEq,and_true] at e2
    cases p:f' (.string (ba name)) with
    | none =>
     cases q:f (.string (ba name)) with
     | none=>rfl
     | some u=>rw [p,q] at e2;simp at e2
    | some u' =>
     cases q:f (.string (ba name)) with
     | none=>rw [p,q] at e2;simp at e2
     | some u=>rw [p,q] at e2;simp at e2;rw [e2]
   cases hq:f (.string (ba name)) with
   | none=>exact Vp x fs w0 k ih O6 AM uc within name ps v w (by omega) np he hs ha ox D7 hb t hf hm (by omega) oz ht (fun c' f' k1 k2=>(uniq c' f' k1 k2).trans hq)
   | some u =>
    obtain ⟨d,a,b,rfl,_⟩:=h2.1 name u hq;by_cases hd:within.length<=d
    . exact Ud x fs w0 (k+1) within name ps v w hk np he hs ha ox D7 hb t hf hm (by omega) oz d a b (fun c' f' k1 k2=>(uniq c' f' k1 k2).trans hq) hd
    exact Np x fs w0 k ih O6 AM uc within name ps v w (by omega) np he hs ha ox D7 hb t hf hm (by omega) oz ht d a b (fun c' f' k1 k2=>(uniq c' f' k1 k2).trans hq) (by omega)
def kD (B:Nat) (fs:Fl) (name:By) (e:Ending) (W:World):Prop :=
 match readL fs 4 [] name [] with
 | .error c=>e=.returned (.tuple #[.pointer none,.int .i64 c])/\c≠0
 | .ok qs=>∃L,e=.returned (.tuple #[ptrV L,.int .i64 0])/\B<=L/\eH B W L qs/\qs.length<=64
def bx (w w1:World) (pm:Nat) (fv:Value):Bx:=⟨w1.heap.size,w1.heap.size+1+1,w1.heap.size+1+1+1+1,w.heap.size,w1.heap.size+1+1+1+1+1,w1.heap.size+1+1+1,w1.heap.size+1,pm,w.heap.size,fv⟩
def Wk {w W0 w1:World} {pm c:Nat} {fv:Value} {fs:Fl} (b0:qW w W0) (_s0:W0.heap.size=w.heap.size+1) (f0:Has W0 w.heap.size 23 #[fv]) (c8:qW W0 w1) (hf:bO w1 fv fs) (hm:MapZ w1 (.int .i64 0) pm c (plF fs 0)) :
 ∀W,W=((((((w1.alloc (Obj.cells #[Value.map (some pm)] 101)).alloc (Obj.map #[] 0)).alloc (Obj.cells #[Value.map (some (w1.heap.size+1))] 103)).alloc (Obj.cells #[Value.slice none 0 0] 106)).alloc (Obj.cells #[ptrV (w1.heap.size+1+1+1)] 30)).alloc (Obj.cells #[mR (bx w w1 pm fv)] 107)) ->
 Env (bx w w1 pm fv) fs W/\St (bx w w1 pm fv) fs [] W/\qW w W:=by
 intro W hW;have B1:qW w w1:=b0.thenG c8;have f1:Has w1 w.heap.size 23 #[fv]:=f0.stays c8;obtain ⟨Wa,ha⟩:=qY (w1.alloc (Obj.cells #[Value.map (some pm)] 101));obtain ⟨Wb,hb⟩:=qY (Wa.alloc (Obj.map #[] 0));obtain ⟨Wc,hc⟩:=qY (Wb.alloc (Obj.cells #[Value.map (some (w1.heap.size+1))] 103));obtain ⟨Wd,hd⟩:=qY (Wc.alloc (Obj.cells #[Value.slice none 0 0] 106));obtain ⟨We,he⟩:=qY (Wd.alloc (Obj.cells #[ptrV (w1.heap.size+1+1+1)] 30));rw [ha,hb,hc,hd,he] at hW;have sa:Wa.heap.size=w1.heap.size+1:=by rw [<-ha];simp
 have sb:Wb.heap.size=w1.heap.size+1+1:=by rw [<-hb];simp [sa]
 have sc:Wc.heap.size=w1.heap.size+1+1+1:=by rw [<-hc];simp [sb]
 have sd:Wd.heap.size=w1.heap.size+1+1+1+1:=by rw [<-hd];simp [sc]
 have se:We.heap.size=w1.heap.size+1+1+1+1+1:=by rw [<-he];simp [sd]
 have ba:qW w1 Wa:=ha▸qB.alloc qN _;have bb:qW Wa Wb:=hb▸qB.alloc qN _;have bc:qW Wb Wc:=hc▸qB.alloc qN _;have bd:qW Wc Wd:=hd▸qB.alloc qN _;have be:qW Wd We:=he▸qB.alloc qN _;have bf:qW We W:=hW▸qB.alloc qN _;have be2:=be.thenG bf;have bd2:=bd.thenG be2;have bc2:=bc.thenG bd2;have oe:=bb.thenG bc2;have WC:=ba.thenG oe;have h1:Has W w1.heap.size 101 #[.map (some pm)]:=(ha▸Has.fresh w1 101 _:Has Wa w1.heap.size 101 _).stays oe;have h2:MapZ W zR (w1.heap.size+1) 0 (fun _=>none):=by
  have:=MapZ.made Wa zR;rw [hb,sa] at this;exact this.kept (bc2.block _ this.inside)
 have h3:Has W (w1.heap.size+1+1) 103 #[.map (some (w1.heap.size+1))]:=(hc▸Has.fresh' Wb 103 _ sb.symm:Has Wc (w1.heap.size+1+1) 103 _).stays bd2;have h4:Has W (w1.heap.size+1+1+1) 106 #[.slice none 0 0]:=(hd▸Has.fresh' Wc 106 _ sc.symm:Has Wd (w1.heap.size+1+1+1) 106 _).stays be2;have h5:Has W (w1.heap.size+1+1+1+1) 30 #[ptrV (w1.heap.size+1+1+1)]:=(he▸Has.fresh' Wd 30 _ sd.symm:Has We (w1.heap.size+1+1+1+1) 30 _).stays bf;have h6:Has W (w1.heap.size+1+1+1+1+1) 107 #[mR (bx w w1 pm fv)]:=hW▸Has.fresh' We 107 _ se.symm;have xr:=hm.inside;have p9:=B1.size;refine ⟨⟨h1,h3,h5,f1.stays WC,h6,⟨c,hm.kept (WC.block _ hm.inside)⟩,?_,?_⟩,⟨⟨_,h4,Pats.nil _ _⟩,⟨0,_,h2,Done.none _ _⟩,?_⟩,B1.thenG WC⟩
 . show pm≠w1.heap.size+1;omega
 . show w.heap.size<=w1.heap.size+1;omega
 show w.heap.size<=w1.heap.size+1+1+1;omega
def xU (fs:Fl) (name:By) (v:Value) (w:World) (O6:Gd w) (hf:bO w v fs) (oz:fs.length<=1000) (hn:∀i (hi:i < fs.length),fs[i].1.length<=100000) (py:∀i (hi:i < fs.length),fs[i].2.length<=100000) (np:name.length<=1000000000000000) :
 qC 11 #[v,.string (ba name)] w fun e W=>kD w.heap.size fs name e W/\qW w W:=by
 have rl:=@run_makeMap Tryz.prog;have NI:∀(fn:Fn) (first cap:Array Value) (w:World),(Instr.makeFunc fn first cap).run Tryz.prog w=.ok (.func fn first cap) w:=fun _ _ _ _=>rfl
 obtain ⟨W0,o6⟩:=qY (w.alloc (.cells #[v] 23));have b0:qW w W0:=o6▸qB.alloc qN _;have f0:Has W0 w.heap.size 23 #[v]:=o6▸Has.fresh _ _ _;have s0:W0.heap.size=w.heap.size+1:=by rw [<-o6];simp
 have G5:=hid (Ls v fs W0 (hf.stays b0) oz hn);have HF:=hid (hf.stays b0);have my:=hid b0;have HF0:=hid f0;have WD:=hid O6;have yu:=hid (fun x (hv:x.fv=v) (h:x.B=w.heap.size)=>Zp x fs w O6 (by rw [hv];exact hf) h oz py 4);have SK:=hid np;obtain ⟨A,cp,hv⟩:=hf.form;obtain ⟨nf,GI⟩:=qY (fs.length);rw [GI] at hv;subst hv;have cf0:=f0.at_ 0;clear hf hn py oz O6 np f0 b0;go_enter Tryz.func11,Tryz.ntmps11
 go_wp2_with (fail)
 refine G5.o.mono ?_;rintro e1 w1 ⟨⟨pm,c,rfl,xr,hm⟩,c8⟩;have VP:=hid hm;have ub:=hid c8;have HPM:=hid xr;clear hm c8 xr;obtain ⟨W6,j8⟩:∃W,W=((((((w1.alloc (Obj.cells #[Value.map (some pm)] 101)).alloc (Obj.map #[] 0)).alloc (Obj.cells #[Value.map (some (w1.heap.size+1))] 103)).alloc (Obj.cells #[Value.slice none 0 0] 106)).alloc (Obj.cells #[ptrV (w1.heap.size+1+1+1)] 30)).alloc (Obj.cells #[mR (bx w w1 pm (.slice A nf cp))] 107)):=⟨_,rfl⟩;obtain ⟨SM,C9,uq⟩:=Wk (fs:=fs) my.o s0 HF0.o ub.o (HF.o.stays ub.o) VP.o W6 j8;have SM:=hid SM;have C9:=hid C9;have uq:=hid uq;have AK:=hid (yu.o (bx w w1 pm (.slice A nf cp)) rfl rfl [] name [] (.slice none 0 0) W6 rfl SK.o SM.o C9.o (World.ownsRow_nil _ _ _ _) (eZ.nil _ _) (by simp) uq.o);obtain ⟨g,HG⟩:=qX (readL fs 4 [] name []);rw [HG.o] at AK;unfold mR ptrV bx at j8;dsimp only at j8;unfold ptrV at AK;go_wp2_with (fail)
 rw [<-j8];refine AK.o.mono ?_;intro e6 w6 h6;obtain ⟨h6,ng,S7⟩:=h6;have HLB:Hid (Has w6 (w1.heap.size+1+1+1+1) 30 #[ptrV (w1.heap.size+1+1+1)]):=(SM.o.fr ng).l;have sk:=hid S7;have AN:=HLB.o.at_ 0;unfold ptrV at AN;clear ng S7
 cases g with
 | error c =>
  obtain ⟨rfl,hc,_⟩:=h6.of_err;have MA:(c == 0)=false:=by simp [hc]
  have HC:=hid hc;clear h6 hc;go_wp2;go_ret2;refine ⟨?_,sk.o⟩;unfold kD;rw [HG.o];exact ⟨rfl,HC.o⟩
 | ok rs =>
  obtain ⟨rfl,WE,_⟩:=h6.of_ok;have HS6:=hid WE;clear h6 WE;go_wp2;go_ret2;refine ⟨?_,sk.o⟩;unfold kD;rw [HG.o];exact ⟨_,rfl,HS6.o.low,HS6.o.list,pL _ _ _ _ _ _ HG.o (by simp)⟩
def lC (s path:By):Bool:=match parseL s with | none=>false | some p=>mB p.rooted p.hs path
def sJ (s:By):Bool:=match parseL s with | none=>false | some p=>p.m &&& 1 != 0
def pY (s:By):Bool:=match parseL s with | none=>false | some p=>p.m &&& 4 != 0
def nE (path:By) (ps:List By):Option By:=ps.find? fun s=>lC s path
def hZ (ps:List By) (path:By):Bool × Bool :=
 if mayB path then match nE path ps with | none=>(false,false) | some s=>if sJ s then (false,false) else (true,pY s) else (false,false)
def Pats.at_ {B:Nat} {w:World} {v:Value} {ps:List By} (h:Pats B w v ps) (h0:0 < ps.length):∃g c,v=.slice (some ⟨g,0,none⟩) ps.length c/\g < w.heap.size/\∀k (hk:k < ps.length),∃pg p,w.cell? ⟨g,k,none⟩=some (ptrV pg)/\PatIs w pg ps[k] p/\parseL ps[k]=some p:=by
 obtain ⟨gs,ho,hl,hp⟩:=h;obtain ⟨g,c,h1,_,h3,_,h5⟩:=sX ho h0;refine ⟨g,c,h1,h3,fun k hk=>?_⟩;have hg:gs[k]? = some gs[k]:=List.getElem?_eq_getElem (by omega);obtain ⟨p,a1,a2,_⟩:=hp k gs[k] ps[k] hg (List.getElem?_eq_getElem hk);exact ⟨gs[k],p,h5 k _ (by rw [List.getElem?_map,hg];rfl),a1,a2⟩
def If {ps:List By} {path:By} {k:Nat} (hk:k < ps.length) (h1:(ps.take k).any (fun s=>lC s path)=false) (h2:lC ps[k] path=true):nE path ps=some ps[k]:=by
 obtain ⟨s,hs⟩:=qY (ps[k]);rw [hs] at h2 ⊢;have e:ps.take k++s :: ps.drop (k+1)=ps:=by rw [<-hs,List.getElem_cons_drop,List.take_append_drop]
 have e2:nE path ps=(ps.take k++s :: ps.drop (k+1)).find? fun s=>lC s path:=by rw [e];rfl
 rw [e2,List.find?_append];rw [List.find?_eq_none.2 (fun x hx hm=>by rw [List.any_eq_false] at h1;exact h1 x hx hm)];simp [h2]
def Ey {ps:List By} {path:By} (h1:ps.any (fun s=>lC s path)=false):nE path ps=none:=by
 unfold nE;exact List.find?_eq_none.2 (fun x hx hm=>by rw [List.any_eq_false] at h1;exact h1 x hx hm)
def Jt (g pb:Nat) (s path:By) (p:Pt) (w:World) (hp:PatIs w g s p) (hl:parseL s=some p) (hb:Has w pb 9 #[.string (ba path)]) :
 qC 157 #[ptrV g,.pointer (some ⟨pb,0,none⟩)] w fun e w'=>e=.returned (.bool (lC s path))/\qW w w':=by
 have HM:=hid (Pp g s p path w hp);have ho:lC s path=mB p.rooted p.hs path:=by unfold lC;rw [hl]
 rw [<-ho] at HM;have c0:=hb.at_ 0;generalize lC s path=b at HM;unfold ptrV;clear hp hl ho hb;go_enter Tryz.func157,Tryz.ntmps157
 go_wp2_with (go_at_call 158;refine HM.o.mono ?_;rintro e1 w1 ⟨rfl,c8⟩)
 go_ret;exact ⟨rfl,c8⟩
def Rp (B:Nat) (v:Value) (ps:List By) (path:By) (pb:Nat) (w:World) (h:Pats B w v ps) (hb:Has w pb 9 #[.string (ba path)]) (hn:ps.length<=64) :
 qC 156 #[v,.func (.func 157) #[] #[.pointer (some ⟨pb,0,none⟩)]] w fun e w'=>(∃z:Int,e=.returned (.int .i64 z)/\((z = -1/\nE path ps=none)∨∃(k:Nat) (s:By),ps[k]? = some s/\z=(k:Int)/\nE path ps=some s))/\qW w w':=by
 by_cases h0:ps.length=0
 .
  obtain rfl:=List.length_eq_zero_iff.1 h0;obtain ⟨A,c,rfl⟩:=h.form;clear h hb;go_enter Tryz.func156,Tryz.ntmps156
  go_wp2;refine wp_loop_rounds 1 ?_;rw [rounds_succ];go_wp2;go_ret;exact ⟨⟨-1,rfl,.inl ⟨rfl,rfl⟩⟩,Below.refl _ _⟩
 obtain ⟨g,cap,rfl,hg,d9⟩:=h.at_ (by omega);have HC:=hid d9;have HBX:=hid hb;obtain ⟨n,oy⟩:=qY (ps.length);have EJ:=hid oy;rw [oy] at hn;rw [oy];clear h hb d9 h0 oy;go_enter Tryz.func156,Tryz.ntmps156
 go_wp2;go_loopw [5,8] (fun _ i wr=>∃k:Nat,i=.int .i64 (k:Int)/\k<=n/\Hid ((ps.take k).any (fun s=>lC s path)=false)/\Hid (qW w wr))
  (fun _ i _=>n - (intOf i).toNat)
 case atStart=>exact ⟨0,rfl,Nat.zero_le _,rfl,Below.refl _ _⟩
 obtain ⟨k,rfl,hk,HT,HB⟩:=hrel;by_cases d8:k < n
 .
  have j4:k < ps.length:=by rw [EJ.o];exact d8
  obtain ⟨pg,p,ue,ms,y7⟩:=HC.o k j4;have c0:=(HB.o.cell (p:=⟨g,k,none⟩) hg).trans ue;have CP:=hid (Jt pg pb ps[k] path p wr (ms.stays HB.o) y7 (HBX.o.stays HB.o));have HN:=hid (any_take_succ ps (fun s=>lC s path) k j4);unfold ptrV at c0 CP
  cases MF:lC ps[k] path with
  | true =>
   have HA:Hid (nE path ps=some ps[k]):=If j4 HT.o MF;rw [MF] at CP;clear MF ms y7 ue;go_wp2_with (go_at_call 157;refine CP.o.mono ?_;rintro e1 w1 ⟨rfl,c8⟩)
   go_ret;exact ⟨⟨(k:Int),rfl,.inr ⟨k,_,List.getElem?_eq_getElem j4,rfl,HA.o⟩⟩,HB.o.thenG c8⟩
  | false =>
   have G9:Hid ((ps.take (k+1)).any (fun s=>lC s path)=false):=by show _=_;rw [HN.o,HT.o,MF];rfl
   rw [MF] at CP;clear MF HN ms y7 ue;go_wp2_with (go_at_call 157;refine CP.o.mono ?_;rintro e1 w1 ⟨rfl,c8⟩)
   exact ⟨⟨k+1,by go_num,by omega,G9.o,HB.o.thenG c8⟩,by simp [intOf];omega⟩
 have HK:Hid (k=ps.length):=by show _=_;rw [EJ.o];omega
 go_wp2;go_ret;refine ⟨⟨-1,rfl,.inl ⟨rfl,?_⟩⟩,HB.o⟩;have:=HT.o;rw [HK.o,List.take_length] at this;exact Ey this
def Ml (B L:Nat) (ps:List By) (path:By) (w:World) (hG:Gd w) (h:eH B w L ps) (hn:ps.length<=64) (hp:path.length<=4000) :
 qC 100 #[ptrV L,.string (ba path)] w fun e w'=>e=.returned (.tuple #[.bool (hZ ps path).1,.bool (hZ ps path).2])/\qW w w':=by
 obtain ⟨W0,o6⟩:=qY (w.alloc (.cells #[.string (ba path)] 9));have b0:qW w W0:=o6▸qB.alloc qN _;have p0:Has W0 w.heap.size 9 #[.string (ba path)]:=o6▸Has.fresh _ _ _;have qq:=hid (lI (ba path) W0 (hG.kept b0) (by rw [aD];exact hp));have my:=hid b0;have NO:=hid p0;have HL:=hid (h.below b0);have mo:=hid hn;have cp0:=p0.at_ 0
 cases hm:mayB path with
 | false =>
  have HR:Hid (hZ ps path=(false,false)):=by show _=_;unfold hZ;rw [if_neg (by rw [hm];decide)]
  have rl:mayB (tl (ba path))=false:=hm;rw [rl] at qq;rw [HR.o];unfold ptrV;clear h hG hn hp b0 p0 hm rl;go_enter Tryz.func100,Tryz.ntmps100
  go_wp2_with (go_at_call 99;refine qq.o.mono ?_;rintro e1 w1 ⟨rfl,c8⟩)
  go_ret2;exact ⟨rfl,my.o.thenG c8⟩
 | true =>
  have HR:Hid (hZ ps path=match nE path ps with | none=>(false,false) | some s=>if sJ s then (false,false) else (true,pY s)):=by show _=_;unfold hZ;rw [if_pos hm]
  have rl:mayB (tl (ba path))=true:=hm;rw [rl] at qq;obtain ⟨r,oq⟩:=qX (hZ ps path);rw [oq.o];rw [oq.o] at HR;unfold ptrV;clear h hG hn hp b0 hm rl;go_enter Tryz.func100,Tryz.ntmps100
  go_wp2_with (fail)
  refine qq.o.mono ?_;rintro e1 w1 ⟨rfl,c8⟩;have ub:=hid c8;have CZ:=hid (HL.o.below c8);obtain ⟨v,yv,yw⟩:=CZ.o;obtain ⟨A,c,hv⟩:=yw.form;obtain ⟨n,oy⟩:=qY (ps.length);rw [oy] at hv;subst hv;have EJ:=hid oy;have WF:=hid (Rp B (.slice A n c) ps path w.heap.size w1 yw (NO.o.stays c8) mo.o);have VY:=hid yv;have vq:=hid yw;have cL:=yv.at_ 0;clear c8 yw yv oy;go_wp2_with (fail)
  refine WF.o.mono ?_;rintro e2 w2 ⟨⟨z,rfl,hz⟩,a9⟩;have i9:=hid a9;have cL2:=(VY.o.stays a9).at_ 0;rcases hz with ⟨rfl,hz⟩ | ⟨k,s,DQ,rfl,hz⟩
  . have J0:Hid (r=(false,false)):=by show _=_;rw [HR.o,hz]
    clear a9 hz;go_wp2;go_ret2;refine ⟨by rw [J0.o];rfl,(my.o.thenG ub.o).thenG i9.o⟩
  obtain ⟨hk,DQ⟩:=List.getElem?_eq_some_iff.1 DQ;obtain ⟨g,cap,R8,hg,d9⟩:=vq.o.at_ (by omega);rw [EJ.o] at R8;simp only [Value.slice.injEq,true_and] at R8;obtain ⟨rfl,rfl⟩:=R8;obtain ⟨pg,p,ue,ms,y7⟩:=d9 k hk;rw [DQ] at ms y7;have c0:=(a9.cell (p:=⟨g,k,none⟩) hg).trans ue;have AW:=hid (Gw (ms.stays a9));have JM:=hid (Bq (ms.stays a9));have j3:(p.m &&& 1 != 0)=sJ s:=by unfold sJ;rw [y7]
  have MG:(p.m &&& 4 != 0)=pY s:=by unfold pY;rw [y7]
  rw [j3] at AW;rw [MG] at JM;have PC:(k:Int) < (n:Int):=by have:=EJ.o;omega
  rw [hz] at HR;unfold ptrV at c0
  cases MH:sJ s with
  | true =>
   rw [MH] at AW;have J0:Hid (r=(false,false)):=by show _=_;rw [HR.o];simp only;rw [if_pos MH]
   clear a9 hz d9 ue ms y7 j3 MG MH DQ hk;go_wp2_with (go_at_call 159;refine AW.o.mono ?_;rintro e3 w3 ⟨rfl,rfl⟩)
   go_ret2;refine ⟨by rw [J0.o];rfl,(my.o.thenG ub.o).thenG i9.o⟩
  | false =>
   rw [MH] at AW;have J0:Hid (r=(true,pY s)):=by show _=_;rw [HR.o];simp only;rw [if_neg (by rw [MH];decide)]
   generalize pY s=dl at JM J0;clear a9 hz d9 ue ms y7 j3 MG MH DQ hk;go_wp2_with (first
    | (go_at_call 159;refine AW.o.mono ?_;rintro e3 w3 ⟨rfl,rfl⟩)
    | (go_at_call 160;refine JM.o.mono ?_;rintro e3 w3 ⟨rfl,rfl⟩))
   go_ret2;refine ⟨by rw [J0.o];rfl,(my.o.thenG ub.o).thenG i9.o⟩
end Go.Proofs.YtahkcemdbfjilaaGreatDoor.Glob
namespace Go.Proofs.YtahkcemdbfjilaaGreatDoor
open Go.RowKit Go.Maps
def Uu (s:ByteArray) (w:World) (hs:4000 < s.size) :
 qC 74 #[.string s] w fun e w'=>e=.returned (.agg #[.string ⟨#[]⟩,.string ⟨#[]⟩])/\qW w w':=by
 have h1:(160:Int) < (s.size:Int):=by omega
 clear hs;go_enter Tryz.func74,Tryz.ntmps74
 go_wp2;exact bodyPost_ret (results_cell_row rfl _ _ w.heap.size 156 #[.string ⟨#[]⟩,.string ⟨#[]⟩] (0,0) _ rfl (Has.fresh _ _ _) Tryz.underlying156 rfl tH) rfl ⟨rfl,qB.alloc qN _⟩
def Xh {l:By} (h:4000 < l.length):mayB l=false:=by
 cases e:mayB l with
 | false=>rfl
 | true=>have:=(aU e).1;omega
def wX (p:By) (b:Bool) (hb:mayB p=b) (w:World) (hG:Gd w):qC 99 #[kS p] w fun e w'=>e=.returned (.bool b)/\qW w w':=by
 by_cases h:p.length<=4000
 . exact fN p b hb w hG h
 have e:b=false:=hb.symm.trans (Xh (by omega));subst e;have C:=hid (Uu (ba p) w (by rw [aD];omega));clear hG hb h;go_enter Tryz.func99,Tryz.ntmps99
 go_wp2_with (go_at_call 74;refine C.o.mono ?_;rintro e1 w1 ⟨rfl,c8⟩;have B1:=hid c8;clear c8)
 go_ret;exact ⟨rfl,B1.o⟩
def Fp (p:Nat) (s:By) (w:World) (hG:Gd w):qC 60 #[.pointer (some ⟨p,0,none⟩),kS s] w fun e w'=>e=.returned (.int .i64 (if mayB s then 0 else 10))/\qW w w':=by
 cases hm:mayB s with
 | true =>
  have C:=hid (wX s true hm w hG);clear hm hG;go_enter Tryz.func60,Tryz.ntmps60
  go_wp2_with (go_at_call 99;refine C.o.mono ?_;rintro e1 w1 ⟨rfl,c8⟩;have B1:=hid c8;clear c8)
  go_ret;exact ⟨rfl,B1.o⟩
 | false =>
  have C:=hid (wX s false hm w hG);clear hm hG;go_enter Tryz.func60,Tryz.ntmps60
  go_wp2_with (go_at_call 99;refine C.o.mono ?_;rintro e1 w1 ⟨rfl,c8⟩;have B1:=hid c8;clear c8)
  go_ret;exact ⟨rfl,B1.o⟩
def fI (L:Tr) (root:By):Int:=if mayB root then dW L root else 10
def Mp {own:Nat->Prop} {w:World} {p:Nat} {M:Mo} (h:Dsk own w p M) (hG:Gd w) (root:By):qC 50 #[.pointer (some ⟨p,0,none⟩),kS root] w fun e w'=>e=.returned (.int .i64 (fI M.now root))/\qW w w':=by
 have C:=hid (Fp p root w hG);unfold fI
 cases hm:mayB root with
 | false =>
  rw [hm] at C;clear h hG hm;go_enter Tryz.func50,Tryz.ntmps50
  go_wp2_with (go_at_call 60;refine C.o.mono ?_;rintro e1 w1 ⟨rfl,c8⟩;have B1:=hid c8;clear c8)
  go_ret;exact ⟨rfl,B1.o⟩
 | true =>
  rw [hm] at C;have j3:=dE hm;have p5:root.length<=4000:=by have:=(aU hm).1;omega
  obtain ⟨c,HC⟩:=qX (dW M.now root);have CD:Hid (∀W,qW w W->qC 98 #[.pointer (some ⟨p,0,none⟩),kS root] W fun e w'=>∃A c' n,e=.returned (.tuple #[.slice A n c',.int .i64 c])/\qW W w'):=fun W hb=>by
   refine (Qr (h.on hb) (hG.kept hb) root p5).mono ?_;rintro e w' ⟨A,c',g,rfl,_,WG⟩;refine ⟨A,c',(dJ M.now root).1.length,?_,WG⟩;have e2:(dJ M.now root).2=c:=by
    unfold dJ;rw [hm];simp only [Bool.not_true,Bool.and_false,Bool.false_eq_true,if_false];rw [<-HC.o];split
    . rename_i k;rw [k]
    rfl
   rw [e2]
  rw [HC.o];clear h hG hm j3 p5;go_enter Tryz.func50,Tryz.ntmps50
  go_wp2_with fail
  refine C.o.mono ?_;rintro e1 w1 ⟨rfl,c8⟩;have B1:=hid c8;clear c8;go_wp2_with fail
  refine (CD.o _ B1.o).mono ?_;rintro e2 w2 ⟨A,c',n,rfl,a9⟩;have B2:Hid (qW w w2):=B1.o.trans (a9.mono B1.o.size);clear a9;go_wp2;go_ret;exact ⟨rfl,B2.o⟩
inductive rL (w:World):Value->Option (List By)->Prop
 | none:rL w (.pointer Option.none) Option.none
 | some (B L:Nat) (ps:List By):Glob.eH B w L ps->ps.length<=64->rL w (.pointer (Option.some ⟨L,0,Option.none⟩)) (Option.some ps)
def rL.on {w w':World} {v:Value} {lo:Option (List By)} (h:rL w v lo) (hb:qW w w'):rL w' v lo:=by
 cases h with
 | none=>exact .none
 | some B L ps h1 h2=>exact .some B L ps (h1.below hb) h2
def igB (lo:Option (List By)) (p:By):Bool:=match lo with
 | none=>false
 | some ps=>(Glob.hZ ps p).1
def Lr (p:By) (w:World):qC 100 #[.pointer none,kS p] w fun e w'=>e=.returned (.tuple #[.bool false,.bool false])/\qW w w':=by
 go_enter Tryz.func100,Tryz.ntmps100
 go_wp2;go_ret2;exact ⟨rfl,qB.alloc qN _⟩
def Bp {w:World} {v:Value} {lo:Option (List By)} (h:rL w v lo) (hG:Gd w) (p:By) (hp:p.length<=4000):qC 52 #[v,kS p] w fun e w'=>e=.returned (.bool (igB lo p))/\qW w w':=by
 have C:Hid (qC 100 #[v,kS p] w fun e w'=>∃d,e=.returned (.tuple #[.bool (igB lo p),.bool d])/\qW w w'):=by
  cases h with
  | none=>exact (Lr p w).mono fun e w' ⟨h1,h2⟩=>⟨false,h1,h2⟩
  | some B L ps h1 h2 =>
   exact (Glob.Ml B L ps p w hG h1 h2 hp).mono fun e w' ⟨h1,h2⟩=>⟨_,h1,h2⟩
 generalize igB lo p=b at C;clear h hG hp;go_enter Tryz.func52,Tryz.ntmps52
 go_wp2_with (go_at_call 100;refine C.o.mono ?_;rintro e1 w1 ⟨d,rfl,c8⟩;have B1:=hid c8;clear c8)
 go_ret;exact ⟨rfl,B1.o⟩
def Oe (n:Nd) (hd:n.data.length<=140737488355328) (w:World):qC 53 #[nodeV n] w fun e w'=>e=.returned (.bool (eT n))/\qW w w':=by
 obtain ⟨k,d,x,t⟩:=n;have HB:Hid (eT ⟨k,d,x,t⟩=decide ((4096:Int) < (((ba d).size:Nat):Int))):=by
  show _=_
  unfold eT;rw [aD];simp only [decide_eq_decide];omega
 rw [HB.o];show qC 53 #[.agg #[.int .i64 k,kS d,kS x,.int .i64 t]] w _
 go_enter Tryz.func53,Tryz.ntmps53
 go_wp2;go_ret;exact ⟨rfl,qB.alloc qN _⟩
end Go.Proofs.YtahkcemdbfjilaaGreatDoor
