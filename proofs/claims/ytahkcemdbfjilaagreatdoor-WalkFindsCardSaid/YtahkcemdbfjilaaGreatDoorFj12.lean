/- Texts. Conditions: as said. -/
import Derived.Test.YtahkcemdbfjilaaGreatDoorFj00
import Derived.Test.YtahkcemdbfjilaaGreatDoorFj11
set_option linter.all false
set_option maxRecDepth 100000
set_option maxHeartbeats 32000000
namespace Go.Proofs.YtahkcemdbfjilaaGreatDoor.Glob
open Go.RowKit
def zH (s:By) (h1:pre [42,42] s=false) (h2:(at8 s 0 == 42)=false) (h3:(at8 s 0 == 63)=false) (h4:(at8 s 0 == 91)=true):elemL s=clsL (s.drop 1):=by
 unfold elemL clsL;rw [h1,h2,h3,h4];rfl
def sW (s:By) (h1:pre [42,42] s=false) (h2:(at8 s 0 == 42)=false) (h3:(at8 s 0 == 63)=false) (h4:(at8 s 0 == 91)=false):elemL s=match dA s with | none=>none | some (c,r)=>some (.byt c,r):=by
 unfold elemL;rw [h1,h2,h3,h4];rfl
def lP (w:World) (W:World) (H:Has W w.heap.size 249 #[.nilFunc,.bool false]) (B:qW w W) (f:Value) (h:UInt8->Bool) (hf:IsFn W f h) (m:Bool) :
 Has ((W.setCell ⟨w.heap.size,0,none⟩ f).setCell ⟨w.heap.size,1,none⟩ (.bool m)) w.heap.size 249 #[f,.bool m]/\qW w ((W.setCell ⟨w.heap.size,0,none⟩ f).setCell ⟨w.heap.size,1,none⟩ (.bool m))/\IsFn ((W.setCell ⟨w.heap.size,0,none⟩ f).setCell ⟨w.heap.size,1,none⟩ (.bool m)) f h/\Gx W ((W.setCell ⟨w.heap.size,0,none⟩ f).setCell ⟨w.heap.size,1,none⟩ (.bool m)):=by
 have G:=Gx.put (Gx.put (Gx.refl W) H 0 f) (H.put 0 f) 1 (.bool m);exact ⟨(H.put 0 f).put 1 (.bool m),(B.setCell qN _).setCell qN _,hf.gx G,G⟩
def fm (s:By) (fold:Bool) (w:World) (h0:1<=s.length) (hs:s.length<=128) (h1:pre [42,42] s=true) :
 qC 184 #[.string (ba s),.bool fold] w fun e w'=>nM fold (elemL s) e w'/\qW w w':=by
 have HE:Hid (elemL s=some (.all,s.drop 2)):=by
  show _=_;unfold elemL;rw [if_pos h1]
 have hp:∀W,qC 75 #[.string (ba s),.string ⟨#[42,42]⟩] W fun e w'=>e=.returned (.bool true)/\W=w':=by
  intro W;have:=fV s [42,42] W;rw [h1] at this;exact this
 have i0:=dL s h0;have z:=aD s;have AF:(1:Int)<=(s.length:Int):=by omega
 generalize elemL s=goal at HE;obtain ⟨W1,p3⟩:=qY (w.alloc (.cells #[.nilFunc,.bool false] 249));have H1:Hid (Has W1 w.heap.size 249 #[.nilFunc,.bool false]):=p3▸Has.fresh _ _ _;have B1:Hid (qW w W1):=p3▸qB.alloc qN _;have zk:(2:Int)<=(s.length:Int):=by have:=bU h1;simp at this;omega
 have zd:=aR s 2;generalize s.drop 2=u at zd HE;clear h1 h0;go_enter Tryz.func184,Tryz.ntmps184
 go_wp2_with (go_at_call 75;refine (hp _).mono ?_;rintro e1 w1 ⟨rfl,rfl⟩)
 have z0:Gx W1 W1.drew:=Gx.of_below qB.drew;have HD:=hid (H1.o.drawn 1);have BD:Hid (qW w W1.drew):=B1.o.drew;refine qG (S:=Gx W1) (by kernel_rfl) (z0) (fun hS=>?_);refine aG 2 ?_
 iterate 2
  refine qT rfl (by kernel_rfl) ‹_› (fun w a8=>by go_simp;with_reducible rfl) ?_;simp only [Act.put,aB,aA,aC,Nat.reduceAdd]
 refine aE ?_;refine qD 0 rfl (by kernel_rfl) fun K hK=>?_
 go_simp;refine (oK _).mono ?_;rintro e2 y2 ⟨⟨f2,rfl,po⟩,mu⟩;obtain rfl:=mu;have HF:=hid po;obtain ⟨k2,vw,rfl⟩:=po.form;clear po;have g8:=z0;refine hK.o _ _ g8 (fun hS=>?_);clear hK K hS;refine qK 1 rfl (by kernel_rfl) ‹_› (fun w a8=>by go_simp;with_reducible rfl) ?_;simp only [Act.put,aB,aA,aC];refine qD 4 rfl (by kernel_rfl) fun K hK=>?_
 have FN:=hid (lP w W1.drew HD.o BD.o _ _ HF.o true);have k0:=H1.o.at_ 0;have k1:=H1.o.at_ 1;have f0:=H1.o.free 0;have f1:=H1.o.free 1;go_simp;have DZ:=Gx.trans g8 FN.o.2.2.2;refine hK.o _ _ DZ (fun hS=>?_);clear hK K hS k0 k1 f0 f1;refine aG 5 ?_
 iterate 2
  refine qT rfl (by kernel_rfl) ‹_› (fun w a8=>by go_simp;with_reducible rfl) ?_;simp only [Act.put,aB,aA,aC,Nat.reduceAdd]
 refine aE ?_;refine qM (by kernel_rfl) ?_;go_wp2;refine bodyPost_ret (aJ rfl _ _ _ w.heap.size _ _ _ (eC FN.o.1) rfl rfl rfl) rfl ⟨?_,FN.o.2.1⟩;rw [HE.o];exact ⟨_,rfl,FN.o.2.2.1⟩
def Yu (s:By) (fold:Bool) (w:World) (h0:1<=s.length) (hs:s.length<=128) (h1:pre [42,42] s=false) (h2:(at8 s 0 == 42)=true) :
 qC 184 #[.string (ba s),.bool fold] w fun e w'=>nM fold (elemL s) e w'/\qW w w':=by
 have HE:Hid (elemL s=some (.part,s.drop 1)):=by
  show _=_;unfold elemL;rw [h1,h2];rfl
 have hp:∀W,qC 75 #[.string (ba s),.string ⟨#[42,42]⟩] W fun e w'=>e=.returned (.bool false)/\W=w':=by
  intro W;have:=fV s [42,42] W;rw [h1] at this;exact this
 have i0:=dL s h0;have z:=aD s;have AF:(1:Int)<=(s.length:Int):=by omega
 generalize elemL s=goal at HE;obtain ⟨W1,p3⟩:=qY (w.alloc (.cells #[.nilFunc,.bool false] 249));have H1:Hid (Has W1 w.heap.size 249 #[.nilFunc,.bool false]):=p3▸Has.fresh _ _ _;have B1:Hid (qW w W1):=p3▸qB.alloc qN _;have q2:(b8 (at8 s 0) == 42)=true:=(aL (at8 s 0) 42).trans h2;have zd:=aR s 1;generalize s.drop 1=u at zd HE;generalize at8 s 0=x at *;clear h1 h0 h2;go_enter Tryz.func184,Tryz.ntmps184
 go_wp2_with (go_at_call 75;refine (hp _).mono ?_;rintro e1 w1 ⟨rfl,rfl⟩)
 have z0:Gx W1 W1.drew:=Gx.of_below qB.drew;have HD:=hid (H1.o.drawn 1);have BD:Hid (qW w W1.drew):=B1.o.drew;refine qG (S:=Gx W1) (by kernel_rfl) (z0) (fun hS=>?_);refine aG 3 ?_
 iterate 2
  refine qT rfl (by kernel_rfl) ‹_› (fun w a8=>by go_simp;with_reducible rfl) ?_;simp only [Act.put,aB,aA,aC,Nat.reduceAdd]
 refine aE ?_;refine qD 0 rfl (by kernel_rfl) fun K hK=>?_
 go_simp;refine (oK _).mono ?_;rintro e2 y2 ⟨⟨f2,rfl,po⟩,mu⟩;obtain rfl:=mu;have HF:=hid po;obtain ⟨k2,vw,rfl⟩:=po.form;clear po;have g8:=z0;refine hK.o _ _ g8 (fun hS=>?_);clear hK K hS;refine qD 1 rfl (by kernel_rfl) fun K hK=>?_
 go_simp;refine (mM _ _ _ HF.o).mono ?_;rintro e4 y4 ⟨⟨f4,rfl,ou⟩,x8⟩;have xj:=hid ou;obtain ⟨k4,IW,rfl⟩:=ou.form;have H4:=hid (Has.stays (w:=W1.drew) HD.o x8);have B4:Hid (qW w y4):=BD.o.thenG x8;have j5:=Gx.then_below z0 x8;refine hK.o _ _ j5 (fun hS=>?_);clear hK K hS;refine qK 2 rfl (by kernel_rfl) ‹_› (fun w a8=>by go_simp;with_reducible rfl) ?_;simp only [Act.put,aB,aA,aC];refine qD 5 rfl (by kernel_rfl) fun K hK=>?_
 have FN:=hid (lP w y4 H4.o B4.o _ _ xj.o true);have k0:=H4.o.at_ 0;have k1:=H4.o.at_ 1;have f0:=H4.o.free 0;have f1:=H4.o.free 1;go_simp;have DZ:=Gx.trans j5 FN.o.2.2.2;refine hK.o _ _ DZ (fun hS=>?_);clear hK K hS k0 k1 f0 f1;refine aG 6 ?_
 iterate 2
  refine qT rfl (by kernel_rfl) ‹_› (fun w a8=>by go_simp;with_reducible rfl) ?_;simp only [Act.put,aB,aA,aC,Nat.reduceAdd]
 refine aE ?_;refine qM (by kernel_rfl) ?_;go_wp2;refine bodyPost_ret (aJ rfl _ _ _ w.heap.size _ _ _ (eC FN.o.1) rfl rfl rfl) rfl ⟨?_,FN.o.2.1⟩;rw [HE.o];exact ⟨_,rfl,(show (fun c:UInt8=>!(c == 47)&&true)=bD fold .part from funext fun c=>Bool.and_true _)▸FN.o.2.2.1⟩
def fw (s:By) (fold:Bool) (w:World) (h0:1<=s.length) (hs:s.length<=128) (h1:pre [42,42] s=false) (h2:(at8 s 0 == 42)=false) (h3:(at8 s 0 == 63)=true) :
 qC 184 #[.string (ba s),.bool fold] w fun e w'=>nM fold (elemL s) e w'/\qW w w':=by
 have HE:Hid (elemL s=some (.one,s.drop 1)):=by
  show _=_;unfold elemL;rw [h1,h2,h3];rfl
 have hp:∀W,qC 75 #[.string (ba s),.string ⟨#[42,42]⟩] W fun e w'=>e=.returned (.bool false)/\W=w':=by
  intro W;have:=fV s [42,42] W;rw [h1] at this;exact this
 have i0:=dL s h0;have z:=aD s;have AF:(1:Int)<=(s.length:Int):=by omega
 generalize elemL s=goal at HE;obtain ⟨W1,p3⟩:=qY (w.alloc (.cells #[.nilFunc,.bool false] 249));have H1:Hid (Has W1 w.heap.size 249 #[.nilFunc,.bool false]):=p3▸Has.fresh _ _ _;have B1:Hid (qW w W1):=p3▸qB.alloc qN _;have q2:(b8 (at8 s 0) == 42)=false:=(aL (at8 s 0) 42).trans h2;have q3:(b8 (at8 s 0) == 63)=true:=(aL (at8 s 0) 63).trans h3;have zd:=aR s 1;generalize s.drop 1=u at zd HE;generalize at8 s 0=x at *;clear h1 h0 h2 h3;go_enter Tryz.func184,Tryz.ntmps184
 go_wp2_with (go_at_call 75;refine (hp _).mono ?_;rintro e1 w1 ⟨rfl,rfl⟩)
 have z0:Gx W1 W1.drew:=Gx.of_below qB.drew;have HD:=hid (H1.o.drawn 1);have BD:Hid (qW w W1.drew):=B1.o.drew;refine qG (S:=Gx W1) (by kernel_rfl) (z0) (fun hS=>?_);refine aG 3 ?_
 iterate 2
  refine qT rfl (by kernel_rfl) ‹_› (fun w a8=>by go_simp;with_reducible rfl) ?_;simp only [Act.put,aB,aA,aC,Nat.reduceAdd]
 refine aE ?_;refine qD 0 rfl (by kernel_rfl) fun K hK=>?_
 go_simp;refine (oK _).mono ?_;rintro e2 y2 ⟨⟨f2,rfl,po⟩,mu⟩;obtain rfl:=mu;have HF:=hid po;obtain ⟨k2,vw,rfl⟩:=po.form;clear po;have g8:=z0;refine hK.o _ _ g8 (fun hS=>?_);clear hK K hS;refine qD 1 rfl (by kernel_rfl) fun K hK=>?_
 go_simp;refine (mM _ _ _ HF.o).mono ?_;rintro e4 y4 ⟨⟨f4,rfl,ou⟩,x8⟩;have xj:=hid ou;obtain ⟨k4,IW,rfl⟩:=ou.form;have H4:=hid (Has.stays (w:=W1.drew) HD.o x8);have B4:Hid (qW w y4):=BD.o.thenG x8;have j5:=Gx.then_below z0 x8;refine hK.o _ _ j5 (fun hS=>?_);clear hK K hS;refine qK 2 rfl (by kernel_rfl) ‹_› (fun w a8=>by go_simp;with_reducible rfl) ?_;simp only [Act.put,aB,aA,aC];refine qD 5 rfl (by kernel_rfl) fun K hK=>?_
 have FN:=hid (lP w y4 H4.o B4.o _ _ xj.o false);have k0:=H4.o.at_ 0;have k1:=H4.o.at_ 1;have f0:=H4.o.free 0;have f1:=H4.o.free 1;go_simp;have DZ:=Gx.trans j5 FN.o.2.2.2;refine hK.o _ _ DZ (fun hS=>?_);clear hK K hS k0 k1 f0 f1;refine aG 6 ?_
 iterate 2
  refine qT rfl (by kernel_rfl) ‹_› (fun w a8=>by go_simp;with_reducible rfl) ?_;simp only [Act.put,aB,aA,aC,Nat.reduceAdd]
 refine aE ?_;refine qM (by kernel_rfl) ?_;go_wp2;refine bodyPost_ret (aJ rfl _ _ _ w.heap.size _ _ _ (eC FN.o.1) rfl rfl rfl) rfl ⟨?_,FN.o.2.1⟩;rw [HE.o];exact ⟨_,rfl,(show (fun c:UInt8=>!(c == 47)&&true)=bD fold .one from funext fun c=>Bool.and_true _)▸FN.o.2.2.1⟩
def fx (s:By) (fold:Bool) (w:World) (h0:1<=s.length) (hs:s.length<=128) (h1:pre [42,42] s=false) (h2:(at8 s 0 == 42)=false) (h3:(at8 s 0 == 63)=false) (h4:(at8 s 0 == 91)=true) :
 qC 184 #[.string (ba s),.bool fold] w fun e w'=>nM fold (elemL s) e w'/\qW w w':=by
 have HE:Hid (elemL s=clsL (s.drop 1)):=by
  show _=_;exact zH s h1 h2 h3 h4
 have hp:∀W,qC 75 #[.string (ba s),.string ⟨#[42,42]⟩] W fun e w'=>e=.returned (.bool false)/\W=w':=by
  intro W;have:=fV s [42,42] W;rw [h1] at this;exact this
 have i0:=dL s h0;have z:=aD s;have AF:(1:Int)<=(s.length:Int):=by omega
 generalize elemL s=goal at HE;obtain ⟨W1,p3⟩:=qY (w.alloc (.cells #[.nilFunc,.bool false] 249));have H1:Hid (Has W1 w.heap.size 249 #[.nilFunc,.bool false]):=p3▸Has.fresh _ _ _;have B1:Hid (qW w W1):=p3▸qB.alloc qN _;have q2:(b8 (at8 s 0) == 42)=false:=(aL (at8 s 0) 42).trans h2;have q3:(b8 (at8 s 0) == 63)=false:=(aL (at8 s 0) 63).trans h3;have q4:(b8 (at8 s 0) == 91)=true:=(aL (at8 s 0) 91).trans h4;have zd:=aR s 1;have pp:(s.drop 1).length<=128:=by simp;omega
 generalize s.drop 1=u at zd HE pp;generalize at8 s 0=x at *;have CC:=hid (Ru u fold W1 pp);rw [<-HE.o] at CC;clear h1 h0 h2 h3 h4 pp;go_enter Tryz.func184,Tryz.ntmps184
 go_wp2_with (go_at_call 75;refine (hp _).mono ?_;rintro e1 w1 ⟨rfl,rfl⟩)
 refine CC.o.mono ?_;rintro e2 w2 ⟨he,a9⟩;have H2:=hid (H1.o.stays a9);have B2:=hid (B1.o.thenG a9);have k0:=H2.o.at_ 0;have k1:=H2.o.at_ 1;have f0:=H2.o.free 0;have f1:=H2.o.free 1
 cases goal with
 | none =>
  obtain ⟨f,m,r,rfl,hf⟩:=he;rcases hf with rfl | ⟨h,hf⟩
  . go_wp2
    refine bodyPost_ret (aJ rfl _ _ _ w.heap.size _ _ _ (eC ((H2.o.put 0 _).put 1 _)) rfl rfl rfl) rfl ⟨?_,(B2.o.setCell qN _).setCell qN _⟩;exact ⟨_,_,r,rfl,.inl rfl⟩
  have HF:=hid hf;obtain ⟨k2,vw,rfl⟩:=hf.form;clear hf;have FN:=hid (lP w w2 H2.o B2.o _ _ HF.o m);go_wp2;refine bodyPost_ret (aJ rfl _ _ _ w.heap.size _ _ _ (eC FN.o.1) rfl rfl rfl) rfl ⟨?_,FN.o.2.1⟩;exact ⟨_,_,r,rfl,.inr ⟨_,FN.o.2.2.1⟩⟩
 | some y =>
  obtain ⟨el,r⟩:=y;obtain ⟨f,rfl,hf⟩:=he;have HF:=hid hf;obtain ⟨k2,vw,rfl⟩:=hf.form;clear hf;have FN:=hid (lP w w2 H2.o B2.o _ _ HF.o el.many);go_wp2;refine bodyPost_ret (aJ rfl _ _ _ w.heap.size _ _ _ (eC FN.o.1) rfl rfl rfl) rfl ⟨?_,FN.o.2.1⟩;exact ⟨_,rfl,FN.o.2.2.1⟩
def iy (s:By) (fold:Bool) (w:World) (h0:1<=s.length) (hs:s.length<=128) (h1:pre [42,42] s=false) (h2:(at8 s 0 == 42)=false) (h3:(at8 s 0 == 63)=false) (h4:(at8 s 0 == 91)=false) :
 qC 184 #[.string (ba s),.bool fold] w fun e w'=>nM fold (elemL s) e w'/\qW w w':=by
 have HE:Hid (elemL s=match dA s with | none=>none | some (c,r)=>some (.byt c,r)):=by
  show _=_;exact sW s h1 h2 h3 h4
 have hp:∀W,qC 75 #[.string (ba s),.string ⟨#[42,42]⟩] W fun e w'=>e=.returned (.bool false)/\W=w':=by
  intro W;have:=fV s [42,42] W;rw [h1] at this;exact this
 have i0:=dL s h0;have z:=aD s;have AF:(1:Int)<=(s.length:Int):=by omega
 generalize elemL s=goal at HE;obtain ⟨W1,p3⟩:=qY (w.alloc (.cells #[.nilFunc,.bool false] 249));have H1:Hid (Has W1 w.heap.size 249 #[.nilFunc,.bool false]):=p3▸Has.fresh _ _ _;have B1:Hid (qW w W1):=p3▸qB.alloc qN _;have q2:(b8 (at8 s 0) == 42)=false:=(aL (at8 s 0) 42).trans h2;have q3:(b8 (at8 s 0) == 63)=false:=(aL (at8 s 0) 63).trans h3;have q4:(b8 (at8 s 0) == 91)=false:=(aL (at8 s 0) 91).trans h4;generalize at8 s 0=x at *;have hc:=dC s;generalize dA s=cb at hc HE;obtain ⟨c,r,ok,hv⟩:∃(c:UInt8) (r:By) (ok:Bool),rK cb=.tuple #[.int .u8 (b8 c),.string (ba r),.bool ok]/\goal=if ok then some (.byt c,r) else none:=by
  cases cb with
  | none=>exact ⟨0,[],false,rfl,HE.o⟩
  | some y=>exact ⟨y.1,y.2,true,rfl,HE.o⟩
 rw [hv.1] at hc;have j7:=hid hv.2;clear h1 h0 h2 h3 h4 HE hv;obtain ⟨W2,r7⟩:∃W2:Nat->World,∀n,(W1.drewN n).alloc (.cells #[.int .u8 (b8 c),.int .u8 (b8 c)] 281)=W2 n:=⟨_,fun _=>rfl⟩;have HW:Hid (∀n,qW W1 (W2 n)):=fun n=>r7 n▸(qB.drewG n).alloc qN _
 have FO:∀n,(W1.drewN n).heap.size=W1.heap.size:=fun _=>rfl
 have CW:Hid (∀n,qC 221 #[.slice (some ⟨W1.heap.size,0,none⟩) 1 1,.bool fold] (W2 n) fun e w'=>(∃f,e=.returned f/\IsFn w' f (nT fold [(c,c)]))/\Below (W2 n).heap.size (W2 n) w'):=fun n =>
  mO 0 _ [(c,c)] fold (W2 n) ⟨rfl,.inr ⟨W1.heap.size,1,#[.int .u8 (b8 c),.int .u8 (b8 c)],rfl,Nat.zero_le _,r7 n▸Has.fresh (W1.drewN n) _ _,Nat.le_refl _,by unfold maxLen;omega,rfl,rfl⟩⟩ (by simp)
 go_enter Tryz.func184,Tryz.ntmps184
 go_wp2_with (first
  | (go_at_call 75;refine (hp _).mono ?_;rintro e1 w1 ⟨rfl,rfl⟩)
  | (go_at_call 220;refine (hc _).mono ?_;rintro e1 w1 ⟨rfl,n1,rfl⟩))
 refine (CW.o n1).mono ?_;rintro e2 w2 ⟨⟨f,rfl,hf⟩,a9⟩;have HF:=hid hf;obtain ⟨k2,vw,rfl⟩:=hf.form;have H2:=hid ((H1.o.stays (HW.o n1)).stays a9);have B2:Hid (qW w w2):=(B1.o.thenG (HW.o n1)).thenG a9;have k0:=H2.o.at_ 0;have k1:=H2.o.at_ 1;have f0:=H2.o.free 0;have f1:=H2.o.free 1;have FN:=hid (lP w w2 H2.o B2.o _ _ HF.o false);clear hf a9 CW HW r7;go_wp2;refine bodyPost_ret (aJ rfl _ _ _ w.heap.size _ _ _ (eC FN.o.1) rfl rfl rfl) rfl ⟨?_,FN.o.2.1⟩;rw [j7.o]
 cases ok with
 | false=>exact ⟨_,_,r,rfl,.inr ⟨_,FN.o.2.2.1⟩⟩
 | true=>exact ⟨_,rfl,FN.o.2.2.1⟩
def Ur (s:By) (fold:Bool) (w:World) (h0:1<=s.length) (hs:s.length<=128) :
 qC 184 #[.string (ba s),.bool fold] w fun e w'=>nM fold (elemL s) e w'/\qW w w':=by
 cases h1:pre [42,42] s with
 | true=>exact fm s fold w h0 hs h1
 | false=>cases h2:at8 s 0 == 42 with
  | true=>exact Yu s fold w h0 hs h1 h2
  | false=>cases h3:at8 s 0 == 63 with
   | true=>exact fw s fold w h0 hs h1 h2 h3
   | false=>cases h4:at8 s 0 == 91 with
    | true=>exact fx s fold w h0 hs h1 h2 h3 h4
    | false=>exact iy s fold w h0 hs h1 h2 h3 h4
def dX (ps:List (Value × Bool)):List Value:=ps.flatMap fun p=>[p.1,.bool p.2]
def Pv (ps:List (Value × Bool)) (k:Nat) (p:Value × Bool) (h:ps[k]? = some p):(dX ps)[k*2]? = some p.1/\(dX ps)[k*2+1]? = some (.bool p.2):=by
 induction ps generalizing k with
 | nil=>simp at h
 | cons r rs ih =>
  have e:dX (r :: rs)=[r.1,.bool r.2]++dX rs:=by simp [dX]
  rw [e]
  cases k with
  | zero=>simp at h;subst h;simp
  | succ k =>
   have:=ih k (by simpa using h);rw [show (k+1)*2=k*2+2 by omega,show k*2+2+1=(k*2+1)+2 by omega];simpa using this
def jE (B:Nat) (w:World) (v:Value) (hs:H):Prop :=
 ∃ps:List (Value × Bool),w.ownsRow B 249 2 v hs.length (dX ps)/\ps.length=hs.length/\∀(k:Nat) p h,ps[k]? = some p->hs[k]? = some h->p.2=h.2/\IsFn w p.1 h.1
def jE.nil (B:Nat) (w:World):jE B w (.slice none 0 0) []:=⟨[],World.ownsRow_nil _ _ _ _,rfl,fun k p h hp=>by simp at hp⟩
def jE.mono {B B':Nat} {w:World} {v:Value} {hs:H} (h:jE B w v hs) (hb:B'<=B):jE B' w v hs:=by
 obtain ⟨ps,ho,h2⟩:=h;refine ⟨ps,⟨ho.1,?_⟩,h2⟩;rcases ho.2 with h1 | ⟨g,c,cur,h1,h2,h3⟩
 . exact .inl h1
 exact .inr ⟨g,c,cur,h1,by omega,h3⟩
def jE.stays {B:Nat} {w w':World} {v:Value} {hs:H} (h:jE B w v hs) (hb:qW w w'):jE B w' v hs:=by
 obtain ⟨ps,ho,hl,hf⟩:=h;refine ⟨ps,⟨ho.1,?_⟩,hl,fun k p x hp hx=>⟨(hf k p x hp hx).1,(hf k p x hp hx).2.stays hb⟩⟩;rcases ho.2 with h1 | ⟨g,c,cur,h1,hB,h3,h4⟩
 . exact .inl h1
 exact .inr ⟨g,c,cur,h1,hB,(hb.block g (Array.getElem?_eq_some_iff.1 h3).1).trans h3,h4⟩
def jE.form {B:Nat} {w:World} {v:Value} {hs:H} (h:jE B w v hs):∃A c,v=.slice A hs.length c:=by
 obtain ⟨ps,ho,_⟩:=h;rcases ho.2 with ⟨h1,h2⟩ | ⟨g,c,cur,h1,_⟩
 . exact ⟨none,0,by rw [h1,h2]⟩
 exact ⟨some ⟨g,0,none⟩,c,h1⟩
def jE.at_ {B:Nat} {w:World} {v:Value} {hs:H} (h:jE B w v hs) (h0:0 < hs.length) :
 ∃g c,v=.slice (some ⟨g,0,none⟩) hs.length c/\B<=g/\g < w.heap.size/\∀(k:Nat) x,hs[k]? = some x->∃f,w.cell? ⟨g,k*2,none⟩=some f/\w.cell? ⟨g,k*2+1,none⟩=some (.bool x.2)/\IsFn w f x.1:=by
 obtain ⟨ps,ho,hl,hf⟩:=h;rcases ho.2 with ⟨_,h2⟩ | ⟨g,c,cur,h1,hB,h3,h4,h5,h6,h7⟩
 . omega
 refine ⟨g,c,h1,hB,(Array.getElem?_eq_some_iff.1 h3).1,fun k x hx=>?_⟩;have hk:k < hs.length:=(List.getElem?_eq_some_iff.1 hx).1;obtain ⟨p,hp⟩:∃p,ps[k]? = some p:=⟨ps[k]'(by omega),List.getElem?_eq_getElem (by omega)⟩;have hh:Has w g 249 cur:=h3;have e:=Pv ps k p hp;rw [<-h7,List.getElem?_take_of_lt (by omega),List.getElem?_take_of_lt (by omega)] at e;refine ⟨p.1,?_,?_,(hf k p x hp hx).2⟩
 . rw [hh.at_];simpa using e.1
 rw [hh.at_,<-(hf k p x hp hx).1];simpa using e.2
def Xs:(Tryz.prog.info? 249).map (fun i=>(i.zero,i.size,i.bytes))=some (some (.agg #[.nilFunc,.bool false]),2,16):=by kernel_rfl
def fF {B:Nat} {w:World} {e:TypeId} {s n:Nat} {v:Value} {xs:List Value} (h:w.ownsRow B e s v n xs):∀k,v.ownBlock=some k->∃cs q,w.heap[k]? = some (Obj.cells cs e q):=by
 intro k hk;rcases h.2 with ⟨rfl,_⟩ | ⟨g,c,cur,rfl,hB,h3,_⟩
 . cases hk
 obtain rfl:=Option.some.inj hk;exact ⟨_,_,h3⟩
def Rl (w:World) (B:Nat) (v:Value) (hs:H) (h:jE B w v hs) (f:Value) (x:UInt8->Bool) (m:Bool) (hx:IsFn w f x) (a:Addr) (h0:w.cell? (a.add 0)=some f) (h1:w.cell? (a.add 1)=some (.bool m)) (hn:hs.length<=1000) (hB:B<=w.heap.size) (ty:TypeId) :
 ∃v' w',(Builtin.append_ #[211,211] ty #[v,.slice (some a) 1 1]).run Tryz.prog w=.ok v' w'/\jE B w' v' (hs++[(x,m)])/\w.grownBy w' v.ownBlock/\(∀k,v.ownBlock=some k->B<=k):=by
 obtain ⟨ps,ho,hl,hf⟩:=h;obtain ⟨i0,hi,o7,g8,j5⟩:=info_parts Xs;obtain ⟨v',w',hr,ny,hg,_,_⟩:=run_append_own_at (P:=Tryz.prog) w B 211 ty 249 i0 (.agg #[.nilFunc,.bool false]) 2 16 Tryz.underlying211 hi o7 g8 j5 rfl (by omega) v hs.length (dX ps) ho a 1 1 [f,.bool m] rfl (fun j u' hj=>by
  match j,hj with
  | 0,hj=>obtain rfl:=Option.some.inj hj;exact h0
  | 1,hj=>obtain rfl:=Option.some.inj hj;exact h1
  | j+2,hj=>simp at hj) (fun y hy=>by
   simp only [List.mem_cons,List.not_mem_nil,or_false] at hy;rcases hy with rfl | rfl
   . exact hx.one
   rfl) (by unfold maxLen;omega) (by omega) hB
 have G:Gx w w':=Gx.of_grown hg (fF ho);refine ⟨v',w',hr,⟨ps++[(f,m)],?_,by simp [hl],fun k p y hp hy=>?_⟩,hg,pJ ho⟩
 . have:dX (ps++[(f,m)])=dX ps++[f,.bool m]:=by simp [dX]
   rw [this,List.length_append];exact ny
 by_cases hk:k < ps.length
 . rw [List.getElem?_append_left hk] at hp
   rw [List.getElem?_append_left (by omega)] at hy;exact ⟨(hf k p y hp hy).1,(hf k p y hp hy).2.gx G⟩
 have Q9:k=ps.length:=by have:=(List.getElem?_eq_some_iff.1 hp).1;simp at this;omega
 subst Q9;simp at hp;rw [hl] at hy;simp at hy;subst hp;subst hy;exact ⟨rfl,hx.gx G⟩
def Aw (s:By) (fold:Bool) (w:World) (hs:s.length<=128) :
 qC 147 #[.string (ba s),.bool fold] w fun e w'=>(match dH s [] with
  | none=>∃v,e=.returned (.tuple #[v,.bool false])
  | some l=>∃v,e=.returned (.tuple #[v,.bool true])/\jE w.heap.size w' v (hsOf fold l))/\qW w w':=by
 obtain ⟨goal,HC⟩:=qX (dH s []);rw [HC.o];go_enter Tryz.func147,Tryz.ntmps147
 go_wp2;go_loopw [0,4] (fun s0 l wr=>∃(t:By) (es:List El) (A:Option Addr) (cap:Nat),s0=.string (ba t)/\l=.slice A es.length cap/\t.length<=128/\es.length+t.length<=128/\Hid (dH s []=dH t es)/\Hid (jE w.heap.size wr (.slice A es.length cap) (hsOf fold es))/\Hid (qW w wr))
  (fun s0 _ _=>match s0 with | .string x=>x.size | _=>0)
 case atStart=>exact ⟨s,[],none,0,rfl,rfl,hs,by simp;exact hs,rfl,jE.nil _ _,Below.refl _ _⟩
 obtain ⟨t,es,A,cap,rfl,rfl,hl,un,HT,HS,HB⟩:=hrel;have HE:Hid (goal=if t.length=0 then (if es.length=0 then none else some es) else match elemL t with | none=>none | some (e,u)=>dH u (es++[e])):=by
  show _=_;rw [<-HC.o,HT.o,vY];rfl
 have HW:=hid HB.o.size;have zt:=bH t;clear HT;by_cases h0:t.length=0
 .
  obtain rfl:=List.length_eq_zero_iff.1 h0;have j7:goal=if es.length=0 then none else some es:=HE.o
  clear h0 HE HC;by_cases h1:es.length=0
  . rw [if_pos h1] at j7
    subst j7;go_wp2;go_ret2;exact ⟨⟨.slice A es.length cap,by simp [h1]⟩,HB.o⟩
  rw [if_neg h1] at j7;subst j7;go_wp2;go_ret2;exact ⟨⟨_,by simp [Nat.pos_of_ne_zero h1],HS.o⟩,HB.o⟩
 have CE:=hid (Ur t fold wr (by omega) hl);have e0:(t == [])=false:=by cases t with | nil=>exact absurd rfl h0 | cons _ _=>rfl
 obtain ⟨x,HU⟩:=qX (elemL t);rw [HU.o] at CE HE;have H0:=hid h0;clear h0
 cases x with
 | none =>
  have j7:goal=none:=HE.o.trans (if_neg H0.o);subst j7;go_wp2_with (fail)
  refine CE.o.mono ?_;rintro e2 w2 ⟨⟨f,m,r,rfl,hf⟩,a9⟩;have H2:=hid a9;clear a9 HE HC;rcases hf with rfl | ⟨x,hf⟩
  . go_wp2
    go_ret2;exact ⟨⟨_,rfl⟩,(HB.o.thenG H2.o).alloc (by have:=HB.o.size;have:=H2.o.size;omega) _⟩
  obtain ⟨k2,vw,rfl⟩:=hf.form;clear hf;go_wp2;go_ret2;exact ⟨⟨_,rfl⟩,(HB.o.thenG H2.o).alloc (by have:=HB.o.size;have:=H2.o.size;omega) _⟩
 | some y =>
  obtain ⟨el,u⟩:=y;have j7:Hid (dH s []=dH u (es++[el])):=HC.o.trans <| HE.o.trans (if_neg H0.o)
  clear HE;go_wp2_with (fail)
  refine CE.o.mono ?_;rintro e2 w2 ⟨⟨f,rfl,hf⟩,a9⟩;have uw:u.length < t.length:=kH (fun e=>H0.o (by rw [e];rfl)) HU.o;have HF:=hid hf;obtain ⟨k2,vw,rfl⟩:=hf.form;obtain ⟨W3,C8⟩:=qY (w2.alloc (.cells #[.func (.func k2) #[] vw,.bool el.many] 249));obtain ⟨W4,GA⟩:=qY (W3.alloc (.cells #[.func (.func k2) #[] vw,.bool el.many] 249));have B3:qW w2 W3:=C8▸qB.alloc qN _;have B4:qW W3 W4:=GA▸qB.alloc qN _;have yr:=(a9.thenG B3).thenG B4;have ou:Has W4 W3.heap.size 249 #[.func (.func k2) #[] vw,.bool el.many]:=GA▸Has.fresh _ _ _;have yi:W3.heap.size=w2.heap.size+1:=by rw [<-C8];simp
  obtain ⟨v',w',M8,AE,GB,hob⟩:=Rl W4 w.heap.size _ (hsOf fold es) (HS.o.stays yr) _ (bD fold el) el.many ((HF.o.stays B3).stays B4) ⟨W3.heap.size,0,none⟩ (ou.at_ 0) (ou.at_ 1) (by rw [pO];omega) (Nat.le_trans HW.o yr.size) 211;rw [yi] at M8;have mx:=hid M8;have hsp2:jE w.heap.size w' v' (hsOf fold (es++[el])):=by simpa [hsOf] using AE
  have DY:=hid hsp2;have GC:Hid (qW w w'):=Below.grown (HB.o.trans (yr.mono HW.o)) GB (Nat.le_trans HW.o yr.size) hob;have rm:Has W3 w2.heap.size 249 #[.func (.func k2) #[] vw,.bool el.many]:=C8▸Has.fresh _ _ _;have k0:=rm.at_ 0;have k1:=rm.at_ 1;clear M8 AE hsp2 GB ou B3 B4 yr a9 rm hf hob HC;go_wp2_with (at_builtin;refine wpList_append_run rfl (.tmp 20) (.tmp 22) 211 211 rfl ⟨v',w',mx.o,?_⟩)
  obtain ⟨A',c',IV⟩:=DY.o.form;rw [pO] at IV;subst IV;refine ⟨⟨u,es++[el],A',c',rfl,rfl,by omega,by simp;omega,j7.o,DY.o,GC.o⟩,?_⟩;simp [aD];omega
def kn (x:Nat × By):Value:=.tuple #[.int .i64 (x.1:Int),.string (ba x.2)]
def Gf (s:By) (w:World):qC 183 #[.string (ba s)] w fun e w'=>e=.returned (kn (cutM s))/\∃n,w'=w.drewN n:=by
 have c1:∀W,qC 75 #[.string (ba s),.string ⟨#[33]⟩] W fun e w'=>e=.returned (.bool (pre [33] s))/\W=w':=fun W=>fV s [33] W
 have c2:∀W,qC 75 #[.string (ba s),.string ⟨#[40,63,105,41]⟩] W fun e w'=>e=.returned (.bool (pre [40,63,105,41] s))/\W=w':=fun W=>fV s [40,63,105,41] W
 have c3:∀W,qC 75 #[.string (ba s),.string ⟨#[40,63,100,41]⟩] W fun e w'=>e=.returned (.bool (pre [40,63,100,41] s))/\W=w':=fun W=>fV s [40,63,100,41] W
 have z:=aD s;have zd:=aR s 1;have VI:=aR s 4;have HC:Hid (cutM s=if pre [33] s then (1,s.drop 1) else if pre [40,63,105,41] s then (2,s.drop 4) else if pre [40,63,100,41] s then (4,s.drop 4) else (0,s)):=rfl;have l1:=bU (p:=[33]) (s:=s);have l2:=bU (p:=[40,63,105,41]) (s:=s);have l3:=bU (p:=[40,63,100,41]) (s:=s);generalize s.drop 1=u at zd HC;generalize s.drop 4=u4 at VI HC;generalize cutM s=goal at HC;generalize pre [33] s=b1 at c1 HC l1;generalize pre [40,63,105,41] s=b2 at c2 HC l2;generalize pre [40,63,100,41] s=b3 at c3 HC l3
 cases b1 with
 | true =>
  have hl:(1:Int)<=(s.length:Int):=by have:=l1 rfl;simp at this;omega
  clear l1 l2 l3;go_enter Tryz.func183,Tryz.ntmps183
  go_wp2_with (fail)
  refine (c1 _).mono ?_;rintro e1 w1 ⟨rfl,rfl⟩;go_wp2;go_quiet (fail)
  go_wp2;go_ret2;exact ⟨by rw [HC.o];rfl,_,rfl⟩
 | false =>
  cases b2 with
  | true =>
   have hl:(4:Int)<=(s.length:Int):=by have:=l2 rfl;simp at this;omega
   clear l1 l2 l3;go_enter Tryz.func183,Tryz.ntmps183
   go_wp2_with (fail)
   refine (c1 _).mono ?_;rintro e1 w1 ⟨rfl,rfl⟩;go_wp2_with (fail)
   refine (c2 _).mono ?_;rintro e1 w1 ⟨rfl,rfl⟩;go_wp2;go_quiet (fail)
   go_wp2;go_ret2;exact ⟨by rw [HC.o];rfl,_,rfl⟩
  | false =>
   cases b3 with
   | true =>
    have hl:(4:Int)<=(s.length:Int):=by have:=l3 rfl;simp at this;omega
    clear l1 l2 l3;go_enter Tryz.func183,Tryz.ntmps183
    go_wp2_with (fail)
    refine (c1 _).mono ?_;rintro e1 w1 ⟨rfl,rfl⟩;go_wp2_with (fail)
    refine (c2 _).mono ?_;rintro e1 w1 ⟨rfl,rfl⟩;go_wp2_with (fail)
    refine (c3 _).mono ?_;rintro e1 w1 ⟨rfl,rfl⟩;go_wp2;go_quiet (fail)
    go_wp2;go_ret2;exact ⟨by rw [HC.o];rfl,_,rfl⟩
   | false =>
    clear l1 l2 l3;go_enter Tryz.func183,Tryz.ntmps183
    go_wp2_with (fail)
    refine (c1 _).mono ?_;rintro e1 w1 ⟨rfl,rfl⟩;go_wp2_with (fail)
    refine (c2 _).mono ?_;rintro e1 w1 ⟨rfl,rfl⟩;go_wp2_with (fail)
    refine (c3 _).mono ?_;rintro e1 w1 ⟨rfl,rfl⟩;go_wp2;go_ret2;exact ⟨by rw [HC.o];rfl,0,rfl⟩
def He (s:By):(cutM s).1 < 8:=by
 unfold cutM;repeat' split
 all_goals simp
def Wo (m k:Nat) (hm:m < 8) (hk:k < 8):Go.bits .and .i64 (m:Int) (k:Int)=((m &&& k:Nat):Int):=by
 have h:∀m k:Fin 8,Go.bits .and .i64 ((m.val:Nat):Int) ((k.val:Nat):Int)=((m.val &&& k.val:Nat):Int):=by decide +kernel
 exact h ⟨m,hm⟩ ⟨k,hk⟩
def Ia (m k:Nat) (hm:m < 8) (hk:k < 8):Go.bits .or .i64 (m:Int) (k:Int)=((m ||| k:Nat):Int)/\m ||| k < 8:=by
 have h:∀m k:Fin 8,Go.bits .or .i64 ((m.val:Nat):Int) ((k.val:Nat):Int)=((m.val ||| k.val:Nat):Int)/\m.val ||| k.val < 8:=by decide +kernel
 exact h ⟨m,hm⟩ ⟨k,hk⟩
def du (x:Option (Nat × By)):Value:=match x with
 | none=>.tuple #[.int .i64 0,.string ⟨#[]⟩,.bool false]
 | some (m,r)=>.tuple #[.int .i64 (m:Int),.string (ba r),.bool true]
def Dz (s:By) (w:World):qC 146 #[.string (ba s)] w fun e w'=>(e=.returned (du (marks 0 s))/\∀m r,marks 0 s=some (m,r)->m < 8)/\∃n,w'=w.drewN n:=by
 obtain ⟨goal,HC⟩:=qX (marks 0 s);rw [HC.o];go_enter Tryz.func146,Tryz.ntmps146
 go_wp2;go_loopw [0,2] (fun s0 s2 wr=>∃(t:By) (m:Nat) (n:Nat),s0=.string (ba t)/\s2=.int .i64 (m:Int)/\m < 8/\Hid (marks 0 s=marks m t)/\wr=w.drewN n)
  (fun s0 _ _=>match s0 with | .string x=>x.size | _=>0)
 case atStart=>exact ⟨s,0,0,rfl,rfl,by omega,rfl,rfl⟩
 obtain ⟨t,m,n,rfl,rfl,hm,HT,rfl⟩:=hrel;have hk:=He t;have hc:=Gf t;have HL:=hid (rD (s:=t));have HE:Hid (goal=if (cutM t).1=0 then some (m,t) else if m &&& (cutM t).1≠0 then none else marks (m ||| (cutM t).1) (cutM t).2):=by
  show _=_;rw [<-HC.o,HT.o,Bu]
 obtain ⟨k,u,VJ⟩:∃k u,cutM t=(k,u):=⟨_,_,rfl⟩;rw [VJ] at hk hc HL HE;simp only [kn] at hc;simp only at hk HL HE;have ha:=Wo m k hm hk;have ho:=(Ia m k hm hk).1;have RZ:=(Ia m k hm hk).2;generalize m &&& k=a at ha HE;have j7:=HE;clear VJ HT HE;by_cases h0:k=0
 .
  subst h0;have oa:goal=some (m,t):=j7.o;clear ha ho j7;subst oa;go_wp2_with (go_at_call 183;refine (hc _).mono ?_;rintro e1 w1 ⟨rfl,n1,rfl⟩)
  refine bodyPost_ret (results_tmp3 rfl _ _ _) rfl ⟨⟨rfl,?_⟩,_,rfl⟩;intro m' r' h;cases h;exact hm
 have CJ:((k:Int) == 0)=false:=by simp;omega
 have VJ:(cutM t).2.length < t.length∨True:=.inr trivial;by_cases hz:a=0
 .
  subst hz;have oa:Hid (goal=marks (m ||| k) u):=j7.o.trans ((if_neg h0).trans (if_neg (by simp)));have hl:=HL.o h0;generalize m ||| k=mk at ho RZ oa
  clear h0 j7;go_wp2_with (go_at_call 183;refine (hc _).mono ?_;rintro e1 w1 ⟨rfl,n1,rfl⟩)
  refine ⟨⟨u,mk,_,rfl,rfl,RZ,HC.o.trans oa.o,rfl⟩,?_⟩;simp [aD];exact hl
 have oa:goal=none:=j7.o.trans ((if_neg h0).trans (if_pos hz));have LO:((a:Int) == 0)=false:=by simp;omega
 have LY:((a:Int) != 0)=true:=by simp;omega
 clear h0 j7 hz;subst oa;go_wp2_with (go_at_call 183;refine (hc _).mono ?_;rintro e1 w1 ⟨rfl,n1,rfl⟩)
 refine bodyPost_ret (results_tmp3 rfl _ _ _) rfl ⟨⟨rfl,?_⟩,_,rfl⟩;intro m' r' h;cases h
def PatIs (w:World) (g:Nat) (s:By) (p:Pt):Prop :=
 ∃v,Has w g 215 #[.string (ba s),.int .i64 (p.m:Int),.bool p.rooted,v]/\jE 0 w v p.hs/\0 < p.hs.length/\p.hs.length<=128/\p.m < 8
def PatIs.stays {w w':World} {g:Nat} {s:By} {p:Pt} (h:PatIs w g s p) (hb:qW w w'):PatIs w' g s p:=by
 obtain ⟨v,h1,h2,h3⟩:=h;exact ⟨v,h1.stays hb,h2.stays hb,h3⟩
def gB (s:By) (e:Ending) (w':World):Prop :=
 if 128 < s.length then e=.returned (.tuple #[.pointer none,.int .i64 3])
 else match parseL s with
 | none=>e=.returned (.tuple #[.pointer none,.int .i64 4])
 | some p=>∃g,e=.returned (.tuple #[.pointer (some ⟨g,0,none⟩),.int .i64 0])/\PatIs w' g s p
def lS {s:By} (h:marks 0 s=none):parseL s=none:=by unfold parseL;rw [h]
def xK {s t:By} {m:Nat} (h:marks 0 s=some (m,t)):parseL s=match dH (cA [47] t) [] with | none=>none | some l=>some ⟨m,pre [47] t,l⟩:=by unfold parseL;rw [h];rfl
def Sg (n:Nat):∀m s k t,m < 8->marksF n m s=some (k,t)->k < 8:=by
 induction n with
 | zero=>intro m s k t hm h;simp only [marksF,Option.some.injEq,Prod.mk.injEq] at h;omega
 | succ n ih =>
  intro m s k t hm h;unfold marksF at h;split at h
  . simp only [Option.some.injEq,Prod.mk.injEq] at h;omega
  split at h
  . cases h
  exact ih _ _ _ _ (Ia m _ hm (He s)).2 h
def Hv (a:Nat):((a:Int) != 0)=(a != 0):=by
 rw [Bool.eq_iff_iff];simp
def Sk (s:By) (w:World):qC 93 #[.string (ba s)] w fun e w'=>gB s e w'/\qW w w':=by
 have z:=aD s;by_cases hl:128 < s.length
 .
  have HP:Hid (∀e w',e=Ending.returned (.tuple #[.pointer none,.int .i64 3])->gB s e w'):=fun e w' h=>by unfold gB;rw [if_pos hl];exact h
  have hi:(128:Int) < (s.length:Int):=by omega
  clear hl;go_enter Tryz.func93,Tryz.ntmps93
  go_wp2;go_ret2;exact ⟨HP.o _ _ rfl,Below.refl _ _⟩
 have hi:¬((128:Int) < (s.length:Int)):=by omega
 have HL:=hid hl;have hm:=Dz s
 cases hx:marks 0 s with
 | none =>
  have HP:Hid (∀e w',e=Ending.returned (.tuple #[.pointer none,.int .i64 4])->gB s e w'):=fun e w' h=>by unfold gB;rw [if_neg hl,lS hx];exact h
  rw [hx] at hm;simp only [du] at hm;have uo:∀W,qC 47 #[.string ⟨#[]⟩,.string ⟨#[47]⟩] W fun e w'=>e=.returned (.tuple #[.string ⟨#[]⟩,.bool false])/\W=w':=fun W=>iW [] [47] W
  have xk:∀W,qC 147 #[.string ⟨#[]⟩,.bool false] W fun e w'=>(∃v,e=.returned (.tuple #[v,.bool false]))/\qW W w':=fun W=>Aw [] false W (by simp)
  have a9:Go.bits .and .i64 0 2=0:=by decide
  clear hl hx;go_enter Tryz.func93,Tryz.ntmps93
  go_wp2_with (first
   | (go_at_call 146;refine (hm _).mono ?_;rintro e1 w1 ⟨⟨rfl,_⟩,n1,rfl⟩)
   | (go_at_call 47;refine (uo _).mono ?_;rintro e2 w2 ⟨rfl,rfl⟩)
   | (go_at_call 147;refine (xk _).mono ?_;rintro e3 w3 ⟨⟨v,rfl⟩,i7⟩))
  go_ret2;exact ⟨HP.o _ _ rfl,(qB.drewG n1).thenG i7⟩
 | some y =>
  obtain ⟨m,t⟩:=y;have d8:t.length<=s.length:=pZ _ _ _ _ _ hx;have LZ:=xK hx;rw [hx] at hm;simp only [du] at hm;have uo:∀W,qC 47 #[.string (ba t),.string ⟨#[47]⟩] W fun e w'=>e=.returned (.tuple #[.string (ba (cA [47] t)),.bool (pre [47] t)])/\W=w':=fun W=>iW t [47] W
  have uw:(cA [47] t).length<=128:=by have:=pV [47] t;omega
  generalize cA [47] t=u at uo uw LZ;generalize pre [47] t=b at uo LZ;have SA:m < 8:=Sg _ _ _ _ _ (by omega) hx;have a9:Go.bits .and .i64 (m:Int) 2=((m &&& 2:Nat):Int):=Wo m 2 SA (by omega);obtain ⟨fo,SB⟩:∃fo:Bool,(m &&& 2 != 0)=fo:=⟨_,rfl⟩;have j3:=Hv (m &&& 2);rw [SB] at j3;have xk:=Aw u fo
  cases hy:dH u [] with
  | none =>
   have HP:Hid (∀e w',e=Ending.returned (.tuple #[.pointer none,.int .i64 4])->gB s e w'):=fun e w' h=>by unfold gB;rw [if_neg hl,LZ,hy];exact h
   rw [hy] at xk;simp only at xk;generalize m &&& 2=a at a9 j3;clear hl hx LZ SB hy HL d8 SA;go_enter Tryz.func93,Tryz.ntmps93
   go_wp2_with (first
    | (go_at_call 146;refine (hm _).mono ?_;rintro e1 w1 ⟨⟨rfl,_⟩,n1,rfl⟩)
    | (go_at_call 47;refine (uo _).mono ?_;rintro e2 w2 ⟨rfl,rfl⟩)
    | (go_at_call 147;refine (xk _ uw).mono ?_;rintro e3 w3 ⟨⟨v,rfl⟩,i7⟩))
   go_ret2;exact ⟨HP.o _ _ rfl,(qB.drewG n1).thenG i7⟩
  | some l =>
   have HP:Hid (∀e w',(∃g,e=Ending.returned (.tuple #[.pointer (some ⟨g,0,none⟩),.int .i64 0])/\PatIs w' g s ⟨m,b,l⟩)->gB s e w'):=fun e w' h=>by unfold gB;rw [if_neg hl,LZ,hy];exact h
   have HFO:Hid ((⟨m,b,l⟩:Pt).hs=hsOf fo l):=by show _=_;unfold Pt.hs Pt.folded;rw [SB]
   have ro:Hid (0 < l.length/\l.length<=128):=by
    have:=yA _ _ _ _ hy;simp at this;exact ⟨this.2,by omega⟩
   have HM:=hid SA;rw [hy] at xk;simp only at xk;generalize m &&& 2=a at a9 j3;clear hl hx LZ SB hy HL d8 SA;go_enter Tryz.func93,Tryz.ntmps93
   go_wp2_with (first
    | (go_at_call 146;refine (hm _).mono ?_;rintro e1 w1 ⟨⟨rfl,_⟩,n1,rfl⟩)
    | (go_at_call 47;refine (uo _).mono ?_;rintro e2 w2 ⟨rfl,rfl⟩)
    | (go_at_call 147;refine (xk _ uw).mono ?_;rintro e3 w3 ⟨⟨v,rfl,he⟩,i7⟩
       have OO:=hid he;have B8:Hid (qW w w3):=(qB.drewG n1).thenG i7;obtain ⟨A,c,rfl⟩:=he.form;clear he i7))
   go_ret2;have B4:qW w3 (w3.alloc (.cells #[.string (ba s),.int .i64 (m:Int),.bool b,.slice A (hsOf fo l).length c] 215)):=qB.alloc qN _;refine ⟨HP.o _ _ ⟨_,rfl,_,Has.fresh w3 215 _,?_⟩,B8.o.thenG B4⟩;rw [HFO.o];refine ⟨(OO.o.mono (Nat.zero_le _)).stays B4,?_⟩;rw [pO];exact ⟨ro.o.1,ro.o.2,HM.o⟩
def PatIs.cells {w:World} {g:Nat} {s:By} {p:Pt} (h:PatIs w g s p):∃A c n,0 < n/\w.cell? ⟨g,0,none⟩=some (.string (ba s))/\w.cell? ⟨g,1,none⟩=some (.int .i64 (p.m:Int))/\w.cell? ⟨g,2,none⟩=some (.bool p.rooted)/\w.cell? ⟨g,3,none⟩=some (.slice A n c)/\n=p.hs.length/\p.m < 8:=by
 obtain ⟨v,h1,h2,h3,h4,h5⟩:=h;obtain ⟨A,c,rfl⟩:=h2.form;exact ⟨A,c,p.hs.length,h3,h1.at_ 0,h1.at_ 1,h1.at_ 2,h1.at_ 3,rfl,h5⟩
def vH {g:Nat} {s:By} {p:Pt} {w:World} (h:PatIs w g s p):qC 192 #[.pointer (some ⟨g,0,none⟩)] w fun e w'=>e=.returned (.bool true)/\w=w':=by
 obtain ⟨A,c,n,hn,k0,k1,k2,k3,AG,_⟩:=h.cells;clear AG;clear h;go_enter Tryz.func192,Tryz.ntmps192
 go_wp2;go_ret;exact ⟨rfl,rfl⟩
def Ib {g:Nat} {s:By} {p:Pt} {w:World} (h:PatIs w g s p) (k:Nat) (hk:k < 8):qC 195 #[.pointer (some ⟨g,0,none⟩),.int .i64 (k:Int)] w fun e w'=>e=.returned (.bool (p.m &&& k != 0))/\w=w':=by
 have hm:=vH h;obtain ⟨A,c,n,hn,k0,k1,k2,k3,AG,h8⟩:=h.cells;clear AG;have a9:=Wo p.m k h8 hk;have j3:=Hv (p.m &&& k);generalize (p.m &&& k)=a at a9 j3;obtain ⟨b,hb⟩:=qY ((a != 0));rw [hb] at j3;rw [hb];generalize p.m=m at k1 a9;clear h hb h8 k0 k2 k3;go_enter Tryz.func195,Tryz.ntmps195
 go_wp2_with (go_at_call 192;refine hm.mono ?_;rintro e1 w1 ⟨rfl,rfl⟩)
 go_ret;exact ⟨rfl,rfl⟩
def Gw {g:Nat} {s:By} {p:Pt} {w:World} (h:PatIs w g s p):qC 159 #[.pointer (some ⟨g,0,none⟩)] w fun e w'=>e=.returned (.bool (p.m &&& 1 != 0))/\w=w':=by
 have hc:qC 195 #[.pointer (some ⟨g,0,none⟩),.int .i64 1] w fun e w'=>e=.returned (.bool (p.m &&& 1 != 0))/\w=w':=Ib h 1 (by omega)
 generalize (p.m &&& 1 != 0)=b at hc;clear h;go_enter Tryz.func159,Tryz.ntmps159
 go_wp2_with (go_at_call 195;refine hc.mono ?_;rintro e1 w1 ⟨rfl,rfl⟩)
 go_ret;exact ⟨rfl,rfl⟩
def Bq {g:Nat} {s:By} {p:Pt} {w:World} (h:PatIs w g s p):qC 160 #[.pointer (some ⟨g,0,none⟩)] w fun e w'=>e=.returned (.bool (p.m &&& 4 != 0))/\w=w':=by
 have hc:qC 195 #[.pointer (some ⟨g,0,none⟩),.int .i64 4] w fun e w'=>e=.returned (.bool (p.m &&& 4 != 0))/\w=w':=Ib h 4 (by omega)
 generalize (p.m &&& 4 != 0)=b at hc;clear h;go_enter Tryz.func160,Tryz.ntmps160
 go_wp2_with (go_at_call 195;refine hc.mono ?_;rintro e1 w1 ⟨rfl,rfl⟩)
 go_ret;exact ⟨rfl,rfl⟩
def rR:Tryz.zeroCells258=plv (fun _=>false):=by kernel_rfl
def gV (A:Pl):(Tryz.prog.info? 258).map (·.size)=some (plv A).size:=by rw [gM];kernel_rfl
def PatIs.els {w:World} {g:Nat} {s:By} {p:Pt} (h:PatIs w g s p):∃ge c,w.cell? ⟨g,3,none⟩=some (.slice (some ⟨ge,0,none⟩) p.hs.length c)/\g < w.heap.size/\ge < w.heap.size/\p.hs.length<=128/\∀(k:Nat) x,p.hs[k]? = some x->∃f,w.cell? ⟨ge,k*2,none⟩=some f/\w.cell? ⟨ge,k*2+1,none⟩=some (.bool x.2)/\IsFn w f x.1:=by
 obtain ⟨v,h1,h2,h3,h4,h5⟩:=h;obtain ⟨ge,c,rfl,_,hg,hk⟩:=h2.at_ h3;exact ⟨ge,c,h1.at_ 3,h1.inside,hg,h4,hk⟩
def iI (hs:H) (A:Pl) (k:Nat):Pl:=fun j=>if j<=k then skipA hs A j else A j
def Us (hs:H) (A:Pl):iI hs A 0=A:=by
 funext j;unfold iI
 split
 . rename_i h;obtain rfl:=Nat.le_zero.1 h;rfl
 rfl
def dq (hs:H) (A:Pl) (k:Nat):iI hs A k k=skipA hs A k:=by unfold iI;rw [if_pos qN]
def df (hs:H) (A:Pl) (k:Nat) (h1:skipA hs A k=true) (h2:many hs k=true):(fun j=>iI hs A k j||j == k+1)=iI hs A (k+1):=by
 funext j;unfold iI
 by_cases h:j<=k
 . rw [if_pos h,if_pos (by omega)]
   have:(j == k+1)=false:=by simp;omega
   rw [this,Bool.or_false]
 rw [if_neg h];by_cases e:j=k+1
 . subst e;rw [if_pos qN,skipA,h1,h2];simp
 rw [if_neg (by omega)];simp [e]
def Ro (hs:H) (A:Pl) (k:Nat) (h:(skipA hs A k&&many hs k)=false):iI hs A k=iI hs A (k+1):=by
 funext j;unfold iI
 by_cases h1:j<=k
 . rw [if_pos h1,if_pos (by omega)]
 rw [if_neg h1];by_cases e:j=k+1
 . subst e;rw [if_pos qN,skipA,h,Bool.or_false]
 rw [if_neg (by omega)]
def Og (hs:H) (A:Pl) (n:Nat) (hn:hs.length<=n):∀j,n < j->skipA hs A j=A j:=by
 intro j hj
 cases j with
 | zero=>omega
 | succ j=>rw [skipA,uC (by omega),Bool.and_false,Bool.or_false]
def Zd (hs:H) (A:Pl):iI hs A hs.length=skipA hs A:=by
 funext j;unfold iI
 split
 . rfl
 rw [Og hs A hs.length qN j (by omega)]
def Ic {hs:H} {k:Nat} {x:(UInt8->Bool) × Bool} (h:hs[k]? = some x):many hs k=x.2:=by simp [many,List.getD,h]
def Zq {hs:H} {k:Nat} {x:(UInt8->Bool) × Bool} (h:hs[k]? = some x) (c:UInt8):hold hs k c=x.1 c:=by simp [hold,List.getD,h]
def Tj (g:Nat) (s:By) (p:Pt) (A:Pl) (w:World) (hp:PatIs w g s p) :
 qC 193 #[.pointer (some ⟨g,0,none⟩),.agg (plv A)] w fun e w'=>e=.returned (.agg (plv (skipA p.hs A)))/\qW w w':=by
 obtain ⟨ge,c,k3,hg,R8,hn,tz⟩:=hp.els;obtain ⟨W1,p3⟩:=qY (w.alloc (.cells (plv A) 258));obtain ⟨W2,r7⟩:=qY (W1.alloc (.cells Tryz.zeroCells258 258));have B1:qW w W1:=p3▸qB.alloc qN _;have s1:W1.heap.size=w.heap.size+1:=by rw [<-p3];simp
 have B2:qW w W2:=r7▸B1.alloc (by omega) _;have H1:Has W2 w.heap.size 258 (plv A):=r7▸(p3▸Has.fresh w 258 (plv A)).more _;have H2:Has W2 (w.heap.size+1) 258 (plv (fun _=>false)):=r7▸rR▸Has.fresh' W1 258 Tryz.zeroCells258 s1.symm;have c3:W2.cell? ⟨g,3,none⟩=some (.slice (some ⟨ge,0,none⟩) p.hs.length c):=(B2.cell (p:=⟨g,3,none⟩) hg).trans k3;have i9:=hid B2;have VK:=hid H1;have VL:=hid H2;have OO:=hid tz;generalize p.hs=hs at *;clear hp tz H1 H2 B1 B2 k3;go_enter Tryz.func193,Tryz.ntmps193
 go_wp2;go_loopw [5,6,12] (fun _ _ i wr=>∃k:Nat,i=.int .i64 (k:Int)/\k<=hs.length/\Hid (Has wr w.heap.size 258 (plv (iI hs A k)))/\Hid (Has wr (w.heap.size+1) 258 (plv (fun _=>false)))/\Hid (qW w wr))
  (fun _ _ i _=>hs.length - (intOf i).toNat)
 case atStart=>exact ⟨0,rfl,Nat.zero_le _,by rw [Us];exact VK,VL,i9⟩
 obtain ⟨k,rfl,hk,J1,J2,J3⟩:=hrel;by_cases d8:k < hs.length
 .
  obtain ⟨x,hx⟩:∃x,hs[k]? = some x:=⟨hs[k],List.getElem?_eq_getElem d8⟩;obtain ⟨f,c0,c1,hf⟩:=OO.o k x hx;obtain ⟨kf,lf,rfl⟩:=hf.form;have c0':=(J3.o.cell (p:=⟨ge,k*2,none⟩) R8).trans c0;have VM:=(J3.o.cell (p:=⟨ge,k*2+1,none⟩) R8).trans c1;obtain ⟨Wa,z7⟩:=qY (wr.alloc (.cells #[.func (.func kf) #[] lf,.bool false] 249));obtain ⟨W3,C8⟩:=qY (Wa.setCell ⟨wr.heap.size,1,none⟩ (.bool x.2));have p5:=J3.o.size;have yo:=J2.o.inside;have I4a:Has Wa wr.heap.size 249 #[.func (.func kf) #[] lf,.bool false]:=z7▸Has.fresh _ _ _;have I1:Hid (Has W3 w.heap.size 258 (plv (iI hs A k))):=C8▸(z7▸J1.o.more _:Has Wa w.heap.size 258 (plv (iI hs A k))).other (by simp;omega) _;have I2:Hid (Has W3 (w.heap.size+1) 258 (plv (fun _=>false))):=C8▸(z7▸J2.o.more _:Has Wa (w.heap.size+1) 258 (plv (fun _=>false))).other (by simp;omega) _;have I3:Hid (qW w W3):=C8▸(z7▸J3.o.alloc p5 _:qW w Wa).setCell p5 _;have I4:Has W3 wr.heap.size 249 #[.func (.func kf) #[] lf,.bool x.2]:=C8▸I4a.put 1 _;have ka:=I4a.at_ 1;have fa:=I4a.free 1;have q1:=I4.at_ 1;have q0:W3.cell? ⟨w.heap.size,k,none⟩=some (.bool (skipA hs A k)):=(I1.o.at_ k).trans ((lG _ k (by omega)).trans (by rw [dq]));have q2:W3.cell? ⟨w.heap.size,k+1,none⟩=some (.bool (iI hs A k (k+1))):=(I1.o.at_ (k+1)).trans (lG _ (k+1) (by omega));have f2:=I1.o.free (k+1);have ob:=Ic hx;obtain ⟨m,hm⟩:=qY (x.2);rw [hm] at ob q1 C8 VM;obtain ⟨b,hb⟩:=qY (skipA hs A k);rw [hb] at q0;generalize iI hs A k (k+1)=b2 at q2;clear c0 c1 hf I4 hm hx
  cases b with
  | false =>
   have HN:Hid (iI hs A k=iI hs A (k+1)):=Ro hs A k (by rw [hb];rfl);clear hb ob;go_wp2;exact ⟨⟨k+1,by go_num,by omega,HN.o▸I1,I2,I3⟩,by simp [intOf];omega⟩
  | true =>
   cases m with
   | false =>
    have HN:Hid (iI hs A k=iI hs A (k+1)):=Ro hs A k (by rw [ob,Bool.and_false]);clear hb ob;go_wp2;exact ⟨⟨k+1,by go_num,by omega,HN.o▸I1,I2,I3⟩,by simp [intOf];omega⟩
   | true =>
    have HN:Hid ((fun j=>iI hs A k j||j == k+1)=iI hs A (k+1)):=df hs A k hb ob;clear hb ob;go_wp2;refine ⟨⟨k+1,by go_num,by omega,?_,I2.o.other (by simp) _,I3.o.setCell qN _⟩,by simp [intOf];omega⟩;have:=I1.o.put (k+1) (.bool true);rw [tS,HN.o] at this;exact this
 have Q9:k=hs.length:=by omega
 have J4:Hid (Has wr w.heap.size 258 (plv (skipA hs A))):=by have:=J1.o;rw [Q9,Zd] at this;exact this
 clear J1 Q9;go_wp2_with (first
  | (refine wpList_load_row rfl 258 _ rfl w.heap.size rfl 258 _ (0,0) _ J4.o Tryz.underlying258 rfl (gV _) ?_)
  | (refine wpList_store_row rfl 258 (.tmp 4) (.tmp 28) rfl (w.heap.size+1) (plv (skipA hs A)) rfl rfl 258 _ J2.o (gV _) (by rw [gM,gM]) (tP _) ?_))
 refine bodyPost_ret (results_cell_row rfl _ _ (w.heap.size+1) 258 (plv (skipA hs A)) (0,0) _ rfl J2.o.row Tryz.underlying258 rfl (gV _)) rfl ⟨rfl,J3.o.rowG (by omega) _⟩
def nB (hs:H) (A:Pl) (c:UInt8) (i:Nat):Pl:=fun k=>(decide (k < i)&&many hs k&&A k&&hold hs k c)||(decide (0 < k/\k<=i)&&!many hs (k - 1)&&A (k - 1)&&hold hs (k - 1) c)
def bm (hs:H) (A:Pl) (c:UInt8):nB hs A c 0=fun _=>false:=by
 funext k;unfold nB
 have e1:decide (k < 0)=false:=decide_eq_false (by omega);have e2:decide (0 < k/\k<=0)=false:=decide_eq_false (by omega);rw [e1,e2];rfl
def ff (hs:H) (A:Pl) (c:UInt8):nB hs A c hs.length=jP hs A c:=rfl
def vJ (hs:H) (A:Pl) (c:UInt8) (k j:Nat) (h1:j≠k) (h2:j≠k+1):nB hs A c (k+1) j=nB hs A c k j:=by
 unfold nB;have e1:decide (j < k+1)=decide (j < k):=by rw [decide_eq_decide];omega
 have e2:decide (0 < j/\j<=k+1)=decide (0 < j/\j<=k):=by rw [decide_eq_decide];omega
 rw [e1,e2]
def Tg (hs:H) (A:Pl) (c:UInt8) (k:Nat):nB hs A c (k+1) k=(nB hs A c k k||(many hs k&&A k&&hold hs k c)):=by
 unfold nB;have e1:decide (k < k+1)=true:=decide_eq_true (by omega);have e2:decide (k < k)=false:=decide_eq_false (by omega);have e3:decide (0 < k/\k<=k+1)=decide (0 < k/\k<=k):=by rw [decide_eq_decide];omega
 rw [e1,e2,e3];simp only [Bool.true_and,Bool.false_and,Bool.false_or];rw [Bool.or_comm]
def Ke (hs:H) (A:Pl) (c:UInt8) (k:Nat):nB hs A c (k+1) (k+1)=(nB hs A c k (k+1)||(!many hs k&&A k&&hold hs k c)):=by
 unfold nB;have e1:decide (k+1 < k+1)=false:=decide_eq_false (by omega);have e2:decide (k+1 < k)=false:=decide_eq_false (by omega);have e3:decide (0 < k+1/\k+1<=k+1)=true:=decide_eq_true (by omega);have e4:decide (0 < k+1/\k+1<=k)=false:=decide_eq_false (by omega);rw [e1,e2,e3,e4];simp
def Yh (hs:H) (A:Pl) (c:UInt8) (k:Nat) (h:(A k&&hold hs k c)=false):nB hs A c k=nB hs A c (k+1):=by
 funext j
 by_cases h1:j=k
 . subst h1;rw [Tg,Bool.and_assoc,h];simp
 by_cases h2:j=k+1
 . subst h2;rw [Ke,Bool.and_assoc,h];simp
 rw [vJ _ _ _ _ _ h1 h2]
def Yt (hs:H) (A:Pl) (c:UInt8) (k:Nat) (ha:A k=true) (hh:hold hs k c=true) (hm:many hs k=true):(fun j=>nB hs A c k j||j == k)=nB hs A c (k+1):=by
 funext j
 by_cases h1:j=k
 . subst h1;rw [Tg,ha,hh,hm];simp
 have e:(j == k)=false:=by simp [h1]
 rw [e,Bool.or_false];by_cases h2:j=k+1
 . subst h2;rw [Ke,hm];simp
 rw [vJ _ _ _ _ _ h1 h2]
def dw (hs:H) (A:Pl) (c:UInt8) (k:Nat) (ha:A k=true) (hh:hold hs k c=true) (hm:many hs k=false):(fun j=>nB hs A c k j||j == k+1)=nB hs A c (k+1):=by
 funext j
 by_cases h2:j=k+1
 . subst h2;rw [Ke,ha,hh,hm];simp
 have e:(j == k+1)=false:=by simp [h2]
 rw [e,Bool.or_false];by_cases h1:j=k
 . subst h1;rw [Tg,hm];simp
 rw [vJ _ _ _ _ _ h1 h2]
def iZ:Hid ((Tryz.prog.info? 258).map (·.size)=some Tryz.zeroCells258.size):=by show _=_;kernel_rfl
def fi:Hid (Tryz.zeroCells258.all (·.oneCell')=true):=by show _=_;kernel_rfl
def Tp (g : Nat) (s:By) (p:Pt) (A:Pl) (c:UInt8) (w:World) (hp:PatIs w g s p) :
 qC 194 #[.pointer (some ⟨g,0,none⟩),.agg (plv A),.int .u8 (b8 c)] w fun e w'=>e=.returned (.agg (plv (jP p.hs A c)))/\qW w w':=by
 obtain ⟨ge,cp,k3,hg,R8,hn,tz⟩:=hp.els;obtain ⟨W1,p3⟩:=qY (w.alloc (.cells (plv A) 258));obtain ⟨W2,r7⟩:=qY (W1.alloc (.cells Tryz.zeroCells258 258));obtain ⟨W5,ua⟩:=qY (W2.alloc (.cells Tryz.zeroCells258 258));have B1:qW w W1:=p3▸qB.alloc qN _;have s1:W1.heap.size=w.heap.size+1:=by rw [<-p3];simp
 have B2:qW w W2:=r7▸B1.alloc (by omega) _;have s2:W2.heap.size=w.heap.size+1+1:=by rw [<-r7];simp [s1]
 have B5:qW w W5:=ua▸B2.alloc (by omega) _;have H1:Has W5 w.heap.size 258 (plv A):=ua▸(r7▸(p3▸Has.fresh w 258 (plv A)).more _:Has W2 w.heap.size 258 (plv A)).more _;have H2:Has W5 (w.heap.size+1) 258 (plv (fun _=>false)):=ua▸(r7▸rR▸Has.fresh' W1 258 Tryz.zeroCells258 s1.symm:Has W2 (w.heap.size+1) 258 (plv (fun _=>false))).more _;have H5:Has W5 (w.heap.size+1+1) 258 (plv (fun _=>false)):=ua▸rR▸Has.fresh' W2 258 Tryz.zeroCells258 s2.symm;have c3:W5.cell? ⟨g,3,none⟩=some (.slice (some ⟨ge,0,none⟩) p.hs.length cp):=(B5.cell (p:=⟨g,3,none⟩) hg).trans k3;have HZ:Hid (Has W5 (w.heap.size+1+1) 258 Tryz.zeroCells258):=ua▸Has.fresh' W2 258 Tryz.zeroCells258 s2.symm;obtain ⟨W6,j8⟩:=qY (W5.setRow (w.heap.size+1+1) Tryz.zeroCells258);have VK:Hid (Has W6 w.heap.size 258 (plv A)):=j8▸H1.rowOther (by omega);have VL:Hid (Has W6 (w.heap.size+1) 258 (plv (fun _=>false))):=j8▸H2.rowOther (by omega);have HH5:Hid (Has W6 (w.heap.size+1+1) 258 (plv (fun _=>false))):=j8▸rR▸H5.row;have H8:Hid (qW w W6):=j8▸B5.rowG (by omega) _;have c36:W6.cell? ⟨g,3,none⟩=some (.slice (some ⟨ge,0,none⟩) p.hs.length cp):=(H8.o.cell (p:=⟨g,3,none⟩) hg).trans k3;have OO:=hid tz;generalize p.hs=hs at *;clear hp tz H1 H2 H5 B1 B2 B5 k3 c3;go_enter Tryz.func194,Tryz.ntmps194
 go_wp2_with (refine wpList_store_row rfl 258 (.tmp 7) (.tmp 10) rfl (w.heap.size+1+1) Tryz.zeroCells258 rfl rfl 258 Tryz.zeroCells258 HZ.o iZ.o rfl fi.o ?_)
 go_loopw [8,9,16] (fun _ _ i wr=>∃k:Nat,i=.int .i64 (k:Int)/\k<=hs.length/\Hid (Has wr w.heap.size 258 (plv A))/\Hid (Has wr (w.heap.size+1) 258 (plv (fun _=>false)))/\Hid (Has wr (w.heap.size+1+1) 258 (plv (nB hs A c k)))/\Hid (qW w wr))
  (fun _ _ i _=>hs.length - (intOf i).toNat)
 case atStart=>exact ⟨0,rfl,Nat.zero_le _,VK,VL,by rw [bm];exact HH5,H8⟩
 obtain ⟨k,rfl,hk,J1,J2,J5,J3⟩:=hrel;by_cases d8:k < hs.length
 .
  obtain ⟨x,hx⟩:∃x,hs[k]? = some x:=⟨hs[k],List.getElem?_eq_getElem d8⟩;obtain ⟨f,c0,c1,hf⟩:=OO.o k x hx;obtain ⟨kf,lf,rfl,ek,RM⟩:=hf;have c0':=(J3.o.cell (p:=⟨ge,k*2,none⟩) R8).trans c0;have VM:=(J3.o.cell (p:=⟨ge,k*2+1,none⟩) R8).trans c1;obtain ⟨Wa,z7⟩:=qY (wr.alloc (.cells #[.func (.func kf) #[] lf,.bool false] 249));obtain ⟨W3,C8⟩:=qY (Wa.setCell ⟨wr.heap.size,1,none⟩ (.bool x.2));have p5:=J3.o.size;have yo:=J5.o.inside;have I4a:Has Wa wr.heap.size 249 #[.func (.func kf) #[] lf,.bool false]:=z7▸Has.fresh _ _ _;have I1:Hid (Has W3 w.heap.size 258 (plv A)):=C8▸(z7▸J1.o.more _:Has Wa w.heap.size 258 (plv A)).other (by simp;omega) _;have I2:Hid (Has W3 (w.heap.size+1) 258 (plv (fun _=>false))):=C8▸(z7▸J2.o.more _:Has Wa (w.heap.size+1) 258 (plv (fun _=>false))).other (by simp;omega) _;have I5:Hid (Has W3 (w.heap.size+1+1) 258 (plv (nB hs A c k))):=C8▸(z7▸J5.o.more _:Has Wa (w.heap.size+1+1) 258 (plv (nB hs A c k))).other (by simp;omega) _;have I3:Hid (qW w W3):=C8▸(z7▸J3.o.alloc p5 _:qW w Wa).setCell p5 _;have I4:Hid (Has W3 wr.heap.size 249 #[.func (.func kf) #[] lf,.bool x.2]):=C8▸I4a.put 1 _;have ka:=I4a.at_ 1;have fa:=I4a.free 1;have q0:W3.cell? ⟨w.heap.size,k,none⟩=some (.bool (A k)):=(I1.o.at_ k).trans (lG _ k (by omega));have k4:=I4.o.at_ 0;have CF:=hid (RM W3 c (Gx.of_below I3.o));have ob:=Ic hx;have GD:=Zq hx c;obtain ⟨m,hm⟩:=qY (x.2);rw [hm] at ob I4 C8 VM k4;obtain ⟨h,hh⟩:=qY (x.1 c);rw [hh] at GD CF;obtain ⟨b,hb⟩:=qY (A k);rw [hb] at q0;clear c0 c1 RM I4a hm hx hh
  cases b with
  | false =>
   have HN:Hid (nB hs A c k=nB hs A c (k+1)):=Yh hs A c k (by rw [hb];rfl);clear hb ob GD;go_wp2;exact ⟨⟨k+1,by go_num,by omega,I1,I2,HN.o▸I5,I3⟩,by simp [intOf];omega⟩
  | true =>
   cases h with
   | false =>
    have HN:Hid (nB hs A c k=nB hs A c (k+1)):=Yh hs A c k (by rw [GD,Bool.and_false]);clear hb ob GD;go_wp2_with (go_at_fn kf;refine CF.o.mono ?_;rintro e1 w1 ⟨rfl,c8⟩)
    exact ⟨⟨k+1,by go_num,by omega,I1.o.stays c8,I2.o.stays c8,HN.o▸I5.o.stays c8,I3.o.thenG c8⟩,by simp [intOf];omega⟩
   | true =>
    cases m with
    | true =>
     have HN:Hid ((fun j=>nB hs A c k j||j == k)=nB hs A c (k+1)):=Yt hs A c k hb GD ob;clear hb ob GD
     go_wp2_with (go_at_fn kf;refine CF.o.mono ?_;rintro e1 w1 ⟨rfl,c8⟩
                  have K4:=(I4.o.stays c8).at_ 1;have K5:=hid (I5.o.stays c8);have q5:w1.cell? ⟨w.heap.size+1+1,k,none⟩=some (.bool (nB hs A c k k)):=(K5.o.at_ k).trans (lG _ k (by omega));have f5:=K5.o.free k;generalize nB hs A c k k=bb at q5)
     refine ⟨⟨k+1,by go_num,by omega,(I1.o.stays c8).other (by simp;omega) _,(I2.o.stays c8).other (by simp) _,?_,(I3.o.thenG c8).setCell (by simp;omega) _⟩,by simp [intOf];omega⟩;have:=K5.o.put k (.bool true);rw [tS,HN.o] at this;exact this
    | false =>
     have HN:Hid ((fun j=>nB hs A c k j||j == k+1)=nB hs A c (k+1)):=dw hs A c k hb GD ob;clear hb ob GD
     go_wp2_with (go_at_fn kf;refine CF.o.mono ?_;rintro e1 w1 ⟨rfl,c8⟩
                  have K4:=(I4.o.stays c8).at_ 1;have K5:=hid (I5.o.stays c8);have q5:w1.cell? ⟨w.heap.size+1+1,k+1,none⟩=some (.bool (nB hs A c k (k+1))):=(K5.o.at_ (k+1)).trans (lG _ (k+1) (by omega));have f5:=K5.o.free (k+1);generalize nB hs A c k (k+1)=bb at q5)
     refine ⟨⟨k+1,by go_num,by omega,(I1.o.stays c8).other (by simp;omega) _,(I2.o.stays c8).other (by simp) _,?_,(I3.o.thenG c8).setCell (by simp;omega) _⟩,by simp [intOf];omega⟩;have:=K5.o.put (k+1) (.bool true);rw [tS,HN.o] at this;exact this
 have Q9:k=hs.length:=by omega
 have J4:Hid (Has wr (w.heap.size+1+1) 258 (plv (jP hs A c))):=by have:=J5.o;rw [Q9,ff] at this;exact this
 clear J5 Q9;go_wp2_with (first
  | (refine wpList_load_row rfl 258 _ rfl (w.heap.size+1+1) rfl 258 _ (0,0) _ J4.o Tryz.underlying258 rfl (gV _) ?_)
  | (refine wpList_store_row rfl 258 (.tmp 6) (.tmp 42) rfl (w.heap.size+1) (plv (jP hs A c)) rfl rfl 258 _ J2.o (gV _) (by rw [gM,gM]) (tP _) ?_))
 refine bodyPost_ret (results_cell_row rfl _ _ (w.heap.size+1) 258 (plv (jP hs A c)) (0,0) _ rfl J2.o.row Tryz.underlying258 rfl (gV _)) rfl ⟨rfl,J3.o.rowG (by omega) _⟩
end Go.Proofs.YtahkcemdbfjilaaGreatDoor.Glob
