/- Texts. Conditions: as said. -/
import Derived.Test.YtahkcemdbfjilaaGreatDoorFj00
import Derived.Test.YtahkcemdbfjilaaGreatDoorFj24
set_option linter.all false
set_option maxRecDepth 100000
set_option maxHeartbeats 32000000
namespace Go.Proofs.YtahkcemdbfjilaaGreatDoor.Glob
open Go.RowKit
def Rgs.at_ {B:Nat} {w:World} {v:Value} {rs:List Rg} (h:Rgs B w v rs):(rs=[]/\v=.slice none 0 0)∨∃g cap,v=.slice (some ⟨g,0,none⟩) rs.length cap/\g < w.heap.size/\∀k (hk:k < rs.length),w.cell? ⟨g,k*2,none⟩=some (.int .u8 (b8 rs[k].1))/\w.cell? ⟨g,k*2+1,none⟩=some (.int .u8 (b8 rs[k].2)):=by
 rcases h.2 with ⟨h1,h2⟩ | ⟨g,c,cur,h1,hB,h3,h4,h5,h6,h7⟩
 . exact .inl ⟨List.length_eq_zero_iff.1 h2,h1⟩
 refine .inr ⟨g,c,h1,(Array.getElem?_eq_some_iff.1 h3).1,fun k hk=>?_⟩;have hh:Has w g 283 cur:=h3;have e:=zJ rs k hk;rw [<-h7,List.getElem?_take_of_lt (by omega),List.getElem?_take_of_lt (by omega)] at e;rw [hh.at_,hh.at_];simpa using e
def cV (B:Nat) (v:Value) (rs:List Rg) (c:UInt8) (w:World) (hr:Rgs B w v rs) (hn:rs.length<=1000) :
 qC 267 #[v,.int .u8 (b8 c)] w fun e w'=>e=.returned (.bool (rs.any fun r=>aW r c))/\w=w':=by
 rcases hr.at_ with ⟨rfl,rfl⟩ | ⟨g,cap,rfl,hg,d9⟩
 .
  go_enter Tryz.func267,Tryz.ntmps267
  go_wp2;refine wp_loop_rounds 1 ?_;rw [rounds_succ];go_wp2;go_ret;exact ⟨rfl,rfl⟩
 have HL:=hid d9;clear d9 hr;go_enter Tryz.func267,Tryz.ntmps267
 go_wp2;go_loopw [5] (fun i wr=>∃k:Nat,i=.int .i64 (k:Int)/\k<=rs.length/\Hid ((rs.take k).any (fun r=>aW r c)=false)/\w=wr)
  (fun i _=>rs.length - (intOf i).toNat)
 case atStart=>exact ⟨0,rfl,Nat.zero_le _,rfl,rfl⟩
 obtain ⟨k,rfl,hk,HT,rfl⟩:=hrel;by_cases d8:k < rs.length
 .
  have c0:=(HL.o k d8).1;have c1:=(HL.o k d8).2;have HN:=hid (any_take_succ rs (fun r=>aW r c) k d8);have l1:=Bd rs[k].1 c;have l2:=Bd c rs[k].2;have HH:Hid (aW rs[k] c=(decide (rs[k].1.toNat<=c.toNat)&&decide (c.toNat<=rs[k].2.toNat))):=rfl;have HM:Hid (rs[k]∈rs):=List.getElem_mem _;generalize hx:(b8 rs[k].1)=x at c0 l1;generalize hy:(b8 rs[k].2)=y at c1 l2;obtain ⟨d1,TM⟩:=qY (decide (rs[k].1.toNat<=c.toNat));obtain ⟨d2,QE⟩:=qY (decide (c.toNat<=rs[k].2.toNat));rw [TM] at l1 HH;rw [QE] at l2 HH;clear hx hy TM QE
  cases d1 with
  | false =>
   have G9:Hid ((rs.take (k+1)).any (fun r=>aW r c)=false):=by show _=_;rw [HN.o,HT.o,HH.o];rfl
   clear HN HH;go_wp2;exact ⟨⟨k+1,by go_num,by omega,G9.o,by first | rfl | trivial⟩,by simp [intOf];omega⟩
  | true =>
   cases d2 with
   | false =>
    have G9:Hid ((rs.take (k+1)).any (fun r=>aW r c)=false):=by show _=_;rw [HN.o,HT.o,HH.o];rfl
    clear HN HH;go_wp2;exact ⟨⟨k+1,by go_num,by omega,G9.o,by first | rfl | trivial⟩,by simp [intOf];omega⟩
   | true =>
    have HA:Hid (rs.any (fun r=>aW r c)=true):=List.any_eq_true.2 ⟨rs[k],HM.o,HH.o⟩;clear HN HH HM;go_wp2;go_ret;exact ⟨aF HA.o.symm,rfl⟩
 have HK:Hid (rs.any (fun r=>aW r c)=false):=by
  have:=HT.o;rw [show k=rs.length by omega,List.take_length] at this;exact this
 go_wp2;go_ret;exact ⟨aF HK.o.symm,rfl⟩
def lower (c:UInt8) (h:97<=b8 c) (h2:b8 c<=122):b8 c - 32=b8 (other c):=by
 have hd:∀n:Fin 256,97<=n.val->n.val<=122->((n.val:Nat):Int) - 32=b8 (other (UInt8.ofNat n.val)):=by decide +kernel
 have:=hd ⟨c.toNat,c.toNat_lt⟩ (by unfold b8 at h;simp only;omega) (by unfold b8 at h2;simp only;omega);simpa [b8] using this
def upper (c:UInt8) (h:65<=b8 c) (h2:b8 c<=90):b8 c+32=b8 (other c):=by
 have hd:∀n:Fin 256,65<=n.val->n.val<=90->((n.val:Nat):Int)+32=b8 (other (UInt8.ofNat n.val)):=by decide +kernel
 have:=hd ⟨c.toNat,c.toNat_lt⟩ (by unfold b8 at h;simp only;omega) (by unfold b8 at h2;simp only;omega);simpa [b8] using this
def br (c:UInt8) (h:¬(97<=b8 c/\b8 c<=122)) (h2:¬(65<=b8 c/\b8 c<=90)):b8 c=b8 (other c):=by
 unfold other;rw [if_neg];unfold b8 at h h2;omega
def iX (c:UInt8) (w:World):qC 268 #[.int .u8 (b8 c)] w fun e w'=>e=.returned (.int .u8 (b8 (other c)))/\w=w':=by
 have hl:=lower c;have hu:=upper c;have j3:=br c;have h0:=cJ c;have h1:=gH c;generalize b8 (other c)=r at *;generalize b8 c=x at *;by_cases h97:97<=x
 .
  by_cases h122:x<=122
  .
   have HR:=hid (hl h97 h122);clear hl hu j3;go_enter Tryz.func268,Tryz.ntmps268
   go_wp2;go_ret;exact ⟨by rw [<-HR.o];rfl,rfl⟩
  have HR:=hid (j3 (by omega) (by omega));have g65:65<=x:=by omega
  have g90:¬x<=90:=by omega
  clear hl hu j3;go_enter Tryz.func268,Tryz.ntmps268
  go_wp2;go_ret;exact ⟨by rw [<-HR.o];rfl,rfl⟩
 by_cases h65:65<=x
 .
  by_cases h90:x<=90
  .
   have HR:=hid (hu h65 h90);clear hl hu j3;go_enter Tryz.func268,Tryz.ntmps268
   go_wp2;go_ret;exact ⟨by rw [<-HR.o];rfl,rfl⟩
  have HR:=hid (j3 (by omega) (by omega));clear hl hu j3;go_enter Tryz.func268,Tryz.ntmps268
  go_wp2;go_ret;exact ⟨by rw [<-HR.o];rfl,rfl⟩
 have HR:=hid (j3 (by omega) (by omega));clear hl hu j3;go_enter Tryz.func268,Tryz.ntmps268
 go_wp2;go_ret;exact ⟨by rw [<-HR.o];rfl,rfl⟩
def dp (rs:List Rg) (f:Bool) (p q:Rg->Bool):rs.any (fun r=>p r||f&&q r)=(rs.any p||f&&rs.any q):=by
 induction rs with
 | nil=>simp
 | cons r rs ih =>
  simp only [List.any_cons];rw [ih]
  cases p r<;>cases q r<;>cases f<;>cases rs.any p<;>simp
def et (f:Bool) (rs:List Rg) (c:UInt8):nT f rs c=((rs.any fun r=>aW r c)||f&&(rs.any fun r=>aW r (other c))):=dp rs f _ _
def bp (x c:UInt8):aW (x,x) c=(c == x):=by
 unfold aW;rw [Bool.eq_iff_iff];simp only [Bool.and_eq_true,decide_eq_true_eq,beq_iff_eq];constructor
 . rintro ⟨h1,h2⟩;exact UInt8.toNat_inj.1 (by omega)
 rintro rfl;exact ⟨Nat.le_refl _,Nat.le_refl _⟩
def pK (f:Bool) (x c:UInt8):bD f (.byt x) c=((c == x)||f&&(other c == x)):=by
 simp only [bD,nT,List.any_cons,List.any_nil,Bool.or_false,bp]
def qA (f neg:Bool) (rs:List Rg) (c:UInt8):bD f (.set neg rs) c=(!(c == 47)&&(((rs.any fun r=>aW r c)||f&&(rs.any fun r=>aW r (other c))) != neg)):=by
 simp only [bD,et]
 cases neg<;>simp
def ga (n f d r:Bool) (A0:Option Addr) (l0 c0:Nat) (c:UInt8) (w:World) :
 qC 233 #[.agg #[.bool n,.bool f,.bool d,.bool r,.slice A0 l0 c0],.agg #[.int .i64 1,.int .u8 0,.bool false,.slice none 0 0],.int .u8 (b8 c)] w fun e w'=>e=.returned (.bool (bD f .all c))/\qW w w':=by
 go_enter Tryz.func233,Tryz.ntmps233
 go_wp2;go_ret;exact ⟨rfl,(qB.alloc qN _).alloc (by simp) _⟩
def Zf (n f d r:Bool) (A0:Option Addr) (l0 c0:Nat) (c:UInt8) (w:World) :
 qC 233 #[.agg #[.bool n,.bool f,.bool d,.bool r,.slice A0 l0 c0],.agg #[.int .i64 2,.int .u8 0,.bool false,.slice none 0 0],.int .u8 (b8 c)] w fun e w'=>e=.returned (.bool (bD f .part c))/\qW w w':=by
 have q7:=fU c 47;rw [show b8 47=47 from rfl] at q7;have HE:Hid (bD f .part c = !(c == 47)):=rfl;rw [<-HE.o] at q7;generalize bD f .part c=g at q7;clear HE;go_enter Tryz.func233,Tryz.ntmps233
 go_wp2;go_ret;exact ⟨rfl,(qB.alloc qN _).alloc (by simp) _⟩
def gy (n f d r:Bool) (A0:Option Addr) (l0 c0:Nat) (c:UInt8) (w:World) :
 qC 233 #[.agg #[.bool n,.bool f,.bool d,.bool r,.slice A0 l0 c0],.agg #[.int .i64 3,.int .u8 0,.bool false,.slice none 0 0],.int .u8 (b8 c)] w fun e w'=>e=.returned (.bool (bD f .one c))/\qW w w':=by
 have q7:=fU c 47;rw [show b8 47=47 from rfl] at q7;have HE:Hid (bD f .one c = !(c == 47)):=rfl;rw [<-HE.o] at q7;generalize bD f .one c=g at q7;clear HE;go_enter Tryz.func233,Tryz.ntmps233
 go_wp2;go_ret;exact ⟨rfl,(qB.alloc qN _).alloc (by simp) _⟩
def Tn (n f d r:Bool) (A0:Option Addr) (l0 c0:Nat) (x:UInt8) (c:UInt8) (w:World) (h1:(c == x)=true) :
 qC 233 #[.agg #[.bool n,.bool f,.bool d,.bool r,.slice A0 l0 c0],.agg #[.int .i64 5,.int .u8 (b8 x),.bool false,.slice none 0 0],.int .u8 (b8 c)] w fun e w'=>e=.returned (.bool (bD f (.byt x) c))/\qW w w':=by
 have HE:=hid (pK f x c);obtain ⟨W0,o6⟩:=qY ((w.alloc (.cells #[.bool n,.bool f,.bool d,.bool r,.slice A0 l0 c0] 175)).alloc (.cells #[.int .i64 5,.int .u8 (b8 x),.bool false,.slice none 0 0] 218));have hP:Has W0 w.heap.size 175 #[.bool n,.bool f,.bool d,.bool r,.slice A0 l0 c0]:=o6▸(Has.fresh w 175 _).more _;have hE:Has W0 (w.heap.size+1) 218 #[.int .i64 5,.int .u8 (b8 x),.bool false,.slice none 0 0]:=o6▸Has.fresh' _ 218 _ (by simp);have B0:qW w W0:=o6▸((Below.refl w.heap.size w).alloc qN _).alloc (by simp) _;have my:=hid B0;have hk:=hE.at_ 0;have XF:Hid (∀W,qW W0 W->W.cell? ⟨w.heap.size,1,none⟩=some (.bool f)):=fun W h=>(hP.stays h).at_ 1
 have z0:qW W0 W0.drew:=qB.drew;have XB:Hid (∀W,qW W0 W->W.cell? ⟨w.heap.size+1,1,none⟩=some (.int .u8 (b8 x))):=fun W h=>(hE.stays h).at_ 1
 have CO:Hid (∀W,qC 268 #[.int .u8 (b8 c)] W fun e w'=>e=.returned (.int .u8 (b8 (other c)))/\W=w'):=fun W=>iX c W
 have q1:(b8 c == b8 x)=true:=(aL c x).trans h1;obtain ⟨b2,a9⟩:=qY ((other c == x));have q2:(b8 (other c) == b8 x)=b2:=(aL (other c) x).trans a9;rw [h1,a9] at HE;generalize b8 (other c)=oc at *;generalize b8 c=cc at *;generalize b8 x=xx at *;clear hP hE B0 h1 a9;go_enter Tryz.func233,Tryz.ntmps233
 go_wp2;refine qG (S:=Below W0.heap.size W0) (by kernel_rfl) (z0) (fun hS=>?_);refine aG 0 ?_
 iterate 2
  refine qT rfl (by kernel_rfl) ‹_› (fun w a8=>by go_simp;with_reducible rfl) ?_;simp only [Act.put,aB,aA,aC,Nat.reduceAdd]
 refine aE ?_;refine qK 2 rfl (by kernel_rfl) ‹_› (fun w a8=>by have q:=XB.o w a8;go_simp;with_reducible rfl) ?_;simp only [Act.put,aB,aA,aC];refine aG 3 ?_
 iterate 2
  refine qT rfl (by kernel_rfl) ‹_› (fun w a8=>by go_simp;with_reducible rfl) ?_;simp only [Act.put,aB,aA,aC,Nat.reduceAdd]
 refine aE ?_;refine aG 5 ?_
 iterate 9
  refine qU rfl (by kernel_rfl) ‹_› ?_;simp only [Act.put,aB,aA,aC,Nat.reduceAdd]
 refine aE ?_;refine aG 14 ?_
 iterate 2
  refine qT rfl (by kernel_rfl) ‹_› (fun w a8=>by go_simp;with_reducible rfl) ?_;simp only [Act.put,aB,aA,aC,Nat.reduceAdd]
 refine aE ?_;refine qM (by kernel_rfl) ?_;go_wp2;go_ret;exact ⟨aF (by rw [HE.o];simp),my.o.drew⟩
def Ns (n d r:Bool) (A0:Option Addr) (l0 c0:Nat) (x:UInt8) (c:UInt8) (w:World) (h1:(c == x)=false) :
 qC 233 #[.agg #[.bool n,.bool false,.bool d,.bool r,.slice A0 l0 c0],.agg #[.int .i64 5,.int .u8 (b8 x),.bool false,.slice none 0 0],.int .u8 (b8 c)] w fun e w'=>e=.returned (.bool (bD false (.byt x) c))/\qW w w':=by
 have HE:=hid (pK false x c);obtain ⟨W0,o6⟩:=qY ((w.alloc (.cells #[.bool n,.bool false,.bool d,.bool r,.slice A0 l0 c0] 175)).alloc (.cells #[.int .i64 5,.int .u8 (b8 x),.bool false,.slice none 0 0] 218));have hP:Has W0 w.heap.size 175 #[.bool n,.bool false,.bool d,.bool r,.slice A0 l0 c0]:=o6▸(Has.fresh w 175 _).more _;have hE:Has W0 (w.heap.size+1) 218 #[.int .i64 5,.int .u8 (b8 x),.bool false,.slice none 0 0]:=o6▸Has.fresh' _ 218 _ (by simp);have B0:qW w W0:=o6▸((Below.refl w.heap.size w).alloc qN _).alloc (by simp) _;have my:=hid B0;have hk:=hE.at_ 0;have XF:Hid (∀W,qW W0 W->W.cell? ⟨w.heap.size,1,none⟩=some (.bool false)):=fun W h=>(hP.stays h).at_ 1
 have z0:qW W0 W0.drew:=qB.drew;have XB:Hid (∀W,qW W0 W->W.cell? ⟨w.heap.size+1,1,none⟩=some (.int .u8 (b8 x))):=fun W h=>(hE.stays h).at_ 1
 have CO:Hid (∀W,qC 268 #[.int .u8 (b8 c)] W fun e w'=>e=.returned (.int .u8 (b8 (other c)))/\W=w'):=fun W=>iX c W
 have q1:(b8 c == b8 x)=false:=(aL c x).trans h1;obtain ⟨b2,a9⟩:=qY ((other c == x));have q2:(b8 (other c) == b8 x)=b2:=(aL (other c) x).trans a9;rw [h1,a9] at HE;generalize b8 (other c)=oc at *;generalize b8 c=cc at *;generalize b8 x=xx at *;clear hP hE B0 h1 a9;go_enter Tryz.func233,Tryz.ntmps233
 go_wp2;refine qG (S:=Below W0.heap.size W0) (by kernel_rfl) (z0) (fun hS=>?_);refine aG 0 ?_
 iterate 2
  refine qT rfl (by kernel_rfl) ‹_› (fun w a8=>by go_simp;with_reducible rfl) ?_;simp only [Act.put,aB,aA,aC,Nat.reduceAdd]
 refine aE ?_;refine qK 2 rfl (by kernel_rfl) ‹_› (fun w a8=>by have q:=XB.o w a8;go_simp;with_reducible rfl) ?_;simp only [Act.put,aB,aA,aC];refine aG 3 ?_
 iterate 3
  refine qT rfl (by kernel_rfl) ‹_› (fun w a8=>by go_simp;with_reducible rfl) ?_;simp only [Act.put,aB,aA,aC,Nat.reduceAdd]
 refine aE ?_;refine qK 6 rfl (by kernel_rfl) ‹_› (fun w a8=>by have q:=XF.o w a8;go_simp;with_reducible rfl) ?_;simp only [Act.put,aB,aA,aC];refine qK 7 rfl (by kernel_rfl) ‹_› (fun w a8=>by go_simp;with_reducible rfl) ?_;simp only [Act.put,aB,aA,aC];refine aG 8 ?_
 iterate 5
  refine qU rfl (by kernel_rfl) ‹_› ?_;simp only [Act.put,aB,aA,aC,Nat.reduceAdd]
 refine aE ?_;refine aG 13 ?_
 iterate 3
  refine qT rfl (by kernel_rfl) ‹_› (fun w a8=>by go_simp;with_reducible rfl) ?_;simp only [Act.put,aB,aA,aC,Nat.reduceAdd]
 refine aE ?_;refine qM (by kernel_rfl) ?_;go_wp2;go_ret;exact ⟨aF (by rw [HE.o];simp),my.o.drew⟩
def Ot (n d r:Bool) (A0:Option Addr) (l0 c0:Nat) (x:UInt8) (c:UInt8) (w:World) (h1:(c == x)=false) :
 qC 233 #[.agg #[.bool n,.bool true,.bool d,.bool r,.slice A0 l0 c0],.agg #[.int .i64 5,.int .u8 (b8 x),.bool false,.slice none 0 0],.int .u8 (b8 c)] w fun e w'=>e=.returned (.bool (bD true (.byt x) c))/\qW w w':=by
 have HE:=hid (pK true x c);obtain ⟨W0,o6⟩:=qY ((w.alloc (.cells #[.bool n,.bool true,.bool d,.bool r,.slice A0 l0 c0] 175)).alloc (.cells #[.int .i64 5,.int .u8 (b8 x),.bool false,.slice none 0 0] 218));have hP:Has W0 w.heap.size 175 #[.bool n,.bool true,.bool d,.bool r,.slice A0 l0 c0]:=o6▸(Has.fresh w 175 _).more _;have hE:Has W0 (w.heap.size+1) 218 #[.int .i64 5,.int .u8 (b8 x),.bool false,.slice none 0 0]:=o6▸Has.fresh' _ 218 _ (by simp);have B0:qW w W0:=o6▸((Below.refl w.heap.size w).alloc qN _).alloc (by simp) _;have my:=hid B0;have hk:=hE.at_ 0;have XF:Hid (∀W,qW W0 W->W.cell? ⟨w.heap.size,1,none⟩=some (.bool true)):=fun W h=>(hP.stays h).at_ 1
 have z0:qW W0 W0.drew:=qB.drew;have XB:Hid (∀W,qW W0 W->W.cell? ⟨w.heap.size+1,1,none⟩=some (.int .u8 (b8 x))):=fun W h=>(hE.stays h).at_ 1
 have CO:Hid (∀W,qC 268 #[.int .u8 (b8 c)] W fun e w'=>e=.returned (.int .u8 (b8 (other c)))/\W=w'):=fun W=>iX c W
 have q1:(b8 c == b8 x)=false:=(aL c x).trans h1;obtain ⟨b2,a9⟩:=qY ((other c == x));have q2:(b8 (other c) == b8 x)=b2:=(aL (other c) x).trans a9;rw [h1,a9] at HE;generalize b8 (other c)=oc at *;generalize b8 c=cc at *;generalize b8 x=xx at *;clear hP hE B0 h1 a9;go_enter Tryz.func233,Tryz.ntmps233
 go_wp2;refine qG (S:=Below W0.heap.size W0) (by kernel_rfl) (z0) (fun hS=>?_);refine aG 0 ?_
 iterate 2
  refine qT rfl (by kernel_rfl) ‹_› (fun w a8=>by go_simp;with_reducible rfl) ?_;simp only [Act.put,aB,aA,aC,Nat.reduceAdd]
 refine aE ?_;refine qK 2 rfl (by kernel_rfl) ‹_› (fun w a8=>by have q:=XB.o w a8;go_simp;with_reducible rfl) ?_;simp only [Act.put,aB,aA,aC];refine aG 3 ?_
 iterate 3
  refine qT rfl (by kernel_rfl) ‹_› (fun w a8=>by go_simp;with_reducible rfl) ?_;simp only [Act.put,aB,aA,aC,Nat.reduceAdd]
 refine aE ?_;refine qK 6 rfl (by kernel_rfl) ‹_› (fun w a8=>by have q:=XF.o w a8;go_simp;with_reducible rfl) ?_;simp only [Act.put,aB,aA,aC];refine aG 7 ?_
 iterate 2
  refine qT rfl (by kernel_rfl) ‹_› (fun w a8=>by go_simp;with_reducible rfl) ?_;simp only [Act.put,aB,aA,aC,Nat.reduceAdd]
 refine aE ?_;refine qK 10 rfl (by kernel_rfl) ‹_› (fun w a8=>by go_simp;with_reducible rfl) ?_;simp only [Act.put,aB,aA,aC];refine qK 11 rfl (by kernel_rfl) ‹_› (fun w a8=>by have q:=XB.o w a8;go_simp;with_reducible rfl) ?_;simp only [Act.put,aB,aA,aC];refine qD 9 rfl (by kernel_rfl) fun K hK=>?_
 go_simp;refine (CO.o _).mono ?_;rintro e9 y9 ⟨rfl,hy9⟩;obtain rfl:=hy9;have g8:=z0;refine hK.o _ _ g8 (fun hS=>?_);clear hK K hS;refine aG 12 ?_
 iterate 4
  refine qT rfl (by kernel_rfl) ‹_› (fun w a8=>by go_simp;with_reducible rfl) ?_;simp only [Act.put,aB,aA,aC,Nat.reduceAdd]
 refine aE ?_;refine qM (by kernel_rfl) ?_;go_wp2;go_ret;exact ⟨aF (by rw [HE.o];simp),my.o.drew⟩
def Vo (n f d r:Bool) (A0:Option Addr) (l0 c0:Nat) (neg:Bool) (A:Option Addr) (l k:Nat) (rs:List Rg) (c:UInt8) (w:World) (_hl:l=rs.length) (hn:rs.length<=1000) (hr:Rgs 0 w (.slice A l k) rs) (h1:(rs.any fun r=>aW r c)=true) :
 qC 233 #[.agg #[.bool n,.bool f,.bool d,.bool r,.slice A0 l0 c0],.agg #[.int .i64 4,.int .u8 0,.bool neg,.slice A l k],.int .u8 (b8 c)] w fun e w'=>e=.returned (.bool (bD f (.set neg rs) c))/\qW w w':=by
 have HE:=hid (qA f neg rs c);clear _hl;obtain ⟨W0,o6⟩:=qY ((w.alloc (.cells #[.bool n,.bool f,.bool d,.bool r,.slice A0 l0 c0] 175)).alloc (.cells #[.int .i64 4,.int .u8 0,.bool neg,.slice A l k] 218));have hP:Has W0 w.heap.size 175 #[.bool n,.bool f,.bool d,.bool r,.slice A0 l0 c0]:=o6▸(Has.fresh w 175 _).more _;have hE:Has W0 (w.heap.size+1) 218 #[.int .i64 4,.int .u8 0,.bool neg,.slice A l k]:=o6▸Has.fresh' _ 218 _ (by simp);have B0:qW w W0:=o6▸((Below.refl w.heap.size w).alloc qN _).alloc (by simp) _;have my:=hid B0;have hk:=hE.at_ 0;have XF:Hid (∀W,qW W0 W->W.cell? ⟨w.heap.size,1,none⟩=some (.bool f)):=fun W h=>(hP.stays h).at_ 1
 have z0:qW W0 W0.drew:=qB.drew;have XR:Hid (∀W,qW W0 W->W.cell? ⟨w.heap.size+1,3,none⟩=some (.slice A l k)):=fun W h=>(hE.stays h).at_ 3
 have XN:Hid (W0.cell? ⟨w.heap.size+1,2,none⟩=some (.bool neg)):=hE.at_ 2;have CO:Hid (∀W,qC 268 #[.int .u8 (b8 c)] W fun e w'=>e=.returned (.int .u8 (b8 (other c)))/\W=w'):=fun W=>iX c W
 obtain ⟨b2,a9⟩:=qY ((rs.any fun r=>aW r (other c)));have QF:Hid (∀W,qW W0 W->qC 267 #[.slice A l k,.int .u8 (b8 c)] W fun e w'=>e=.returned (.bool true)/\W=w'):=fun W h=>h1▸cV 0 _ rs c W ((hr.stays B0).stays h) hn
 have YC:Hid (∀W,qW W0 W->qC 267 #[.slice A l k,.int .u8 (b8 (other c))] W fun e w'=>e=.returned (.bool b2)/\W=w'):=fun W h=>a9▸cV 0 _ rs (other c) W ((hr.stays B0).stays h) hn
 rw [h1,a9] at HE;have q7:=fU c 47;rw [show b8 47=47 from rfl] at q7;obtain ⟨b7,z4⟩:=qY ((c == 47));rw [z4] at q7 HE;generalize bD f (.set neg rs) c=goal at HE;generalize b8 (other c)=oc at *;generalize b8 c=cc at *;clear hP hE B0 h1 a9 z4 hr hn;go_enter Tryz.func233,Tryz.ntmps233
 go_wp2;refine qG (S:=Below W0.heap.size W0) (by kernel_rfl) (z0) (fun hS=>?_);refine qK 0 rfl (by kernel_rfl) ‹_› (fun w a8=>by go_simp;with_reducible rfl) ?_;simp only [Act.put,aB,aA,aC];refine qK 1 rfl (by kernel_rfl) ‹_› (fun w a8=>by have q:=XR.o w a8;go_simp;with_reducible rfl) ?_;simp only [Act.put,aB,aA,aC];refine qK 2 rfl (by kernel_rfl) ‹_› (fun w a8=>by go_simp;with_reducible rfl) ?_;simp only [Act.put,aB,aA,aC];refine qD 3 rfl (by kernel_rfl) fun K hK=>?_
 go_simp;refine (QF.o _ z0).mono ?_;rintro e3 y3 ⟨rfl,tv⟩;obtain rfl:=tv;have g8:=z0;refine hK.o _ _ g8 (fun hS=>?_);clear hK K hS;refine qK 4 rfl (by kernel_rfl) ‹_› (fun w a8=>by go_simp;with_reducible rfl) ?_;simp only [Act.put,aB,aA,aC];refine aG 5 ?_
 iterate 9
  refine qU rfl (by kernel_rfl) ‹_› ?_;simp only [Act.put,aB,aA,aC,Nat.reduceAdd]
 refine aE ?_;refine aG 14 ?_
 iterate 2
  refine qT rfl (by kernel_rfl) ‹_› (fun w a8=>by go_simp;with_reducible rfl) ?_;simp only [Act.put,aB,aA,aC,Nat.reduceAdd]
 refine aE ?_;refine qM (by kernel_rfl) ?_;have xn:=XN.o
 cases b7 with
 | true =>
  simp only [Bool.not_true] at q7;go_wp2;go_ret;exact ⟨aF (by rw [HE.o];rfl),my.o.drew⟩
 | false =>
  simp only [Bool.not_false] at q7;go_wp2;go_ret;exact ⟨aF (by rw [HE.o];first | (simp;done) | (cases b2<;>cases neg<;>rfl)),my.o.drew⟩
def Pj (n d r:Bool) (A0:Option Addr) (l0 c0:Nat) (neg:Bool) (A:Option Addr) (l k:Nat) (rs:List Rg) (c:UInt8) (w:World) (_hl:l=rs.length) (hn:rs.length<=1000) (hr:Rgs 0 w (.slice A l k) rs) (h1:(rs.any fun r=>aW r c)=false) :
 qC 233 #[.agg #[.bool n,.bool false,.bool d,.bool r,.slice A0 l0 c0],.agg #[.int .i64 4,.int .u8 0,.bool neg,.slice A l k],.int .u8 (b8 c)] w fun e w'=>e=.returned (.bool (bD false (.set neg rs) c))/\qW w w':=by
 have HE:=hid (qA false neg rs c);clear _hl;obtain ⟨W0,o6⟩:=qY ((w.alloc (.cells #[.bool n,.bool false,.bool d,.bool r,.slice A0 l0 c0] 175)).alloc (.cells #[.int .i64 4,.int .u8 0,.bool neg,.slice A l k] 218));have hP:Has W0 w.heap.size 175 #[.bool n,.bool false,.bool d,.bool r,.slice A0 l0 c0]:=o6▸(Has.fresh w 175 _).more _;have hE:Has W0 (w.heap.size+1) 218 #[.int .i64 4,.int .u8 0,.bool neg,.slice A l k]:=o6▸Has.fresh' _ 218 _ (by simp);have B0:qW w W0:=o6▸((Below.refl w.heap.size w).alloc qN _).alloc (by simp) _;have my:=hid B0;have hk:=hE.at_ 0;have XF:Hid (∀W,qW W0 W->W.cell? ⟨w.heap.size,1,none⟩=some (.bool false)):=fun W h=>(hP.stays h).at_ 1
 have z0:qW W0 W0.drew:=qB.drew;have XR:Hid (∀W,qW W0 W->W.cell? ⟨w.heap.size+1,3,none⟩=some (.slice A l k)):=fun W h=>(hE.stays h).at_ 3
 have XN:Hid (W0.cell? ⟨w.heap.size+1,2,none⟩=some (.bool neg)):=hE.at_ 2;have CO:Hid (∀W,qC 268 #[.int .u8 (b8 c)] W fun e w'=>e=.returned (.int .u8 (b8 (other c)))/\W=w'):=fun W=>iX c W
 obtain ⟨b2,a9⟩:=qY ((rs.any fun r=>aW r (other c)));have QF:Hid (∀W,qW W0 W->qC 267 #[.slice A l k,.int .u8 (b8 c)] W fun e w'=>e=.returned (.bool false)/\W=w'):=fun W h=>h1▸cV 0 _ rs c W ((hr.stays B0).stays h) hn
 have YC:Hid (∀W,qW W0 W->qC 267 #[.slice A l k,.int .u8 (b8 (other c))] W fun e w'=>e=.returned (.bool b2)/\W=w'):=fun W h=>a9▸cV 0 _ rs (other c) W ((hr.stays B0).stays h) hn
 rw [h1,a9] at HE;have q7:=fU c 47;rw [show b8 47=47 from rfl] at q7;obtain ⟨b7,z4⟩:=qY ((c == 47));rw [z4] at q7 HE;generalize bD false (.set neg rs) c=goal at HE;generalize b8 (other c)=oc at *;generalize b8 c=cc at *;clear hP hE B0 h1 a9 z4 hr hn;go_enter Tryz.func233,Tryz.ntmps233
 go_wp2;refine qG (S:=Below W0.heap.size W0) (by kernel_rfl) (z0) (fun hS=>?_);refine qK 0 rfl (by kernel_rfl) ‹_› (fun w a8=>by go_simp;with_reducible rfl) ?_;simp only [Act.put,aB,aA,aC];refine qK 1 rfl (by kernel_rfl) ‹_› (fun w a8=>by have q:=XR.o w a8;go_simp;with_reducible rfl) ?_;simp only [Act.put,aB,aA,aC];refine qK 2 rfl (by kernel_rfl) ‹_› (fun w a8=>by go_simp;with_reducible rfl) ?_;simp only [Act.put,aB,aA,aC];refine qD 3 rfl (by kernel_rfl) fun K hK=>?_
 go_simp;refine (QF.o _ z0).mono ?_;rintro e3 y3 ⟨rfl,tv⟩;obtain rfl:=tv;have g8:=z0;refine hK.o _ _ g8 (fun hS=>?_);clear hK K hS;refine aG 4 ?_
 iterate 2
  refine qT rfl (by kernel_rfl) ‹_› (fun w a8=>by go_simp;with_reducible rfl) ?_;simp only [Act.put,aB,aA,aC,Nat.reduceAdd]
 refine aE ?_;refine qK 6 rfl (by kernel_rfl) ‹_› (fun w a8=>by have q:=XF.o w a8;go_simp;with_reducible rfl) ?_;simp only [Act.put,aB,aA,aC];refine qK 7 rfl (by kernel_rfl) ‹_› (fun w a8=>by go_simp;with_reducible rfl) ?_;simp only [Act.put,aB,aA,aC];refine aG 8 ?_
 iterate 5
  refine qU rfl (by kernel_rfl) ‹_› ?_;simp only [Act.put,aB,aA,aC,Nat.reduceAdd]
 refine aE ?_;refine aG 13 ?_
 iterate 3
  refine qT rfl (by kernel_rfl) ‹_› (fun w a8=>by go_simp;with_reducible rfl) ?_;simp only [Act.put,aB,aA,aC,Nat.reduceAdd]
 refine aE ?_;refine qM (by kernel_rfl) ?_;have xn:=XN.o
 cases b7 with
 | true =>
  simp only [Bool.not_true] at q7;go_wp2;go_ret;exact ⟨aF (by rw [HE.o];rfl),my.o.drew⟩
 | false =>
  simp only [Bool.not_false] at q7;go_wp2;go_ret;exact ⟨aF (by rw [HE.o];first | (simp;done) | (cases b2<;>cases neg<;>rfl)),my.o.drew⟩
def Oz (n d r:Bool) (A0:Option Addr) (l0 c0:Nat) (neg:Bool) (A:Option Addr) (l k:Nat) (rs:List Rg) (c:UInt8) (w:World) (_hl:l=rs.length) (hn:rs.length<=1000) (hr:Rgs 0 w (.slice A l k) rs) (h1:(rs.any fun r=>aW r c)=false) :
 qC 233 #[.agg #[.bool n,.bool true,.bool d,.bool r,.slice A0 l0 c0],.agg #[.int .i64 4,.int .u8 0,.bool neg,.slice A l k],.int .u8 (b8 c)] w fun e w'=>e=.returned (.bool (bD true (.set neg rs) c))/\qW w w':=by
 have HE:=hid (qA true neg rs c);clear _hl;obtain ⟨W0,o6⟩:=qY ((w.alloc (.cells #[.bool n,.bool true,.bool d,.bool r,.slice A0 l0 c0] 175)).alloc (.cells #[.int .i64 4,.int .u8 0,.bool neg,.slice A l k] 218));have hP:Has W0 w.heap.size 175 #[.bool n,.bool true,.bool d,.bool r,.slice A0 l0 c0]:=o6▸(Has.fresh w 175 _).more _;have hE:Has W0 (w.heap.size+1) 218 #[.int .i64 4,.int .u8 0,.bool neg,.slice A l k]:=o6▸Has.fresh' _ 218 _ (by simp);have B0:qW w W0:=o6▸((Below.refl w.heap.size w).alloc qN _).alloc (by simp) _;have my:=hid B0;have hk:=hE.at_ 0;have XF:Hid (∀W,qW W0 W->W.cell? ⟨w.heap.size,1,none⟩=some (.bool true)):=fun W h=>(hP.stays h).at_ 1
 have z0:qW W0 W0.drew:=qB.drew;have XR:Hid (∀W,qW W0 W->W.cell? ⟨w.heap.size+1,3,none⟩=some (.slice A l k)):=fun W h=>(hE.stays h).at_ 3
 have XN:Hid (W0.cell? ⟨w.heap.size+1,2,none⟩=some (.bool neg)):=hE.at_ 2;have CO:Hid (∀W,qC 268 #[.int .u8 (b8 c)] W fun e w'=>e=.returned (.int .u8 (b8 (other c)))/\W=w'):=fun W=>iX c W
 obtain ⟨b2,a9⟩:=qY ((rs.any fun r=>aW r (other c)));have QF:Hid (∀W,qW W0 W->qC 267 #[.slice A l k,.int .u8 (b8 c)] W fun e w'=>e=.returned (.bool false)/\W=w'):=fun W h=>h1▸cV 0 _ rs c W ((hr.stays B0).stays h) hn
 have YC:Hid (∀W,qW W0 W->qC 267 #[.slice A l k,.int .u8 (b8 (other c))] W fun e w'=>e=.returned (.bool b2)/\W=w'):=fun W h=>a9▸cV 0 _ rs (other c) W ((hr.stays B0).stays h) hn
 rw [h1,a9] at HE;have q7:=fU c 47;rw [show b8 47=47 from rfl] at q7;obtain ⟨b7,z4⟩:=qY ((c == 47));rw [z4] at q7 HE;generalize bD true (.set neg rs) c=goal at HE;generalize b8 (other c)=oc at *;generalize b8 c=cc at *;clear hP hE B0 h1 a9 z4 hr hn;go_enter Tryz.func233,Tryz.ntmps233
 go_wp2;refine qG (S:=Below W0.heap.size W0) (by kernel_rfl) (z0) (fun hS=>?_);refine qK 0 rfl (by kernel_rfl) ‹_› (fun w a8=>by go_simp;with_reducible rfl) ?_;simp only [Act.put,aB,aA,aC];refine qK 1 rfl (by kernel_rfl) ‹_› (fun w a8=>by have q:=XR.o w a8;go_simp;with_reducible rfl) ?_;simp only [Act.put,aB,aA,aC];refine qK 2 rfl (by kernel_rfl) ‹_› (fun w a8=>by go_simp;with_reducible rfl) ?_;simp only [Act.put,aB,aA,aC];refine qD 3 rfl (by kernel_rfl) fun K hK=>?_
 go_simp;refine (QF.o _ z0).mono ?_;rintro e3 y3 ⟨rfl,tv⟩;obtain rfl:=tv;have g8:=z0;refine hK.o _ _ g8 (fun hS=>?_);clear hK K hS;refine aG 4 ?_
 iterate 2
  refine qT rfl (by kernel_rfl) ‹_› (fun w a8=>by go_simp;with_reducible rfl) ?_;simp only [Act.put,aB,aA,aC,Nat.reduceAdd]
 refine aE ?_;refine qK 6 rfl (by kernel_rfl) ‹_› (fun w a8=>by have q:=XF.o w a8;go_simp;with_reducible rfl) ?_;simp only [Act.put,aB,aA,aC];refine aG 7 ?_
 iterate 2
  refine qT rfl (by kernel_rfl) ‹_› (fun w a8=>by go_simp;with_reducible rfl) ?_;simp only [Act.put,aB,aA,aC,Nat.reduceAdd]
 refine aE ?_;refine qK 9 rfl (by kernel_rfl) ‹_› (fun w a8=>by have q:=XR.o w a8;go_simp;with_reducible rfl) ?_;simp only [Act.put,aB,aA,aC];refine qK 10 rfl (by kernel_rfl) ‹_› (fun w a8=>by go_simp;with_reducible rfl) ?_;simp only [Act.put,aB,aA,aC];refine qD 11 rfl (by kernel_rfl) fun K hK=>?_
 go_simp;refine (CO.o _).mono ?_;rintro PM y11 ⟨rfl,hy11⟩;obtain rfl:=hy11;have j5:=z0;refine hK.o _ _ j5 (fun hS=>?_);clear hK K hS;refine qD 12 rfl (by kernel_rfl) fun K hK=>?_
 go_simp;refine (YC.o _ z0).mono ?_;rintro e12 y12 ⟨rfl,hy12⟩;obtain rfl:=hy12;have RY:=z0;refine hK.o _ _ RY (fun hS=>?_);clear hK K hS;refine aG 13 ?_
 iterate 3
  refine qT rfl (by kernel_rfl) ‹_› (fun w a8=>by go_simp;with_reducible rfl) ?_;simp only [Act.put,aB,aA,aC,Nat.reduceAdd]
 refine aE ?_;refine qM (by kernel_rfl) ?_;have xn:=XN.o
 cases b7 with
 | true =>
  simp only [Bool.not_true] at q7;go_wp2;go_ret;exact ⟨aF (by rw [HE.o];rfl),my.o.drew⟩
 | false =>
  simp only [Bool.not_false] at q7;go_wp2;go_ret;exact ⟨aF (by rw [HE.o];first | (simp;done) | (cases b2<;>cases neg<;>rfl)),my.o.drew⟩
def Je (n f d r:Bool) (A0:Option Addr) (l0 c0:Nat) (el:El) (a b:Int) (c':Bool) (A:Option Addr) (l k:Nat) (c:UInt8) (w:World) (he:oZ w el a b c' A l k) (hn:∀neg rs,el=.set neg rs->rs.length<=1000) :
 qC 233 #[.agg #[.bool n,.bool f,.bool d,.bool r,.slice A0 l0 c0],.agg #[.int .i64 a,.int .u8 b,.bool c',.slice A l k],.int .u8 (b8 c)] w fun e w'=>e=.returned (.bool (bD f el c))/\qW w w':=by
 cases el with
 | all=>obtain ⟨rfl,rfl,rfl,rfl,rfl,rfl⟩:=he;exact ga n f d r A0 l0 c0 c w
 | part=>obtain ⟨rfl,rfl,rfl,rfl,rfl,rfl⟩:=he;exact Zf n f d r A0 l0 c0 c w
 | one=>obtain ⟨rfl,rfl,rfl,rfl,rfl,rfl⟩:=he;exact gy n f d r A0 l0 c0 c w
 | byt x =>
  obtain ⟨rfl,rfl,rfl,rfl,rfl,rfl⟩:=he
  cases h:c == x with
  | true=>exact Tn n f d r A0 l0 c0 x c w h
  | false=>cases f with
   | false=>exact Ns n d r A0 l0 c0 x c w h
   | true=>exact Ot n d r A0 l0 c0 x c w h
 | set neg rs =>
  obtain ⟨rfl,rfl,rfl,hl,hr⟩:=he;have hn:=hn _ rs rfl
  cases h:(rs.any fun r=>aW r c) with
  | true=>exact Vo n f d r A0 l0 c0 _ A l k rs c w hl hn hr h
  | false=>cases f with
   | false=>exact Pj n d r A0 l0 c0 _ A l k rs c w hl hn hr h
   | true=>exact Oz n d r A0 l0 c0 _ A l k rs c w hl hn hr h
end Go.Proofs.YtahkcemdbfjilaaGreatDoor.Glob
