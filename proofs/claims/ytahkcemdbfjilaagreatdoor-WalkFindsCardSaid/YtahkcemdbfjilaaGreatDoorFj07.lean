/- Texts. Conditions: as said. -/
import Derived.Test.YtahkcemdbfjilaaGreatDoorFj00
import Derived.Deep.LoopGhost
import Derived.Test.YtahkcemdbfjilaaGreatDoorFj06
import Derived.Laws.Rows
import Derived.Laws.Tables
import Derived.Laws.EntriesVeiled
import Derived.Laws.DeepStrings4
import Derived.RegionTactic
set_option linter.all false
set_option maxRecDepth 100000
set_option maxHeartbeats 32000000
namespace Go.Proofs.YtahkcemdbfjilaaGreatDoor.Rf
open Go.RowKit
def mV {a b:ByteArray} (h:a=b):Ending.returned (.string a)=.returned (.string b):=by rw [h]
def sK (l:List UInt8) (h:∀c∈l,c≠47):pieces l=[l]:=by
 induction l with
 | nil=>rfl
 | cons c l ih=>rw [pieces,if_neg (h c List.mem_cons_self),ih (fun d hd=>h d (List.mem_cons_of_mem _ hd))]
def Oc (m:Nat):∀l:List UInt8,m < l.length->(∀c∈l.take m,c≠47)->at8 l m=47->pieces l=l.take m :: pieces (l.drop (m+1)):=by
 induction m with
 | zero =>
  intro l hm _ zz
  cases l with
  | nil=>simp at hm
  | cons c l=>simp [at8] at zz;rw [pieces,if_pos zz];rfl
 | succ m ih =>
  intro l hm h zz
  cases l with
  | nil=>simp at hm
  | cons c l =>
   have hc:c≠47:=h c (by simp);rw [pieces,if_neg hc,ih l (by simpa using hm) (fun d hd=>h d (by simp [hd])) (by simpa [at8] using zz)];rfl
def S9 (x:List UInt8):Value:=.string (ba x)
def jC:(Tryz.prog.info? 9).map (fun i=>(i.zero,i.size,i.bytes))=some (some (.string ⟨#[]⟩),1,16):=by kernel_rfl
def Dw (s:ByteArray) (f k:Nat):s.extract f k=ba (((tl s).drop f).take (k - f)):=by
 apply ByteArray.ext;apply Array.ext';simp [ba,tl]
def lD (l:List UInt8) (f m:Nat):at8 (l.drop f) m=at8 l (f+m):=by simp [at8,List.getD,List.getElem?_drop]
def nQ (l:List UInt8) (m:Nat) (hm:m < l.length) (h:∀c∈l.take m,c≠47) (hx:at8 l m≠47):∀c∈l.take (m+1),c≠47:=by
 intro c hc;rw [List.take_succ_eq_append_getElem hm] at hc;rcases List.mem_append.1 hc with hc | hc
 . exact h c hc
 have e:at8 l m=l[m]:=by simp [at8,List.getD,List.getElem?_eq_getElem hm]
 simp only [List.mem_singleton] at hc;rw [hc,<-e];exact hx
def PI (l:List UInt8) (D:List (List UInt8)) (f k:Nat):Prop:=f<=k/\D.length<=k/\pieces l=D++pieces (l.drop f)/\∀c∈(l.drop f).take (k - f),c≠47
def PI.slash {l:List UInt8} {D:List (List UInt8)} {f k:Nat} (h:PI l D f k) (hk:k < l.length) (hx:at8 l k=47):PI l (D++[(l.drop f).take (k - f)]) (k+1) (k+1):=by
 obtain ⟨h1,h2,h3,h4⟩:=h;refine ⟨Nat.le_refl _,by simp;omega,?_,by simp⟩;rw [h3,Oc (k - f) (l.drop f) (by rw [List.length_drop];omega) h4 (by rw [lD,<-hx];congr 1;omega),List.drop_drop,List.append_assoc];rw [show f+(k - f+1)=k+1 by omega];rfl
def PI.on {l:List UInt8} {D:List (List UInt8)} {f k:Nat} (h:PI l D f k) (hk:k < l.length) (hx:at8 l k≠47):PI l D f (k+1):=by
 obtain ⟨h1,h2,h3,h4⟩:=h;refine ⟨by omega,by omega,h3,?_⟩;rw [show k+1 - f=(k - f)+1 by omega];exact nQ _ _ (by rw [List.length_drop];omega) h4 (by rw [lD,show f+(k - f)=k by omega];exact hx)
def PI.stop {l:List UInt8} {D:List (List UInt8)} {f k:Nat} (h:PI l D f k) (hk:k=l.length):pieces l=D++[l.drop f]:=by
 obtain ⟨h1,h2,h3,h4⟩:=h;rw [h3,sK];rw [List.take_of_length_le (by rw [List.length_drop];omega)] at h4;exact h4
def xQ (b:ByteArray):∀u∈[Value.string b],u.oneCell'=true:=by
 intro u hu;rw [List.mem_singleton] at hu;subst hu;rfl
def uW (s:ByteArray) (w:World) (hs:s.size<=4000) :
 qC 107 #[.string s] w fun e w'=>∃v,e=.returned v/\w'.ownsRow w.heap.size 9 1 v (pieces (tl s)).length ((pieces (tl s)).map S9)/\qW w w':=by
 obtain ⟨i0,hi,o7,g8,j5⟩:=info_parts jC;have L1:Hid ((tl s).length=s.size):=aI s;go_enter Tryz.func107,Tryz.ntmps107
 go_wp2;go_loopw [3,4,5] (fun v fv iv wr=>∃(D:List (List UInt8)) (f k:Nat),fv=.int .i64 (f:Int)/\iv=.int .i64 (k:Int)/\f<=k/\k<=s.size/\D.length<=k/\Hid (PI (tl s) D f k)/\Hid (wr.ownsRow w.heap.size 9 1 v D.length (D.map S9))/\Hid (qW w wr))
  (fun _ _ i _=>s.size - (intOf i).toNat)
 case atStart=>exact ⟨[],0,0,rfl,rfl,by omega,by omega,by simp,⟨by omega,by simp,rfl,by simp⟩,World.ownsRow_nil _ _ _ _,Below.refl _ _⟩
 obtain ⟨D,f,k,rfl,rfl,hf,hk,hD,HP,HO,HB⟩:=hrel;have N2:Hid (D.length+1<=maxLen):=by show _<=_;unfold maxLen;omega
 have N3:Hid ((D.length+1)*16<=140737488355328):=by show _<=_;omega
 have N4:Hid (∀o,w.heap.size<=(wr.alloc o).heap.size):=by intro o;have:=HB.o.size;simp;omega
 have hfk:(f:Int)<=(k:Int):=by omega
 by_cases d8:k < s.size
 .
  have i1:=aX s k d8;have HS:=hid (fun hx:at8 (tl s) k=47=>HP.o.slash (by rw [L1.o];exact d8) hx);have HN:=hid (fun hx:at8 (tl s) k≠47=>HP.o.on (by rw [L1.o];exact d8) hx);generalize at8 (tl s) k=x at i1 HS HN;have b1:=cJ x;have b2:=gH x;have DQ:(k:Int)<=(s.size:Int):=by omega
  by_cases c:b8 x=47
  .
   have t1:(b8 x == 47)=true:=by simp [c]
   have C6:=hid (HS.o (kO c));clear c HS HN;go_wp2_with (at_builtin;refine wpList_append_own _ rfl _ _ 34 rfl w.heap.size 9 i0 (.string ⟨#[]⟩) 1 16 Tryz.underlying34 hi o7 g8 j5 rfl (by omega) _ _ _ rfl (HO.o.alloc _) ⟨wr.heap.size,0,none⟩ 1 1 [Value.string (s.extract f k)] rfl rfl (cell_one_new _ _ _) (xQ _) N2.o N3.o (N4.o _) ?_;intro v' w1 l8 i8 _)
   have rn:Hid (w1.ownsRow w.heap.size 9 1 v' (D++[((tl s).drop f).take (k - f)]).length ((D++[((tl s).drop f).take (k - f)]).map S9)):=by
    rw [List.map_append,List.length_append];rw [Dw] at l8;exact l8
   have i9:Hid (qW w w1) :=
    ((HB.o.alloc HB.o.size _).grown i8 (N4.o _) (fun g hg=>by
      rcases HO.o.2 with ⟨rfl,_⟩ | ⟨g',_,_,rfl,p5,_⟩
      . cases hg
      obtain rfl:=Option.some.inj hg;exact p5))
   clear l8 i8;go_wp2;go_roundw
   case rel=>exact ⟨_,k+1,k+1,by go_num,by go_num,by omega,by omega,by rw [List.length_append,List.length_singleton];omega,C6,rn,i9⟩
   case measure=>simp [intOf];omega
  have t1:(b8 x == 47)=false:=by simp [c]
  have G9:=hid (HN.o (fun e=>c (by rw [e];rfl)));clear c HS HN;go_wp2;go_roundw
  case rel=>exact ⟨D,f,k+1,by go_num,by go_num,by omega,by omega,by omega,G9,HO,HB⟩
  case measure=>simp [intOf];omega
 have ni:¬(k:Int) < (s.size:Int):=by omega
 have HV:=hid (HP.o.stop (by rw [L1.o];omega));have hfs:(f:Int)<=(s.size:Int):=by omega
 go_wp2_with (at_builtin;refine wpList_append_own _ rfl _ _ 34 rfl w.heap.size 9 i0 (.string ⟨#[]⟩) 1 16 Tryz.underlying34 hi o7 g8 j5 rfl (by omega) _ _ _ rfl (HO.o.alloc _) ⟨wr.heap.size,0,none⟩ 1 1 [Value.string (s.extract f s.size)] rfl rfl (cell_one_new _ _ _) (xQ _) N2.o N3.o (N4.o _) ?_;intro v' w1 l8 i8 _)
 have rn:Hid (w1.ownsRow w.heap.size 9 1 v' (pieces (tl s)).length ((pieces (tl s)).map S9)):=by
  rw [HV.o,List.map_append,List.length_append];rw [aR] at l8;exact l8
 have i9:Hid (qW w w1) :=
  ((HB.o.alloc HB.o.size _).grown i8 (N4.o _) (fun g hg=>by
    rcases HO.o.2 with ⟨rfl,_⟩ | ⟨g',_,_,rfl,p5,_⟩
    . cases hg
    obtain rfl:=Option.some.inj hg;exact p5))
 clear l8 i8;go_wp2;go_ret;exact ⟨_,rfl,rn.o,i9.o⟩
structure Strs (w:World) (v:Value) (xs:List (List UInt8)) (g c:Nat):Prop where
 form:v=.slice (some ⟨g,0,none⟩) xs.length c
 at_:∀i,i < xs.length->w.cell? ⟨g,i,none⟩=some (S9 (xs.getD i []))
 blk:g < w.heap.size
def jL {w:World} {B:Nat} {v:Value} {xs:List (List UInt8)} (h:w.ownsRow B 9 1 v xs.length (xs.map S9)) (j3:xs≠[]):∃g c,Strs w v xs g c/\B<=g:=by
 have hc:=fun g hg=>h.cells (g:=g) hg
 have d8:=h.lt;rcases h.2 with ⟨_,h2⟩ | ⟨g,c,cs,rfl,p5,_⟩
 . exact absurd (List.length_eq_zero_iff.1 h2) j3
 refine ⟨g,c,⟨rfl,fun i hi=>?_,(d8 g rfl).2⟩,p5⟩;have:=hc g rfl i (S9 (xs.getD i [])) (by rw [List.getElem?_map,List.getElem?_eq_getElem hi];simp [List.getD,List.getElem?_eq_getElem hi]);have e:(⟨g,0,none⟩:Addr).add i=⟨g,i,none⟩:=by unfold Addr.add;split<;>simp_all
 rwa [e] at this
def Strs.kept {w w':World} {B:Nat} {v:Value} {xs:List (List UInt8)} {g c:Nat} (h:Strs w v xs g c) (hb:Below B w w') (hB:w.heap.size<=B):Strs w' v xs g c :=
 ⟨h.form,fun i hi=>(hb.cell (p:=⟨g,i,none⟩) (Nat.lt_of_lt_of_le h.blk hB)).trans (h.at_ i hi),Nat.lt_of_lt_of_le h.blk hb.size⟩
def tE (n:Nat):∀l:List UInt8,l.length<=n->(pieces l).length<=l.length+1:=by
 induction n with
 | zero=>intro l h;obtain rfl:=List.length_eq_zero_iff.1 (Nat.le_zero.1 h);simp [pieces]
 | succ n ih =>
  intro l h;rw [mK];have h1:=nJ l;split
  . rename_i hc
    have:=h1.2.2 hc;have:=ih (cutS l).2.1 (by omega);simp only [List.length_cons];omega
  simp
def My (l:List UInt8):(pieces l).getD ((pieces l).length - 1) []=aZ l:=by
 have h:=cB l;have hl:0 < (pieces l).length:=List.length_pos_iff.2 h;rw [aZ,List.getLast_eq_getElem,List.getD,List.getElem?_eq_getElem (by omega)];rfl
def Ag (s:ByteArray) (w:World) (hs:s.size<=4000) :
 qC 161 #[.string s] w fun e w'=>e=.returned (.string (ba (aZ (tl s))))/\qW w w':=by
 have H:=hid (uW s w hs);obtain ⟨n,HN⟩:∃n,Hid ((pieces (tl s)).length=n+1):=⟨(pieces (tl s)).length - 1,by
  show _=_;have:=List.length_pos_iff.2 (cB (tl s));omega⟩
 have hn:n<=4000:=by have:=tE _ (tl s) qN;rw [HN.o,aI] at this;omega
 obtain ⟨r,HR⟩:=qX (ba (aZ (tl s)));go_enter Tryz.func161,Tryz.ntmps161
 go_wp2_with fail
 refine H.o.mono ?_;rintro e1 w1 ⟨v,rfl,ho,hb⟩;obtain ⟨g,c,O8,hg⟩:=jL ho (cB (tl s));have B1:=hid hb;have hv:=O8.form;have hc:w1.cell? ⟨g,n,none⟩=some (.string r):=by
  have:=O8.at_ n (by rw [HN.o];omega);rw [this,S9,<-HR.o,<-My,HN.o];rfl
 rw [HN.o] at hv;have hcast:((n+1:Nat):Int) - 1=(n:Int):=by omega
 clear ho hb O8 hg;subst hv;go_wp2;go_ret;exact ⟨mV HR.o.symm,B1.o⟩
def xR (s:ByteArray) (w:World) (hs:s.size<=4000) :
 qC 108 #[.string s] w fun e w'=>e=.returned (.string (ba (aheadL (tl s))))/\qW w w':=by
 obtain ⟨r,HR⟩:=qX (ba (aZ (tl s)));have H:Hid (qC 161 #[.string s] w fun e w'=>e=.returned (.string r)/\qW w w'):=by rw [<-HR.o];exact Ag s w hs
 have hr:r.size<=s.size:=by rw [<-HR.o,aD];have:=qH _ (tl s) qN _ (sG (tl s));rw [aI] at this;exact this
 have HA:Hid (aheadL (tl s)=(tl s).take (s.size - r.size - 1)):=by show _=_;rw [aheadL,aI,<-HR.o,aD]
 by_cases h:(s.size:Int) - (r.size:Int) - 1 < 0
 .
  have HV:Hid (aheadL (tl s)=[]):=by
   show _=_;rw [HA.o,show s.size - r.size - 1=0 by omega];rfl
  go_enter Tryz.func108,Tryz.ntmps108
  go_wp2_with (go_at_call 161;refine H.o.mono ?_;rintro e1 w1 ⟨rfl,hb⟩;have B1:=hid hb;clear hb)
  go_ret;exact ⟨mV (by rw [HV.o];rfl),B1.o⟩
 obtain ⟨k,hk⟩:∃k:Nat,(s.size:Int) - (r.size:Int) - 1=(k:Int):=⟨s.size - r.size - 1,by omega⟩;have HV:Hid (aheadL (tl s)=(tl s).take k):=by
  show _=_;rw [HA.o];congr 1;omega
 have DQ:(k:Int)<=(s.size:Int):=by omega
 clear h;go_enter Tryz.func108,Tryz.ntmps108
 go_wp2_with (go_at_call 161;refine H.o.mono ?_;rintro e1 w1 ⟨rfl,hb⟩;have B1:=hid hb;clear hb)
 go_ret;exact ⟨mV (by rw [HV.o,gU]),B1.o⟩
def zP (s:ByteArray) (w:World) (hs:s.size<=140737488355328) :
 qC 109 #[.string s] w fun e w'=>e=.returned (.bool (nameB (tl s)))/\w=w':=by
 have hc:Hid (s.toList=tl s):=aP s;have hz:Hid (s.size=(tl s).length):=(aI s).symm;have mz:(s.size=0)∨(s.size≠0/\48 < s.size)∨(s.size≠0/\s.size<=48/\s.toList=[46])∨(s.size≠0/\s.size<=48/\s.toList≠[46]/\s.toList=[46,46])∨(s.size≠0/\s.size<=48/\s.toList≠[46]/\s.toList≠[46,46]):=by
  by_cases h1:s.size=0
  . exact .inl h1
  by_cases h2:s.size<=48
  . by_cases h3:s.toList=[46]
    . exact .inr (.inr (.inl ⟨h1,h2,h3⟩))
    by_cases h4:s.toList=[46,46]
    . exact .inr (.inr (.inr (.inl ⟨h1,h2,h3,h4⟩)))
    exact .inr (.inr (.inr (.inr ⟨h1,h2,h3,h4⟩)))
  exact .inr (.inl ⟨h1,by omega⟩)
 rcases mz with h1 | ⟨h1,h2⟩ | ⟨h1,h2,h3⟩ | ⟨h1,h2,h3,h4⟩ | ⟨h1,h2,h3,h4⟩
 .
  have hn:Hid (nameB (tl s)=false):=by
   show _=_
   have:tl s=[]:=List.length_eq_zero_iff.1 (hz.o.symm.trans h1);rw [this];rfl
  have g1:((s.size:Int) < 1):=by omega
  clear h1;go_enter Tryz.func109,Tryz.ntmps109
  go_wp2;go_ret;exact ⟨aF hn.o.symm,rfl⟩
 .
  have hn:Hid (nameB (tl s)=false):=by show _=_;simp [nameB,iA,<-hz.o];omega
  have g1:¬((s.size:Int) < 1):=by omega
  have g2:(48:Int) < (s.size:Int):=by omega
  clear h1 h2;go_enter Tryz.func109,Tryz.ntmps109
  go_wp2;go_ret;exact ⟨aF hn.o.symm,rfl⟩
 .
  have hn:Hid (nameB (tl s)=false):=by show _=_;simp [nameB,iA,<-hc.o,h3]
  have g1:¬((s.size:Int) < 1):=by omega
  have g2:¬(48:Int) < (s.size:Int):=by omega
  have g3:(s.toList == [46])=true:=by simp [h3]
  clear h1 h2 h3;go_enter Tryz.func109,Tryz.ntmps109
  go_wp2;go_ret;exact ⟨aF hn.o.symm,rfl⟩
 .
  have hn:Hid (nameB (tl s)=false):=by show _=_;simp [nameB,iA,<-hc.o,h4]
  have g1:¬((s.size:Int) < 1):=by omega
  have g2:¬(48:Int) < (s.size:Int):=by omega
  have g3:(s.toList == [46])=false:=by simp [h3]
  have g4:(s.toList == [46,46])=true:=by simp [h4]
  clear h1 h2 h3 h4;go_enter Tryz.func109,Tryz.ntmps109
  go_wp2;go_ret;exact ⟨aF hn.o.symm,rfl⟩
 have hn:Hid (iA (tl s)=true):=by
  show _=_
  have h0:tl s≠[]:=fun e=>h1 (by rw [hz.o,e];rfl)
  simp [iA,<-hc.o,h3,h4];rw [hc.o,<-hz.o];exact ⟨h0,h2⟩
 have g1:¬((s.size:Int) < 1):=by omega
 have g2:¬(48:Int) < (s.size:Int):=by omega
 have g3:(s.toList == [46])=false:=by simp [h3]
 have g4:(s.toList == [46,46])=false:=by simp [h4]
 clear h1 h2 h3 h4;go_enter Tryz.func109,Tryz.ntmps109
 go_wp2;go_loopw [3] (fun i wr=>∃k:Nat,k<=s.size/\i=.int .i64 (k:Int)/\Hid (((tl s).take k).all okB=true)/\w=wr)
  (fun i _=>s.size - (intOf i).toNat)
 case atStart=>exact ⟨0,by omega,rfl,rfl,rfl⟩
 obtain ⟨k,hk,rfl,HA,rfl⟩:=hrel;by_cases d8:k < s.size
 .
  have i1:=aX s k d8;have HY:=hid (Nr (tl s) k (by rw [aI];exact d8) HA.o);have HN:=hid (Nu (tl s) k (by rw [aI];exact d8));generalize at8 (tl s) k=x at i1 HY HN;have b1:=cJ x;have b2:=gH x;by_cases c1:b8 x < 32
  .
   have HO:Hid (okB x=false):=by show _=_;simp [okB,c1]
   have t1:decide (b8 x < 32)=true:=by simp [c1]
   clear c1;go_wp2;go_ret;exact ⟨aF (HN.o HO.o).symm,rfl⟩
  have t1:decide (b8 x < 32)=false:=by simp [c1]
  by_cases c2:b8 x=127
  .
   have HO:Hid (okB x=false):=by show _=_;simp [okB,c2]
   have t2:(b8 x == 127)=true:=by simp [c2]
   clear c1 c2;go_wp2;go_ret;exact ⟨aF (HN.o HO.o).symm,rfl⟩
  have t2:(b8 x == 127)=false:=by simp [c2]
  by_cases c3:b8 x=47
  .
   have HO:Hid (okB x=false):=by show _=_;simp [okB,c3]
   have t3:(b8 x == 47)=true:=by simp [c3]
   clear c1 c2 c3;go_wp2;go_ret;exact ⟨aF (HN.o HO.o).symm,rfl⟩
  have t3:(b8 x == 47)=false:=by simp [c3]
  have HO:Hid (okB x=true):=by show _=_;simp [okB,c1,c2,c3]
  clear c1 c2 c3;go_wp2;go_roundw
  case rel=>exact ⟨k+1,by omega,by go_num,HY.o HO.o,trivial⟩
  case measure=>simp [intOf];omega
 have HK:Hid (k=s.size):=by show _=_;omega
 go_wp2;go_ret;refine ⟨aF ?_,rfl⟩;have ha:=HA.o;rw [List.take_of_length_le (by rw [aI,HK.o];exact Nat.le_refl _)] at ha;simp [nameB,hn.o,ha]
def ea {xs:List (List UInt8)} {k:Nat} (h:k < xs.length) (ha:(xs.take k).all nameB=true) (hk:nameB (xs.getD k [])=true):(xs.take (k+1)).all nameB=true:=by
 rw [List.take_succ_eq_append_getElem h,List.all_append,ha];simp only [List.getD,List.getElem?_eq_getElem h,Option.getD_some] at hk;simp [hk]
def gb {xs:List (List UInt8)} {k:Nat} (h:k < xs.length) (hk:nameB (xs.getD k [])=false):xs.all nameB=false:=by
 simp only [List.getD,List.getElem?_eq_getElem h,Option.getD_some] at hk;rw [List.all_eq_false];exact ⟨_,List.getElem_mem h,by simp [hk]⟩
def vC (s:ByteArray) (w:World) (hs:s.size<=4000) :
 qC 62 #[.string s] w fun e w'=>e=.returned (.bool (mayB (tl s)))/\qW w w':=by
 have H:=hid (uW s w hs);obtain ⟨n,HN⟩:=qX ((pieces (tl s)).length);have hn:n<=4001:=by have:=tE _ (tl s) qN;rw [HN.o,aI] at this;omega
 obtain ⟨a,HA⟩:=qX (ba (aheadL (tl s)));have HC:Hid (∀W,qC 108 #[.string s] W fun e w'=>e=.returned (.string a)/\qW W w'):=by intro W;rw [<-HA.o];exact xR s W hs
 have HS:Hid ((aheadL (tl s)).length=a.size):=by show _=_;rw [<-HA.o,aD]
 have HL:Hid ((tl s).length=s.size):=aI s;have HT:Hid (∀i,i < n->((pieces (tl s)).getD i []).length<=4000):=by
  intro i hi;have hm:(pieces (tl s)).getD i []∈pieces (tl s):=by
   rw [<-HN.o] at hi;simp [List.getD,List.getElem?_eq_getElem hi]
  have:=qH _ (tl s) qN _ hm;rw [HL.o] at this;omega
 by_cases h1:s.size<=160
 .
  have g1:¬(160:Int) < (s.size:Int):=by omega
  by_cases h2:a.size<=111
  .
   have g2:¬(111:Int) < (a.size:Int):=by omega
   by_cases h3:n<=6
   .
    have g3:¬(6:Int) < (n:Int):=by omega
    have HV:Hid (mayB (tl s)=(pieces (tl s)).all nameB):=by
     show _=_
     rw [mayB,jS,HL.o,HS.o,HN.o,decide_eq_true h1,decide_eq_true h2,decide_eq_true h3];simp
    clear h1 h2 h3;go_enter Tryz.func62,Tryz.ntmps62
    go_wp2_with fail
    refine H.o.mono ?_;rintro e1 w1 ⟨v,rfl,ho,hb⟩;obtain ⟨g,c,O8,hg⟩:=jL ho (cB (tl s));have B1:=hid hb;have hv:=O8.form;rw [HN.o] at hv;have S1:=hid O8;clear ho hb O8 hg;subst hv;go_wp2_with fail
    refine (HC.o _).mono ?_;rintro e2 w2 ⟨rfl,a9⟩;have S2:=hid (S1.o.kept a9 qN);have B2:Hid (qW w w2):=B1.o.trans (a9.mono B1.o.size);clear a9;go_wp2;go_loopw [4] (fun i wr=>∃k:Nat,k<=n/\i=.int .i64 (k:Int)/\Hid (((pieces (tl s)).take k).all nameB=true)/\w2=wr)
     (fun i _=>n - (intOf i).toNat)
    case atStart=>exact ⟨0,by omega,rfl,rfl,rfl⟩
    obtain ⟨k,hk,rfl,qm,rfl⟩:=hrel;by_cases d8:k < n
    .
     have hc:w2.cell? ⟨g,k,none⟩=some (.string (ba ((pieces (tl s)).getD k []))):=S2.o.at_ k (by rw [HN.o];exact d8);have hx:=HT.o k d8;have HY:=hid (ea (xs:=pieces (tl s)) (k:=k) (by rw [HN.o];exact d8) qm.o);have RN:=hid (gb (xs:=pieces (tl s)) (k:=k) (by rw [HN.o];exact d8));generalize (pieces (tl s)).getD k []=x at hc hx HY RN
     cases hb:nameB x with
     | true =>
      have HM:Hid (∀W,qC 109 #[.string (ba x)] W fun e w'=>e=.returned (.bool true)/\W=w'):=by
       intro W;have:=zP (ba x) W (by rw [aD];omega);rw [aQ,hb] at this;exact this
      have UT:=hid (HY.o hb);clear HY RN hb hx;go_wp2_with fail
      refine (HM.o _).mono ?_;rintro e3 w3 ⟨rfl,rfl⟩;go_wp2;go_roundw
      case rel=>exact ⟨k+1,by omega,by go_num,UT.o,trivial⟩
      case measure=>simp [intOf];omega
     | false =>
      have HM:Hid (∀W,qC 109 #[.string (ba x)] W fun e w'=>e=.returned (.bool false)/\W=w'):=by
       intro W;have:=zP (ba x) W (by rw [aD];omega);rw [aQ,hb] at this;exact this
      have UT:=hid (RN.o hb);clear HY RN hb hx;go_wp2_with fail
      refine (HM.o _).mono ?_;rintro e3 w3 ⟨rfl,rfl⟩;go_wp2;go_ret;exact ⟨aF (by rw [HV.o,UT.o]),B2.o⟩
    have HK:Hid (k=n):=by show _=_;omega
    go_wp2;go_ret;refine ⟨aF ?_,B2.o⟩;have ha:=qm.o;rw [List.take_of_length_le (by rw [HN.o,HK.o];exact Nat.le_refl _)] at ha;rw [HV.o,ha]
   have g3:(6:Int) < (n:Int):=by omega
   have HV:Hid (mayB (tl s)=false):=by
    show _=_
    rw [mayB,jS,HN.o,decide_eq_false h3];simp
   clear h1 h2 h3;go_enter Tryz.func62,Tryz.ntmps62
   go_wp2_with fail
   refine H.o.mono ?_;rintro e1 w1 ⟨v,rfl,ho,hb⟩;obtain ⟨g,c,O8,hg⟩:=jL ho (cB (tl s));have B1:=hid hb;have hv:=O8.form;rw [HN.o] at hv;clear ho hb O8 hg;subst hv;go_wp2_with fail
   refine (HC.o _).mono ?_;rintro e2 w2 ⟨rfl,a9⟩;have B2:Hid (qW w w2):=B1.o.trans (a9.mono B1.o.size);clear a9;go_wp2;go_ret;exact ⟨aF HV.o.symm,B2.o⟩
  have g2:(111:Int) < (a.size:Int):=by omega
  have HV:Hid (mayB (tl s)=false):=by
   show _=_
   rw [mayB,HS.o,decide_eq_false h2];simp
  clear h1 h2;go_enter Tryz.func62,Tryz.ntmps62
  go_wp2_with fail
  refine H.o.mono ?_;rintro e1 w1 ⟨v,rfl,ho,hb⟩;obtain ⟨g,c,O8,hg⟩:=jL ho (cB (tl s));have B1:=hid hb;have hv:=O8.form;rw [HN.o] at hv;clear ho hb O8 hg;subst hv;go_wp2_with fail
  refine (HC.o _).mono ?_;rintro e2 w2 ⟨rfl,a9⟩;have B2:Hid (qW w w2):=B1.o.trans (a9.mono B1.o.size);clear a9;go_wp2;go_ret;exact ⟨aF HV.o.symm,B2.o⟩
 have g1:(160:Int) < (s.size:Int):=by omega
 have HV:Hid (mayB (tl s)=false):=by
  show _=_
  rw [mayB,HL.o,decide_eq_false h1];simp
 clear h1;go_enter Tryz.func62,Tryz.ntmps62
 go_wp2_with fail
 refine H.o.mono ?_;rintro e1 w1 ⟨v,rfl,ho,hb⟩;obtain ⟨g,c,O8,hg⟩:=jL ho (cB (tl s));have B1:=hid hb;have hv:=O8.form;rw [HN.o] at hv;clear ho hb O8 hg;subst hv;go_wp2;go_ret;exact ⟨aF HV.o.symm,B1.o⟩
def gO (l:List UInt8) (k:Nat):Nat:=if k < l.length then rk (at8 l k)+1 else 0
def Ho {a b:List UInt8} {k:Nat} (h1:k<=a.length) (h2:k<=b.length) (h:a.take k=b.take k) (hr:gO a k < gO b k):cmpL a b = -1:=by
 unfold gO at hr;have hb:k < b.length:=by
  rcases Nat.lt_or_ge k b.length with h' | h'
  . exact h'
  rw [if_neg (show ¬k < b.length by omega)] at hr;omega
 rw [if_pos hb] at hr;by_cases ha:k < a.length
 . rw [if_pos ha] at hr
   have j3:at8 a k≠at8 b k:=by intro e;rw [e] at hr;omega
   rw [Hz a b k ha hb h j3,if_pos (by omega)]
 rw [tF a b k h1 h2 h,List.drop_of_length_le (l:=a) (by omega),List.drop_eq_getElem_cons hb,cmpL]
def Yr {a b:List UInt8} {k:Nat} (h1:k<=a.length) (h2:k<=b.length) (h:a.take k=b.take k) (hr:gO b k < gO a k):cmpL a b=1:=by
 have:=Ho h2 h1 h.symm hr;rw [kG] at this;omega
def aj {a b:List UInt8} {k:Nat} (h1:k<=a.length) (h2:k<=b.length) (h:a.take k=b.take k) (hr:gO a k=gO b k):(a.take (k+1)=b.take (k+1))/\((k+1<=a.length/\k+1<=b.length)∨(a=b/\k=a.length)):=by
 unfold gO at hr;by_cases ha:k < a.length<;>by_cases hb:k < b.length
 . rw [if_pos ha,if_pos hb] at hr
   exact ⟨take_same ha hb h (Ni (by omega)),.inl ⟨ha,hb⟩⟩
 . rw [if_pos ha,if_neg hb] at hr;omega
 . rw [if_neg ha,if_pos hb] at hr;omega
 rw [List.take_of_length_le (by omega),List.take_of_length_le (by omega)] at h;subst h;exact ⟨rfl,.inr ⟨rfl,by omega⟩⟩
def Au (s:ByteArray) (k:Nat) (w:World) (_hs:s.size<=140737488355328) (_hk:k<=140737488355330) :
 qC 209 #[.string s,.int .i64 (k:Int)] w fun e w'=>e=.returned (.int .i64 ((gO (tl s) k:Nat):Int))/\w=w':=by
 by_cases d8:k < s.size
 .
  have i1:=aX s k d8;have HV:Hid (gO (tl s) k=rk (at8 (tl s) k)+1):=by show _=_;rw [gO,if_pos (by rw [aI];exact d8)]
  have ni:¬((s.size:Int)<=(k:Int)):=by omega
  generalize at8 (tl s) k=x at i1 HV;have b1:=cJ x;have b2:=gH x;by_cases c:b8 x=47
  .
   have t1:(b8 x == 47)=true:=by simp [c]
   have HR:Hid (rk x=0):=by show _=_;rw [rk,if_pos (kO c)]
   clear c;go_enter Tryz.func209,Tryz.ntmps209
   go_wp2;go_ret;exact ⟨eW (by rw [HV.o,HR.o];rfl),rfl⟩
  have t1:(b8 x == 47)=false:=by simp [c]
  have HR:Hid (rk x=x.toNat+1):=by show _=_;rw [rk,if_neg (fun e=>c (by rw [e];rfl))]
  clear c;go_enter Tryz.func209,Tryz.ntmps209
  go_wp2;go_ret;exact ⟨eW (by rw [HV.o,HR.o];unfold b8;omega),rfl⟩
 have HV:Hid (gO (tl s) k=0):=by show _=_;rw [gO,if_neg (by rw [aI];exact d8)]
 have p5:(s.size:Int)<=(k:Int):=by omega
 go_enter Tryz.func209,Tryz.ntmps209
 go_wp2;go_ret;exact ⟨eW (by rw [HV.o];rfl),rfl⟩
def Xr (a b:ByteArray) (w:World) (ha:a.size<=140737488355328) (hb:b.size<=140737488355328) :
 qC 176 #[.string a,.string b] w fun e w'=>e=.returned (.int .i64 (cmpL (tl a) (tl b)))/\w=w':=by
 have L1:Hid ((tl a).length=a.size):=aI a;have L2:Hid ((tl b).length=b.size):=aI b;go_enter Tryz.func176,Tryz.ntmps176
 go_wp2;go_loopw [5] (fun i wr=>∃k:Nat,i=.int .i64 (k:Int)/\k<=a.size+1/\k<=b.size+1/\Hid ((tl a).take k=(tl b).take k)/\Hid ((k<=a.size/\k<=b.size)∨(tl a=tl b/\k=a.size+1))/\w=wr)
  (fun i _=>a.size+2 - (intOf i).toNat)
 case atStart=>exact ⟨0,rfl,by omega,by omega,rfl,.inl ⟨by omega,by omega⟩,rfl⟩
 obtain ⟨k,rfl,NF,Q9,HT,HO,rfl⟩:=hrel;rcases HO.o with ⟨h1,h2⟩ | ⟨h1,h2⟩
 .
  have g1:(k:Int)<=(a.size:Int):=by omega
  obtain ⟨x,hx⟩:=qY (gO (tl a) k);obtain ⟨y,hy⟩:=qY (gO (tl b) k);have X:Hid (∀W,qC 209 #[.string a,.int .i64 (k:Int)] W fun e w'=>e=.returned (.int .i64 (x:Int))/\W=w'):=by intro W;rw [<-hx];exact Au a k W ha (by omega)
  have Y:Hid (∀W,qC 209 #[.string b,.int .i64 (k:Int)] W fun e w'=>e=.returned (.int .i64 (y:Int))/\W=w'):=by intro W;rw [<-hy];exact Au b k W hb (by omega)
  have P1:Hid (x < y->cmpL (tl a) (tl b) = -1):=fun h=>Ho (by rw [L1.o];exact h1) (by rw [L2.o];exact h2) HT.o (by rw [hx,hy];exact h)
  have P2:Hid (y < x->cmpL (tl a) (tl b)=1):=fun h=>Yr (by rw [L1.o];exact h1) (by rw [L2.o];exact h2) HT.o (by rw [hx,hy];exact h)
  have P3:Hid (x=y->((tl a).take (k+1)=(tl b).take (k+1))/\((k+1<=a.size/\k+1<=b.size)∨(tl a=tl b/\k+1=a.size+1))/\k+1<=b.size+1):=fun h=>by
   have:=aj (by rw [L1.o];exact h1) (by rw [L2.o];exact h2) HT.o (by rw [hx,hy];exact h);rw [L1.o,L2.o] at this;exact ⟨this.1,this.2.imp id (fun e=>⟨e.1,by rw [e.2]⟩),by omega⟩
  clear hx hy;rcases Nat.lt_trichotomy x y with hc | hc | hc
  .
   have HV:=hid (P1.o hc);have g2:(x:Int) < (y:Int):=by omega
   clear P1 P2 P3 HO hc;go_wp2_with fail
   refine (X.o _).mono ?_;rintro e1 w1 ⟨rfl,rfl⟩;go_wp2_with fail
   refine (Y.o _).mono ?_;rintro e2 w2 ⟨rfl,rfl⟩;go_wp2;go_ret;exact ⟨eW HV.o.symm,rfl⟩
  .
   subst hc;have HV:=hid (P3.o rfl);clear P1 P2 P3 HO;go_wp2_with fail
   refine (X.o _).mono ?_;rintro e1 w1 ⟨rfl,rfl⟩;go_wp2_with fail
   refine (Y.o _).mono ?_;rintro e2 w2 ⟨rfl,rfl⟩;go_wp2;go_roundw
   case rel=>exact ⟨k+1,by go_num,by omega,HV.o.2.2,HV.o.1,HV.o.2.1,trivial⟩
   case measure=>simp [intOf];omega
  have HV:=hid (P2.o hc);have g2:(y:Int) < (x:Int):=by omega
  clear P1 P2 P3 HO hc;go_wp2_with fail
  refine (X.o _).mono ?_;rintro e1 w1 ⟨rfl,rfl⟩;go_wp2_with fail
  refine (Y.o _).mono ?_;rintro e2 w2 ⟨rfl,rfl⟩;go_wp2;go_ret;exact ⟨eW HV.o.symm,rfl⟩
 have HV:Hid (cmpL (tl a) (tl b)=0):=(rT _ _).2 h1;have HL:Hid (a.size=b.size):=by have:=congrArg List.length h1;rw [L1.o,L2.o] at this;exact this
 have g1:¬((k:Int)<=(a.size:Int)):=by omega
 have g2:¬((k:Int)<=(b.size:Int)):=by have:=HL.o;omega
 clear HO h1 h2;go_wp2;go_ret;exact ⟨eW HV.o.symm,rfl⟩
def dN (s:ByteArray) (v:Bool) (h:Hid (mayB (tl s)=v)) (w:World) (hs:s.size<=4000) :
 qC 62 #[.string s] w fun e w'=>e=.returned (.bool v)/\qW w w':=by
 rw [<-h.o];exact vC s w hs
def Gr (s:ByteArray) (w:World) (hs:s.size<=4000) :
 qC 166 #[.string s] w fun e w'=>e=.returned (.tuple #[.string (ba (kZ (tl s)).1),.bool (mayB (tl s))])/\qW w w':=by
 cases hm:mayB (tl s) with
 | false =>
  have HM:=hid hm;have HF:=hid (lJ hm);clear hm;go_enter Tryz.func166,Tryz.ntmps166
  go_wp2_with (go_at_call 62;refine (dN s false HM _ hs).mono ?_;rintro e1 w1 ⟨rfl,c8⟩;have B1:=hid c8;clear c8)
  go_ret2;exact ⟨by rw [HF.o];rfl,B1.o⟩
 | true =>
  have HM:=hid hm;have HF:=hid (iT hm);clear hm;go_enter Tryz.func166,Tryz.ntmps166
  go_wp2_with (first
   | (go_at_call 62;refine (dN s true HM _ hs).mono ?_;rintro e1 w1 ⟨rfl,c8⟩;have B1:=hid c8;clear c8)
   | (go_at_call 108;refine (xR s _ hs).mono ?_;rintro e2 w2 ⟨rfl,a9⟩;have B2:Hid (qW w w2):=B1.o.trans (a9.mono B1.o.size);clear a9))
  go_ret2;exact ⟨by rw [HF.o];rfl,B2.o⟩
def Lc (d p:List UInt8):(d++[47]).isPrefixOf p=true↔d.length < p.length/\p.take d.length=d/\at8 p d.length=47:=by
 constructor
 .
  intro h;obtain ⟨r,hr⟩:=List.isPrefixOf_iff_prefix.1 h;subst hr;refine ⟨by simp,by simp,?_⟩;simp [at8,List.getD]
 rintro ⟨h1,h2,h3⟩;apply List.isPrefixOf_iff_prefix.2;refine ⟨p.drop (d.length+1),?_⟩;have e:at8 p d.length=p[d.length]:=by simp [at8,List.getD,List.getElem?_eq_getElem h1]
 rw [e] at h3;conv=>rhs;rw [<-List.take_append_drop d.length p,h2,List.drop_eq_getElem_cons h1,h3]
 simp
def cV (p d:ByteArray) (w:World) (hp:p.size<=4000) (hd:d.size<=4000) :
 qC 55 #[.string p,.string d] w fun e w'=>e=.returned (.bool (withinB (tl p) (tl d)))/\qW w w':=by
 cases h1:mayB (tl p) with
 | false =>
  have H1:=hid h1;have HV:Hid (withinB (tl p) (tl d)=false):=by show _=_;rw [withinB,h1];split<;>rfl
  clear h1;go_enter Tryz.func55,Tryz.ntmps55
  go_wp2_with fail
  refine (dN p false H1 _ hp).mono ?_;rintro e1 w1 ⟨rfl,c8⟩;have B1:=hid c8;clear c8;go_wp2;go_ret;exact ⟨aF HV.o.symm,B1.o⟩
 | true =>
  have H1:=hid h1;by_cases h0:d.toList=[]
  .
   have h0':(!d.toList.isEmpty)=false:=by simp [h0]
   have HV:Hid (withinB (tl p) (tl d)=true):=by show _=_;rw [withinB,if_pos (by rw [<-aP,h0]),h1]
   clear h1;go_enter Tryz.func55,Tryz.ntmps55
   go_wp2_with fail
   refine (dN p true H1 _ hp).mono ?_;rintro e1 w1 ⟨rfl,c8⟩;have B1:=hid c8;clear c8;go_wp2;go_ret;exact ⟨aF HV.o.symm,B1.o⟩
  have h0':(!d.toList.isEmpty)=true:=by simp [h0]
  have h0'':d.toList.isEmpty=false:=by simp [h0]
  have RO:tl d≠[]:=by rw [<-aP];exact h0
  cases h2:mayB (tl d) with
  | false =>
   have H2:=hid h2;have HV:Hid (withinB (tl p) (tl d)=false):=by show _=_;rw [withinB,if_neg RO,h1,h2];rfl
   clear h1 h2;go_enter Tryz.func55,Tryz.ntmps55
   go_wp2_with fail
   refine (dN p true H1 _ hp).mono ?_;rintro e1 w1 ⟨rfl,c8⟩;have B1:=hid c8;clear c8;go_wp2_with fail
   refine (dN d false H2 _ hd).mono ?_;rintro e2 w2 ⟨rfl,a9⟩;have B2:Hid (qW w w2):=B1.o.trans (a9.mono B1.o.size);clear a9;go_wp2;go_ret;exact ⟨aF HV.o.symm,B2.o⟩
  | true =>
   have H2:=hid h2;have HW:withinB (tl p) (tl d)=(tl d++[47]).isPrefixOf (tl p):=by rw [withinB,if_neg RO,h1,h2];simp
   have HI:=Lc (tl d) (tl p);rw [aI,aI] at HI;clear h1 h2 RO;by_cases c1:d.size < p.size
   .
    have g1:(d.size:Int) < (p.size:Int):=by omega
    have g1':(d.size:Int)<=(p.size:Int):=by omega
    have HX:Hid ((p.extract 0 d.size).toList=(tl p).take d.size):=by show _=_;rw [aP,gU,aQ]
    by_cases c2:(tl p).take d.size=tl d
    .
     have g2:((p.extract 0 d.size).toList == d.toList)=true:=by rw [HX.o,c2,aP];simp
     have i1:=aX p d.size c1;by_cases c3:b8 (at8 (tl p) d.size)=47
     .
      have HV:Hid (withinB (tl p) (tl d)=true):=by show _=_;rw [HW,HI];exact ⟨c1,c2,kO c3⟩
      have g3:(b8 (at8 (tl p) d.size) == 47)=true:=by simp [c3]
      clear HW HI c2 c3;generalize at8 (tl p) d.size=x at i1 g3;go_enter Tryz.func55,Tryz.ntmps55
      go_wp2_with fail
      refine (dN p true H1 _ hp).mono ?_;rintro e1 w1 ⟨rfl,c8⟩;have B1:=hid c8;clear c8;go_wp2_with fail
      refine (dN d true H2 _ hd).mono ?_;rintro e2 w2 ⟨rfl,a9⟩;have B2:Hid (qW w w2):=B1.o.trans (a9.mono B1.o.size);clear a9;go_wp2;go_ret;exact ⟨aF HV.o.symm,B2.o⟩
     have HV:Hid (withinB (tl p) (tl d)=false):=by
      show _=_;rw [HW,Bool.eq_false_iff];intro h;have:=(HI.1 h).2.2;exact c3 (by rw [this];rfl)
     have g3:(b8 (at8 (tl p) d.size) == 47)=false:=by simp [c3]
     clear HW HI c2 c3;generalize at8 (tl p) d.size=x at i1 g3;go_enter Tryz.func55,Tryz.ntmps55
     go_wp2_with fail
     refine (dN p true H1 _ hp).mono ?_;rintro e1 w1 ⟨rfl,c8⟩;have B1:=hid c8;clear c8;go_wp2_with fail
     refine (dN d true H2 _ hd).mono ?_;rintro e2 w2 ⟨rfl,a9⟩;have B2:Hid (qW w w2):=B1.o.trans (a9.mono B1.o.size);clear a9;go_wp2;go_ret;exact ⟨aF HV.o.symm,B2.o⟩
    have g2:((p.extract 0 d.size).toList == d.toList)=false:=by rw [HX.o,aP];simp [c2]
    have HV:Hid (withinB (tl p) (tl d)=false):=by
     show _=_;rw [HW,Bool.eq_false_iff];intro h;exact c2 (HI.1 h).2.1
    clear HW HI c2;go_enter Tryz.func55,Tryz.ntmps55
    go_wp2_with fail
    refine (dN p true H1 _ hp).mono ?_;rintro e1 w1 ⟨rfl,c8⟩;have B1:=hid c8;clear c8;go_wp2_with fail
    refine (dN d true H2 _ hd).mono ?_;rintro e2 w2 ⟨rfl,a9⟩;have B2:Hid (qW w w2):=B1.o.trans (a9.mono B1.o.size);clear a9;go_wp2;go_ret;exact ⟨aF HV.o.symm,B2.o⟩
   have g1:¬(d.size:Int) < (p.size:Int):=by omega
   have HV:Hid (withinB (tl p) (tl d)=false):=by
    show _=_;rw [HW,Bool.eq_false_iff];intro h;exact c1 (HI.1 h).1
   clear HW HI;go_enter Tryz.func55,Tryz.ntmps55
   go_wp2_with fail
   refine (dN p true H1 _ hp).mono ?_;rintro e1 w1 ⟨rfl,c8⟩;have B1:=hid c8;clear c8;go_wp2_with fail
   refine (dN d true H2 _ hd).mono ?_;rintro e2 w2 ⟨rfl,a9⟩;have B2:Hid (qW w w2):=B1.o.trans (a9.mono B1.o.size);clear a9;go_wp2;go_ret;exact ⟨aF HV.o.symm,B2.o⟩
end Go.Proofs.YtahkcemdbfjilaaGreatDoor.Rf
namespace Go.Proofs.YtahkcemdbfjilaaGreatDoor
open Go.RowKit
def mV {a b:ByteArray} (h:a=b):Ending.returned (.string a)=.returned (.string b):=by rw [h]
def Gj (a b:List UInt8) (h:∀c∈b,c≠47):pieces (a++47 :: b)=pieces a++[b]:=by
 induction a with
 | nil=>rw [List.nil_append,show pieces (47 :: b)=[] :: pieces b by rw [pieces,if_pos rfl],Rf.sK b h];rfl
 | cons c a ih =>
  rw [List.cons_append];by_cases hc:c=47
  . subst hc
    rw [show pieces (47 :: (a++47 :: b))=[] :: pieces (a++47 :: b) by rw [pieces,if_pos rfl],ih,show pieces (47 :: a)=[] :: pieces a by rw [pieces,if_pos rfl]];rfl
  rw [pieces,if_neg hc,ih,pieces,if_neg hc]
  cases hp:pieces a with
  | nil=>exact absurd hp (cB a)
  | cons p ps=>rfl
def Id (s:ByteArray) (j:Nat) (h:j < s.size):s.data[j]! = at8 (tl s) j:=by
 have h2:j < s.data.size:=h;have h3:j < (tl s).length:=by rw [aI];exact h
 rw [getElem!_pos s.data j h2];rw [at8,List.getD,List.getElem?_eq_getElem h3];rfl
def last_spec (s:ByteArray):(Lib.lastIndexByte s 47 = -1/\aZ (tl s)=tl s)∨∃i:Nat,i < s.size/\Lib.lastIndexByte s 47=i/\aZ (tl s)=(tl s).drop (i+1):=by
 have LJ:∀(k:Nat),(∀j,k<=j->j < s.size->((s.data[j]!).toNat:Int)≠47)->∀c∈(tl s).drop k,c≠47:=by
  intro k hk c hc LQ;obtain ⟨j,hj,rfl⟩:=List.mem_iff_getElem.1 hc;rw [List.length_drop,aI] at hj;have:=hk (k+j) (by omega) (by omega);rw [Id s (k+j) (by omega)] at this;rw [List.getElem_drop] at LQ;apply this;have e:at8 (tl s) (k+j)=47:=by
   rw [<-LQ,at8,List.getD,List.getElem?_eq_getElem (by rw [aI];omega)];rfl
  rw [e];rfl
 rcases Lib.lastIndexByte_spec s 47 with ⟨h,hn⟩ | ⟨i,hi,h,h7,hn⟩
 . exact .inl ⟨h,sF (Rf.sK _ (fun c hc=>LJ 0 (fun j _ hj=>hn j hj) c (by simpa using hc)))⟩
 refine .inr ⟨i,hi,h,?_⟩;have hl:i < (tl s).length:=by rw [aI];exact hi
 have e7:(tl s)[i]=47:=by
  rw [Id s i hi] at h7;have:at8 (tl s) i=47:=UInt8.toNat_inj.1 (by show _=47;omega);rw [<-this,at8,List.getD,List.getElem?_eq_getElem hl];rfl
 have hs:tl s=(tl s).take i++47 :: (tl s).drop (i+1):=by
  conv=>lhs;rw [<-List.take_append_drop i (tl s),List.drop_eq_getElem_cons hl,e7]
 have hp:=Gj ((tl s).take i) ((tl s).drop (i+1)) (LJ (i+1) (fun j h1 h2=>hn j (by omega) h2));rw [<-hs] at hp;exact sA hp
def Fv (s:ByteArray) (w:World) (hs:s.size<=4000) :
 qC 125 #[.string s,.int .u8 47] w fun e w'=>e=.returned (.int .i64 (Lib.lastIndexByte s 47))/\w=w' :=
 (Tryz.strings_LastIndexByte s 47 (by omega) w).mono fun _ _ ⟨a,b⟩=>⟨a,b.symm⟩
def Te (s:ByteArray) (w:World) (hs:s.size<=4000) :
 qC 76 #[.string s] w fun e w'=>e=.returned (.string (ba (aZ (tl s))))/\w=w':=by
 have HC:=hid (fun W=>Fv s W hs);rcases last_spec s with ⟨h1,h2⟩ | ⟨i,hi,h1,h2⟩
 .
  have HV:Hid (ba (aZ (tl s))=s):=by show _=_;rw [h2,pW]
  rw [h1] at HC;clear h1 h2;go_enter Tryz.func76,Tryz.ntmps76
  go_wp2_with (go_at_call 125;refine (HC.o _).mono ?_;rintro e1 w1 ⟨rfl,rfl⟩)
  go_ret;exact ⟨mV (by rw [HV.o]),rfl⟩
 have HV:Hid (ba (aZ (tl s))=s.extract (i+1) s.size):=by show _=_;rw [h2,aR]
 have hi2:((i+1:Nat):Int)<=(s.size:Int):=by omega
 rw [h1] at HC;clear h1 h2;go_enter Tryz.func76,Tryz.ntmps76
 go_wp2_with (go_at_call 125;refine (HC.o _).mono ?_;rintro e1 w1 ⟨rfl,rfl⟩)
 go_ret;exact ⟨mV (by rw [HV.o]),rfl⟩
def isTempB (l:List UInt8):Bool:=[126,116,126].isPrefixOf (aZ l)
def Ly (s:ByteArray) (w:World) (hs:s.size<=4000) :
 qC 33 #[.string s] w fun e w'=>e=.returned (.bool (isTempB (tl s)))/\w=w':=by
 obtain ⟨r,HR⟩:=qX (ba (aZ (tl s)));have HC:Hid (∀W,qC 76 #[.string s] W fun e w'=>e=.returned (.string r)/\W=w'):=by intro W;rw [<-HR.o];exact Te s W hs
 go_enter Tryz.func33,Tryz.ntmps33
 go_wp2_with fail
 refine (HC.o _).mono ?_;rintro e1 w1 ⟨rfl,rfl⟩;go_wp2_with fail
 refine (uN r _ _).mono ?_;rintro e2 w2 ⟨rfl,rfl⟩;go_wp2;go_ret;exact ⟨aF (by rw [isTempB,<-HR.o];rfl),rfl⟩
def inL (L:Tr) (root:By):Tr:=L.filterMap fun x=>if (root++[47]).isPrefixOf x.1 then some (x.1.drop (root.length+1),x.2) else none
def vZ {d q:By}:(d++[47]).isPrefixOf q=true↔q=d++47 :: q.drop (d.length+1):=by
 constructor
 .
  intro h;obtain ⟨s,hs⟩:=List.isPrefixOf_iff_prefix.1 h;have e:q=d++47 :: s:=by rw [<-hs];simp
  have e2:(d++47 :: s).drop (d.length+1)=s:=by
   rw [show d++47 :: s=(d++[47])++s by simp];exact List.drop_left' (by simp)
  rw [e,e2]
 intro h;rw [h];exact lQ _ _
def uP (d s:By):(d++47 :: s).drop (d.length+1)=s:=by
 rw [show d++47 :: s=(d++[47])++s by simp];exact List.drop_left' (by simp)
def vM (q:By) (n:Nd) (L:Tr) (root:By):inL ((q,n) :: L) root=if (root++[47]).isPrefixOf q then (q.drop (root.length+1),n) :: inL L root else inL L root:=by
 unfold inL;rw [List.filterMap_cons];by_cases h:(root++[47]).isPrefixOf q=true
 . simp only [h,if_true]
 simp only [h];simp
def pB (L:Tr) (root p:By):look (inL L root) p=look L (root++47 :: p):=by
 induction L with
 | nil=>rfl
 | cons a L ih =>
  obtain ⟨q,n⟩:=a;rw [vM,look];by_cases h:(root++[47]).isPrefixOf q=true
  .
   have e:=vZ.1 h;rw [if_pos h,look,ih];by_cases k:q.drop (root.length+1)=p
   . rw [if_pos k,if_pos (by rw [e,k])]
   rw [if_neg k,if_neg];intro e2;rw [e2,uP] at k;exact k rfl
  rw [if_neg h,ih,if_neg];rintro rfl;exact h (lQ _ _)
def Oi (d a b:By):cmpL (d++a) (d++b)=cmpL a b:=by
 induction d with
 | nil=>rfl
 | cons c d ih=>rw [List.cons_append,List.cons_append,cmpL,if_pos rfl,ih]
def Oh {L:Tr} {root:By} {x:By × Nd}:x∈inL L root↔(root++47 :: x.1,x.2)∈L:=by
 unfold inL;rw [List.mem_filterMap];constructor
 .
  rintro ⟨y,hy,h⟩;split at h
  . rename_i hp
    injection h with h;have e:=vZ.1 hp;rw [<-h];rw [<-e];exact hy
  cases h
 intro h;refine ⟨_,h,?_⟩;rw [if_pos (lQ _ _)];simp only [uP]
def eb {L:Tr} (h:cZ L) (root:By):cZ (inL L root):=by
 induction L with
 | nil=>exact List.Pairwise.nil
 | cons a L ih =>
  obtain ⟨q,n⟩:=a;obtain ⟨h1,h2⟩:=List.pairwise_cons.1 h;rw [vM];split
  .
   rename_i hp
   refine List.pairwise_cons.2 ⟨fun y hy=>?_,ih h2⟩;have:=h1 _ (Oh.1 hy);rw [vZ.1 hp] at this;simp only at this;rw [Oi,cmpL,if_pos rfl] at this;exact this
  exact ih h2
def cg (L:Tr) (root:By):usedL (inL L root)<=usedL L:=by
 induction L with
 | nil=>exact Nat.le_refl _
 | cons a L ih =>
  obtain ⟨q,n⟩:=a;rw [vM];split
  . rw [usedL,usedL];omega
  rw [usedL];omega
def xS (L:Tr) (root:By):(inL L root).length<=L.length:=List.length_filterMap_le _ _
def uT (d r:By):pieces (d++47 :: r)=pieces d++pieces r:=by
 induction d with
 | nil=>show pieces (47 :: r)=[] :: pieces r;rw [pieces,if_pos rfl]
 | cons c d ih =>
  rw [List.cons_append,pieces,pieces,ih];by_cases hc:c=47
  . rw [if_pos hc,if_pos hc];rfl
  rw [if_neg hc,if_neg hc]
  cases h:pieces d with
  | nil=>exact absurd h (cB d)
  | cons x xs=>rfl
def uS (r:By) (h:47∉r):pieces r=[r]:=by
 induction r with
 | nil=>rfl
 | cons c r ih =>
  rw [pieces,if_neg (by rintro rfl;exact h List.mem_cons_self),ih (fun k=>h (List.mem_cons_of_mem _ k))]
def Wn {d r:By} (h:mayB (d++47 :: r)=true):mayB r=true:=by
 obtain ⟨h1,h2,h3,h4⟩:=aU h;rw [List.length_append,List.length_cons] at h1;rw [uT,List.length_append] at h2;rw [uT,List.all_append] at h3;simp only [Bool.and_eq_true] at h3;refine Nv (by omega) (by omega) h3.2 ?_;rw [fZ] at h4;split at h4
 . rw [List.length_append,List.length_cons] at h4;omega
 rename_i hm
 rw [pP (uS r hm)];exact Nat.zero_le _
def yD {room:Nat} {L:Tr} (h:WFT room L) (root:By):WFT room (inL L root) where
 srt:=eb h.srt root
 may p hp:=by rw [pB] at hp;exact Wn (h.may _ hp)
 kind p n hp:=by rw [pB] at hp;exact h.kind _ n hp
 par p hp:=by
  rw [pB] at hp;have k:=h.par _ hp;rw [fZ] at k;unfold kindP;by_cases hm:47∈p
  .
   rw [if_pos hm] at k;unfold kindP at k;rw [if_neg (by simp)] at k;rw [pB];split
   . rfl
   exact k
  rw [pP (uS p hm),if_pos rfl]
 used:=Nat.le_trans (cg L root) h.used
def DG (L:Tr):Prop:=∀p n,look L p=some n->n.kind≠1->n.data=[]
def DG.nil:DG []:=fun p n h=>by cases h
def DG.inR {L:Tr} (h:DG L) (root:By):DG (inL L root):=fun p n hp=>by rw [pB] at hp;exact h _ n hp
def DG.ins {L:Tr} (h:DG L) (p:By) {n:Nd} (hn:n.kind≠1->n.data=[]):DG (bA p n L):=by
 intro q m hq hk;rw [gK] at hq;split at hq
 . injection hq with hq;subst hq;exact hn hk
 exact h q m hq hk
def DG.put {L:Tr} (h:DG L) (room:Nat) (p:By) {n:Nd} (hn:n.kind≠1->n.data=[]):DG (cK room L p n).2:=by
 unfold cK;split
 . exact h.ins p hn
 exact h
def DG.add {L:Tr} (h:DG L) (room:Nat) (p:By) {n:Nd} (hn:n.kind≠1->n.data=[]):DG (eR room L p n).2:=by
 unfold eR;split
 . split
   . exact h
   exact h.put room p hn
 exact h
structure jD where
 items:Tr
 temps:List By
 ign:List By
 bad:List By
def eT (n:Nd):Bool:=decide (4096 < n.data.length)
def dB (over p:By):Bool:=!decide (over=[])&&withinB p over
def stepW (ig:By->Bool) (s:jD × By) (x:By × Nd):jD × By :=
 if dB s.2 x.1 then s
 else if isTempB x.1 then (⟨s.1.items,s.1.temps++[x.1],s.1.ign,s.1.bad⟩,x.1)
 else if ig x.1 then (⟨s.1.items,s.1.temps,s.1.ign++[x.1],s.1.bad⟩,x.1)
 else if eT x.2 then (⟨s.1.items,s.1.temps,s.1.ign,s.1.bad++[x.1]⟩,s.2)
 else (⟨s.1.items++[x],s.1.temps,s.1.ign,s.1.bad⟩,s.2)
def walkS (ig:By->Bool) (l:Tr):jD × By:=l.foldl (stepW ig) (⟨[],[],[],[]⟩,[])
def rA (ig:By->Bool) (l:Tr):jD:=(walkS ig l).1
def Ma (ig:By->Bool) (l:Tr) (x:By × Nd):walkS ig (l++[x])=stepW ig (walkS ig l) x:=by
 unfold walkS;rw [List.foldl_append];rfl
def whyB (ig:By->Bool) (x:By × Nd):Nat:=if isTempB x.1 then 1 else if ig x.1 then 2 else if eT x.2 then 3 else 0
def bZ (ig:By->Bool) (l:Tr) (p:By):Bool:=l.any fun q=>withinB p q.1&&decide (whyB ig q≠0)
def partF (ig:By->Bool) (l k:Tr) (y:Nat):Tr:=k.filter fun x=>!bZ ig l x.1&&decide (whyB ig x=y)
def fndF (ig:By->Bool) (l k:Tr):jD:=⟨partF ig l k 0,(partF ig l k 1).map (·.1),(partF ig l k 2).map (·.1),(partF ig l k 3).map (·.1)⟩
def mY {a b c:By} (ha:mayB a=true) (hc:mayB c=true) (hb:mayB b=true) (h1:withinB a b=true) (h2:withinB b c=true):withinB a c=true:=by
 obtain ⟨r,rfl⟩:=dI hb h1;obtain ⟨s,rfl⟩:=dI hc h2;exact iY ha hc ⟨s++47 :: r,by simp⟩
def mJ (ig:By->Bool) (l k:Tr) (x:By × Nd) (y:Nat):partF ig l (k++[x]) y=partF ig l k y++(if (!bZ ig l x.1&&decide (whyB ig x=y))=true then [x] else []):=by
 unfold partF;rw [List.filter_append];congr 1
 rw [List.filter_cons,List.filter_nil]
section
variable {room:Nat} {l:Tr} (hW:WFT room l) (hD:DG l) (ig:By->Bool)
include hW
theorem mem_may {x:By × Nd} (hx:x∈l):mayB x.1=true:=hW.may _ (by rw [dS hW.srt hx];rfl)
theorem La {pre rest:Tr} {x:By × Nd} (he:l=pre++x :: rest):bZ ig l x.1=pre.any fun q=>withinB x.1 q.1&&decide (whyB ig q≠0):=by
 have hx:=mem_may hW (x:=x) (by rw [he];simp);have LJ:∀q∈x :: rest,withinB x.1 q.1=false:=by
  intro q hq
  cases hw:withinB x.1 q.1 with
  | false=>rfl
  | true =>
   exfalso
   have ym:=mem_may hW (x:=q) (by rw [he];exact List.mem_append_right _ hq);obtain ⟨r,hr⟩:=dI ym hw;have h1:cmpL q.1 x.1 = -1:=by rw [hr];exact uX _ _
   rcases List.mem_cons.1 hq with e | e
   . rw [e,fE] at h1;cases h1
   have hs:=hW.srt;rw [he] at hs;have h2:=(List.pairwise_cons.1 (List.pairwise_append.1 hs).2.1).1 q e;rw [kG,h2] at h1;cases h1
 unfold bZ;conv=>lhs;rw [he]
 rw [List.any_append];have:(x :: rest).any (fun q=>withinB x.1 q.1&&decide (whyB ig q≠0))=false:=by
  rw [List.any_eq_false];intro q hq;rw [LJ q hq];simp
 rw [this,Bool.or_false]
include hD
theorem Xb {x y:By × Nd} (hx:x∈l) (hy:y∈l) (hb:eT x.2=true):withinB y.1 x.1=false:=by
 cases hw:withinB y.1 x.1 with
 | false=>rfl
 | true =>
  exfalso
  have yn:=mem_may hW hx;obtain ⟨r,hr⟩:=dI yn hw;have ly:=dS hW.srt hy;rw [hr] at ly;have hk:=hW.anc x.1 _ r qN (by rw [ly];rfl);have lx:=dS hW.srt hx;unfold kindP at hk;rw [if_neg (dE yn),lx] at hk;have:=hD _ _ lx (by simp only at hk;omega);unfold eT at hb;rw [this] at hb;simp at hb
structure Keep (pre rest:Tr) (s:jD × By):Prop where
 f:s.1=fndF ig l pre
 o:s.2=[]∨∃q∈pre,q.1=s.2
 k:∀x∈rest,(pre.any fun q=>withinB x.1 q.1&&decide (whyB ig q≠0))=dB s.2 x.1
theorem Pb {pre rest:Tr} {x:By × Nd} (he:l=pre++x :: rest) {s:jD × By} (h:Keep (l:=l) ig pre (x :: rest) s):Keep (l:=l) ig (pre++[x]) rest (stepW ig s x):=by
 obtain ⟨f,over⟩:=s;obtain ⟨hf,ho,hk⟩:=h;simp only at hf ho hk;have hx:x∈l:=by rw [he];simp
 have yn:=mem_may hW hx;have DR:bZ ig l x.1=dB over x.1:=(La hW ig he).trans (hk x List.mem_cons_self);have IR:∀y:By × Nd,((pre++[x]).any fun q=>withinB y.1 q.1&&decide (whyB ig q≠0))=((pre.any fun q=>withinB y.1 q.1&&decide (whyB ig q≠0))||(withinB y.1 x.1&&decide (whyB ig x≠0))):=fun y=>by
  rw [List.any_append];simp
 have un:∀y∈rest,y∈l:=fun y hy=>by rw [he];simp [hy]
 have hF:fndF ig l (pre++[x])=⟨f.items++(if (!bZ ig l x.1&&decide (whyB ig x=0))=true then [x] else []),f.temps++(if (!bZ ig l x.1&&decide (whyB ig x=1))=true then [x] else []).map (·.1),
  f.ign++(if (!bZ ig l x.1&&decide (whyB ig x=2))=true then [x] else []).map (·.1),f.bad++(if (!bZ ig l x.1&&decide (whyB ig x=3))=true then [x] else []).map (·.1)⟩:=by
  rw [hf];unfold fndF;simp only [mJ,List.map_append]
 have UU:∀{o:By},(o=[]∨∃q∈pre,q.1=o)->o=[]∨∃q∈pre++[x],q.1=o:=by
  rintro o (e | ⟨q,hq,e⟩)
  . exact .inl e
  exact .inr ⟨q,List.mem_append_left _ hq,e⟩
 unfold stepW;simp only
 cases hs:dB over x.1 with
 | true =>
  rw [if_pos rfl];rw [hs] at DR;refine ⟨?_,UU ho,fun y hy=>?_⟩
  . rw [hF,DR];simp
  rw [IR,hk y (List.mem_cons_of_mem _ hy)]
  cases hw:withinB y.1 x.1 with
  | false=>simp
  | true =>
   have:dB over y.1=true:=by
    unfold dB at hs ⊢;simp only [Bool.and_eq_true,Bool.not_eq_true',decide_eq_false_iff_not] at hs ⊢;rcases ho with e | ⟨q,hq,e⟩
    . exact absurd e hs.1
    have DS:mayB over=true:=by rw [<-e];exact mem_may hW (by rw [he];exact List.mem_append_left _ hq)
    exact ⟨hs.1,mY (mem_may hW (un y hy)) DS yn hw hs.2⟩
   rw [this];simp
 | false =>
  rw [hs] at DR;rw [if_neg (by simp)]
  -- a path that is passed over now, and is no bad file, is what was passed over last
  have DT:whyB ig x≠0->∀y∈rest,((pre++[x]).any fun q=>withinB y.1 q.1&&decide (whyB ig q≠0))=dB x.1 y.1:=by
   intro LN y hy;rw [IR,hk y (List.mem_cons_of_mem _ hy)];have e1:dB x.1 y.1=withinB y.1 x.1:=by
    unfold dB;rw [decide_eq_false (dE yn)];rfl
   rw [e1,decide_eq_true LN,Bool.and_true]
   cases OA:dB over y.1 with
   | false=>rfl
   | true =>
    exfalso
    unfold dB at OA hs;simp only [Bool.and_eq_true,Bool.not_eq_true',decide_eq_false_iff_not] at OA;rw [decide_eq_false OA.1] at hs;simp only [Bool.not_false,Bool.true_and] at hs;rcases ho with e | ⟨q,hq,e⟩
    . exact OA.1 e
    have DS:mayB over=true:=by rw [<-e];exact mem_may hW (by rw [he];exact List.mem_append_left _ hq)
    obtain ⟨r,hr⟩:=dI DS OA.2;have ql:=hW.srt;rw [he] at ql;have c1:cmpL over x.1 = -1:=by rw [<-e];exact (List.pairwise_append.1 ql).2.2 q hq x List.mem_cons_self
    have c2:cmpL x.1 y.1 = -1:=(List.pairwise_cons.1 (List.pairwise_append.1 ql).2.1).1 y hy;rw [hr] at c2;have:=iY yn DS (Ch over x.1 r c1 c2);rw [this] at hs;cases hs
  have hsame:(∀y∈rest,(withinB y.1 x.1&&decide (whyB ig x≠0))=false)->∀y∈rest,((pre++[x]).any fun q=>withinB y.1 q.1&&decide (whyB ig q≠0))=dB over y.1:=by
   intro hz y hy;rw [IR,hk y (List.mem_cons_of_mem _ hy),hz y hy,Bool.or_false]
  by_cases ht:isTempB x.1=true
  . have BV:whyB ig x=1:=by unfold whyB;rw [if_pos ht]
    rw [if_pos ht];refine ⟨?_,.inr ⟨x,List.mem_append_right _ List.mem_cons_self,rfl⟩,DT (by omega)⟩;rw [hF,DR,BV];simp
  rw [if_neg ht];by_cases hi:ig x.1=true
  . have mu:whyB ig x=2:=by unfold whyB;rw [if_neg ht,if_pos hi]
    rw [if_pos hi];refine ⟨?_,.inr ⟨x,List.mem_append_right _ List.mem_cons_self,rfl⟩,DT (by omega)⟩;rw [hF,DR,mu];simp
  rw [if_neg hi];by_cases hb:eT x.2=true
  . have tv:whyB ig x=3:=by unfold whyB;rw [if_neg ht,if_neg hi,if_pos hb]
    rw [if_pos hb];refine ⟨?_,UU ho,hsame fun y hy=>?_⟩
    . rw [hF,DR,tv];simp
    rw [Xb hW hD hx (un y hy) hb,Bool.false_and]
  have IS:whyB ig x=0:=by unfold whyB;rw [if_neg ht,if_neg hi,if_neg hb]
  rw [if_neg hb];refine ⟨?_,UU ho,hsame fun y hy=>?_⟩
  . rw [hF,DR,IS];simp
  rw [IS];simp
theorem Ef:∀(rest pre:Tr),l=pre++rest->∀s,Keep (l:=l) ig pre rest s->(rest.foldl (stepW ig) s).1=fndF ig l l
 | [],pre,he,s,h=>by
  have:=h.f;rw [show pre=l by rw [he];simp] at this;exact this
 | x :: rest,pre,he,s,h=>by
  rw [List.foldl_cons];exact Ef rest (pre++[x]) (by rw [he];simp) _ (Pb hW hD ig he h)
theorem Hf:rA ig l=fndF ig l l:=by
 unfold rA walkS;exact Ef hW hD ig l [] rfl _ ⟨rfl,.inl rfl,fun y _=>by simp [dB]⟩
end
open Go.RowKit Go.Maps
def Eo (M:Mo) (y:Eff):(bL M y).2.since.length<=M.since.length+1:=by
 unfold bL;split
 . exact Nat.le_succ _
 split
 . simp
 exact Nat.le_succ _
open Go.RowKit Go.Maps
def aH {P:Program} {ops:Array Oper} {o:Oper} {a:Act} {w:World} {K:Act->World->Prop} {Q:Exit->Act->World->Prop} {E:Prop}
 (hw:Region.wanted o (yielded ops a.tmps)=true) (s x:Operand) (t tn:TypeId) (ho:o.op=.call { callee:=.builtin .append,args:=#[s,x],argTypes:=#[t,tn] })
 (vs vx:Value) (hs:a.eval s=vs) (hx:a.eval x=vx) {v':Value} {w':World} (hr:(Builtin.append_ #[t,tn] o.type #[vs,vx]).run P w=.ok v' w') (h:K (a.put o.dst v') w') :
 if Region.wanted o (yielded ops a.tmps)=true then Oper.wp P o a w K Q else E:=by
 rw [if_pos hw];unfold Oper.wp execOp;simp only [ho,hs,hx,resolve,invoke,builtin,Sem.run_bind,Sem.run_pure,Result.andThen_ok,List.map_toArray,List.map_cons,List.map_nil,hr];exact h
def Yq (a b:Nat):(a:Int).tmod (b:Int)=((a % b:Nat):Int):=by
 rw [Int.tmod_eq_emod_of_nonneg (by omega)];rfl
def aY {ops:Array Oper} {S:World->Prop} {o:Oper} {a:Act} (hw:Region.wanted o (yielded ops a.tmps)=true) (ty:TypeId) (x:Operand) (ho:o.op=.load ty x) (g off:Nat) (hx:a.eval x=.pointer (some ⟨g,off,none⟩)) (cs:Array Value)
 (hS:∀w,S w->(loadVar ty ⟨g,off,none⟩).run Tryz.prog w=.ok (.agg cs) w):YieldsIf Tryz.prog ops S o (.agg cs) a :=
 .inl ⟨hw,fun w IF=>by
  unfold execOp;simp only [ho,hx,Instr.loadAt,Instr.sureAddr,Sem.run_bind,Sem.run_pure,Result.andThen_ok,hS w IF]⟩
def Px {L:Tr} {k:Nat} (hk:k < L.length):usedL (L.take (k+1))=usedL (L.take k)+jI L[k].2:=by
 induction L generalizing k with
 | nil=>simp at hk
 | cons x L ih =>
  obtain ⟨p,n⟩:=x
  cases k with
  | zero=>simp [usedL]
  | succ k =>
   have:=ih (k:=k) (by simpa using hk);simp only [List.take_succ_cons,usedL,List.getElem_cons_succ,this];omega
def Dp (L:Tr) (k:Nat):usedL (L.take k)<=usedL L:=by
 induction L generalizing k with
 | nil=>simp [usedL]
 | cons x L ih =>
  obtain ⟨p,n⟩:=x
  cases k with
  | zero=>simp [usedL]
  | succ k=>have:=ih k;simp only [List.take_succ_cons,usedL];omega
end Go.Proofs.YtahkcemdbfjilaaGreatDoor
namespace Go.RowKit
def Below.drewG {B:Nat} {a w:World} (h:Below B a w) (n:Nat):Below B a (w.drewN n):=⟨h.os,h.tape,h.output,h.size,h.block⟩
def Below.rowG {B:Nat} {a w:World} (h:Below B a w) {g:Nat} (hg:B<=g) (cs:Array Value):Below B a (w.setRow g cs) :=
 h.trans ⟨rfl,rfl,rfl,by simp,fun k hk=>setRow_other w g k cs (by omega)⟩
def Below.thenG {a w w':World} (h:Below a.heap.size a w) (h2:Below w.heap.size w w'):Below a.heap.size a w':=h.trans (h2.mono h.size)
end Go.RowKit
namespace Go.Proofs.YtahkcemdbfjilaaGreatDoor.Glob
open Go.RowKit
def hid {p:Prop} (h:p):Hid p:=h
abbrev By:=List UInt8
def b8 (x:UInt8):Int:=(x.toNat:Int)
def cJ (x:UInt8):0<=b8 x:=by unfold b8;omega
def gH (x:UInt8):b8 x < 256:=by have:=x.toNat_lt;unfold b8;omega
def kO {x y:UInt8} (h:b8 x=b8 y):x=y:=UInt8.toNat_inj.1 (by unfold b8 at h;omega)
def aL (x y:UInt8):(b8 x == b8 y)=(x == y):=by
 rw [Bool.eq_iff_iff];simp only [beq_iff_eq];exact ⟨kO,fun h=>by rw [h]⟩
abbrev tl (s:ByteArray):By:=s.data.toList
def ba (l:By):ByteArray:=⟨l.toArray⟩
def aQ (l:By):tl (ba l)=l:=rfl
def aI (s:ByteArray):(tl s).length=s.size:=by simp [tl]
def aD (l:By):(ba l).size=l.length:=by rw [<-aI];rfl
def Sd {a b:By} (h:ba a=ba b):a=b:=by have:=congrArg tl h;simpa [aQ] using this
def gU (s:By) (k:Nat):(ba s).extract 0 k=ba (s.take k):=by
 apply ByteArray.ext;apply Array.ext';simp [ba]
def aR (s:By) (k:Nat):(ba s).extract k s.length=ba (s.drop k):=by
 apply ByteArray.ext;apply Array.ext';simp [ba];rw [List.take_of_length_le];simp
def at8 (l:By) (i:Nat):UInt8:=l.getD i 0
def aM (x:Int) (h0:-9223372036854775808<=x) (h:x < 9223372036854775808):IntKind.i64.wrap x=x:=by
 simp [IntKind.wrap,IntKind.signed,IntKind.bits];omega
def aX (s:By) (i:Nat) (h:i < s.length) (w:World):(Instr.index 9 (.string (ba s)) (.int .i64 (i:Int))).run Tryz.prog w=.ok (.int .u8 (b8 (at8 s i))) w:=by
 have p9:=aD s;rw [run_index_string (P:=Tryz.prog) w 9 (ba s) .i64 (i:Int) Tryz.underlying9,dif_pos ⟨by omega,by omega⟩];have:(ba s)[(i:Int).toNat]'(by rw [p9];simpa using h)=at8 s i:=by
  have h2:i < s.length:=by simpa using h
  show (ba s)[i]=_
  simp only [at8,List.getD,List.getElem?_eq_getElem h2,Option.getD_some];rfl
 rw [this];rfl
def Has (w:World) (g:Nat) (t:TypeId) (cs:Array Value):Prop:=w.heap[g]? = some (.cells cs t (0,0))
section
variable {w w':World} {g:Nat} {t:TypeId} {cs:Array Value}
theorem Has.inside (h:Has w g t cs):g < w.heap.size:=by
 unfold Has at h;exact (Array.getElem?_eq_some_iff.1 h).1
theorem Has.at_ (h:Has w g t cs) (i:Nat):w.cell? ⟨g,i,none⟩=cs[i]?:=cell_of_row w g i cs t (0,0) h
theorem Has.free (h:Has w g t cs) (i:Nat):w.frozen? ⟨g,i,none⟩=false:=by
 unfold Has at h;simp [World.frozen?,h]
theorem Has.fresh (w:World) (t:TypeId) (cs:Array Value):Has (w.alloc (.cells cs t)) w.heap.size t cs:=heap_alloc_new w _
theorem Has.fresh' (w:World) (t:TypeId) (cs:Array Value) {g:Nat} (hg:g=w.heap.size):Has (w.alloc (.cells cs t)) g t cs:=by subst hg;exact Has.fresh w t cs
theorem Has.drawn (h:Has w g t cs) (n:Nat):Has (w.drewN n) g t cs:=h
theorem Has.more (h:Has w g t cs) (o:Obj):Has (w.alloc o) g t cs:=(Below.heap_alloc w o g h.inside).trans h
theorem Has.put (h:Has w g t cs) (i:Nat) (v:Value):Has (w.setCell ⟨g,i,none⟩ v) g t (cs.setIfInBounds i v):=by
 unfold Has at h ⊢;simp [World.setCell,Array.getElem?_modify,h]
theorem Has.other (h:Has w g t cs) {p:Addr} (hp:g≠p.block) (v:Value):Has (w.setCell p v) g t cs:=(Below.heap_setCell w p v g hp).trans h
theorem Has.kept {B:Nat} (h:Has w g t cs) (hb:Below B w w') (hg:g < B):Has w' g t cs:=(hb.block g hg).trans h
theorem Has.stays (h:Has w g t cs) (hb:qW w w'):Has w' g t cs:=h.kept hb h.inside
theorem Has.row {cs':Array Value} (h:Has w g t cs):Has (w.setRow g cs') g t cs':=setRow_heap w g cs cs' t (0,0) h
theorem Has.rowOther {g':Nat} {cs':Array Value} (h:Has w g t cs) (hg:g≠g'):Has (w.setRow g' cs') g t cs:=(setRow_other w g' g cs' hg).trans h
end
def aF {a b:Bool} (h:a=b):Ending.returned (.bool a)=.returned (.bool b):=by rw [h]
end Go.Proofs.YtahkcemdbfjilaaGreatDoor.Glob
