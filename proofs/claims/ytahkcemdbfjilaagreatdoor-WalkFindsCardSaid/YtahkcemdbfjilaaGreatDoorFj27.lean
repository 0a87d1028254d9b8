/- Texts. Conditions: as said. -/
import Derived.Test.YtahkcemdbfjilaaGreatDoorFj00
import Derived.Test.YtahkcemdbfjilaaGreatDoorFj26
set_option linter.all false
set_option maxRecDepth 100000
set_option maxHeartbeats 32000000
namespace Go.Proofs.YtahkcemdbfjilaaGreatDoor.Glob
open Go.RowKit
def fh (s:By) (a b:Nat):(ba s).extract a b=ba (seg s a b):=by
 apply ByteArray.ext;apply Array.ext';simp [ba,seg,List.extract]
def iE (hs:H) (path:By) (a b:Nat):Bool:=decide (a<=b)&&rV path b&&wh hs (seg path a b)
def rZ (rooted:Bool) (hs:H) (path:By) (a:Nat):Bool:=startB rooted path a&&(List.range (path.length+1)).any (iE hs path a)
def Qv (rooted:Bool) (hs:H) (path:By):xH rooted hs path=(decide (path.length<=160)&&(List.range (path.length+1)).any (rZ rooted hs path)):=rfl
def Ka (hs:H) (path:By) (a:Nat):(List.range a).any (iE hs path a)=false:=by
 rw [List.any_eq_false];intro b hb;have:¬a<=b:=by have:=List.mem_range.1 hb;omega
 unfold iE;rw [decide_eq_false this];simp
def Ff (n f d r:Bool) (A:Option Addr) (l c:Nat) (hs:H) (path:By) (w:World) (hl:160 < path.length) :
 qC 162 #[.agg #[.bool n,.bool f,.bool d,.bool r,.slice A l c],.string (ba path)] w fun e w'=>e=.returned (.bool (mB r hs path))/\qW w w':=by
 have HM:Hid (mB r hs path=false):=by show _=_;rw [Jc,decide_eq_false (by omega)];rfl
 have z:=aD path;have hi:(160:Int) < (path.length:Int):=by omega
 clear hl;go_enter Tryz.func162,Tryz.ntmps162
 go_wp2;go_ret;exact ⟨aF HM.o.symm,qB.alloc qN _⟩
def Ez (n f d r:Bool) (A:Option Addr) (l c:Nat) (els:List El) (path:By) (w:World) (hr:iL 0 w (.slice A l c) els) (hl:l=els.length) (hL:l<=128) (hn:∀neg rs,El.set neg rs∈els->rs.length<=1000) (f8:path.length<=160) :
 qC 162 #[.agg #[.bool n,.bool f,.bool d,.bool r,.slice A l c],.string (ba path)] w fun e w'=>e=.returned (.bool (mB r (hsOf f els) path))/\qW w w':=by
 have HM:Hid (mB r (hsOf f els) path=(List.range (path.length+1)).any (rZ r (hsOf f els) path)):=by show _=_;rw [Tu,Qv,decide_eq_true f8];rfl
 have z:=aD path;have hi:¬((160:Int) < (path.length:Int)):=by omega
 obtain ⟨W0,o6⟩:=qY (w.alloc (.cells #[.bool n,.bool f,.bool d,.bool r,.slice A l c] 175));have P0:Hid (Has W0 w.heap.size 175 #[.bool n,.bool f,.bool d,.bool r,.slice A l c]):=o6▸Has.fresh _ _ _;have B0:Hid (qW w W0):=o6▸qB.alloc qN _;have CW:Hid (∀a b W,b<=path.length->qW W0 W->qC 196 #[.agg #[.bool n,.bool f,.bool d,.bool r,.slice A l c],.string (ba (seg path a b))] W fun e w'=>e=.returned (.bool (wh (hsOf f els) (seg path a b)))/\qW W w'):=fun a b W hb hW =>
  Jg n f d r A l c els (seg path a b) W ((hr.stays B0.o).stays hW) hl hL hn (by rw [yL path a b hb];omega)
 rw [HM.o];generalize hsOf f els=hs at *;clear HM hr hl hn;obtain ⟨ans,ux⟩:=qX ((List.range (path.length+1)).any (rZ r hs path));rw [ux.o];obtain ⟨pb,QG⟩:=qY (w.heap.size);have MU:=hid QG;unfold qW at B0;rw [QG] at P0 B0;have yl:Hid (pb<=W0.heap.size):=by have:=B0.o.size;show _<=_;omega
 go_enter Tryz.func162,Tryz.ntmps162
 go_wp2;clear o6 hi;go_loopw [5,6] (fun v _ wr=>∃k:Nat,v=.int .i64 (k:Int)/\k<=path.length+1/\Hid ((List.range k).any (rZ r hs path)=false)/\Hid (qW W0 wr))
  (fun v _ _=>path.length+1 - (intOf v).toNat)
 case atStart=>exact ⟨0,rfl,Nat.zero_le _,rfl,Below.refl _ _⟩
 obtain ⟨k,rfl,hk,HN,HB⟩:=hrel;by_cases d8:k < path.length+1
 .
  have hkk:k<=path.length:=by omega
  have k3:=(P0.o.stays HB.o).at_ 3;go_upto_region 6 with (fail)
  go_cut [28] from 10 to 53 (fun t w'=>t=.bool (!startB r path k)/\wr=w')
  case first=>as_aux_lemma =>
   by_cases h0:k=0
   . have HT:Hid (startB r path k=true):=by show _=_;unfold startB;rw [h0];rfl
     subst h0;go_wp2;go_meet
     case rel=>exact ⟨by rw [HT.o];rfl,rfl⟩
   .
    have h0i:(0:Int) < (k:Int):=by omega
    obtain ⟨j,hj⟩:=qY (k - 1);have ej:(k:Int) - 1=(j:Int):=by omega
    have ij:=aX path j (by omega);have HT:Hid (startB r path k=((at8 path j == 47)&&!r)):=by
     show _=_;unfold startB;rw [hj,show (k == 0)=false by simp [h0]];rfl
    have q7:=fU (at8 path j) 47;rw [show b8 47=47 from rfl] at q7;generalize at8 path j=x at ij HT q7;obtain ⟨bq,sl⟩:=qY ((x == 47));rw [sl] at q7 HT;clear h0 hj sl CW
    cases r with
    | true =>
     go_wp2;go_meet
     case rel=>exact ⟨by rw [HT.o];cases bq<;>rfl,rfl⟩
    | false =>
     cases bq with
     | true =>
      simp only [Bool.not_true] at q7;go_wp2;go_meet
      case rel=>exact ⟨by rw [HT.o];rfl,rfl⟩
     | false =>
      simp only [Bool.not_false] at q7;go_wp2;go_meet
      case rel=>exact ⟨by rw [HT.o];rfl,rfl⟩
  obtain ⟨rfl,rfl⟩:=hcut;have QM:=hid (lK (rZ r hs path) k);have xh:Hid (rZ r hs path k=(startB r path k&&(List.range (path.length+1)).any (iE hs path k))):=rfl;clear k3;obtain ⟨sb,IP⟩:=qY (startB r path k);rw [IP] at xh;rw [IP];clear IP
  cases sb with
  | false =>
   have wy:Hid ((List.range (k+1)).any (rZ r hs path)=false):=by show _=_;rw [QM.o,HN.o,xh.o];rfl
   clear CW QM xh;go_wp2;exact ⟨⟨k+1,by go_num,by omega,wy.o,HB.o⟩,by simp [intOf];omega⟩
  | true =>
   obtain ⟨w1,rfl⟩:∃w1,w1=wr:=⟨_,rfl⟩;go_wp2;go_loopw [6] (fun v wr=>∃b:Nat,v=.int .i64 (b:Int)/\k<=b/\b<=path.length+1/\Hid ((List.range b).any (iE hs path k)=false)/\Hid (qW W0 wr))
    (fun v _=>path.length+1 - (intOf v).toNat)
   case atStart=>exact ⟨k,rfl,Nat.le_refl _,by omega,Ka hs path k,HB.o⟩
   obtain ⟨b,rfl,hkb,hb,TO,i9⟩:=hrel;by_cases hbt:b < path.length+1
   .
    have um:b<=path.length:=by omega
    have sg:=fh path k b;have QN:Hid (∀W,qW W0 W->qC 196 #[.agg #[.bool n,.bool f,.bool d,.bool r,.slice A l c],.string (ba (seg path k b))] W fun e w'=>e=.returned (.bool (wh hs (seg path k b)))/\qW W w'):=fun W hW=>CW.o k b W um hW
    have LP:Hid (∀W,qW W0 W->(loadVar 175 ⟨pb,0,none⟩).run Tryz.prog W=.ok (.agg #[.bool n,.bool f,.bool d,.bool r,.slice A l c]) W):=fun W h=>jA (P0.o.stays h)
    have qp:Hid (iE hs path k b=(rV path b&&wh hs (seg path k b))):=by show _=_;unfold iE;rw [decide_eq_true hkb];rfl
    have CV:Hid (rV path b=(b == path.length||(at8 path b == 47))):=rfl;go_upto_region 10 with (fail)
    go_cut [53] from 30 to 53 (fun t w'=>t=.bool (iE hs path k b)/\Hid (qW W0 w'))
    case first=>as_aux_lemma =>
     have i0:(0:Int)<=(k:Int):=by omega
     have i1:(k:Int)<=(b:Int):=by omega
     have i2:(b:Int)<=(path.length:Int):=by omega
     have i3:(0:Int)<=(b:Int):=by omega
     have z0:qW W0 wr.drew:=i9.o.drew;clear CW QM xh HN TO;by_cases GZ:b=path.length
     .
      have e7:((b:Int) == (path.length:Int))=true:=by simp [GZ]
      have HV:Hid (iE hs path k b=wh hs (seg path k b)):=by
       show _=_;rw [qp.o,CV.o,show (b == path.length)=true by simp [GZ],Bool.true_or,Bool.true_and]
      clear qp CV GZ;generalize wh hs (seg path k b)=ww at QN HV;refine qG (S:=Below W0.heap.size W0) (by kernel_rfl) (z0) (fun hS=>?_);refine aG 0 ?_
      iterate 5
       refine qT rfl (by kernel_rfl) ‹_› (fun w a8=>by go_simp;with_reducible rfl) ?_;simp only [Act.put,aB,aA,aC,Nat.reduceAdd]
      refine aE ?_;refine aG 5 ?_
      iterate 4
       refine qU rfl (by kernel_rfl) ‹_› ?_;simp only [Act.put,aB,aA,aC,Nat.reduceAdd]
      refine aE ?_;refine aG 9 ?_
      iterate 2
       refine qT rfl (by kernel_rfl) ‹_› (fun w a8=>by go_simp;with_reducible rfl) ?_;simp only [Act.put,aB,aA,aC,Nat.reduceAdd]
      refine aE ?_;refine' qL 11 rfl (by kernel_rfl) (cU (by rfl) 175 (.tmp 2) rfl pb 0 rfl #[.bool n,.bool f,.bool d,.bool r,.slice A l c] (LP.o)) ‹_› ?_;simp only [Act.put,aB,aA,aC];refine aG 12 ?_
      iterate 4
       refine qT rfl (by kernel_rfl) ‹_› (fun w a8=>by go_simp;with_reducible rfl) ?_;simp only [Act.put,aB,aA,aC,Nat.reduceAdd]
      refine aE ?_;refine qD 16 rfl (by kernel_rfl) fun K hK=>?_
      go_simp;refine (QN.o _ z0).mono ?_;rintro e16 y16 ⟨rfl,BM⟩;have g8:=z0.trans (BM.mono z0.size);refine hK.o _ _ g8 (fun hS=>?_);clear hK K hS;refine qK 17 rfl (by kernel_rfl) ‹_› (fun w a8=>by go_simp;with_reducible rfl) ?_;simp only [Act.put,aB,aA,aC];refine qM (by kernel_rfl) ?_;go_wp2;go_meet
      case rel=>exact ⟨by rw [HV.o]<;>first | rfl | simp,z0.trans (BM.mono z0.size)⟩
     .
      have e7:((b:Int) == (path.length:Int))=false:=by simp;omega
      have QI:Hid (∀W,(Instr.index 9 (.string (ba path)) (.int .i64 (b:Int))).run Tryz.prog W=.ok (.int .u8 (b8 (at8 path b))) W):=aX path b (by omega);have q7:=aL (at8 path b) 47;rw [show b8 47=47 from rfl] at q7;have HV:Hid (iE hs path k b=((at8 path b == 47)&&wh hs (seg path k b))):=by
       show _=_;rw [qp.o,CV.o,show (b == path.length)=false by simp [GZ],Bool.false_or]
      clear qp CV;generalize at8 path b=x at QI q7 HV;obtain ⟨bq,sl⟩:=qY ((x == 47));rw [sl] at q7 HV;clear sl;generalize wh hs (seg path k b)=ww at QN HV
      cases bq with
      | true =>
       refine qG (S:=Below W0.heap.size W0) (by kernel_rfl) (z0) (fun hS=>?_);refine aG 0 ?_
       iterate 7
        refine qT rfl (by kernel_rfl) ‹_› (fun w a8=>by go_simp;with_reducible rfl) ?_;simp only [Act.put,aB,aA,aC,Nat.reduceAdd]
       refine aE ?_;refine qK 7 rfl (by kernel_rfl) ‹_› (fun w a8=>by have qi:=QI.o w;go_simp;with_reducible rfl) ?_;simp only [Act.put,aB,aA,aC];refine aG 8 ?_
       iterate 3
        refine qT rfl (by kernel_rfl) ‹_› (fun w a8=>by go_simp;with_reducible rfl) ?_;simp only [Act.put,aB,aA,aC,Nat.reduceAdd]
       refine aE ?_;refine' qL 11 rfl (by kernel_rfl) (cU (by rfl) 175 (.tmp 2) rfl pb 0 rfl #[.bool n,.bool f,.bool d,.bool r,.slice A l c] (LP.o)) ‹_› ?_;simp only [Act.put,aB,aA,aC];refine aG 12 ?_
       iterate 4
        refine qT rfl (by kernel_rfl) ‹_› (fun w a8=>by go_simp;with_reducible rfl) ?_;simp only [Act.put,aB,aA,aC,Nat.reduceAdd]
       refine aE ?_;refine qD 16 rfl (by kernel_rfl) fun K hK=>?_
       go_simp;refine (QN.o _ z0).mono ?_;rintro e16 y16 ⟨rfl,BM⟩;have g8:=z0.trans (BM.mono z0.size);refine hK.o _ _ g8 (fun hS=>?_);clear hK K hS;refine qK 17 rfl (by kernel_rfl) ‹_› (fun w a8=>by go_simp;with_reducible rfl) ?_;simp only [Act.put,aB,aA,aC];refine qM (by kernel_rfl) ?_;go_wp2;go_meet
       case rel=>exact ⟨by rw [HV.o]<;>first | rfl | simp,z0.trans (BM.mono z0.size)⟩
      | false =>
       refine qG (S:=Below W0.heap.size W0) (by kernel_rfl) (z0) (fun hS=>?_);refine aG 0 ?_
       iterate 7
        refine qT rfl (by kernel_rfl) ‹_› (fun w a8=>by go_simp;with_reducible rfl) ?_;simp only [Act.put,aB,aA,aC,Nat.reduceAdd]
       refine aE ?_;refine qK 7 rfl (by kernel_rfl) ‹_› (fun w a8=>by have qi:=QI.o w;go_simp;with_reducible rfl) ?_;simp only [Act.put,aB,aA,aC];refine aG 8 ?_
       iterate 3
        refine qT rfl (by kernel_rfl) ‹_› (fun w a8=>by go_simp;with_reducible rfl) ?_;simp only [Act.put,aB,aA,aC,Nat.reduceAdd]
       refine aE ?_;refine aG 11 ?_
       iterate 6
        refine qU rfl (by kernel_rfl) ‹_› ?_;simp only [Act.put,aB,aA,aC,Nat.reduceAdd]
       refine aE ?_;refine qK 17 rfl (by kernel_rfl) ‹_› (fun w a8=>by go_simp;with_reducible rfl) ?_;simp only [Act.put,aB,aA,aC];refine qM (by kernel_rfl) ?_;go_wp2;go_meet
       case rel=>exact ⟨by rw [HV.o];rfl,z0⟩
    obtain ⟨rfl,B8⟩:=hcut;have yh:=hid (lK (iE hs path k) b);have KS:Hid (iE hs path k b=true->ans=true):=fun h=>by
     rw [<-ux.o];exact mG _ _ k (by omega) (by rw [xh.o,Bool.true_and];exact mG _ _ b (by omega) h)
    obtain ⟨VN,uy⟩:=qY (iE hs path k b);rw [uy] at yh KS;rw [uy];clear qp CV QN CW LP sg uy
    cases VN with
    | true =>
     go_wp2;go_ret;exact ⟨aF (KS.o (by first | rfl | trivial)).symm,by have:=B0.o.trans (B8.o.mono yl.o);first | exact this | (rw [MU.o];exact this)⟩
    | false =>
     have wy:Hid ((List.range (b+1)).any (iE hs path k)=false):=by show _=_;rw [yh.o,TO.o];rfl
     clear yh KS;go_wp2;exact ⟨⟨b+1,by go_num,by omega,by omega,wy.o,B8.o⟩,by simp [intOf];omega⟩
   obtain rfl:b=path.length+1:=by omega
   have wy:Hid ((List.range (k+1)).any (rZ r hs path)=false):=by show _=_;rw [QM.o,HN.o,xh.o,TO.o];rfl
   have Q9:¬((path.length:Int)+1<=(path.length:Int)):=by omega
   clear CW QM xh TO hbt;go_wp2;exact ⟨⟨k+1,by go_num,by omega,wy.o,i9.o⟩,by simp [intOf];omega⟩
 have HF:Hid (ans=false):=by have:=HN.o;rw [show k=path.length+1 by omega,ux.o] at this;exact this
 have Q9:¬((k:Int)<=(path.length:Int)):=by omega
 clear d8 CW;go_wp2;go_ret;exact ⟨aF HF.o.symm,by have:=B0.o.trans (HB.o.mono yl.o);first | exact this | (rw [MU.o];exact this)⟩
def Kw (n f d r:Bool) (A:Option Addr) (l c:Nat) (els:List El) (path:By) (w:World) (hr:iL 0 w (.slice A l c) els) (hl:l=els.length) (hL:l<=128) (hn:∀neg rs,El.set neg rs∈els->rs.length<=1000) :
 qC 162 #[.agg #[.bool n,.bool f,.bool d,.bool r,.slice A l c],.string (ba path)] w fun e w'=>e=.returned (.bool (mB r (hsOf f els) path))/\qW w w':=by
 by_cases f8:160 < path.length
 . exact Ff n f d r A l c (hsOf f els) path w f8
 exact Ez n f d r A l c els path w hr hl hL hn (by omega)
open Go.RowKit Go.Maps
def Pi {s:By} (h:perr s=0):¬128 < s.length/\∃p,parseL s=some p:=by
 unfold perr at h;by_cases hl:128 < s.length
 . rw [if_pos hl] at h;cases h
 rw [if_neg hl] at h
 cases hp:parseL s with
 | none=>rw [hp] at h;cases h
 | some p=>exact ⟨hl,p,rfl⟩
def Jr {rd:By->List By->Except Int (List By)} (h:∀y ps qs,rd y ps=.ok qs->(∀s∈ps,perr s=0)->∀s∈qs,perr s=0):∀ls ps qs,stepL rd ls ps=.ok qs->(∀s∈ps,perr s=0)->∀s∈qs,perr s=0:=by
 intro ls;induction ls with
 | nil=>intro ps qs hq hp;simp only [stepL,Except.ok.injEq] at hq;rw [<-hq];exact hp
 | cons s ls ih =>
  intro ps qs hq hp;unfold stepL at hq;split at hq
  . cases h1:rd (s.drop 9) ps with
    | error e=>rw [h1] at hq;cases hq
    | ok rs=>rw [h1] at hq;exact ih _ _ hq (h _ _ _ h1 hp)
  split at hq
  . cases hq
  split at hq
  . cases hq
  rename_i he
  refine ih _ _ hq fun t ht=>?_
  rcases List.mem_append.1 ht with ht | ht
  . exact hp t ht
  obtain rfl:=List.mem_singleton.1 ht;exact Classical.not_not.1 he
def Lx (fs:Fl) (k:Nat):∀within name ps qs,readL fs k within name ps=.ok qs->(∀s∈ps,perr s=0)->∀s∈qs,perr s=0:=by
 induction k with
 | zero =>
  intro within name ps qs h;unfold readL at h;split at h
  . cases h
  split at h<;>cases h
 | succ k ih =>
  intro within name ps qs h;unfold readL at h
  cases hf:bQ fs name with
  | none=>rw [hf] at h;cases h
  | some t =>
   rw [hf] at h;simp only at h;split at h
   . cases h
   exact Jr (fun y ps qs=>ih _ y ps qs) _ _ _ h
def Nc {s t:By} {neg:Bool} {rs:List Rg} (h:elemL s=some (.set neg rs,t)):rs.length<=s.length:=by
 unfold elemL at h;split at h
 . simp at h
 split at h
 . simp at h
 split at h
 . simp at h
 split at h
 .
  split at h
  . cases h
  rename_i rs' r1 hc
  simp only [Option.some.injEq,Prod.mk.injEq,El.set.injEq] at h;have:=(Cj _ _ _ _ _ hc).2;have h3:(if pre [33] (s.drop 1)=true then (s.drop 1).drop 1 else s.drop 1).length<=s.length:=by split<;>simp<;>omega
  rw [<-h.1.2];simp only [List.length_nil] at this;omega
 split at h
 . cases h
 simp at h
def Ge (n:Nat):∀s acc l,elemsF n s acc=some l->s.length<=128->(∀neg rs,El.set neg rs∈acc->rs.length<=1000)->∀neg rs,El.set neg rs∈l->rs.length<=1000:=by
 induction n with
 | zero =>
  intro s acc l h hs ha;unfold elemsF at h;split at h
  . split at h
    . cases h
    simp only [Option.some.injEq] at h;subst h;exact ha
  cases h
 | succ n ih =>
  intro s acc l h hs ha;unfold elemsF at h;split at h
  . split at h
    . cases h
    simp only [Option.some.injEq] at h;subst h;exact ha
  rename_i h0
  split at h
  . cases h
  rename_i e t he
  have hl:=kH (by rintro rfl;exact h0 rfl) he;refine ih t _ l h (by omega) fun neg rs hm=>?_
  rcases List.mem_append.1 hm with hm | hm
  . exact ha neg rs hm
  simp only [List.mem_singleton] at hm;subst hm;have:=Nc he;omega
def Mw {s:By} {p:Pt} (hl:¬128 < s.length) (h:parseL s=some p):∀neg rs,El.set neg rs∈p.els->rs.length<=1000:=by
 unfold parseL at h;split at h
 . cases h
 rename_i m t hm
 split at h
 . cases h
 rename_i l hq
 simp only [Option.some.injEq] at h;subst h;have h1:=pZ _ _ _ _ _ hm;have h3:(if pre [47] t=true then t.drop 1 else t).length<=t.length:=by split<;>simp
 exact Ge _ _ _ _ hq (by omega) (fun neg rs hm=>by cases hm)
def pI {l:List By} {k:Nat} {f:By->Bool} (hk:k < l.length) (h:(l.take k).any f=false) (hx:f l[k]=false):(l.take (k+1)).any f=false:=by
 rw [List.take_succ_eq_append_getElem hk,List.any_append,h];simp [hx]
def Fm (B:Nat) (v:Value) (qs:List By) (path:By) (w:World) (h:Ar B w v qs) (hn:qs.length<=64) (pu:∀s∈qs,perr s=0) (hp:path.length<=4000) :
 qC 103 #[v,.string (ba path)] w fun e w'=>e=.returned (.tuple #[.bool (hZ qs path).1,.bool (hZ qs path).2])/\qW w w':=by
 have qq:=hid (Rf.vC (ba path) w (by rw [aD];exact hp));have HA:=hid h;have L0:=hid pu;obtain ⟨A,c,hv⟩:=aO h;obtain ⟨n,ES⟩:=qY (qs.length);have mo:=hid ES;rw [ES] at hv hn;subst hv
 cases hm:mayB path with
 | false =>
  have HR:Hid (hZ qs path=(false,false)):=by show _=_;unfold hZ;rw [if_neg (by rw [hm];decide)]
  have rl:mayB (tl (ba path))=false:=hm;rw [rl] at qq;rw [HR.o];clear h pu hp hm rl ES;go_enter Tryz.func103,Tryz.ntmps103
  go_wp2_with (go_at_call 62;refine qq.o.mono ?_;rintro e1 w1 ⟨rfl,c8⟩)
  go_ret2;exact ⟨rfl,c8⟩
 | true =>
  have HR:Hid (hZ qs path=match nE path qs with | none=>(false,false) | some s=>if sJ s then (false,false) else (true,pY s)):=by show _=_;unfold hZ;rw [if_pos hm];cases nE path qs<;>rfl
  have rl:mayB (tl (ba path))=true:=hm;rw [rl] at qq;obtain ⟨r,oq⟩:=qX (hZ qs path);rw [oq.o];rw [oq.o] at HR;clear h pu hp hm rl ES;go_enter Tryz.func103,Tryz.ntmps103
  go_wp2_with (fail)
  refine qq.o.mono ?_;rintro e1 w1 ⟨rfl,c8⟩;have ub:=hid c8;clear c8;go_wp2_with (fail)
  go_loopw [6] (fun v wr=>∃j:Nat,v=.int .i64 (j:Int)/\j<=n/\Hid ((qs.take j).any (fun s=>lC s path)=false)/\Hid (qW w wr))
   (fun v _=>n - (intOf v).toNat)
  case atStart=>exact ⟨0,rfl,Nat.zero_le _,by show List.any (List.take 0 qs) _=false;simp,ub.o⟩
  obtain ⟨j,rfl,hj,EA,HB⟩:=hrel;by_cases d8:j < n
  .
   have j4:j < qs.length:=by rw [mo.o];exact d8
   obtain ⟨g,cp,R8,hg,d9⟩:=Ar.at_ (own_below HA.o HB.o) (by omega);rw [mo.o] at R8;simp only [Value.slice.injEq,true_and] at R8;obtain ⟨rfl,rfl⟩:=R8;have c0:=d9 j j4;have XU:(j:Int) < (n:Int):=by omega
   have TP:=L0.o _ (List.getElem_mem j4);have TD:=hid (fun h2=>If (path:=path) j4 EA.o h2);have hta:=hid (fun h2=>pI (f:=fun s=>lC s path) j4 EA.o h2);generalize qs[j]=s at c0 TP TD hta;have vc:=hid (xD s wr);obtain ⟨hl128,pt,hpt⟩:=Pi TP;have TK:=hid TP;have MV:=hid hpt;have HL128:=hid hl128;generalize ba s=X at c0 vc;clear d9 j4 d8 hg TP hpt hl128;go_wp2_with (fail)
   refine vc.o.mono ?_;rintro e2 w2 ⟨⟨nn,f,d,rr,A',l,c',rfl,hrp⟩,a9⟩;obtain ⟨j3,hf,MG,hr,td,un⟩:=hrp pt TK.o MV.o;rw [TK.o];obtain ⟨W0,o6⟩:=qY (w2.alloc (.cells #[.bool nn,.bool f,.bool d,.bool rr,.slice A' l c'] 175));have B0:qW w2 W0:=o6▸qB.alloc qN _;have HX:Hid (Has W0 w2.heap.size 175 #[.bool nn,.bool f,.bool d,.bool rr,.slice A' l c']):=o6▸Has.fresh _ _ _;have my:Hid (qW w W0):=(HB.o.thenG a9).thenG B0;have TQ:=Mb MV.o;have p5:l<=128:=by have:=HL128.o;omega
   have CM:=hid (Kw nn f d rr A' l c' pt.els path W0 (un.stays B0) td p5 (Mw HL128.o MV.o));have FD:Hid (mB rr (hsOf f pt.els) path=lC s path):=by
    show _=_
    unfold lC;rw [MV.o,hf,hr];rfl
   rw [FD.o] at CM;have HN:Hid (sJ s=nn):=by show _=_;unfold sJ;rw [MV.o,j3]
   have HD:Hid (pY s=d):=by show _=_;unfold pY;rw [MV.o,MG]
   clear hrp j3 hf MG hr td un a9 B0 TQ p5 FD
   cases FD:lC s path with
   | true =>
    rw [FD] at CM;have HH:=hid (TD.o FD);have TR:Hid (r=if nn then (false,false) else (true,d)):=by show _=_;rw [HR.o,HH.o];simp only;rw [HN.o,HD.o]
    clear FD;go_wp2_with (first
     | (refine wpList_load_row rfl 175 _ rfl w2.heap.size rfl 175 #[.bool nn,.bool f,.bool d,.bool rr,.slice A' l c'] (0,0) _ (by first | exact HX.o | (rw [o6];exact HX.o)) Tryz.underlying175 rfl Sy ?_)
     | (go_at_call 162;refine CM.o.mono ?_;rintro e3 w3 ⟨rfl,i7⟩))
    have GX:=hid (HX.o.stays i7);have B8:=hid (my.o.thenG i7);have d0:=GX.o.at_ 0;have d2:=GX.o.at_ 2;simp only [List.getElem?_toArray,List.getElem?_cons_zero,List.getElem?_cons_succ] at d0 d2;generalize w2.heap.size=gp at *;clear i7
    cases nn with
    | true =>
     refine qG (S:=fun U=>U.cell? ⟨gp,0,none⟩=some (.bool true)/\U.cell? ⟨gp,2,none⟩=some (.bool d)) (by kernel_rfl) (show w3.drew.cell? _=_/\w3.drew.cell? _=_ from ⟨d0,d2⟩) (fun hS=>?_);refine aG 0 ?_
     iterate 7
      refine qT rfl (by kernel_rfl) ‹_› (fun w a8=>by have q0:=a8.1;have q2:=a8.2;go_simp;with_reducible rfl) ?_;simp only [Act.put,aB,aA,aC,Nat.reduceAdd]
     refine aE ?_;refine qS 7 rfl (by kernel_rfl) ‹_› ?_;simp only [Act.put,aB,aA,aC];refine qS 8 rfl (by kernel_rfl) ‹_› ?_;simp only [Act.put,aB,aA,aC];refine aG 9 ?_
     iterate 3
      refine qT rfl (by kernel_rfl) ‹_› (fun w a8=>by have q0:=a8.1;have q2:=a8.2;go_simp;with_reducible rfl) ?_;simp only [Act.put,aB,aA,aC,Nat.reduceAdd]
     refine aE ?_;refine qM (by kernel_rfl) ?_;go_wp2;go_ret2;exact ⟨by rw [TR.o];rfl,B8.o.drew⟩
    | false =>
     go_region_held (fun U=>U.cell? ⟨gp,0,none⟩=some (.bool false)/\U.cell? ⟨gp,2,none⟩=some (.bool d)) (exact ⟨d0,d2⟩) (fail)
     all_goals go_wp2
     all_goals go_ret2
     all_goals exact ⟨by rw [TR.o];rfl,B8.o.drew⟩
   | false =>
    rw [FD] at CM;have G9:=hid (hta.o FD);clear FD;go_wp2_with (first
     | (refine wpList_load_row rfl 175 _ rfl w2.heap.size rfl 175 #[.bool nn,.bool f,.bool d,.bool rr,.slice A' l c'] (0,0) _ (by first | exact HX.o | (rw [o6];exact HX.o)) Tryz.underlying175 rfl Sy ?_)
     | (go_at_call 162;refine CM.o.mono ?_;rintro e3 w3 ⟨rfl,i7⟩;have B8:=hid (my.o.thenG i7);clear i7))
    exact ⟨⟨j+1,by go_num,by omega,G9.o,B8.o⟩,by simp [intOf];omega⟩
  have XU:¬((j:Int) < (n:Int)):=by omega
  have TR:Hid (r=(false,false)):=by
   have:=EA.o;rw [List.take_of_length_le (by have:=mo.o;omega)] at this;show _=_;rw [HR.o,Ey this]
  clear d8;go_wp2;go_ret2;exact ⟨by rw [TR.o];rfl,HB.o⟩
end Go.Proofs.YtahkcemdbfjilaaGreatDoor.Glob
namespace Go.Proofs.YtahkcemdbfjilaaGreatDoor
open Go.RowKit
def Fj (s:ByteArray) (w:World) (hs:s.size<=4000) :
 qC 102 #[.string s] w fun e w'=>e=.returned (.bool (isTempB (tl s)))/\qW w w':=by
 obtain ⟨r,HR⟩:=qX (ba (aZ (tl s)));have HC:Hid (∀W,qC 161 #[.string s] W fun e w'=>e=.returned (.string r)/\qW W w'):=by intro W;rw [<-HR.o];exact Rf.Ag s W hs
 by_cases h3:(3:Int)<=(r.size:Int)
 .
  have HV:Hid (isTempB (tl s)=(((r.extract 0 3).toList == [126,116,126]))):=by
   show _=_
   rw [isTempB,<-HR.o,aP,gU,aQ,aQ];generalize aZ (tl s)=l;rcases l with _ | ⟨a,_ | ⟨b,_ | ⟨c,l⟩⟩⟩<;>simp [List.isPrefixOf]
   have e:∀u v:UInt8,(u == v)=(v == u):=fun u v=>by rw [Bool.eq_iff_iff,beq_iff_eq,beq_iff_eq];exact ⟨Eq.symm,Eq.symm⟩
   rw [e 126 a,e 116 b,e 126 c]
  go_enter Tryz.func102,Tryz.ntmps102
  go_wp2_with fail
  refine (HC.o _).mono ?_;rintro e1 w1 ⟨rfl,hb⟩;have B1:=hid hb;clear hb;go_wp2;go_ret;exact ⟨aF (by rw [HV.o]),B1.o⟩
 have HV:Hid (isTempB (tl s)=false):=by
  show _=_
  have hl:(aZ (tl s)).length=r.size:=by rw [<-HR.o,aD]
  rw [isTempB];generalize aZ (tl s)=l at hl;rcases l with _ | ⟨a,_ | ⟨b,_ | ⟨c,l⟩⟩⟩<;>simp [List.isPrefixOf]
  simp at hl;omega
 go_enter Tryz.func102,Tryz.ntmps102
 go_wp2_with fail
 refine (HC.o _).mono ?_;rintro e1 w1 ⟨rfl,hb⟩;have B1:=hid hb;clear hb;go_wp2;go_ret;exact ⟨aF HV.o.symm,B1.o⟩
open Go.RowKit Go.Maps
def jk (l:Tr):List By:=(l.filter fun x=>decide (x.2.kind=2)).map (·.1)
structure jt (M:Mo) (root:By) (X:jD):Prop where
 len:X.items.length<=100000
 may:∀x∈X.items,mayB x.1=true
 up:∀i (hi:i < X.items.length),aheadL (X.items[i]).1=[]∨howL (jk (X.items.take i)) (aheadL (X.items[i]).1)≠0
 temp:∀x∈X.items,isTempB x.1=false
 item:∀x∈X.items,itemM M.now root x.1=(0,x.2)
 siz:∀x∈X.items,x.2.data.length<=4096
 one:∀x∈inL M.now root,isL (X.items.map (·.1)) x.1+howL X.temps x.1+howL X.ign x.1+howL X.bad x.1=1
 le:X.items.length<=(inL M.now root).length
 lens:∀k,(lsOf X k).length<=100000
 ps:∀k,∀q∈lsOf X k,q.length<=4000
 inlen:(inL M.now root).length<=100000
 inm:∀x∈inL M.now root,x.1.length<=160
def Yz {ls:List By} {p:By} (h:p∈ls):howL ls p≠0:=by
 unfold howL;have:p∈ls.filter fun q=>decide (q=p)||withinB p q:=List.mem_filter.2 ⟨h,by simp⟩
 intro e;rw [List.length_eq_zero_iff.1 e] at this
 cases this
def Wy {ig:By->Bool} {l:Tr} {k:Nat} {x:At} (h:x∈partF ig l l k):x∈l/\whyB ig x=k:=by
 unfold partF at h;have:=List.mem_filter.1 h;refine ⟨this.1,?_⟩;have h2:=this.2;simp only [Bool.and_eq_true,decide_eq_true_eq] at h2;exact h2.2
def ic {own:Nat->Prop} {w:World} {p:Nat} {M:Mo} (h:Dsk own w p M) (AY:DG M.now) (lo:Option (List By)) (root:By) (hc:fI M.now root=0):jt M root (gC lo M.now root):=by
 unfold gC;rw [if_pos hc];have hW:=yD h.good.w1 root;have hD:=AY.inR root;have f8:(inL M.now root).length<=100000:=by
  obtain ⟨m1,m2,sv,vs,h'⟩:=h;have e1:=h'.tr1.len;have e2:=xS M.now root;omega
 rw [Hf hW hD];generalize hig:igB lo=ig;have hm:∀x∈(fndF ig (inL M.now root) (inL M.now root)).items,x∈inL M.now root/\whyB ig x=0:=fun x hx=>Wy hx
 have KT:∀x,whyB ig x=0->isTempB x.1=false/\eT x.2=false:=fun x hx=>by
  unfold whyB at hx;split at hx
  . omega
  rename_i h1
  split at hx
  . omega
  split at hx
  . omega
  rename_i h3
  exact ⟨by simpa using h1,by simpa using h3⟩
 have TS:∀k,(partF ig (inL M.now root) (inL M.now root) k).length<=100000:=fun k=>Nat.le_trans (List.length_filter_le _ _) f8
 have YG:∀k,∀q∈(partF ig (inL M.now root) (inL M.now root) k).map (·.1),q.length<=4000:=fun k q hq=>by
  obtain ⟨y,hy,rfl⟩:=List.mem_map.1 hq;have:=(aU (mem_may hW (Xz hy))).1;omega
 refine ⟨TS 0,fun x hx=>mem_may hW (hm x hx).1,fun i hi=>?_,fun x hx=>(KT x (hm x hx).2).1,fun x hx=>?_,fun x hx=>?_,fun x hx=>bn hW ig hx,List.length_filter_le _ _,fun k=>?_,fun k q hq=>?_,f8,fun x hx=>(aU (mem_may hW hx)).1⟩
 .
  by_cases h0:aheadL ((fndF ig (inL M.now root) (inL M.now root)).items[i]).1=[]
  . exact .inl h0
  right
  obtain ⟨q,hq,e1,e2⟩:=aw hW ig (pre:=(fndF ig (inL M.now root) (inL M.now root)).items.take i) (rest:=(fndF ig (inL M.now root) (inL M.now root)).items.drop (i+1)) (x:=(fndF ig (inL M.now root) (inL M.now root)).items[i]) (by rw [<-List.drop_eq_getElem_cons hi,List.take_append_drop]) h0;refine Yz ?_;rw [<-e1];exact List.mem_map.2 ⟨q,List.mem_filter.2 ⟨hq,decide_eq_true e2⟩,rfl⟩
 .
  have YH:=Oh.1 (hm x hx).1;have k1:=dS h.good.w1.srt YH;have k2:mayB (root++47 :: x.1)=true:=h.good.w1.may _ (by rw [k1];rfl);unfold itemM;rw [if_pos k2,k1];simp only [(KT x (hm x hx).2).2];rfl
 . have:=(KT x (hm x hx).2).2
   unfold eT at this;simpa using this
 .
  unfold lsOf;split
  . show ((partF _ _ _ 1).map (·.1)).length<=_;rw [List.length_map];exact TS 1
  split
  . show ((partF _ _ _ 2).map (·.1)).length<=_;rw [List.length_map];exact TS 2
  split
  . show ((partF _ _ _ 3).map (·.1)).length<=_;rw [List.length_map];exact TS 3
  exact Nat.zero_le _
 unfold lsOf at hq;split at hq
 . exact YG 1 q hq
 split at hq
 . exact YG 2 q hq
 split at hq
 . exact YG 3 q hq
 cases hq
section
variable {w7 W:World} {b:Nat} {D F:List By} {dv fv:Value}
theorem Gq (W:World) (b:Nat) (v:Value) (L:List By) (h:StrR (b+1) W v L) (hb:b < W.heap.size) (p:By) (hn:L.length<=100000) :
 ∃A c W2,(Builtin.append_ #[34,34] 34 #[v,.slice (some ⟨W.heap.size,0,none⟩) 1 1]).run Tryz.prog (W.alloc (.cells #[kS p] 9))=.ok (.slice A (L.length+1) c) W2 /\
  StrR (b+1) W2 (.slice A (L.length+1) c) (L++[p])/\((Value.slice A (L.length+1) c).ownBlock=v.ownBlock∨(Value.slice A (L.length+1) c).ownBlock=some (W.heap.size+1)) /\
  (∀g,g < W.heap.size->v.ownBlock≠some g->W2.heap[g]? = W.heap[g]?)/\Below (b+1) W W2:=by
 obtain ⟨i0,hi,o7,g8,j5⟩:=info_parts jC;have P5:qW W (W.alloc (.cells #[kS p] 9)):=qB.alloc qN _;have IO:StrR (b+1) (W.alloc (.cells #[kS p] 9)) v L:=h.kq (Kq.of_below P5);obtain ⟨v',W2,hr,ho,hg,_,hv⟩:=run_append_own_at (P:=Tryz.prog) (W.alloc (.cells #[kS p] 9)) (b+1) 34 34 9 i0 (.string ⟨#[]⟩) 1 16 Tryz.underlying34 hi o7 g8 j5 rfl (by decide) v L.length (L.map kS) IO ⟨W.heap.size,0,none⟩ 1 1 [kS p] rfl
  (fun j u hj=>by rw [bY,Nat.zero_add,(Has.fresh W 9 #[kS p]).at_ j,<-Array.getElem?_toList];exact hj) (wS p) (by unfold maxLen;omega) (by omega) (by simp;omega)
 have ny:StrR (b+1) W2 v' (L++[p]):=by unfold StrR;rw [List.length_append,List.map_append];exact ho
 obtain ⟨A,c,rfl⟩:=ny.form;have f8:(L++[p]).length=L.length+1:=by simp
 rw [f8] at hr ny hv;refine ⟨A,c,W2,hr,ny,?_,fun g T9 hn=>(hg.block g (by simp;omega) (fun e=>hn e.symm)).trans (P5.block g T9),?_⟩
 . rcases hv with k | k
   . exact .inl k
   refine .inr ?_;rw [k];simp
 exact (P5.mono (by omega)).grown hg (by simp;omega) (fun g T9=>(World.ownsRow.lt IO g T9).1)
end
open Go.RowKit Go.Maps
structure kX (w0 W:World) (b:Nat) (it:Tr) (ls:Nat->List By) (vi:Value) (vs:Nat->Value):Prop where
 f:Has W b 42 #[vi,vs 1,vs 2,vs 3]
 items:cO (b+1) W vi it
 str:∀k,1<=k->k<=3->StrR (b+1) W (vs k) (ls k)
 ap:∀j k,1<=j->j<=3->1<=k->k<=3->j≠k->∀g,(vs j).ownBlock=some g->(vs k).ownBlock≠some g
 bl:qW w0 W
 lo:w0.heap.size<=b
section
variable {w0 W:World} {b:Nat} {it:Tr} {ls:Nat->List By} {vi:Value} {vs:Nat->Value}
theorem kX.on (h:kX w0 W b it ls vi vs) {W':World} (hb:qW W W'):kX w0 W' b it ls vi vs :=
 ⟨h.f.kept hb h.f.inside,h.items.kq (Kq.of_below hb),fun k h1 h2=>(h.str k h1 h2).kq (Kq.of_below hb),h.ap,h.bl.trans (hb.mono h.bl.size),h.lo⟩
theorem kX.store (h:kX w0 W b it ls vi vs) {W2:World} (i:Nat) (u:Value) {it':Tr} {ls':Nat->List By} {vi':Value} {vs':Nat->Value} (hf:Has W2 b 42 #[vi,vs 1,vs 2,vs 3])
 (hc:(#[vi,vs 1,vs 2,vs 3]:Array Value).setIfInBounds i u=#[vi',vs' 1,vs' 2,vs' 3]) (hi:cO (b+1) W2 vi' it') (hs:∀k,1<=k->k<=3->StrR (b+1) W2 (vs' k) (ls' k))
 (ha:∀j k,1<=j->j<=3->1<=k->k<=3->j≠k->∀g,(vs' j).ownBlock=some g->(vs' k).ownBlock≠some g) (hb:qW w0 W2) :
 kX w0 (W2.setCell ⟨b,i,none⟩ u) b it' ls' vi' vs' where
 f:=by have:=hf.put i u;rw [hc] at this;exact this
 items:=by
  obtain ⟨ps,h1,h2,h3⟩:=hi;refine ⟨ps,h1,row_of h2 fun g hg=>Below.heap_setCell W2 ⟨b,i,none⟩ u g ?_,fun y hy=>⟨row_of (h3 y hy).own fun g hg=>Below.heap_setCell W2 ⟨b,i,none⟩ u g ?_,(h3 y hy).len⟩⟩
  . rintro rfl;exact bN h2 hf (by decide) hg
  rintro rfl;exact bN (h3 y hy).own hf (by decide) hg
 str k h1 h2:=row_of (hs k h1 h2) fun g hg=>Below.heap_setCell W2 ⟨b,i,none⟩ u g (by rintro rfl;exact bN (hs k h1 h2) hf (by decide) hg)
 ap:=ha
 bl:=hb.setCell (p:=⟨b,i,none⟩) h.lo _
 lo:=h.lo
theorem kX.app (h:kX w0 W b it ls vi vs) {k:Nat} (h1:1<=k) (h2:k<=3) (p:By) (hn:(ls k).length<=100000) :
 ∃A c W2,(Builtin.append_ #[34,34] 34 #[vs k,.slice (some ⟨W.heap.size,0,none⟩) 1 1]).run Tryz.prog (W.alloc (.cells #[kS p] 9))=.ok (.slice A ((ls k).length+1) c) W2 /\
  Has W2 b 42 #[vi,vs 1,vs 2,vs 3]/\(∀(g:Nat) (t:TypeId) (cs:Array Value),Has W g t cs->t≠9->Has W2 g t cs)/\qW w0 W2 /\
  kX w0 (W2.setCell ⟨b,k,none⟩ (.slice A ((ls k).length+1) c)) b it (updV ls k (ls k++[p])) vi (updV vs k (.slice A ((ls k).length+1) c)):=by
 obtain ⟨A,c,W2,a1,a2,a3,a4,a5⟩:=Gq W b (vs k) (ls k) (h.str k h1 h2) h.f.inside p hn;have keepH:∀(g:Nat) (t:TypeId) (cs:Array Value),Has W g t cs->t≠9->Has W2 g t cs:=fun g t cs hh ht=>(a4 _ hh.inside (bN (h.str k h1 h2) hh (fun e=>ht e.symm))).trans hh
 have f2:=keepH _ _ _ h.f (by decide);have i2:cO (b+1) W2 vi it:=by
  obtain ⟨ps,e1,e2,e3⟩:=h.items;refine ⟨ps,e1,row_of e2 fun g hg=>a4 g (World.ownsRow.lt e2 g hg).2 (fB e2 (h.str k h1 h2) (by decide) g hg),fun y hy=>⟨row_of (e3 y hy).own fun g hg=>a4 g (World.ownsRow.lt (e3 y hy).own g hg).2 (fB (e3 y hy).own (h.str k h1 h2) (by decide) g hg),(e3 y hy).len⟩⟩
 have hs:∀j,1<=j->j<=3->StrR (b+1) W2 (updV vs k (.slice A ((ls k).length+1) c) j) (updV ls k (ls k++[p]) j):=fun j j1 j2=>by
  by_cases e:j=k
  . subst e;rw [upd_same,upd_same];exact a2
  rw [dM _ _ e,dM _ _ e];exact row_of (h.str j j1 j2) fun g hg=>a4 g (World.ownsRow.lt (h.str j j1 j2) g hg).2 (h.ap j k j1 j2 h1 h2 e g hg)
 have hx:∀j,1<=j->j<=3->j≠k->∀g,(vs j).ownBlock=some g->(Value.slice A ((ls k).length+1) c).ownBlock≠some g:=fun j j1 j2 e g hg mn=>by
  rcases a3 with k1 | k1
  . rw [k1] at mn;exact h.ap j k j1 j2 h1 h2 e g hg mn
  rw [k1] at mn;injection mn with mn;have:=(World.ownsRow.lt (h.str j j1 j2) g hg).2;omega
 have ha:∀i j,1<=i->i<=3->1<=j->j<=3->i≠j->∀g,(updV vs k (.slice A ((ls k).length+1) c) i).ownBlock=some g->(updV vs k (.slice A ((ls k).length+1) c) j).ownBlock≠some g:=by
  intro i j i1 i2 j1 j2 j3 g hg mn;by_cases e:i=k
  . subst e
    rw [upd_same] at hg;rw [dM _ _ (fun e=>j3 e.symm)] at mn;exact hx j j1 j2 (fun e=>j3 e.symm) g mn hg
  rw [dM _ _ e] at hg;by_cases e2:j=k
  . subst e2
    rw [upd_same] at mn;exact hx i i1 i2 e g hg mn
  rw [dM _ _ e2] at mn;exact h.ap i j i1 i2 j1 j2 j3 g hg mn
 have EK:qW w0 W2:=h.bl.trans (a5.mono (by have:=h.lo;omega));exact ⟨A,c,W2,a1,f2,keepH,EK,h.store k _ f2 (Aj vi vs h1 h2 _) i2 hs ha EK⟩
theorem kX.appI (h:kX w0 W b it ls vi vs) (x:At) (bv:Value) (hd:Dgs (b+1) W bv (hasN x.2)) (hn:it.length<=100000) :
 ∃A c W2,(Builtin.append_ #[37,37] 37 #[vi,.slice (some ⟨W.heap.size,0,none⟩) 1 1]).run Tryz.prog (W.alloc (.cells (recN x.1 x.2 bv) 58))=.ok (.slice A (it.length+1) c) W2 /\
  Has W2 b 42 #[vi,vs 1,vs 2,vs 3]/\(∀(g:Nat) (t:TypeId) (cs:Array Value),Has W g t cs->t≠58->Has W2 g t cs)/\qW w0 W2 /\
  kX w0 (W2.setCell ⟨b,0,none⟩ (.slice A (it.length+1) c)) b (it++[x]) ls (.slice A (it.length+1) c) vs:=by
 obtain ⟨ps,za,hP⟩:=h.items;have IU:ps.length=it.length:=by rw [<-za,List.length_map]
 have P5:qW W (W.alloc (.cells (recN x.1 x.2 bv) 58)):=qB.alloc qN _;have WH:jW (b+1) (W.alloc (.cells (recN x.1 x.2 bv) 58)) vi ps:=⟨oW hP.own (Kq.of_below P5),fun y hy=>(hP.dg y hy).kq (Kq.of_below P5)⟩;have hB:=h.f.inside;obtain ⟨v',W2,hr,ho,hg,hv⟩:=wO (W.alloc (.cells (recN x.1 x.2 bv) 58)) (b+1) vi ps WH (x,bv) W.heap.size (Has.fresh _ _ _) (hd.kq (Kq.of_below P5)) (by omega) (by simp;omega) 37;have p6:∀g,g < W.heap.size->vi.ownBlock≠some g->W2.heap[g]? = W.heap[g]?:=fun g T9 hn=>(hg.block g (by simp;omega) (fun e=>hn e.symm)).trans (P5.block g T9)
 have keepH:∀(g:Nat) (t:TypeId) (cs:Array Value),Has W g t cs->t≠58->Has W2 g t cs:=fun g t cs hh ht=>(p6 _ hh.inside (bN hP.own hh (fun e=>ht e.symm))).trans hh
 have dgk:∀(u:Value) (hs:List (List UInt8)),Dgs (b+1) W u hs->Dgs (b+1) W2 u hs:=fun u hs hu=>⟨row_of hu.own fun g hg=>p6 g (World.ownsRow.lt hu.own g hg).2 (fB hu.own hP.own (by decide) g hg),hu.len⟩
 have i2:cO (b+1) W2 v' (it++[x]):=by
  refine ⟨ps++[(x,bv)],by rw [List.map_append,za];rfl,ho,fun y hy=>?_⟩;rcases List.mem_append.1 hy with k | k
  . exact dgk _ _ (hP.dg y k)
  rw [List.mem_singleton] at k;rw [k];exact dgk _ _ hd
 obtain ⟨A,c,rfl⟩:=i2.form;have f8:(it++[x]).length=it.length+1:=by simp
 rw [f8] at hr i2;have f2:=keepH _ _ _ h.f (by decide);have hs:∀j,1<=j->j<=3->StrR (b+1) W2 (vs j) (ls j):=fun j j1 j2=>row_of (h.str j j1 j2) fun g hg=>p6 g (World.ownsRow.lt (h.str j j1 j2) g hg).2 (fB (h.str j j1 j2) hP.own (by decide) g hg)
 have EK:qW w0 W2:=(h.bl.alloc h.bl.size _).grown hg (by have:=h.bl.size;simp;omega) (fun g T9=>by have:=(World.ownsRow.lt hP.own g T9).1;have:=h.lo;omega);exact ⟨A,c,W2,hr,f2,keepH,EK,h.store 0 _ f2 rfl i2 hs h.ap EK⟩
end
open Go.RowKit Go.Maps
def nK (qs:List By) (p:By):Bool:=(Glob.hZ qs p).1
def Vq {B:Nat} {w:World} {pv:Value} {qs:List By} (hP:Glob.Ar B w pv qs) (hn:qs.length<=64) (pu:∀s∈qs,Glob.perr s=0) (x:At) (hx:mayB x.1=true) (hk:x.2.kind≠1->x.2.data=[]) :
 qC 56 #[.agg (atCells x),pv] w fun e w'=>e=.returned (.int .i64 ((whyB (nK qs) x:Nat):Int))/\qW w w':=by
 obtain ⟨p,⟨kd,dt,tg,tm⟩⟩:=x;dsimp only at hx hk;have y7:p.length<=160:=(aU hx).1;have CT:Hid (∀W,qC 102 #[kS p] W fun e w'=>e=.returned (.bool (isTempB p))/\qW W w'):=fun W=>by
  have:=Fj (ba p) W (by rw [aD];omega);rw [aQ] at this;exact this
 obtain ⟨d2,MW⟩:=qX ((Glob.hZ qs p).2);have CM:Hid (∀W,qW w W->qC 103 #[pv,kS p] W fun e w'=>e=.returned (.tuple #[.bool (nK qs p),.bool d2])/\qW W w'):=fun W hW=>by
  have:=Glob.Fm B pv qs p W (Glob.own_below hP hW) hn pu (by omega);rw [MW.o] at this;exact this
 have hb:eT ⟨kd,dt,tg,tm⟩=(decide (kd=1)&&decide (4096 < dt.length)):=by
  unfold eT;by_cases h1:kd=1
  . simp [h1]
  have:=hk h1;simp [h1,this]
 have HW:Hid (whyB (nK qs) (p,⟨kd,dt,tg,tm⟩)=if isTempB p then 1 else if nK qs p then 2 else if (decide (kd=1)&&decide (4096 < dt.length)) then 3 else 0):=by
  show _=_
  unfold whyB;rw [hb]
 obtain ⟨A,c,rfl⟩:=Glob.aO hP;obtain ⟨W0,o6⟩:=qY (w.alloc (.cells (atCells (p,⟨kd,dt,tg,tm⟩)) 73));have b0:qW w W0:=o6▸qB.alloc qN _;have X0:Hid (Has W0 w.heap.size 73 #[kS p,.int .i64 kd,kS dt,kS tg,.int .i64 tm]):=by rw [<-o6];exact Has.fresh _ _ _
 have B0:=hid b0;have x0:=X0.o.at_ 0;have zd:(ba dt).size=dt.length:=aD dt;generalize nK qs p=b2 at CM HW;generalize isTempB p=b1 at CT HW;obtain ⟨r,HR⟩:=qX (whyB (nK qs) (p,⟨kd,dt,tg,tm⟩));rw [HR.o] at HW ⊢;clear hP hn pu hx hk hb b0;unfold atCells at o6 ⊢;dsimp only at o6 ⊢;go_enter Tryz.func56,Tryz.ntmps56
 go_wp2_with fail
 try rw [o6]
 refine (CT.o _).mono ?_;rintro e1 w1 ⟨rfl,c8⟩;have B1:Hid (qW w w1):=B0.o.trans (c8.mono B0.o.size);have X1:=hid (X0.o.kept c8 X0.o.inside);clear c8 x0 o6
 cases b1 with
 | true =>
  have HE:Hid (r=1):=by have:=HW.o;rw [if_pos rfl] at this;exact this
  go_wp2;go_ret;rw [HE.o];exact ⟨rfl,B1.o⟩
 | false =>
  have uz:Hid (r=if b2 then 2 else if (decide (kd=1)&&decide (4096 < dt.length)) then 3 else 0):=by have:=HW.o;rw [if_neg (by decide)] at this;exact this
  have x0:=X1.o.at_ 0;go_wp2_with fail
  refine (CM.o _ B1.o).mono ?_;rintro e2 w2 ⟨rfl,a9⟩;have B2:Hid (qW w w2):=B1.o.trans (a9.mono B1.o.size);have X2:=hid (X1.o.kept a9 X1.o.inside);clear a9 x0
  cases b2 with
  | true =>
   have HE:Hid (r=2):=by have:=uz.o;rw [if_pos rfl] at this;exact this
   go_wp2;go_ret;rw [HE.o];exact ⟨rfl,B2.o⟩
  | false =>
   have qw:Hid (r=if (decide (kd=1)&&decide (4096 < dt.length)) then 3 else 0):=by have:=uz.o;rw [if_neg (by decide)] at this;exact this
   have x1:w2.cell? ⟨w.heap.size,1,none⟩=some (.int .i64 kd):=X2.o.at_ 1;have x2:w2.cell? ⟨w.heap.size,2,none⟩=some (kS dt):=X2.o.at_ 2;by_cases h1:kd=1
   .
    by_cases h2:4096 < dt.length
    .
     have HE:Hid (r=3):=by have:=qw.o;rw [if_pos (by simp [h1,h2])] at this;exact this
     have h3:(4096:Int) < (dt.length:Int):=by omega
     subst h1;clear h2;go_wp2;go_ret;rw [HE.o];exact ⟨rfl,B2.o⟩
    have HE:Hid (r=0):=by have:=qw.o;rw [if_neg (by simp [h2])] at this;exact this
    have h3:¬(4096:Int) < (dt.length:Int):=by omega
    subst h1;clear h2;go_wp2;go_ret;rw [HE.o];exact ⟨rfl,B2.o⟩
   have HE:Hid (r=0):=by have:=qw.o;rw [if_neg (by simp [h1])] at this;exact this
   have h3:(kd == 1)=false:=by simpa using h1
   go_wp2;go_ret;rw [HE.o];exact ⟨rfl,B2.o⟩
end Go.Proofs.YtahkcemdbfjilaaGreatDoor
