/- Texts. Conditions: as said. -/
import Derived.Test.YtahkcemdbfjilaaGreatDoorFj00
import Derived.Test.YtahkcemdbfjilaaGreatDoorFj01
import Derived.Maps.OwnSet
import Derived.Maps.RangeWalk
import Derived.Sort.KeysCollected
import Derived.WideKeyEntry
import Derived.Shelf.SlMaps.Clone
set_option linter.all false
set_option maxRecDepth 100000
set_option maxHeartbeats 32000000
namespace Go.Proofs.YtahkcemdbfjilaaGreatDoor
open Go.RowKit
def Im (s:ByteArray) (h:mayB (tl s)=false) (w:World) (hG:Gd w) (hs:s.size<=4000) :
 qC 74 #[.string s] w fun e w'=>e=.returned (.agg #[.string ⟨#[]⟩,.string ⟨#[]⟩])/\qW w w':=by
 have:=Di s w hG hs;rw [lJ h] at this;exact this
def Cp (s a b:ByteArray) (h:Hid (mayB (tl s)=true/\ba (aheadL (tl s))=a/\ba (aZ (tl s))=b)) (w:World) (hG:Gd w) (hs:s.size<=4000) :
 qC 74 #[.string s] w fun e w'=>e=.returned (.agg #[.string a,.string b])/\qW w w':=by
 have:=Di s w hG hs;rw [iT h.o.1,kj,h.o.2.1,h.o.2.2] at this;exact this
def Io {s b:ByteArray} (h:mayB (tl s)=true) (hb:ba (aZ (tl s))=b):¬b.toList=[]:=by
 rw [aP,<-hb,aQ];exact Ou h
def lI (s:ByteArray) (w:World) (hG:Gd w) (hs:s.size<=4000) :
 qC 99 #[.string s] w fun e w'=>e=.returned (.bool (mayB (tl s)))/\qW w w':=by
 have HG:=hid hG;clear hG
 cases hm:mayB (tl s) with
 | false =>
  have HM:=hid hm;clear hm;go_enter Tryz.func99,Tryz.ntmps99
  go_wp2_with (go_at_call 74;refine (Im s HM.o _ HG.o hs).mono ?_;rintro e1 w1 ⟨rfl,c8⟩;have B1:=hid c8;clear c8)
  go_ret;exact ⟨rfl,B1.o⟩
 | true =>
  obtain ⟨a,b,HV⟩:∃a b,Hid (mayB (tl s)=true/\ba (aheadL (tl s))=a/\ba (aZ (tl s))=b):=⟨_,_,hm,rfl,rfl⟩;have hb:¬b.toList=[]:=Io hm HV.o.2.2;clear hm;by_cases ha:a.toList=[]
  all_goals
   go_enter Tryz.func99,Tryz.ntmps99
   go_wp2_with (go_at_call 74;refine (Cp s a b HV _ HG.o hs).mono ?_;rintro e1 w1 ⟨rfl,c8⟩;have B1:=hid c8;clear c8)
   go_ret;exact ⟨rfl,B1.o⟩
def Kx (s:ByteArray) (w:World) (hG:Gd w) (hs:s.size<=4000) :
 qC 31 #[.string s] w fun e w'=>e=.returned (.tuple #[.string (ba (kZ (tl s)).1),.bool (mayB (tl s))])/\qW w w':=by
 have HG:=hid hG;clear hG
 cases hm:mayB (tl s) with
 | false =>
  have HM:=hid hm;have HF:=hid (lJ hm);clear hm;go_enter Tryz.func31,Tryz.ntmps31
  go_wp2_with (go_at_call 74;refine (Im s HM.o _ HG.o hs).mono ?_;rintro e1 w1 ⟨rfl,c8⟩;have B1:=hid c8;clear c8)
  go_quiet (fail)
  go_wp2;go_ret2;exact ⟨by rw [HF.o];rfl,(B1.o.alloc B1.o.size _).drewN' _⟩
 | true =>
  obtain ⟨a,b,HV⟩:∃a b,Hid (mayB (tl s)=true/\ba (aheadL (tl s))=a/\ba (aZ (tl s))=b):=⟨_,_,hm,rfl,rfl⟩;have hb:¬b.toList=[]:=Io hm HV.o.2.2;have HF:=hid (iT hm);clear hm;by_cases ha:a.toList=[]
  all_goals
   go_enter Tryz.func31,Tryz.ntmps31
   go_wp2_with (go_at_call 74;refine (Cp s a b HV _ HG.o hs).mono ?_;rintro e1 w1 ⟨rfl,c8⟩;have B1:=hid c8;clear c8)
   go_quiet (fail)
   go_wp2;go_ret2;exact ⟨by rw [HF.o];simp only [HV.o.2.1];rfl,(B1.o.alloc B1.o.size _).drewN' _⟩
def withinB (p d:List UInt8):Bool:=if d=[] then mayB p else mayB p&&mayB d&&(d++[47]).isPrefixOf p
def uN (s p:ByteArray) (w:World):qC 75 #[.string s,.string p] w fun e w'=>e=.returned (.bool (Lib.hasPrefix (tl s) (tl p)))/\w=w' :=
 (Tryz.strings_HasPrefix s p w).mono fun _ _ ⟨a,b⟩=>⟨a,b.symm⟩
def mO (p d:ByteArray) (w:World) (hG:Gd w) (hp:p.size<=4000) (hd:d.size<=4000) :
 qC 51 #[.string p,.string d] w fun e w'=>e=.returned (.bool (withinB (tl p) (tl d)))/\qW w w':=by
 have HG:=hid hG;clear hG;by_cases h0:d.toList=[]
 .
  have HW:Hid (withinB (tl p) (tl d)=mayB (tl p)):=by show _=_;rw [withinB,if_pos (by rw [<-aP,h0])]
  go_enter Tryz.func51,Tryz.ntmps51
  go_wp2_with (go_at_call 99;refine (lI p _ HG.o hp).mono ?_;rintro e1 w1 ⟨rfl,c8⟩;have B1:=hid c8;clear c8)
  go_ret;exact ⟨by rw [HW.o];rfl,B1.o⟩
 have h0':d.toList.isEmpty=false:=by simpa using h0
 have HW:Hid (withinB (tl p) (tl d)=(mayB (tl p)&&mayB (tl d)&&(tl d++[47]).isPrefixOf (tl p))):=by show _=_;rw [withinB,if_neg (by rw [<-aP];exact h0)]
 cases h1:mayB (tl p) with
 | false =>
  have M1:Hid (∀W,Gd W->qC 99 #[.string p] W fun e w'=>e=.returned (.bool false)/\qW W w'):=by
   intro W h;rw [<-h1];exact lI p W h hp
  have H1:=hid h1;clear h1;go_enter Tryz.func51,Tryz.ntmps51
  go_wp2_with (go_at_call 99;refine (M1.o _ HG.o).mono ?_;rintro e1 w1 ⟨rfl,c8⟩;have B1:=hid c8;clear c8)
  go_ret;exact ⟨by rw [HW.o,H1.o];rfl,B1.o⟩
 | true =>
  have M1:Hid (∀W,Gd W->qC 99 #[.string p] W fun e w'=>e=.returned (.bool true)/\qW W w'):=by
   intro W h;rw [<-h1];exact lI p W h hp
  have H1:=hid h1;clear h1
  cases h2:mayB (tl d) with
  | false =>
   have M2:Hid (∀W,Gd W->qC 99 #[.string d] W fun e w'=>e=.returned (.bool false)/\qW W w'):=by
    intro W h;rw [<-h2];exact lI d W h hd
   have H2:=hid h2;clear h2;go_enter Tryz.func51,Tryz.ntmps51
   go_wp2_with fail
   refine (M1.o _ HG.o).mono ?_;rintro e1 w1 ⟨rfl,c8⟩;have B1:=hid c8;clear c8;go_wp2_with fail
   refine (M2.o _ (HG.o.kept B1.o)).mono ?_;rintro e2 w2 ⟨rfl,a9⟩;have B2:Hid (qW w w2):=B1.o.trans (a9.mono B1.o.size);clear a9;go_wp2;go_ret;exact ⟨by rw [HW.o,H1.o,H2.o];rfl,B2.o⟩
  | true =>
   have M2:Hid (∀W,Gd W->qC 99 #[.string d] W fun e w'=>e=.returned (.bool true)/\qW W w'):=by
    intro W h;rw [<-h2];exact lI d W h hd
   have H2:=hid h2;clear h2;go_enter Tryz.func51,Tryz.ntmps51
   go_wp2_with fail
   refine (M1.o _ HG.o).mono ?_;rintro e1 w1 ⟨rfl,c8⟩;have B1:=hid c8;clear c8;go_wp2_with fail
   refine (M2.o _ (HG.o.kept B1.o)).mono ?_;rintro e2 w2 ⟨rfl,a9⟩;have B2:Hid (qW w w2):=B1.o.trans (a9.mono B1.o.size);clear a9;go_wp2_with fail
   refine (uN p _ _).mono ?_;rintro e3 w3 ⟨rfl,rfl⟩;go_wp2;go_ret;refine ⟨?_,B2.o⟩;rw [HW.o,H1.o,H2.o];rfl
def xM (l:List UInt8):(aheadL l).length<=l.length:=by rw [aheadL,List.length_take];omega
def cmpL_vals (a b:List UInt8):cmpL a b = -1∨cmpL a b=0∨cmpL a b=1:=by
 fun_induction cmpL a b<;>simp_all
def Ni {x y:UInt8} (h:rk x=rk y):x=y:=by
 unfold rk at h;split at h<;>split at h
 . simp_all
 . omega
 . omega
 exact UInt8.toNat_inj.1 (by omega)
def fE (a:List UInt8):cmpL a a=0:=by
 induction a with
 | nil=>rfl
 | cons x a ih=>rw [cmpL,if_pos rfl,ih]
def kG (a b:List UInt8):cmpL b a = -cmpL a b:=by
 induction a generalizing b with
 | nil=>cases b<;>simp [cmpL]
 | cons x a ih =>
  cases b with
  | nil=>simp [cmpL]
  | cons y b =>
   rw [cmpL,cmpL];by_cases h:x=y
   . subst h;rw [if_pos rfl,if_pos rfl,ih]
   rw [if_neg h,if_neg (Ne.symm h)];have:rk x≠rk y:=fun e=>h (Ni e)
   split<;>split<;>first | omega | rfl
def rT (a b:List UInt8):cmpL a b=0↔a=b:=by
 constructor
 .
  intro h;induction a generalizing b with
  | nil=>cases b<;>simp [cmpL] at h ⊢
  | cons x a ih =>
   cases b with
   | nil=>simp [cmpL] at h
   | cons y b =>
    rw [cmpL] at h;split at h
    . rename_i e;rw [e,ih b h]
    split at h<;>simp at h
 rintro rfl;exact fE a
def pU (a b c:List UInt8) (h1:cmpL a b = -1) (h2:cmpL b c = -1):cmpL a c = -1:=by
 induction a generalizing b c with
 | nil =>
  cases c with
  | nil=>cases b<;>simp [cmpL] at h1 h2
  | cons z c=>rfl
 | cons x a ih =>
  cases b with
  | nil=>simp [cmpL] at h1
  | cons y b =>
   cases c with
   | nil=>simp [cmpL] at h2
   | cons z c =>
    rw [cmpL] at h1 h2 ⊢;by_cases h:x=y
    . subst h
      rw [if_pos rfl] at h1;by_cases h':x=z
      . subst h';rw [if_pos rfl] at h2 ⊢;exact ih b c h1 h2
      rw [if_neg h'] at h2 ⊢;exact h2
    rw [if_neg h] at h1;by_cases h':y=z
    . subst h';rw [if_neg h];exact h1
    rw [if_neg h'] at h2;have l1:rk x < rk y:=by split at h1;assumption;simp at h1
    have l2:rk y < rk z:=by split at h2;assumption;simp at h2
    have j3:x≠z:=by rintro rfl;omega
    rw [if_neg j3,if_pos (by omega)]
def uX (d r:List UInt8):cmpL d (d++47 :: r) = -1:=by
 induction d with
 | nil=>rfl
 | cons x d ih=>rw [List.cons_append,cmpL,if_pos rfl,ih]
def Ch (d q r:List UInt8) (h1:cmpL d q = -1) (h2:cmpL q (d++47 :: r) = -1):∃r',q=d++47 :: r':=by
 induction d generalizing q with
 | nil =>
  cases q with
  | nil=>simp [cmpL] at h1
  | cons y q =>
   rw [List.nil_append,cmpL] at h2;split at h2
   . rename_i e;exact ⟨q,by rw [e];rfl⟩
   have:rk 47=0:=rfl;split at h2
   . omega
   simp at h2
 | cons x d ih =>
  cases q with
  | nil=>simp [cmpL] at h1
  | cons y q =>
   rw [cmpL] at h1;rw [List.cons_append,cmpL] at h2;by_cases h:x=y
   . subst h
     rw [if_pos rfl] at h1 h2;obtain ⟨r',rfl⟩:=ih q h1 h2;exact ⟨r',rfl⟩
   rw [if_neg h] at h1;rw [if_neg (Ne.symm h)] at h2;have l1:rk x < rk y:=by split at h1;assumption;simp at h1
   have l2:rk y < rk x:=by split at h2;assumption;simp at h2
   omega
def Bw {d p:List UInt8} (h:(d++[47]).isPrefixOf p=true):∃r,p=d++47 :: r:=by
 obtain ⟨r,hr⟩:=List.isPrefixOf_iff_prefix.1 h;exact ⟨r,by rw [<-hr];simp⟩
def lQ (d r:List UInt8):(d++[47]).isPrefixOf (d++47 :: r)=true :=
 List.isPrefixOf_iff_prefix.2 ⟨r,by simp⟩
def nG:mayB []=false:=by decide +kernel
def dI {p d:List UInt8} (hd:mayB d=true) (h:withinB p d=true):∃r,p=d++47 :: r:=by
 have h0:d≠[]:=by rintro rfl;rw [nG] at hd;cases hd
 rw [withinB,if_neg h0] at h;simp only [Bool.and_eq_true] at h;exact Bw h.2
def iY {p d:List UInt8} (hp:mayB p=true) (hd:mayB d=true) (h:∃r,p=d++47 :: r):withinB p d=true:=by
 have h0:d≠[]:=by rintro rfl;rw [nG] at hd;cases hd
 obtain ⟨r,hr⟩:=h;rw [withinB,if_neg h0,hp,hd,hr,lQ];rfl
def split_last (l:List UInt8):pieces l=[l]∨∃a b,l=a++47 :: b/\pieces l=pieces a++[b]:=by
 induction l with
 | nil=>exact .inl rfl
 | cons c l ih =>
  by_cases hc:c=47
  . subst hc
    rcases ih with h | ⟨a,b,h1,h2⟩
    . exact .inr ⟨[],l,rfl,by rw [show pieces (47 :: l)=[] :: pieces l by rw [pieces,if_pos rfl],h];rfl⟩
    exact .inr ⟨47 :: a,b,by rw [h1];rfl,by rw [pieces,if_pos rfl,h2,pieces,if_pos rfl];rfl⟩
  rcases ih with h | ⟨a,b,h1,h2⟩
  . exact .inl (by rw [pieces,if_neg hc,h])
  refine .inr ⟨c :: a,b,by rw [h1];rfl,?_⟩;rw [pieces,if_neg hc,h2,pieces,if_neg hc]
  cases hp:pieces a with
  | nil=>exact absurd hp (cB a)
  | cons p ps=>rfl
def sF {l:List UInt8} (h:pieces l=[l]):aZ l=l:=by
 have:∀(ps:List (List UInt8)) (j3:ps≠[]),ps=[l]->ps.getLast j3=l:=by rintro ps j3 rfl;rfl
 exact this _ _ h
def sA {l a b:List UInt8} (h:pieces l=pieces a++[b]):aZ l=b:=by
 have:∀(ps:List (List UInt8)) (j3:ps≠[]),ps=pieces a++[b]->ps.getLast j3=b:=by rintro ps j3 rfl;simp
 exact this _ _ h
def pP {l:List UInt8} (h:pieces l=[l]):aheadL l=[]:=by rw [aheadL,sF h];simp
def mQ {l a b:List UInt8} (h1:l=a++47 :: b) (h:pieces l=pieces a++[b]):aheadL l=a:=by
 rw [aheadL,sA h,h1,List.length_append,List.length_cons,show a.length+(b.length+1) - b.length - 1=a.length by omega,List.take_left]
def aU {l:List UInt8} (h:mayB l=true):l.length<=160/\(pieces l).length<=6/\(pieces l).all nameB=true/\(aheadL l).length<=111:=by
 unfold mayB jS at h;simp only [Bool.and_eq_true,decide_eq_true_eq] at h;exact ⟨h.1.1,h.1.2.1,h.1.2.2,h.2⟩
def Nv {l:List UInt8} (h1:l.length<=160) (h2:(pieces l).length<=6) (h3:(pieces l).all nameB=true) (h4:(aheadL l).length<=111):mayB l=true:=by
 unfold mayB jS;simp only [Bool.and_eq_true,decide_eq_true_eq];exact ⟨⟨h1,h2,h3⟩,h4⟩
def may_split {l:List UInt8} (h:mayB l=true):(aheadL l=[]/\aZ l=l/\(pieces l).length=1)∨(aheadL l≠[]/\l=aheadL l++47 :: aZ l/\mayB (aheadL l)=true/\withinB l (aheadL l)=true):=by
 obtain ⟨h1,h2,h3,h4⟩:=aU h;rcases split_last l with e | ⟨a,b,e1,e2⟩
 . exact .inl ⟨pP e,sF e,by rw [e];rfl⟩
 right
 have ha:=mQ e1 e2;have hb:=sA e2;rw [e2,List.all_append] at h3;simp only [Bool.and_eq_true] at h3;have j3:a≠[]:=by
  rintro rfl;have:=h3.1;simp [pieces,nameB,iA] at this
 rw [ha] at h4 ⊢;have hm:mayB a=true:=Nv (by omega) (by rw [e2,List.length_append] at h2;omega) h3.1 (Nat.le_trans (xM a) h4);exact ⟨j3,by rw [hb];exact e1,hm,iY h hm ⟨b,e1⟩⟩
abbrev By:=List UInt8
structure Nd where
 kind:Int
 data:By
 target:By
 time:Int
abbrev Tr:=List (By × Nd)
def look:Tr->By->Option Nd
 | [],_=>none
 | (q,n) :: L,p=>if q=p then some n else look L p
def del (L:Tr) (p:By):Tr:=L.filter fun x=>decide (x.1≠p)
def bA (p:By) (n:Nd):Tr->Tr
 | []=>[(p,n)]
 | (q,m) :: L=>if cmpL p q<=0 then (p,n) :: del ((q,m) :: L) p else (q,m) :: bA p n L
def jI (n:Nd):Nat:=64+n.data.length
def usedL:Tr->Nat
 | []=>0
 | (_,n) :: L=>jI n+usedL L
def useP (L:Tr) (p:By):Nat:=match look L p with | some n=>jI n | none=>0
def cZ (L:Tr):Prop:=L.Pairwise fun a b=>cmpL a.1 b.1 = -1
def iO {L:Tr} {p:By}:look L p=none↔∀x∈L,x.1≠p:=by
 induction L with
 | nil=>simp [look]
 | cons a L ih =>
  obtain ⟨q,n⟩:=a;rw [look];by_cases h:q=p
  . simp [h]
  rw [if_neg h,ih];simp [h]
def look_mem {L:Tr} {p:By} {n:Nd} (h:look L p=some n):(p,n)∈L:=by
 induction L with
 | nil=>cases h
 | cons a L ih =>
  obtain ⟨q,m⟩:=a;rw [look] at h;split at h
  . rename_i e;obtain rfl:=e;cases h;exact List.mem_cons_self
  exact List.mem_cons_of_mem _ (ih h)
def kJ {a b:By} (h:cmpL a b = -1):a≠b:=by rintro rfl;rw [fE] at h;cases h
def dS {L:Tr} (hs:cZ L) {p:By} {n:Nd} (h:(p,n)∈L):look L p=some n:=by
 induction L with
 | nil=>cases h
 | cons a L ih =>
  obtain ⟨q,m⟩:=a;rw [look];obtain ⟨h1,h2⟩:=List.pairwise_cons.1 hs;rcases List.mem_cons.1 h with e | e
  . injection e with e1 e2;rw [if_pos e1.symm,e2]
  rw [if_neg (kJ (h1 _ e)),ih h2 e]
def dF (L:Tr) (p q:By):look (del L p) q=if q=p then none else look L q:=by
 induction L with
 | nil=>simp [del,look]
 | cons a L ih =>
  obtain ⟨x,m⟩:=a;unfold del at ih ⊢;by_cases h:x=p
  . rw [List.filter_cons,if_neg (by simp [h]),ih,look]
    by_cases e:q=p
    . rw [if_pos e,if_pos e]
    rw [if_neg e,if_neg e,if_neg (by rw [h];exact fun k=>e k.symm)]
  rw [List.filter_cons,if_pos (by simp [h]),look,look,ih];by_cases e:x=q
  . rw [if_pos e,if_pos e,if_neg (by rw [<-e];exact h)]
  rw [if_neg e,if_neg e]
def gK (p:By) (n:Nd) (L:Tr) (q:By):look (bA p n L) q=if q=p then some n else look L q:=by
 induction L with
 | nil=>simp only [bA,look,eq_comm]
 | cons a L ih =>
  obtain ⟨x,m⟩:=a;rw [bA];by_cases h:cmpL p x<=0
  . rw [if_pos h,look,dF]
    by_cases e:q=p
    . rw [if_pos e.symm,if_pos e]
    rw [if_neg (fun k=>e k.symm),if_neg e,if_neg e]
  rw [if_neg h,look,ih,look];have j3:x≠p:=by rintro rfl;rw [fE] at h;exact h (Int.le_refl 0)
  by_cases e:x=q
  . rw [if_pos e,if_pos e,if_neg (by rw [<-e];exact j3)]
  rw [if_neg e,if_neg e]
def mU {L:Tr} (h:cZ L) (p:By):cZ (del L p):=h.filter _
def mem_ins {p:By} {n:Nd} {L:Tr} {x:By × Nd} (h:x∈bA p n L):x=(p,n)∨x∈L:=by
 induction L with
 | nil=>rw [bA] at h;simp at h;exact .inl h
 | cons a L ih =>
  obtain ⟨q,m⟩:=a;rw [bA] at h;split at h
  . rcases List.mem_cons.1 h with e | e
    . exact .inl e
    exact .inr (List.mem_filter.1 e).1
  rcases List.mem_cons.1 h with e | e
  . exact .inr (by rw [e];exact List.mem_cons_self)
  rcases ih e with e | e
  . exact .inl e
  exact .inr (List.mem_cons_of_mem _ e)
def tT {L:Tr} (h:cZ L) (p:By) (n:Nd):cZ (bA p n L):=by
 induction L with
 | nil=>exact List.pairwise_singleton _ _
 | cons a L ih =>
  obtain ⟨q,m⟩:=a;obtain ⟨h1,h2⟩:=List.pairwise_cons.1 h;rw [bA];split
  .
   rename_i hc
   refine List.pairwise_cons.2 ⟨?_,mU h p⟩;intro x hx;obtain ⟨hm,j3⟩:=List.mem_filter.1 hx;have j3:x.1≠p:=by simpa using j3
   have hpq:cmpL p q = -1∨p=q:=by
    rcases cmpL_vals p q with e | e | e
    . exact .inl e
    . exact .inr ((rT _ _).1 e)
    omega
   rcases List.mem_cons.1 hm with e | e
   . rcases hpq with k | k
     . rw [e];exact k
     exact absurd (by rw [e,k]) j3
   rcases hpq with k | k
   . exact pU _ _ _ k (h1 _ e)
   rw [k];exact h1 _ e
  rename_i hc
  refine List.pairwise_cons.2 ⟨?_,ih h2⟩;intro x hx;rcases mem_ins hx with e | e
  . rw [e]
    have:=kG p q;rcases cmpL_vals p q with k | k | k<;>(show cmpL q p = -1)<;>omega
  exact h1 _ e
def head_least {q:By} {m:Nd} {L:Tr} (h:cZ ((q,m) :: L)) {p:By} {n:Nd} (hp:look ((q,m) :: L) p=some n):p=q∨cmpL q p = -1:=by
 rcases List.mem_cons.1 (look_mem hp) with e | e
 . injection e with e1 _;exact .inl e1
 exact .inr ((List.pairwise_cons.1 h).1 _ e)
def Vv {L K:Tr} (hl:cZ L) (hk:cZ K) (h:∀p,look L p=look K p):L=K:=by
 induction L generalizing K with
 | nil =>
  cases K with
  | nil=>rfl
  | cons b K=>obtain ⟨r,m⟩:=b;have:=h r;rw [look,look,if_pos rfl] at this;cases this
 | cons a L ih =>
  obtain ⟨q,n⟩:=a
  cases K with
  | nil=>have:=h q;rw [look,look,if_pos rfl] at this;cases this
  | cons b K =>
   obtain ⟨r,m⟩:=b;have e1:look ((r,m) :: K) q=some n:=by rw [<-h,look,if_pos rfl]
   have e2:look ((q,n) :: L) r=some m:=by rw [h,look,if_pos rfl]
   have hqr:q=r:=by
    rcases head_least hk e1 with e | e
    . exact e
    rcases head_least hl e2 with k | k
    . exact k.symm
    have:=kG q r;rw [e,k] at this;cases this
   subst hqr;rw [look,if_pos rfl] at e1;injection e1 with e1;subst e1;obtain ⟨l1,l2⟩:=List.pairwise_cons.1 hl;obtain ⟨k1,k2⟩:=List.pairwise_cons.1 hk;rw [ih l2 k2 (fun p=>by
    have hp:=h p;rw [look,look] at hp;by_cases e:q=p
    . subst e
      rw [iO.2 (fun x hx=>(kJ (l1 x hx)).symm),iO.2 (fun x hx=>(kJ (k1 x hx)).symm)]
    rw [if_neg e,if_neg e] at hp;exact hp)]
def Do {L:Tr} {p:By} (h:look L p=none):del L p=L:=by
 unfold del;rw [List.filter_eq_self];intro x hx;simpa using iO.1 h x hx
def nL {L:Tr} (h:cZ L) (p:By):usedL (del L p)+useP L p=usedL L:=by
 induction L with
 | nil=>rfl
 | cons a L ih =>
  obtain ⟨q,n⟩:=a;obtain ⟨h1,h2⟩:=List.pairwise_cons.1 h;have ih:=ih h2;by_cases e:q=p
  .
   subst e;have hn:look L q=none:=iO.2 (fun x hx=>(kJ (h1 x hx)).symm);have:del ((q,n) :: L) q=L:=by
    show List.filter _ _=_
    rw [List.filter_cons,if_neg (by simp)];exact Do hn
   rw [this,usedL,useP,look,if_pos rfl];simp only;omega
  have h3:del ((q,n) :: L) p=(q,n) :: del L p:=by
   show List.filter _ _=_
   rw [List.filter_cons,if_pos (by simpa using e)];rfl
  have h4:useP ((q,n) :: L) p=useP L p:=by rw [useP,useP,look,if_neg e]
  rw [h3,h4,usedL,usedL];omega
def jV {L:Tr} (h:cZ L) (p:By) (n:Nd):usedL (bA p n L)+useP L p=usedL L+jI n:=by
 induction L with
 | nil=>simp [bA,usedL,useP,look]
 | cons a L ih =>
  obtain ⟨q,m⟩:=a;obtain ⟨h1,h2⟩:=List.pairwise_cons.1 h;have ih:=ih h2;rw [bA];split
  . have:=nL h p
    rw [usedL];omega
  rename_i hc
  have e:q≠p:=by rintro rfl;rw [fE] at hc;exact hc (Int.le_refl 0)
  have h4:useP ((q,m) :: L) p=useP L p:=by rw [useP,useP,look,if_neg e]
  rw [h4,usedL,usedL];omega
def ao {L:Tr} (h:cZ L) (p:By):useP L p<=usedL L:=by have:=nL h p;omega
def dd {L:Tr} (h:cZ L) (p:By):(del L p).length=if (look L p).isSome then L.length - 1 else L.length:=by
 induction L with
 | nil=>rfl
 | cons a L ih =>
  obtain ⟨q,n⟩:=a;obtain ⟨h1,h2⟩:=List.pairwise_cons.1 h;have ih:=ih h2;by_cases e:q=p
  .
   subst e;have hn:look L q=none:=iO.2 (fun x hx=>(kJ (h1 x hx)).symm);have:del ((q,n) :: L) q=L:=by
    show List.filter _ _=_
    rw [List.filter_cons,if_neg (by simp)];exact Do hn
   rw [this,look,if_pos rfl];simp
  have h3:del ((q,n) :: L) p=(q,n) :: del L p:=by
   show List.filter _ _=_
   rw [List.filter_cons,if_pos (by simpa using e)];rfl
  rw [h3,look,if_neg e,List.length_cons,ih]
  cases hl:look L p with
  | none=>simp
  | some m =>
   have:0 < L.length:=List.length_pos_of_mem (look_mem hl);simp;omega
def Zl {L:Tr} (h:cZ L) (p:By) (n:Nd):(bA p n L).length=if (look L p).isSome then L.length else L.length+1:=by
 induction L with
 | nil=>rfl
 | cons a L ih =>
  obtain ⟨q,m⟩:=a;obtain ⟨h1,h2⟩:=List.pairwise_cons.1 h;have ih:=ih h2;rw [bA];split
  . have:=dd h p
    rw [List.length_cons,this];split
    . rw [List.length_cons];omega
    rfl
  rename_i hc
  have e:q≠p:=by rintro rfl;rw [fE] at hc;exact hc (Int.le_refl 0)
  rw [look,if_neg e,List.length_cons,ih];split<;>simp
def jZ {L:Tr}:64*L.length<=usedL L:=by
 induction L with
 | nil=>exact Nat.le_refl 0
 | cons a L ih=>obtain ⟨q,m⟩:=a;rw [usedL,List.length_cons,jI];omega
def n0:Nd:=⟨0,[],[],0⟩
inductive Eff
 | write (p d:By) (t:Int)
 | append (p d:By)
 | mkdir (p:By)
 | link (p g:By) (t:Int)
 | rename (a b:By)
 | remove (p:By)
def kindP (L:Tr) (p:By):Int:=if p=[] then 2 else match look L p with | some n=>n.kind | none=>0
def dW (L:Tr) (p:By):Int:=if kindP L p=2 then 0 else if (look L p).isSome then 12 else 5
def cI (L:Tr) (p:By):Int:=dW L (aheadL p)
def dV (L:Tr) (p:By):Int:=match look L p with | some n=>if n.kind=2 then 12 else if n.kind=3 then 11 else 0 | none=>0
def cK (room:Nat) (L:Tr) (p:By) (n:Nd):Int × Tr:=if usedL L+jI n<=room+useP L p then (0,bA p n L) else (7,L)
def cS (t:Int):Bool:=decide (0<=t)&&decide (t<=4294967295)
def eR (room:Nat) (L:Tr) (p:By) (n:Nd):Int × Tr:=if cI L p=0 then (if (look L p).isSome then (6,L) else cK room L p n) else (cI L p,L)
def iS (L:Tr) (b:By):List By:=L.filterMap fun x=>if b.isPrefixOf x.1 then some (x.1.drop b.length) else none
def fT (p:By):By:=if p=[] then [] else p++[47]
def innerL (L:Tr) (p:By):List By:=if kindP L p=2 then iS L (fT p) else []
def mv1 (T:Tr) (a b:By):Tr:=del (bA b ((look T a).getD n0) T) a
def mvs (a b:By) (T:Tr) (rs:List By):Tr:=rs.foldl (fun T r=>mv1 T (a++47 :: r) (b++47 :: r)) T
def mvAll (L:Tr) (a b:By) (rs:List By):Tr:=mvs a b (mv1 (del L b) a b) rs
def Wl (b:By) (rs:List By):Bool:=rs.all fun r=>mayB (b++47 :: r)
def aK (room:Nat) (L:Tr):Eff->Int × Tr
 | .write p d t=>if mayB p then (if cS t then (if cI L p=0 then (if dV L p=0 then cK room L p ⟨1,d,[],t⟩ else (dV L p,L)) else (cI L p,L)) else (2,L)) else (10,L)
 | .append p d=>if mayB p then (match look L p with | some n=>if dV L p=0 then cK room L p ⟨n.kind,n.data++d,n.target,n.time⟩ else (dV L p,L) | none=>(5,L)) else (10,L)
 | .mkdir p=>if mayB p then eR room L p ⟨2,[],[],0⟩ else (10,L)
 | .link p g t=>if mayB p then (if cS t&&decide (1<=g.length)&&decide (g.length<=160) then eR room L p ⟨3,[],g,t⟩ else (2,L)) else (10,L)
 | .rename a b=>if mayB a&&mayB b then (if b=a∨withinB b a=true then (2,L) else if (look L a).isSome then (if cI L b=0 then (if kindP L b=2∨(kindP L a=2/\(look L b).isSome) then (12,L) else if Wl b (innerL L a) then (0,mvAll L a b (innerL L a)) else (10,L)) else (cI L b,L)) else (5,L)) else (10,L)
 | .remove p=>if mayB p then (if (look L p).isSome then (if innerL L p=[] then (0,del L p) else (22,L)) else (5,L)) else (10,L)
structure WFT (room:Nat) (L:Tr):Prop where
 srt:cZ L
 may:∀p,(look L p).isSome->mayB p=true
 kind:∀p n,look L p=some n->n.kind=1∨n.kind=2∨n.kind=3
 par:∀p,(look L p).isSome->kindP L (aheadL p)=2
 used:usedL L<=room
def WFT.nil (room:Nat):WFT room []:=⟨List.Pairwise.nil,fun p h=>(by cases h),fun p n h=>(by cases h),fun p h=>(by cases h),Nat.zero_le _⟩
def dE {p:By} (h:mayB p=true):p≠[]:=by rintro rfl;rw [nG] at h;cases h
def fZ (d r:By):aheadL (d++47 :: r)=if 47∈r then d++47 :: aheadL r else d:=by
 have hp:∀d r:By,pieces (d++47 :: r)=pieces d++pieces r:=by
  intro d r;induction d with
  | nil=>show pieces (47 :: r)=[] :: pieces r;rw [pieces,if_pos rfl]
  | cons c d ih =>
   rw [List.cons_append,pieces,pieces,ih];by_cases hc:c=47
   . rw [if_pos hc,if_pos hc];rfl
   rw [if_neg hc,if_neg hc]
   cases h:pieces d with
   | nil=>exact absurd h (cB d)
   | cons x xs=>rfl
 have LJ:∀r:By,47∉r->pieces r=[r]:=by
  intro r;induction r with
  | nil=>intro _;rfl
  | cons c r ih =>
   intro h;rw [pieces,if_neg (by rintro rfl;exact h List.mem_cons_self),ih (fun k=>h (List.mem_cons_of_mem _ k))]
 split
 .
  rename_i hm
  rcases split_last r with e | ⟨a,b,e1,e2⟩
  .
   exfalso
   have:∀(l:By),∀x∈pieces l,47∉x:=by
    intro l;induction l with
    | nil=>intro x hx;simp [pieces] at hx;rw [hx];simp
    | cons c l ih =>
     intro x hx;rw [pieces] at hx;split at hx
     . rcases List.mem_cons.1 hx with k | k
       . rw [k];simp
       exact ih x k
     rename_i hc
     cases hq:pieces l with
     | nil=>exact absurd hq (cB l)
     | cons y ys =>
      rw [hq] at hx ih;simp only at hx;rcases List.mem_cons.1 hx with k | k
      . rw [k]
        intro hh;rcases List.mem_cons.1 hh with k2 | k2
        . exact hc k2.symm
        exact ih y List.mem_cons_self k2
      exact ih x (List.mem_cons_of_mem _ k)
   exact this r r (by rw [e];exact List.mem_cons_self) hm
  rw [mQ e1 e2];refine mQ (b:=b) (by rw [e1];simp) ?_;rw [hp d r,e2,hp d a];simp
 rename_i hm
 exact mQ rfl (by rw [hp,LJ r hm])
def Rq {L:Tr} {b r:By}:r∈iS L b↔(look L (b++r)).isSome:=by
 unfold iS;rw [List.mem_filterMap];constructor
 .
  rintro ⟨x,hx,h⟩;split at h
  .
   rename_i hp
   injection h with h;obtain ⟨s,hs⟩:=List.isPrefixOf_iff_prefix.1 hp;have:b++r=x.1:=by rw [<-h,<-hs];simp
   rw [this]
   cases hl:look L x.1 with
   | none=>exact absurd rfl (iO.1 hl x hx)
   | some _=>rfl
  cases h
 intro h
 cases hl:look L (b++r) with
 | none=>rw [hl] at h;cases h
 | some n=>exact ⟨_,look_mem hl,by rw [if_pos (List.isPrefixOf_iff_prefix.2 ⟨r,rfl⟩)];simp⟩
def Gm {L:Tr} (hs:cZ L) (b:By):(iS L b).Nodup:=by
 induction L with
 | nil=>exact List.nodup_nil
 | cons a L ih =>
  obtain ⟨h1,h2⟩:=List.pairwise_cons.1 hs;have ih:=ih h2;unfold iS at ih ⊢;rw [List.filterMap_cons];split
  . exact ih
  rename_i y hy
  refine List.nodup_cons.2 ⟨?_,ih⟩;intro hm;obtain ⟨x,hx,vh⟩:=List.mem_filterMap.1 hm;split at hy
  .
   rename_i p1
   split at vh
   .
    rename_i p2
    injection hy with hy;injection vh with vh;obtain ⟨s1,e1⟩:=List.isPrefixOf_iff_prefix.1 p1;obtain ⟨s2,e2⟩:=List.isPrefixOf_iff_prefix.1 p2;have k1:b++y=a.1:=by rw [<-hy,<-e1];simp
    have k2:b++y=x.1:=by rw [<-vh,<-e2];simp
    have:a.1=x.1:=k1.symm.trans k2;exact kJ (h1 x hx) this
   cases vh
  cases hy
def WFT.anc {room:Nat} {L:Tr} (h:WFT room L) (d:By) (m:Nat):∀r:By,r.length<=m->(look L (d++47 :: r)).isSome->kindP L d=2:=by
 induction m with
 | zero =>
  intro r hr hl;obtain rfl:=List.length_eq_zero_iff.1 (Nat.le_zero.1 hr);have:=h.par _ hl;rwa [fZ,if_neg (by simp)] at this
 | succ m ih =>
  intro r hr hl;have hp:=h.par _ hl;rw [fZ] at hp;split at hp
  .
   rename_i hm
   refine ih (aheadL r) ?_ ?_
   . have h1:0 < r.length:=List.length_pos_of_mem hm
     have h2:(aheadL r).length<=r.length - 1:=by rw [aheadL,List.length_take];omega
     omega
   unfold kindP at hp;rw [if_neg (by simp)] at hp
   cases hq:look L (d++47 :: aheadL r) with
   | none=>rw [hq] at hp;cases hp
   | some n=>rfl
  exact hp
def rE {L:Tr} {p:By} (hp:p≠[]) (h:kindP L p=2):(look L p).isSome:=by
 unfold kindP at h;rw [if_neg hp] at h
 cases hl:look L p with
 | none=>rw [hl] at h;cases h
 | some n=>rfl
def Ku {p:By} (hp:p≠[]) (r:By):fT p++r=p++47 :: r:=by rw [fT,if_neg hp];simp
def WFT.inner {room:Nat} {L:Tr} (h:WFT room L) {a:By} (ha:a≠[]) (r:By):r∈innerL L a↔(look L (a++47 :: r)).isSome:=by
 unfold innerL;split
 . rw [Rq,Ku ha]
 rename_i hk
 exact ⟨fun h=>(by cases h),fun hl=>absurd (h.anc a _ r qN hl) hk⟩
def WFT.inner_nodup {room:Nat} {L:Tr} (h:WFT room L) (a:By):(innerL L a).Nodup:=by
 unfold innerL;split
 . exact Gm h.srt _
 exact List.nodup_nil
def Vc {p:By} (h:p≠[]):(aheadL p).length < p.length:=by
 have:=List.length_pos_iff.2 h;rw [aheadL,List.length_take];omega
def Am {L:Tr} {p q:By} {n:Nd} (h:q≠p):kindP (bA p n L) q=kindP L q:=by
 unfold kindP;rw [gK,if_neg h]
def cn {room:Nat} {L:Tr} (h:WFT room L) {p:By} {n:Nd} (hm:mayB p=true) (hh:kindP L (aheadL p)=2) (hp:kindP L p≠2) (hk:n.kind=1∨n.kind=2∨n.kind=3) (hu:usedL (bA p n L)<=room):WFT room (bA p n L) where
 srt:=tT h.srt _ _
 may q hq:=by
  rw [gK] at hq;split at hq
  . rename_i e;rw [e];exact hm
  exact h.may q hq
 kind q m hq:=by
  rw [gK] at hq;split at hq
  . injection hq with hq;rw [<-hq];exact hk
  exact h.kind q m hq
 par q hq:=by
  have d8:=Vc (dE hm);rw [gK] at hq;split at hq
  . rename_i e;subst e
    rw [Am (fun k=>by rw [k] at d8;omega)];exact hh
  have h2:=h.par q hq;rw [Am (fun k=>hp (by rw [<-k];exact h2))];exact h2
 used:=hu
def yF {room:Nat} {L:Tr} (h:WFT room L) {p:By} {n:Nd} (hm:mayB p=true) (hh:kindP L (aheadL p)=2) (hp:kindP L p≠2) (hk:n.kind=1∨n.kind=2∨n.kind=3):WFT room (cK room L p n).2:=by
 unfold cK;split
 . rename_i hc
   have:=jV h.srt p n;exact cn h hm hh hp hk (by omega)
 exact h
def vE {L:Tr} {p:By} (h:cI L p=0):kindP L (aheadL p)=2:=by
 unfold cI dW at h;split at h
 . assumption
 split at h<;>cases h
def Ie {room:Nat} {L:Tr} (h:WFT room L) {p:By} {n:Nd} (hm:mayB p=true) (hk:n.kind=1∨n.kind=2∨n.kind=3):WFT room (eR room L p n).2:=by
 unfold eR;split
 .
  rename_i hh
  split
  . exact h
  rename_i hl
  refine yF h hm (vE hh) (fun k=>?_) hk;exact hl (rE (dE hm) k)
 exact h
def Aa {L:Tr} {p:By} (hm:mayB p=true) (h:dV L p=0):kindP L p≠2:=by
 unfold kindP;unfold dV at h;rw [if_neg (dE hm)]
 cases hl:look L p with
 | none=>simp
 | some n =>
  rw [hl] at h;simp only at h ⊢;intro hk;rw [if_pos hk] at h;cases h
def Zj {room:Nat} {L:Tr} (h:WFT room L) {p:By} (hi:innerL L p=[]) (hp:p≠[]):WFT room (del L p) where
 srt:=mU h.srt _
 may q hq:=by
  rw [dF] at hq;split at hq
  . cases hq
  exact h.may q hq
 kind q m hq:=by
  rw [dF] at hq;split at hq
  . cases hq
  exact h.kind q m hq
 par q hq:=by
  rw [dF] at hq;split at hq
  . cases hq
  have h2:=h.par q hq;have j3:aheadL q≠p:=by
   intro e;rcases may_split (h.may q hq) with ⟨k,_⟩ | ⟨_,k,_⟩
   . exact hp (e.symm.trans k)
   rw [e] at k;have:aZ q∈innerL L p:=(h.inner hp _).2 (by rw [<-k];exact hq);rw [hi] at this;cases this
  unfold kindP at h2 ⊢;rw [dF,if_neg j3];exact h2
 used:=by have:=nL h.srt p;have:=h.used;omega
def iM {T:Tr} {a b:By} (_:a≠b) (q:By):look (mv1 T a b) q=if q=a then none else if q=b then some ((look T a).getD n0) else look T q:=by
 unfold mv1;rw [dF,gK]
def behind_eq {a b r s:By} (h:a++47 :: r=b++47 :: s):a=b∨(∃x,b=a++47 :: x)∨∃x,a=b++47 :: x:=by
 rcases List.append_eq_append_iff.1 h with ⟨x,h1,h2⟩ | ⟨x,h1,h2⟩
 . cases x with
   | nil=>exact .inl (by simpa using h1.symm)
   | cons c x=>simp at h2;exact .inr (.inl ⟨x,by rw [h1,<-h2.1]⟩)
 cases x with
 | nil=>exact .inl (by simpa using h1)
 | cons c x=>simp at h2;exact .inr (.inr ⟨x,by rw [h1,<-h2.1]⟩)
structure Apart (a b:By):Prop where
 ne:a≠b
 l:∀x,b≠a++47 :: x
 r:∀x,a≠b++47 :: x
def Apart.behind {a b:By} (h:Apart a b) (r s:By):a++47 :: r≠b++47 :: s:=fun e=>by
 rcases behind_eq e with k | ⟨x,k⟩ | ⟨x,k⟩
 . exact h.ne k
 . exact h.l x k
 exact h.r x k
open Classical in
def Xx {a b:By} (h:Apart a b) (rs:List By):∀T:Tr,rs.Nodup->∀q,look (mvs a b T rs) q =
 if ∃r∈rs,q=b++47 :: r then some ((look T (a++47 :: q.drop (b.length+1))).getD n0) else if ∃r∈rs,q=a++47 :: r then none else look T q:=by
 induction rs with
 | nil=>intro T _ q;simp [mvs]
 | cons r rs ih =>
  intro T hn q;obtain ⟨h1,h2⟩:=List.nodup_cons.1 hn;show look (mvs a b (mv1 T (a++47 :: r) (b++47 :: r)) rs) q=_
  rw [ih _ h2 q];have hd:∀x:By,(b++47 :: x).drop (b.length+1)=x:=fun x=>by
   rw [show b++47 :: x=(b++[47])++x by simp,List.drop_left' (by simp)]
  by_cases c1:∃s∈rs,q=b++47 :: s
  .
   obtain ⟨s,hs,e⟩:=c1;rw [if_pos ⟨s,hs,e⟩,if_pos ⟨s,List.mem_cons_of_mem _ hs,e⟩,e,hd,iM (h.behind r r),if_neg,if_neg (h.behind s r)];intro k;have:=List.append_cancel_left k;injection this with _ k2;exact h1 (k2▸hs)
  rw [if_neg c1];by_cases c2:q=b++47 :: r
  . rw [if_pos (⟨r,List.mem_cons_self,c2⟩:∃s∈r :: rs,q=b++47 :: s),if_neg (fun ⟨s,_,k⟩=>h.behind s r (k.symm.trans c2)),iM (h.behind r r),if_neg (fun k=>h.behind r r (k.symm.trans c2)),if_pos c2,c2,hd]
  rw [if_neg (fun ⟨s,hs,k⟩=>by rcases List.mem_cons.1 hs with e | e;exact c2 (by rw [k,e]);exact c1 ⟨s,e,k⟩:¬∃s∈r :: rs,q=b++47 :: s)];by_cases c3:∃s∈rs,q=a++47 :: s
  . obtain ⟨s,hs,e⟩:=c3
    rw [if_pos ⟨s,hs,e⟩,if_pos ⟨s,List.mem_cons_of_mem _ hs,e⟩]
  rw [if_neg c3,iM (h.behind r r)];by_cases c4:q=a++47 :: r
  . rw [if_pos c4,if_pos ⟨r,List.mem_cons_self,c4⟩]
  rw [if_neg c4,if_neg c2,if_neg (fun ⟨s,hs,k⟩=>by rcases List.mem_cons.1 hs with e | e;exact c4 (by rw [k,e]);exact c3 ⟨s,e,k⟩)]
def tZ {T:Tr} (h:cZ T) (a b:By):cZ (mv1 T a b):=mU (tT h _ _) _
def cm {a b:By} (rs:List By):∀T:Tr,cZ T->cZ (mvs a b T rs):=by
 induction rs with
 | nil=>intro T h;exact h
 | cons r rs ih=>intro T h;exact ih _ (tZ h _ _)
def Cy {T:Tr} (h:cZ T) {a b:By} (om:a≠b) {n:Nd} (ha:look T a=some n) (hb:look T b=none):usedL (mv1 T a b)=usedL T:=by
 unfold mv1;rw [ha,Option.getD_some];have h1:=jV h b n;have h2:=nL (tT h b n) a;have h3:useP (bA b n T) a=jI n:=by rw [useP,gK,if_neg om,ha]
 have h4:useP T b=0:=by rw [useP,hb]
 omega
def Tl {a b:By} (h:Apart a b) (rs:List By):∀T:Tr,cZ T->rs.Nodup->(∀r∈rs,(look T (a++47 :: r)).isSome)->(∀r∈rs,look T (b++47 :: r)=none)->usedL (mvs a b T rs)=usedL T:=by
 induction rs with
 | nil=>intro T _ _ _ _;rfl
 | cons r rs ih =>
  intro T hs hn h1 h2;obtain ⟨k1,k2⟩:=List.nodup_cons.1 hn;obtain ⟨n,hn'⟩:=Option.isSome_iff_exists.1 (h1 r List.mem_cons_self);show usedL (mvs a b (mv1 T (a++47 :: r) (b++47 :: r)) rs)=_
  have j3:∀x y s:By,s∈rs->x++47 :: s≠x++47 :: r:=fun x y s hs e=>by
   have:=List.append_cancel_left e;injection this with _ k;exact k1 (k▸hs)
  rw [ih _ (tZ hs _ _) k2,Cy hs (h.behind r r) hn' (h2 r List.mem_cons_self)]
  . intro s NK
    rw [iM (h.behind r r),if_neg (j3 a a s NK),if_neg (h.behind s r)];exact h1 s (List.mem_cons_of_mem _ NK)
  intro s NK;rw [iM (h.behind r r),if_neg (fun e=>h.behind r s e.symm),if_neg (j3 b b s NK)];exact h2 s (List.mem_cons_of_mem _ NK)
structure iU (room:Nat) (L:Tr) (a b:By):Prop where
 wft:WFT room L
 ma:mayB a=true
 mb:mayB b=true
 ne:b≠a
 o:withinB b a=false
 src:(look L a).isSome
 home:cI L b=0
 nd:kindP L b≠2
 nr:¬(kindP L a=2/\(look L b).isSome)
def iU.apart {room:Nat} {L:Tr} {a b:By} (h:iU room L a b):Apart a b where
 ne:=h.ne.symm
 l x e:=by
  have:=iY h.mb h.ma ⟨x,e⟩;rw [h.o] at this;cases this
 r x e:=h.nd (h.wft.anc b _ x qN (by rw [<-e];exact h.src))
def iU.empty {room:Nat} {L:Tr} {a b:By} (h:iU room L a b) (r:By):look L (b++47 :: r)=none:=by
 cases hl:look L (b++47 :: r) with
 | none=>rfl
 | some n=>exact absurd (h.wft.anc b _ r qN (by rw [hl];rfl)) h.nd
open Classical in
def iU.look {room:Nat} {L:Tr} {a b:By} (h:iU room L a b) {rs:List By} (hr:rs.Perm (innerL L a)) (q:By) :
 look (mvAll L a b rs) q=if q=b then look L a else if ∃r,q=b++47 :: r/\(look L (a++47 :: r)).isSome then look L (a++47 :: q.drop (b.length+1)) else if q=a∨∃r,q=a++47 :: r then none else look L q:=by
 have hA:=h.apart;have hm:∀r,r∈rs↔(Go.Proofs.YtahkcemdbfjilaaGreatDoor.look L (a++47 :: r)).isSome:=fun r=>by rw [hr.mem_iff,h.wft.inner (dE h.ma)]
 have hd:∀x:By,(b++47 :: x).drop (b.length+1)=x:=fun x=>by
  rw [show b++47 :: x=(b++[47])++x by simp,List.drop_left' (by simp)]
 have hT:∀q,Go.Proofs.YtahkcemdbfjilaaGreatDoor.look (mv1 (del L b) a b) q=if q=a then none else if q=b then some ((Go.Proofs.YtahkcemdbfjilaaGreatDoor.look L a).getD n0) else Go.Proofs.YtahkcemdbfjilaaGreatDoor.look L q:=by
  intro q;rw [iM hA.ne,dF,if_neg hA.ne,dF];split
  . rfl
  split
  . rfl
  rfl
 have hqb:∀x,b++47 :: x≠b:=fun x e=>by have:=congrArg List.length e;simp at this
 unfold mvAll;rw [Xx hA rs _ (hr.nodup_iff.2 (h.wft.inner_nodup a))];obtain ⟨n,hn⟩:=Option.isSome_iff_exists.1 h.src;by_cases c0:q=b
 . rw [if_neg (fun ⟨r,_,k⟩=>hqb r (k.symm.trans c0)),if_neg (fun ⟨r,_,k⟩=>hA.l r (c0.symm.trans k)),hT,if_neg (fun k=>hA.ne (k.symm.trans c0)),if_pos c0,if_pos c0,hn];rfl
 rw [if_neg c0];by_cases c1:∃r,q=b++47 :: r/\(Go.Proofs.YtahkcemdbfjilaaGreatDoor.look L (a++47 :: r)).isSome
 . obtain ⟨r,e,hl⟩:=c1
   rw [if_pos ⟨r,(hm r).2 hl,e⟩,if_pos ⟨r,e,hl⟩,e,hd,hT,if_neg (fun k=>by have:=congrArg List.length k;simp at this),if_neg (fun k=>hA.l r k.symm)];obtain ⟨m,hm'⟩:=Option.isSome_iff_exists.1 hl;rw [hm'];rfl
 rw [if_neg (fun ⟨r,NL,k⟩=>c1 ⟨r,k,(hm r).1 NL⟩),if_neg c1];by_cases c2:q=a∨∃r,q=a++47 :: r
 .
  rw [if_pos c2];split
  . rfl
  rename_i c3
  rw [hT];rcases c2 with k | ⟨r,k⟩
  . rw [if_pos k]
  rw [if_neg (fun e=>by rw [e] at k;have:=congrArg List.length k;simp at this),if_neg c0]
  cases hl:Go.Proofs.YtahkcemdbfjilaaGreatDoor.look L q with
  | none=>rfl
  | some m=>exact absurd ⟨r,(hm r).2 (by rw [<-k,hl];rfl),k⟩ c3
 rw [if_neg c2,if_neg (fun ⟨r,_,k⟩=>c2 (.inr ⟨r,k⟩)),hT,if_neg (fun k=>c2 (.inl k)),if_neg c0]
def iU.srt {room:Nat} {L:Tr} {a b:By} (h:iU room L a b) (rs:List By):cZ (mvAll L a b rs):=cm _ _ (tZ (mU h.wft.srt _) _ _)
def iU.used {room:Nat} {L:Tr} {a b:By} (h:iU room L a b) {rs:List By} (hr:rs.Perm (innerL L a)):usedL (mvAll L a b rs)+useP L b=usedL L:=by
 have hA:=h.apart;have hm:∀r,r∈rs↔(Go.Proofs.YtahkcemdbfjilaaGreatDoor.look L (a++47 :: r)).isSome:=fun r=>by rw [hr.mem_iff,h.wft.inner (dE h.ma)]
 obtain ⟨n,hn⟩:=Option.isSome_iff_exists.1 h.src;have h0:=nL h.wft.srt b;have h1:usedL (mv1 (del L b) a b)=usedL (del L b):=Cy (mU h.wft.srt _) hA.ne (n:=n) (by rw [dF,if_neg hA.ne,hn]) (by rw [dF,if_pos rfl]);have hT:∀r,Go.Proofs.YtahkcemdbfjilaaGreatDoor.look (mv1 (del L b) a b) (a++47 :: r)=Go.Proofs.YtahkcemdbfjilaaGreatDoor.look L (a++47 :: r):=fun r=>by
  rw [iM hA.ne,if_neg (fun k=>by have:=congrArg List.length k;simp at this),if_neg (fun k=>hA.l r k.symm),dF,if_neg (fun k=>hA.l r k.symm)]
 have UI:∀r,Go.Proofs.YtahkcemdbfjilaaGreatDoor.look (mv1 (del L b) a b) (b++47 :: r)=none:=fun r=>by
  rw [iM hA.ne,if_neg (fun k=>hA.r r k.symm),if_neg (fun k=>by have:=congrArg List.length k;simp at this),dF,if_neg (fun k=>by have:=congrArg List.length k;simp at this),h.empty]
 have h2:=Tl hA rs (mv1 (del L b) a b) (tZ (mU h.wft.srt _) _ _) (hr.nodup_iff.2 (h.wft.inner_nodup a)) (fun r NL=>by rw [hT];exact (hm r).1 NL) (fun r _=>UI r);unfold mvAll;omega
def qJ {L K:Tr} {p q:By} (hp:p≠[]) (hq:q≠[]) (h:look L p=look K q):kindP L p=kindP K q:=by
 unfold kindP;rw [if_neg hp,if_neg hq,h]
def iU.stays {room:Nat} {L:Tr} {a b:By} (h:iU room L a b) (hf:Wl b (innerL L a)=true):WFT room (mvAll L a b (innerL L a)):=by
 have hA:=h.apart;have hL:=h.look (List.Perm.refl _);have hfar:∀r,(Go.Proofs.YtahkcemdbfjilaaGreatDoor.look L (a++47 :: r)).isSome->mayB (b++47 :: r)=true:=fun r hr=>List.all_eq_true.1 hf r ((h.wft.inner (dE h.ma) r).2 hr)
 have hd:∀x:By,(b++47 :: x).drop (b.length+1)=x:=fun x=>by
  rw [show b++47 :: x=(b++[47])++x by simp,List.drop_left' (by simp)]
 have ID:∀x:By,b++47 :: x≠b:=fun x e=>by have:=congrArg List.length e;simp at this
 -- what stands behind, told by cases
 have mz:∀q n,Go.Proofs.YtahkcemdbfjilaaGreatDoor.look (mvAll L a b (innerL L a)) q=some n->(q=b/\Go.Proofs.YtahkcemdbfjilaaGreatDoor.look L a=some n)∨(∃r,q=b++47 :: r/\Go.Proofs.YtahkcemdbfjilaaGreatDoor.look L (a++47 :: r)=some n)∨(q≠b/\q≠a/\(∀r,q≠a++47 :: r)/\(∀r,q≠b++47 :: r)/\Go.Proofs.YtahkcemdbfjilaaGreatDoor.look L q=some n):=by
  intro q n hq;rw [hL] at hq;split at hq
  . exact .inl ⟨‹_›,hq⟩
  split at hq
  . rename_i c
    obtain ⟨r,e,hl⟩:=c;rw [e,hd] at hq;exact .inr (.inl ⟨r,e,hq⟩)
  split at hq
  . cases hq
  rename_i c0 c1 c2
  refine .inr (.inr ⟨c0,fun k=>c2 (.inl k),fun r k=>c2 (.inr ⟨r,k⟩),fun r k=>?_,hq⟩);rw [k,h.empty] at hq;cases hq
 have hB:∀q,q≠b->q≠a->(∀r,q≠a++47 :: r)->(∀r,q≠b++47 :: r)->Go.Proofs.YtahkcemdbfjilaaGreatDoor.look (mvAll L a b (innerL L a)) q=Go.Proofs.YtahkcemdbfjilaaGreatDoor.look L q:=by
  intro q h1 h2 h3 h4;rw [hL,if_neg h1,if_neg (fun ⟨r,k,_⟩=>h4 r k),if_neg (fun k=>by rcases k with k | ⟨r,k⟩;exact h2 k;exact h3 r k)]
 have hBr:∀r,(Go.Proofs.YtahkcemdbfjilaaGreatDoor.look L (a++47 :: r)).isSome->Go.Proofs.YtahkcemdbfjilaaGreatDoor.look (mvAll L a b (innerL L a)) (b++47 :: r)=Go.Proofs.YtahkcemdbfjilaaGreatDoor.look L (a++47 :: r):=by
  intro r hr;rw [hL,if_neg (ID r),if_pos ⟨r,rfl,hr⟩,hd]
 have hB0:Go.Proofs.YtahkcemdbfjilaaGreatDoor.look (mvAll L a b (innerL L a)) b=Go.Proofs.YtahkcemdbfjilaaGreatDoor.look L a:=by rw [hL,if_pos rfl]
 -- a directory that is none of those that iV
 have hdir:∀d,kindP L d=2->d≠a->(∀r,d≠a++47 :: r)->kindP (mvAll L a b (innerL L a)) d=2:=by
  intro d hk h1 h2;by_cases h0:d=[]
  . rw [h0];rfl
  rw [qJ h0 h0 (hB d (fun e=>h.nd (e▸hk)) h1 h2 (fun r e=>by have:=rE h0 hk;rw [e,h.empty] at this;cases this))];exact hk
 refine ⟨h.srt _,?_,?_,?_,?_⟩
 .
  intro q hq;obtain ⟨n,hq⟩:=Option.isSome_iff_exists.1 hq;rcases mz q n hq with ⟨e,_⟩ | ⟨r,e,hl⟩ | ⟨_,_,_,_,hl⟩
  . rw [e];exact h.mb
  . rw [e];exact hfar r (by rw [hl];rfl)
  exact h.wft.may q (by rw [hl];rfl)
 . intro q n hq
   rcases mz q n hq with ⟨_,hl⟩ | ⟨r,_,hl⟩ | ⟨_,_,_,_,hl⟩<;>exact h.wft.kind _ n hl
 .
  intro q hq;obtain ⟨n,hq⟩:=Option.isSome_iff_exists.1 hq;rcases mz q n hq with ⟨e,_⟩ | ⟨r,e,hl⟩ | ⟨h1,h2,h3,h4,hl⟩
  .
   subst e;refine hdir _ (vE h.home) ?_ ?_
   . intro k
     rcases may_split h.mb with ⟨k2,_⟩ | ⟨_,k2,_⟩
     . exact dE h.ma (k.symm.trans k2)
     rw [k] at k2;exact hA.l _ k2
   intro r k;rcases may_split h.mb with ⟨k2,_⟩ | ⟨_,k2,_⟩
   . rw [k2] at k;have:=congrArg List.length k;simp at this
   rw [k] at k2;exact hA.l (r++47 :: aZ q) (k2.trans (by simp))
  .
   subst e;have hp:=h.wft.par _ (show (Go.Proofs.YtahkcemdbfjilaaGreatDoor.look L (a++47 :: r)).isSome by rw [hl];rfl);rw [fZ] at hp ⊢;split at hp
   . rename_i hm
     rw [if_pos hm];have hs:=rE (by simp) hp;rw [qJ (by simp) (by simp) (hBr _ hs)];exact hp
   rename_i hm
   rw [if_neg hm,qJ (dE h.mb) (dE h.ma) hB0];exact hp
  have hp:=h.wft.par q (by rw [hl];rfl);have hs:=h.wft.may q (by rw [hl];rfl);refine hdir _ hp ?_ ?_
  . intro k
    rcases may_split hs with ⟨k2,_⟩ | ⟨_,k2,_⟩
    . exact dE h.ma (k.symm.trans k2)
    rw [k] at k2;exact h3 _ k2
  intro r k;rcases may_split hs with ⟨k2,_⟩ | ⟨_,k2,_⟩
  . rw [k2] at k;have:=congrArg List.length k;simp at this
  rw [k] at k2;exact h3 (r++47 :: aZ q) (k2.trans (by simp))
 have:=h.used (List.Perm.refl _);have:=h.wft.used;omega
def Uw {room:Nat} {L:Tr} (h:WFT room L) (x:Eff):WFT room (aK room L x).2:=by
 cases x with
 | write p d t =>
  simp only [aK];split
  .
   rename_i hm
   split
   . split
     . rename_i hh
       split
       . exact yF h hm (vE hh) (Aa hm ‹_›) (.inl rfl)
       exact h
     exact h
   exact h
  exact h
 | append p d =>
  simp only [aK];split
  .
   rename_i hm
   split
   . rename_i n hl
     split
     . have hp:=h.par p (by rw [hl];rfl)
       exact yF h hm hp (Aa hm ‹_›) (h.kind p n hl)
     exact h
   exact h
  exact h
 | mkdir p =>
  simp only [aK];split
  . exact Ie h ‹_› (.inr (.inl rfl))
  exact h
 | link p g t =>
  simp only [aK];split
  . rename_i hm
    split
    . exact Ie h hm (.inr (.inr rfl))
    exact h
  exact h
 | rename a b =>
  simp only [aK];split
  .
   rename_i hm
   simp only [Bool.and_eq_true] at hm;split
   . exact h
   rename_i hw
   split
   .
    rename_i hs
    split
    . rename_i hh
      split
      . exact h
      rename_i hk
      split
      . exact iU.stays ⟨h,hm.1,hm.2,fun e=>hw (.inl e),by simpa using fun e=>hw (.inr e),hs,hh,fun e=>hk (.inl e),fun e=>hk (.inr e)⟩ ‹_›
      exact h
    exact h
   exact h
  exact h
 | remove p =>
  simp only [aK];split
  .
   rename_i hm
   split
   . split
     . exact Zj h ‹_› (dE hm)
     exact h
   exact h
  exact h
def Lb:Eff->Nat->Eff
 | .write p d t,n=>.write p (d.take n) t
 | .append p d,n=>.append p (d.take n)
 | x,_=>x
def Iz:Eff->Nat
 | .write _ d _=>d.length
 | .append _ d=>d.length
 | _=>0
def Ev (x:Eff) (n:Nat) (h:Iz x<=n):Lb x n=x:=by
 cases x<;>simp only [Lb,Iz] at*<;> rw [List.take_of_length_le h]
structure Mo where
 now:Tr
 last:Tr
 since:List Eff
 fuse:Int
 room:Nat
def eM (f:Int):Int:=if 0 < f then f - 1 else f
def bL (M:Mo) (x:Eff):Int × Mo :=
 if M.fuse=0 then (20,M) else if (aK M.room M.now x).1=0 then (0,⟨(aK M.room M.now x).2,M.last,M.since++[x],eM M.fuse,M.room⟩) else ((aK M.room M.now x).1,M)
def newM (room:Nat):Mo:=⟨[],[],[],-1,room⟩
def wL (room:Nat) (L:Tr) (xs:List Eff):Tr:=xs.foldl (fun T x=>(aK room T x).2) L
structure Good (M:Mo):Prop where
 w1:WFT M.room M.now
 w2:WFT M.room M.last
 re:wL M.room M.last M.since=M.now
 f0:-1<=M.fuse
 f1:M.fuse<=9223372036854775807
def Vh {room:Nat} {L:Tr} (x:Eff) (h:(aK room L x).1≠0):(aK room L x).2=L:=by
 cases x<;>simp only [aK,eR,cK] at*<;> (repeat' split)<;>simp_all
def Good.new (room:Nat):Good (newM room):=⟨WFT.nil _,WFT.nil _,rfl,(by show (-1:Int)<=-1;omega),(by show (-1:Int)<=_;omega)⟩
def Zn {f:Int} (h0:-1<=f) (h1:f<=9223372036854775807):-1<=eM f/\eM f<=9223372036854775807:=by unfold eM;split<;>omega
def Good.do {M:Mo} (h:Good M) (x:Eff):Good (bL M x).2:=by
 unfold bL;split
 . exact h
 split
 . have hb:=Zn h.f0 h.f1
   exact ⟨Uw h.w1 x,h.w2,by show wL _ _ (_++[x])=_;unfold wL;rw [List.foldl_append];show (aK _ (wL _ _ _) x).2=_;rw [h.re],hb.1,hb.2⟩
 exact h
open Go.RowKit Go.Maps Go.MapKept Go.WideElems
open Go.ChangeMaps (setBlock heap_setBlock_same heap_setBlock_other)
abbrev kS (s:By):Value:=.string (ba s)
def nodeV (n:Nd):Value:=.agg #[.int .i64 n.kind,kS n.data,kS n.target,.int .i64 n.time]
def Rv (v:Value):Option (DataW Value × List MemPlace):=some (.held v,[])
def bV:Keyed Tryz.prog 9:=string_keyed Tryz.underlying9
def Zv:WideMaps.KeyLaw Tryz.prog 9:=WideMaps.string_law Tryz.underlying9
def eE (s:By) (hs:s.length<=maxLen):keyOf Tryz.prog 9 (kS s)=some (.string s):=by
 rw [keyOf_string Tryz.underlying9];simp [mapKey,Tryz.underlying9,aD,hs];rfl
def tC (w:World):(zeroValue 71).run Tryz.prog w=.ok (nodeV n0) w:=by kernel_rfl
structure kx (es:Array MapEntry) (clock:Nat) (L:Tr):Prop where
 fit:Fit Tryz.prog 9 Rv es clock
 size:es.size=L.length
 reads:∀p:By,p.length<=maxLen->has (DataW.map ((es.toList.map (rg Tryz.prog 9 Rv)).foldr DataW.insert [])) (.string p)=(look L p).isSome/\(DataW.map ((es.toList.map (rg Tryz.prog 9 Rv)).foldr DataW.insert [])).atKey (.string p) (.held (nodeV n0))=.held (nodeV ((look L p).getD n0))
def bX (w:World) (b:Nat) (L:Tr):Prop:=∃es clock,w.heap[b]? = some (.map es clock)/\kx es clock L
def bX.kept {w w':World} {b:Nat} {L:Tr} (h:bX w b L) (he:w'.heap[b]? = w.heap[b]?):bX w' b L:=by
 obtain ⟨es,clock,h1,h2⟩:=h;exact ⟨es,clock,he.trans h1,h2⟩
def bX.inside {w:World} {b:Nat} {L:Tr} (h:bX w b L):b < w.heap.size:=by
 obtain ⟨es,clock,h1,_⟩:=h;exact (Array.getElem?_eq_some_iff.1 h1).1
def bX.own {w:World} {b:Nat} {L:Tr} (h:bX w b L):∃D,w.ownsMap Tryz.prog 9 Rv b L.length D/\size D=L.length/\∀p:By,p.length<=maxLen->has D (.string p)=(look L p).isSome/\D.atKey (.string p) (.held (nodeV n0))=.held (nodeV ((look L p).getD n0)):=by
 obtain ⟨es,clock,h1,h2⟩:=h;exact ⟨_,⟨es,clock,h1,h2.fit,by rw [h2.size];exact Nat.le_refl _,rfl⟩,by simp [size,length_sorted,h2.size],h2.reads⟩
def bX.of_own {w:World} {b n:Nat} {L:Tr} {D:DataW Value} (h:w.ownsMap Tryz.prog 9 Rv b n D) (hs:size D=L.length) (hr:∀p:By,p.length<=maxLen->has D (.string p)=(look L p).isSome/\D.atKey (.string p) (.held (nodeV n0))=.held (nodeV ((look L p).getD n0))):bX w b L:=by
 obtain ⟨es,clock,h1,h2,_,rfl⟩:=h;refine ⟨es,clock,h1,h2,?_,hr⟩;have e:size (DataW.map ((es.toList.map (rg Tryz.prog 9 Rv)).foldr DataW.insert []))=es.size:=by simp [size,length_sorted]
 omega
def bX.made (w:World):bX (w.alloc (.map #[] 0)) w.heap.size [] :=
 .of_own (World.ownsMap_made w _ 9 Rv) rfl (fun _ _=>⟨rfl,rfl⟩)
section
variable {w:World} {b:Nat} {L:Tr}
theorem bX.look (h:bX w b L) {p:By} (hp:p.length<=maxLen):(Instr.lookup 124 (.map (some b)) (kS p) false).run Tryz.prog w=.ok (nodeV ((look L p).getD n0)) w:=by
 obtain ⟨D,h1,_,h3⟩:=h.own;obtain ⟨v,ps,hr,hv⟩:=h1.lookup bV Tryz.underlying124 (tC w) (zd:=.held (nodeV n0)) (zp:=[]) rfl (eE p hp);rw [(h3 p hp).2] at hv;simp only [Rv,Option.some.injEq,Prod.mk.injEq,DataW.held.injEq] at hv;rw [hr,hv.1]
theorem bX.lookOk (h:bX w b L) {p:By} (hp:p.length<=maxLen):(Instr.lookup 124 (.map (some b)) (kS p) true).run Tryz.prog w=.ok (.tuple #[nodeV ((Go.Proofs.YtahkcemdbfjilaaGreatDoor.look L p).getD n0),.bool (Go.Proofs.YtahkcemdbfjilaaGreatDoor.look L p).isSome]) w:=by
 obtain ⟨D,h1,_,h3⟩:=h.own;obtain ⟨v,ps,hr,hv⟩:=h1.look_ok bV Tryz.underlying124 (tC w) (zd:=.held (nodeV n0)) (zp:=[]) rfl (eE p hp);rw [(h3 p hp).2] at hv;simp only [Rv,Option.some.injEq,Prod.mk.injEq,DataW.held.injEq] at hv;rw [hr,hv.1,(h3 p hp).1]
theorem Sn {L:Tr} (hs:cZ L) {D D':DataW Value} {p:By} {n:Nd} (hD:D'=D.put (.string p) (.held (nodeV n))) (hm:IsMap D) (ht:Tidy D) (h2:size D=L.length) (hp:p.length<=maxLen)
 (h3:∀p:By,p.length<=maxLen->has D (.string p)=(Go.Proofs.YtahkcemdbfjilaaGreatDoor.look L p).isSome/\D.atKey (.string p) (.held (nodeV n0))=.held (nodeV ((Go.Proofs.YtahkcemdbfjilaaGreatDoor.look L p).getD n0))) :
 size D'=(bA p n L).length/\∀q:By,q.length<=maxLen->has D' (.string q)=(Go.Proofs.YtahkcemdbfjilaaGreatDoor.look (bA p n L) q).isSome/\D'.atKey (.string q) (.held (nodeV n0))=.held (nodeV ((Go.Proofs.YtahkcemdbfjilaaGreatDoor.look (bA p n L) q).getD n0)):=by
 subst hD;have hK:WideAt.IsKeyLit (.string p):=trivial;refine ⟨?_,?_⟩
 . rw [size_put ht,(h3 p hp).1,h2,Zl hs]
 intro q hq;rw [gK];by_cases e:q=p
 . subst e
   rw [if_pos rfl];exact ⟨has_put_same hm hK _,atKey_put_same hm hK _ _⟩
 rw [if_neg e];have j3:Lit.string q≠Lit.string p:=fun k=>e (by injection k)
 rw [has_put_other j3,atKey_put_other j3];exact h3 q hq
theorem bX.store (h:bX w b L) (hs:cZ L) (hc:L.length < 1000000000) {p:By} (hp:p.length<=maxLen) (n:Nd) :
 ∃w',(Instr.mapUpdate 124 (.map (some b)) (kS p) (nodeV n)).run Tryz.prog w=.ok () w'/\bX w' b (bA p n L)/\w.grownBy w' (some b):=by
 obtain ⟨D,h1,h2,h3⟩:=h.own;obtain ⟨w',hr,ho,hg⟩:=h1.update bV Tryz.underlying124 (by unfold maxLen;omega) (d:=.held (nodeV n)) (ps:=[]) (eE p hp) rfl;obtain ⟨a1,a2⟩:=Sn hs rfl h1.isMap (h1.tidy bV) h2 hp h3;exact ⟨w',hr,.of_own ho a1 a2,hg⟩
theorem bX.entry (h:bX w b L) (hs:cZ L) (hc:L.length < 1000000000) {p:By} (hp:p.length<=maxLen) (n:Nd) :
 ∃v0 st w1,(Instr.mapEntry 124 (.map (some b)) (kS p)).run Tryz.prog w=.ok (.tuple #[v0,goInt st]) w1/\w.grownBy w1 (some b) /\
  ∀w2:World,w2.heap[b]? = w1.heap[b]?->∃w3,(Instr.entryStore 124 (.map (some b)) (goInt st) (nodeV n)).run Tryz.prog w2=.ok () w3/\bX w3 b (bA p n L)/\w2.grownBy w3 (some b):=by
 obtain ⟨w',hr,hm,_⟩:=h.store hs hc hp n;obtain ⟨es,clock,hb,hO⟩:=h;obtain ⟨v0,st,es1,clock1,h1,_,h2⟩:=entry_then_store Zv Tryz.underlying124 (z:=nodeV n0) tC hb hO.fit (eE p hp);refine ⟨v0,st,_,h1,⟨rfl,rfl,rfl,by simp [setBlock],fun i _ hi=>heap_setBlock_other hb _ (fun e=>hi (by rw [e]))⟩,fun w2 x9=>?_⟩;have IE:w2.heap[b]? = some (.map es1 clock1):=x9.trans (heap_setBlock_same hb _);obtain ⟨es',clock',h3,h4⟩:=h2 w2 (nodeV n) IE;refine ⟨_,h3,?_,⟨rfl,rfl,rfl,by simp [setBlock],fun i _ hi=>heap_setBlock_other IE _ (fun e=>hi (by rw [e]))⟩⟩;have e:w'=setBlock w b (.map es' clock'):=by
  have:=hr.symm.trans h4;injection this
 obtain ⟨es2,ck2,h5,h6⟩:=hm;rw [e,heap_setBlock_same hb] at h5;injection h5 with h5;injection h5 with h7 h8;subst h7 h8;exact ⟨_,_,heap_setBlock_same IE _,h6⟩
end
open Go.RowKit Go.Maps
structure TreeS (w:World) (g o m:Nat) (t:TypeId) (cs:Array Value) (L:Tr) (u room:Nat):Prop where
 has:Has w g t cs
 k0:cs[o]? = some (.map (some m))
 k1:cs[o+1]? = some (.int .i64 (u:Int))
 k2:cs[o+2]? = some (.int .i64 (room:Int))
 mp:bX w m L
 srt:cZ L
 ne:m≠g
 len:L.length<=100000
section
variable {w:World} {g o m:Nat} {t:TypeId} {cs:Array Value} {L:Tr} {u room:Nat}
theorem TreeS.c0 (h:TreeS w g o m t cs L u room):w.cell? ⟨g,o,none⟩=some (.map (some m)):=(h.has.at_ _).trans h.k0
theorem TreeS.c1 (h:TreeS w g o m t cs L u room):w.cell? ⟨g,o+1,none⟩=some (.int .i64 (u:Int)):=(h.has.at_ _).trans h.k1
theorem TreeS.c2 (h:TreeS w g o m t cs L u room):w.cell? ⟨g,o+2,none⟩=some (.int .i64 (room:Int)):=(h.has.at_ _).trans h.k2
theorem TreeS.kept {w':World} (h:TreeS w g o m t cs L u room) (hg:w'.heap[g]? = w.heap[g]?) (hm:w'.heap[m]? = w.heap[m]?):TreeS w' g o m t cs L u room :=
 ⟨hg.trans h.has,h.k0,h.k1,h.k2,h.mp.kept hm,h.srt,h.ne,h.len⟩
theorem TreeS.on {w':World} {B:Nat} (h:TreeS w g o m t cs L u room) (hb:Below B w w') (hB:w.heap.size<=B):TreeS w' g o m t cs L u room :=
 h.kept (hb.block g (Nat.lt_of_lt_of_le h.has.inside hB)) (hb.block m (Nat.lt_of_lt_of_le h.mp.inside hB))
end
def hasB (L:Tr) (p:By):Bool:=(look L p).isSome
def nI (L:Tr) (p:By):Bool:=decide (kindP L p=2)
def iK {n:Nat} (h:n<=4000):n<=maxLen:=by unfold maxLen;omega
def xP (n:Nd) (w:World):(Instr.field 71 (nodeV n) 0).run Tryz.prog w=.ok (.int .i64 n.kind) w:=by kernel_rfl
def Mm (n:Nd) (w:World):(Instr.field 71 (nodeV n) 1).run Tryz.prog w=.ok (kS n.data) w:=by kernel_rfl
def nH {w:World} {g o m:Nat} {t:TypeId} {cs:Array Value} {L:Tr} {u room:Nat} (h:TreeS w g o m t cs L u room) (p:By) (hp:p.length<=4000) :
 qC 106 #[.pointer (some ⟨g,o,none⟩),kS p] w fun e w'=>e=.returned (.bool (hasB L p))/\qW w w':=by
 have c0:=h.c0;have hl:=h.mp.lookOk (p:=p) (iK hp);obtain ⟨b,HB⟩:=qX ((look L p).isSome);obtain ⟨⟨k,d,x,tm⟩,HV⟩:=qX ((look L p).getD n0);rw [HB.o,HV.o] at hl;simp only [nodeV] at hl;clear h;go_enter Tryz.func106,Tryz.ntmps106
 go_wp2;go_ret;exact ⟨by rw [<-HB.o];rfl,qB.alloc qN _⟩
def wC {w:World} {g o m:Nat} {t:TypeId} {cs:Array Value} {L:Tr} {u room:Nat} (h:TreeS w g o m t cs L u room) (p:By) (hp:p.length<=4000) :
 qC 187 #[.pointer (some ⟨g,o,none⟩),kS p] w fun e w'=>e=.returned (.bool (nI L p))/\w=w':=by
 have c0:=h.c0;have hl:=h.mp.look (p:=p) (iK hp);clear h;by_cases V3:p=[]
 .
  have HP:=hid V3;have e1:(ba p).toList=[]:=by rw [aP,aQ,V3]
  clear V3;go_enter Tryz.func187,Tryz.ntmps187
  go_wp2;go_ret;exact ⟨by rw [HP.o];rfl,rfl⟩
 obtain ⟨⟨k,d,x,tm⟩,HV⟩:=qX ((look L p).getD n0);rw [HV.o] at hl;have hf:=xP ⟨k,d,x,tm⟩;simp only at hf;have hk:Hid (nI L p=(k == 2)):=by
  show _=_
  have:=HV.o;unfold nI kindP;rw [if_neg V3]
  cases hq:look L p with
  | none=>rw [hq] at this;simp only [Option.getD_none] at this;injection this with h1;subst h1;rfl
  | some n=>rw [hq] at this;simp only [Option.getD_some] at this;rw [this];rfl
 have e1:¬(ba p).toList=[]:=by rw [aP,aQ];exact V3
 have e2:(ba p).toList.isEmpty=false:=by simpa using e1
 clear V3 HV;go_enter Tryz.func187,Tryz.ntmps187
 go_wp2;go_ret;exact ⟨by rw [hk.o];rfl,rfl⟩
def xY {w:World} {g o m:Nat} {t:TypeId} {cs:Array Value} {L:Tr} {u room:Nat} (h:TreeS w g o m t cs L u room) (p:By) (hp:p.length<=4000) :
 qC 150 #[.pointer (some ⟨g,o,none⟩),kS p] w fun e w'=>e=.returned (.int .i64 (dW L p))/\qW w w':=by
 obtain ⟨a,HA⟩:=qX (nI L p);obtain ⟨b,HB⟩:=qX (hasB L p);have C1:Hid (qC 187 #[.pointer (some ⟨g,o,none⟩),kS p] w fun e w'=>e=.returned (.bool a)/\w=w'):=by rw [<-HA.o];exact wC h p hp
 have C2:Hid (qC 106 #[.pointer (some ⟨g,o,none⟩),kS p] w fun e w'=>e=.returned (.bool b)/\qW w w'):=by rw [<-HB.o];exact nH h p hp
 have HE:Hid (dW L p=if a then 0 else if b then 12 else 5):=by
  show _=_
  rw [<-HA.o,<-HB.o];unfold dW nI hasB;by_cases k:kindP L p=2
  . simp [k]
  simp [k]
 clear h
 cases a with
 | true =>
  go_enter Tryz.func150,Tryz.ntmps150
  go_wp2_with (go_at_call 187;refine C1.o.mono ?_;rintro e1 w1 ⟨rfl,rfl⟩)
  go_ret;exact ⟨by rw [HE.o];rfl,Below.refl _ _⟩
 | false =>
  cases b with
  | true =>
   go_enter Tryz.func150,Tryz.ntmps150
   go_wp2_with (first
    | (go_at_call 187;refine C1.o.mono ?_;rintro e1 w1 ⟨rfl,rfl⟩)
    | (go_at_call 106;refine C2.o.mono ?_;rintro e2 w2 ⟨rfl,a9⟩;have B2:=hid a9;clear a9))
   go_ret;exact ⟨by rw [HE.o];rfl,B2.o⟩
  | false =>
   go_enter Tryz.func150,Tryz.ntmps150
   go_wp2_with (first
    | (go_at_call 187;refine C1.o.mono ?_;rintro e1 w1 ⟨rfl,rfl⟩)
    | (go_at_call 106;refine C2.o.mono ?_;rintro e2 w2 ⟨rfl,a9⟩;have B2:=hid a9;clear a9))
   go_ret;exact ⟨by rw [HE.o];rfl,B2.o⟩
def uZ {w:World} {g o m:Nat} {t:TypeId} {cs:Array Value} {L:Tr} {u room:Nat} (h:TreeS w g o m t cs L u room) (hG:Gd w) (p:By) (hp:p.length<=4000) (hm:mayB p=true) :
 qC 135 #[.pointer (some ⟨g,o,none⟩),kS p] w fun e w'=>e=.returned (.int .i64 (cI L p))/\qW w w':=by
 have C1:Hid (qC 31 #[kS p] w fun e w'=>e=.returned (.tuple #[kS (aheadL p),.bool true])/\qW w w'):=by
  have:=Kx (ba p) w hG (by rw [aD];exact hp);rw [aQ,iT hm,hm] at this;exact this
 have C2:Hid (∀w',qW w w'->qC 150 #[.pointer (some ⟨g,o,none⟩),kS (aheadL p)] w' fun e w2=>e=.returned (.int .i64 (cI L p))/\qW w' w2) :=
  fun w' hb=>xY (h.on hb qN) _ (Nat.le_trans (xM p) hp)
 clear h hG;go_enter Tryz.func135,Tryz.ntmps135
 go_wp2_with fail
 refine C1.o.mono ?_;rintro e1 w1 ⟨rfl,c8⟩;have B1:=hid c8;clear c8;go_wp2_with fail
 refine (C2.o _ B1.o).mono ?_;rintro e2 w2 ⟨rfl,a9⟩;have B2:=hid (B1.o.trans (a9.mono B1.o.size));clear a9;go_wp2;go_ret;exact ⟨rfl,B2.o⟩
def Md {w:World} {g o m:Nat} {t:TypeId} {cs:Array Value} {L:Tr} {u room:Nat} (h:TreeS w g o m t cs L u room) (p:By) (hp:p.length<=4000) :
 qC 136 #[.pointer (some ⟨g,o,none⟩),kS p] w fun e w'=>e=.returned (.int .i64 (dV L p))/\w=w':=by
 have c0:=h.c0;have hl:=h.mp.look (p:=p) (iK hp);clear h;obtain ⟨⟨k,d,x,tm⟩,HV⟩:=qX ((look L p).getD n0);rw [HV.o] at hl;have hf:=xP ⟨k,d,x,tm⟩;simp only at hf;have hk:Hid (dV L p=if k=2 then 12 else if k=3 then 11 else 0):=by
  show _=_
  have:=HV.o;unfold dV
  cases hq:look L p with
  | none=>rw [hq] at this;simp only [Option.getD_none] at this;injection this with h1;subst h1;rfl
  | some n=>rw [hq] at this;simp only [Option.getD_some] at this;rw [this]
 clear HV;by_cases k2:k=2
 .
  have q1:(k == 2)=true:=by simpa using k2
  have HK:=hid k2;clear k2;go_enter Tryz.func136,Tryz.ntmps136
  go_wp2;go_ret;exact ⟨by rw [hk.o,if_pos HK.o];rfl,rfl⟩
 have q1:(k == 2)=false:=by simpa using k2
 by_cases k3:k=3
 .
  have q2:(k == 3)=true:=by simpa using k3
  have HK:=hid k3;have NN:=hid k2;clear k3 k2;go_enter Tryz.func136,Tryz.ntmps136
  go_wp2;go_ret;exact ⟨by rw [hk.o,if_neg NN.o,if_pos HK.o];rfl,rfl⟩
 have q2:(k == 3)=false:=by simpa using k3
 have HK:=hid k3;have NN:=hid k2;clear k3 k2;go_enter Tryz.func136,Tryz.ntmps136
 go_wp2;go_ret;exact ⟨by rw [hk.o,if_neg NN.o,if_neg HK.o];rfl,rfl⟩
def Ty {w:World} {g o m:Nat} {t:TypeId} {cs:Array Value} {L:Tr} {u room:Nat} (h:TreeS w g o m t cs L u room) (p:By) (hp:p.length<=4000) (hd:useP L p<=100000000) :
 qC 177 #[.pointer (some ⟨g,o,none⟩),kS p] w fun e w'=>e=.returned (.int .i64 ((useP L p:Nat):Int))/\qW w w':=by
 obtain ⟨b,HB⟩:=qX (hasB L p);have C2:Hid (qC 106 #[.pointer (some ⟨g,o,none⟩),kS p] w fun e w'=>e=.returned (.bool b)/\qW w w'):=by rw [<-HB.o];exact nH h p hp
 obtain ⟨⟨k,d,x,tm⟩,HV⟩:=qX ((look L p).getD n0);have C0:Hid (∀w',qW w w'->w'.cell? ⟨g,o,none⟩=some (.map (some m))/\(Instr.lookup 124 (.map (some m)) (kS p) false).run Tryz.prog w'=.ok (nodeV ⟨k,d,x,tm⟩) w'):=by
  intro w' hb;have h':=h.on hb qN;have:=h'.mp.look (p:=p) (iK hp);rw [HV.o] at this;exact ⟨h'.c0,this⟩
 have hf:=Mm ⟨k,d,x,tm⟩;simp only at hf;have HE:Hid (useP L p=if b then 64+d.length else 0):=by
  show _=_
  rw [<-HB.o];have:=HV.o;unfold useP hasB
  cases hq:look L p with
  | none=>rfl
  | some n=>rw [hq] at this;simp only [Option.getD_some] at this;rw [this];rfl
 clear h
 cases b with
 | false =>
  go_enter Tryz.func177,Tryz.ntmps177
  go_wp2_with (go_at_call 106;refine C2.o.mono ?_;rintro e2 w2 ⟨rfl,a9⟩;have B2:=hid a9;clear a9)
  go_ret;exact ⟨by rw [HE.o];rfl,B2.o⟩
 | true =>
  have hz:d.length<=100000000:=by have:=HE.o;simp only [if_pos] at this;omega
  have g8:(ba d).size=d.length:=aD d;have j5:(ba d).size<=100000000:=by omega
  have HZ:=hid g8;clear g8 hz hd;go_enter Tryz.func177,Tryz.ntmps177
  go_wp2_with fail
  refine C2.o.mono ?_;rintro e2 w2 ⟨rfl,a9⟩;have B2:=hid a9;clear a9;obtain ⟨c0,hl⟩:=C0.o _ B2.o;go_wp2;go_ret;refine ⟨?_,B2.o⟩;have hE:useP L p=64+(ba d).size:=by have:=HE.o;simp only [if_true] at this;rw [this,HZ.o]
  rw [hE];exact eW (by simp)
end Go.Proofs.YtahkcemdbfjilaaGreatDoor
