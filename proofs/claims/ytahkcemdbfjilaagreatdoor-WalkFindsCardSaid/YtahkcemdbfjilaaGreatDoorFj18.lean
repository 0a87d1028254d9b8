/- Texts. Conditions: as said. -/
import Derived.Test.YtahkcemdbfjilaaGreatDoorFj00
import Derived.Test.YtahkcemdbfjilaaGreatDoorFj17
set_option linter.all false
set_option maxRecDepth 100000
set_option maxHeartbeats 32000000
namespace Go.Proofs.YtahkcemdbfjilaaGreatDoor.Glob
open Go.RowKit
abbrev Hx:=(UInt8->Bool) × Bool
def sM (x:Hx) (k:By->Bool):By->Bool
 | []=>x.2&&k []
 | c :: l=>(x.2&&k (c :: l))||(x.1 c&&(if x.2 then sM x k l else k l))
def wh:H->By->Bool
 | []=>List.isEmpty
 | x :: es=>sM x (wh es)
def Mt (x:Hx) (v:By):Prop:=if x.2=true then ∀c∈v,x.1 c=true else ∃c,v=[c]/\x.1 c=true
def ah (x:Hx) (k:By->Bool) (l:By):sM x k l=true↔∃u v,l=u++v/\Mt x u/\k v=true:=by
 obtain ⟨h,m⟩:=x
 cases m with
 | true =>
  induction l with
  | nil =>
   simp only [sM,Bool.true_and,Mt,if_true];constructor
   . intro hk;exact ⟨[],[],rfl,fun c hc=>(by cases hc),hk⟩
   rintro ⟨u,v,e,_,hk⟩;obtain ⟨rfl,rfl⟩:=List.append_eq_nil_iff.1 e.symm;exact hk
  | cons c l ih =>
   simp only [sM,Bool.true_and,Bool.or_eq_true,Bool.and_eq_true,if_true];rw [ih];simp only [Mt,if_true];constructor
   . rintro (hk | ⟨hc,u,v,rfl,hu,hk⟩)
     . exact ⟨[],c :: l,rfl,fun c hc=>(by cases hc),hk⟩
     exact ⟨c :: u,v,rfl,fun d hd=>(by
      rcases List.mem_cons.1 hd with rfl | hd
      . exact hc
      exact hu d hd),hk⟩
   rintro ⟨u,v,e,hu,hk⟩
   cases u with
   | nil=>simp only [List.nil_append] at e;subst e;exact .inl hk
   | cons d u =>
    simp only [List.cons_append,List.cons.injEq] at e;obtain ⟨rfl,rfl⟩:=e;exact .inr ⟨hu c List.mem_cons_self,u,v,rfl,fun d hd=>hu d (List.mem_cons_of_mem _ hd),hk⟩
 | false =>
  cases l with
  | nil =>
   simp only [sM,Bool.false_and,Mt];constructor
   . intro h;cases h
   rintro ⟨u,v,e,hu,_⟩;obtain ⟨rfl,rfl⟩:=List.append_eq_nil_iff.1 e.symm;rw [if_neg (by decide)] at hu;obtain ⟨c,hc,_⟩:=hu
   cases hc
  | cons c l =>
   simp only [sM,Bool.false_and,Bool.false_or,Bool.and_eq_true,Mt];constructor
   . rintro ⟨hc,hk⟩
     exact ⟨[c],l,rfl,(by rw [if_neg (by decide)];exact ⟨c,rfl,hc⟩),hk⟩
   rintro ⟨u,v,e,hu,hk⟩;rw [if_neg (by decide)] at hu;obtain ⟨d,rfl,hd⟩:=hu;simp only [List.cons_append,List.nil_append,List.cons.injEq] at e;obtain ⟨rfl,rfl⟩:=e;exact ⟨hd,hk⟩
def Ds (l:By):wh [] l=true↔l=[]:=by cases l<;>simp [wh]
def tV (x:Hx) (es:H) (l:By):wh (x :: es) l=true↔∃u v,l=u++v/\Mt x u/\wh es v=true:=ah x (wh es) l
def tK (es fs:H) (l:By):wh (es++fs) l=true↔∃u v,l=u++v/\wh es u=true/\wh fs v=true:=by
 induction es generalizing l with
 | nil =>
  simp only [List.nil_append,Ds];constructor
  . intro h;exact ⟨[],l,rfl,rfl,h⟩
  rintro ⟨u,v,rfl,rfl,h⟩;exact h
 | cons x es ih =>
  rw [List.cons_append,tV];constructor
  . rintro ⟨u,v,rfl,hu,hv⟩
    obtain ⟨a,b,rfl,ha,hb⟩:=(ih v).1 hv;exact ⟨u++a,b,by rw [List.append_assoc],(tV _ _ _).2 ⟨u,a,rfl,hu,ha⟩,hb⟩
  rintro ⟨u,v,rfl,hu,hv⟩;obtain ⟨a,b,rfl,ha,hb⟩:=(tV _ _ _).1 hu;exact ⟨a,b++v,by rw [List.append_assoc],ha,(ih _).2 ⟨b,v,rfl,hb,hv⟩⟩
def Cm (x:Hx) (l:By):wh [x] l=true↔Mt x l:=by
 rw [tV];constructor
 . rintro ⟨u,v,rfl,hu,hv⟩
   obtain rfl:=(Ds v).1 hv;rw [List.append_nil];exact hu
 intro h;exact ⟨l,[],(List.append_nil _).symm,h,rfl⟩
def seg (path:By) (a i:Nat):By:=(path.drop a).take (i - a)
def yL (path:By) (a i:Nat) (h:i<=path.length):(seg path a i).length=i - a:=by unfold seg;rw [List.length_take,List.length_drop];omega
def Vi (path:By) (a:Nat):seg path a a=[]:=by unfold seg;simp
def Hs {l:By} {i:Nat} (h:i < l.length):at8 l i=l[i]:=by simp [at8,List.getD,List.getElem?_eq_getElem h]
def vO (path:By) (a i:Nat) (h1:a<=i) (h2:i < path.length):seg path a (i+1)=seg path a i++[at8 path i]:=by
 unfold seg;rw [show i+1 - a=(i - a)+1 by omega,List.take_succ_eq_append_getElem (by rw [List.length_drop];omega),Hs h2];congr 2
 rw [List.getElem_drop];congr 1;omega
def sC (hs:H) (k:Nat) (h:k < hs.length):hs.take (k+1)=hs.take k++[hs[k]]:=List.take_succ_eq_append_getElem h
def yE (hs:H) (k:Nat) (h:k < hs.length):hs[k].2=many hs k:=by simp [many,List.getD,List.getElem?_eq_getElem h]
def uB (hs:H) (k:Nat) (h:k < hs.length) (c:UInt8):hs[k].1 c=hold hs k c:=by simp [hold,List.getD,List.getElem?_eq_getElem h]
def Zr {hs:H} {k:Nat} (h:many hs k=true):k < hs.length:=by
 by_cases hk:k < hs.length
 . exact hk
 rw [uC (by omega)] at h;cases h
section
variable (rooted:Bool) (hs:H) (path:By)
def Tk (i k:Nat):Prop:=∃a,a<=i/\startB rooted path a=true/\∃u v,seg path a i=u++v/\wh (hs.take k) u=true/\(if many hs k=true then ∀c∈v,hold hs k c=true else v=[])
def Pk:Nat->Nat->Prop
 | 0,_=>False
 | i+1,k=>(k < hs.length/\many hs k=true/\Tk rooted hs path i k/\hold hs k (at8 path i)=true)∨((0 < k/\k<=hs.length)/\many hs (k - 1)=false/\Tk rooted hs path i (k - 1)/\hold hs (k - 1) (at8 path i)=true)
theorem Dg {a i:Nat} (hi:i<=path.length) {u:By} {c:UInt8} (h:seg path a i=u++[c]):∃j,i=j+1/\a<=j/\seg path a j=u/\at8 path j=c:=by
 have hl:=yL path a i hi;rw [h] at hl;simp only [List.length_append,List.length_singleton] at hl;obtain ⟨j,rfl⟩:∃j,i=j+1:=⟨i - 1,by omega⟩;refine ⟨j,rfl,by omega,?_⟩;rw [vO path a j (by omega) (by omega)] at h;have:=List.append_inj' h rfl;simpa using this
theorem snoc_cases (v:By):v=[]∨∃w c,v=w++[c]:=by
 rcases List.eq_nil_or_concat v with h | ⟨w,c,h⟩
 . exact .inl h
 exact .inr ⟨w,c,by rw [h];simp⟩
theorem Qa (i k:Nat) (hi:i<=path.length) (hk:k<=hs.length):Tk rooted hs path i k↔Pk rooted hs path i k∨(k=0/\startB rooted path i=true)∨(0 < k/\many hs (k - 1)=true/\Tk rooted hs path i (k - 1)):=by
 constructor
 .
  rintro ⟨a,ha,p6,u,v,ud,hu,hv⟩;rcases snoc_cases v with rfl | ⟨v',c,rfl⟩
  .
   rw [List.append_nil] at ud
   cases k with
   | zero =>
    rw [List.take_zero,Ds] at hu;subst hu;have:=yL path a i hi;rw [ud] at this;simp only [List.length_nil] at this;obtain rfl:a=i:=by omega
    exact .inr (.inl ⟨rfl,p6⟩)
   | succ k =>
    rw [sC hs k (by omega),tK] at hu;obtain ⟨u1,v1,rfl,hu1,xu⟩:=hu;rw [Cm] at xu;unfold Mt at xu;rw [yE] at xu
    cases hm:many hs k with
    | true =>
     rw [hm,if_pos rfl] at xu;refine .inr (.inr ⟨by omega,by simpa using hm,a,ha,p6,u1,v1,ud,by simpa using hu1,?_⟩);simp only [Nat.add_sub_cancel];rw [hm,if_pos rfl];intro c hc;rw [<-uB hs k (by omega)];exact xu c hc
    | false =>
     rw [hm,if_neg (by decide)] at xu;obtain ⟨c,rfl,hc⟩:=xu;obtain ⟨j,rfl,WL,hj,rfl⟩:=Dg path hi ud;refine .inl (.inr ⟨⟨by omega,hk⟩,by simpa using hm,⟨a,WL,p6,u1,[],by rw [List.append_nil];exact hj,by simpa using hu1,?_⟩,?_⟩)
     . simp [hm]
     simp only [Nat.add_sub_cancel];rw [<-uB hs k (by omega)];exact hc
  cases hm:many hs k with
  | false=>rw [hm,if_neg (by decide)] at hv;simp at hv
  | true =>
   rw [hm,if_pos rfl] at hv;rw [<-List.append_assoc] at ud;obtain ⟨j,rfl,WL,hj,rfl⟩:=Dg path hi ud;refine .inl (.inl ⟨Zr hm,hm,⟨a,WL,p6,u,v',hj,hu,?_⟩,hv _ (by simp)⟩);rw [hm,if_pos rfl];intro c hc;exact hv c (by simp [hc])
 rintro (hp | ⟨rfl,p6⟩ | ⟨CJ,hm,a,ha,p6,u,v,ud,hu,hv⟩)
 .
  cases i with
  | zero=>exact absurd hp (by unfold Pk;exact id)
  | succ i =>
   unfold Pk at hp;rcases hp with ⟨o3,hm,⟨a,ha,p6,u,v,ud,hu,hv⟩,hh⟩ | ⟨⟨CJ,NF⟩,hm,⟨a,ha,p6,u,v,ud,hu,hv⟩,hh⟩
   . refine ⟨a,by omega,p6,u,v++[at8 path i],by rw [vO path a i ha (by omega),ud,List.append_assoc],hu,?_⟩
     rw [hm,if_pos rfl] at hv ⊢;intro c hc;rcases List.mem_append.1 hc with h | h
     . exact hv c h
     simp only [List.mem_singleton] at h;rw [h];exact hh
   obtain ⟨k,rfl⟩:∃j,k=j+1:=⟨k - 1,by omega⟩;simp only [Nat.add_sub_cancel] at hm hu hv hh;rw [hm,if_neg (by decide)] at hv;subst hv;rw [List.append_nil] at ud;refine ⟨a,by omega,p6,u++[at8 path i],[],by rw [vO path a i ha (by omega),ud,List.append_nil],?_,?_⟩
   . rw [sC hs k (by omega),tK]
     refine ⟨u,[at8 path i],rfl,hu,?_⟩;rw [Cm];unfold Mt;rw [yE,hm,if_neg (by decide)];exact ⟨_,rfl,by rw [uB];exact hh⟩
   split
   . intro c hc;cases hc
   rfl
 . refine ⟨i,Nat.le_refl _,p6,[],[],by rw [Vi];rfl,by rw [List.take_zero];rfl,?_⟩
   split
   . intro c hc;cases hc
   rfl
 obtain ⟨k,rfl⟩:∃j,k=j+1:=⟨k - 1,by omega⟩;simp only [Nat.add_sub_cancel] at hm hu hv;rw [hm,if_pos rfl] at hv;refine ⟨a,ha,p6,u++v,[],by rw [ud,List.append_nil],?_,?_⟩
 . rw [sC hs k (by omega),tK]
   refine ⟨u,v,rfl,hu,?_⟩;rw [Cm];unfold Mt;rw [yE,hm,if_pos rfl];intro c hc;rw [uB];exact hv c hc
 split
 . intro c hc;cases hc
 rfl
theorem rS (i:Nat) (hi:i<=path.length) (p4:∀k,k<=hs.length->(preA rooted hs path i k=true↔Pk rooted hs path i k)):∀k,k<=hs.length->(atA rooted hs path i k=true↔Tk rooted hs path i k):=by
 intro k;induction k with
 | zero =>
  intro hk;rw [Qa rooted hs path i 0 hi hk];unfold atA skipA fX;simp only [Bool.or_eq_true,Bool.and_eq_true,beq_self_eq_true,and_true];rw [p4 0 hk];constructor
  . rintro (h | h)
    . exact .inr (.inl ⟨by first | rfl | trivial,h⟩)
    exact .inl h
  rintro (h | ⟨_,h⟩ | ⟨h,_⟩)
  . exact .inr h
  . exact .inl h
  omega
 | succ k ih =>
  intro hk;rw [Qa rooted hs path i (k+1) hi hk];have ih':=ih (by omega);unfold atA at ih' ⊢;rw [skipA];simp only [Bool.or_eq_true,Bool.and_eq_true,Nat.add_sub_cancel];rw [ih'];have e:fX (startB rooted path i) (preA rooted hs path i) (k+1)=preA rooted hs path i (k+1):=by unfold fX;simp
  rw [e,p4 (k+1) hk];constructor
  . rintro (h | ⟨h1,h2⟩)
    . exact .inl h
    exact .inr (.inr ⟨by omega,h2,h1⟩)
  rintro (h | ⟨h,_⟩ | ⟨_,h2,h1⟩)
  . exact .inl h
  . omega
  exact .inr ⟨h1,h2⟩
theorem Ah (i:Nat):i<=path.length->∀k,k<=hs.length->(atA rooted hs path i k=true↔Tk rooted hs path i k):=by
 induction i with
 | zero =>
  intro hi;refine rS rooted hs path 0 hi fun k hk=>?_
  unfold preA Pk;simp
 | succ i ih =>
  intro hi;refine rS rooted hs path (i+1) hi fun k hk=>?_
  have hA:=ih (by omega);have e:preA rooted hs path (i+1) k=jP hs (atA rooted hs path i) (at8 path i) k:=rfl;rw [e];unfold jP Pk;simp only [Bool.or_eq_true,Bool.and_eq_true,decide_eq_true_eq,Bool.not_eq_true'];constructor
  . rintro (⟨⟨⟨h1,h2⟩,h3⟩,h4⟩ | ⟨⟨⟨h1,h2⟩,h3⟩,h4⟩)
    . exact .inl ⟨h1,h2,(hA k hk).1 h3,h4⟩
    exact .inr ⟨h1,h2,(hA (k - 1) (by omega)).1 h3,h4⟩
  rintro (⟨h1,h2,h3,h4⟩ | ⟨h1,h2,h3,h4⟩)
  . exact .inl ⟨⟨⟨h1,h2⟩,(hA k hk).2 h3⟩,h4⟩
  exact .inr ⟨⟨⟨h1,h2⟩,(hA (k - 1) (by omega)).2 h3⟩,h4⟩
def ib:Prop:=∃a b,a<=b/\b<=path.length/\startB rooted path a=true/\rV path b=true/\wh hs (seg path a b)=true
theorem ey:mB rooted hs path=true↔path.length<=160/\ib rooted hs path:=by
 unfold mB;simp only [Bool.and_eq_true,decide_eq_true_eq,List.any_eq_true,List.mem_range];refine and_congr_right fun hl=>?_
 constructor
 .
  rintro ⟨b,hb,ha,he⟩;obtain ⟨a,om,p6,u,v,ud,hu,hv⟩:=(Ah rooted hs path b (by omega) hs.length qN).1 ha;rw [uC qN,if_neg (by decide)] at hv;subst hv;rw [List.append_nil] at ud;rw [List.take_length] at hu;exact ⟨a,b,om,by omega,p6,he,by rw [ud];exact hu⟩
 rintro ⟨a,b,om,hb,p6,he,hw⟩;refine ⟨b,by omega,(Ah rooted hs path b hb hs.length qN).2 ⟨a,om,p6,seg path a b,[],by rw [List.append_nil],by rw [List.take_length];exact hw,?_⟩,he⟩;rw [uC qN,if_neg (by decide)]
def xH:Bool:=decide (path.length<=160)&&(List.range (path.length+1)).any fun a=>startB rooted path a&&(List.range (path.length+1)).any fun b=>decide (a<=b)&&rV path b&&wh hs (seg path a b)
theorem Mn:xH rooted hs path=true↔path.length<=160/\ib rooted hs path:=by
 unfold xH ib;simp only [Bool.and_eq_true,decide_eq_true_eq,List.any_eq_true,List.mem_range];refine and_congr_right fun hl=>?_
 constructor
 . rintro ⟨a,ha,p6,b,hb,⟨om,he⟩,hw⟩;exact ⟨a,b,om,by omega,p6,he,hw⟩
 rintro ⟨a,b,om,hb,p6,he,hw⟩;exact ⟨a,by omega,p6,b,by omega,⟨om,he⟩,hw⟩
theorem Tu:mB rooted hs path=xH rooted hs path:=by
 rw [Bool.eq_iff_iff,ey,Mn]
end
open Go.RowKit Go.Maps
def Ar.at_ {B:Nat} {w:World} {v:Value} {l:List By} (h:Ar B w v l) (h0:0 < l.length):∃g c,v=.slice (some ⟨g,0,none⟩) l.length c/\g < w.heap.size/\∀k (hk:k < l.length),w.cell? ⟨g,k,none⟩=some (.string (ba l[k])):=by
 obtain ⟨g,c,h1,_,h3,_,h5⟩:=sX h h0;exact ⟨g,c,h1,h3,fun k hk=>h5 k _ (by simp [sD,hk])⟩
def Oq (a b:By):ba a++ba b=ba (a++b):=by
 apply ByteArray.ext;simp [ba]
open Go.RowKit Go.Maps
def gq (g:Except Int (List By)) (l:List By):Bool:=match g with | .ok q=>q == l | .error _=>false
def al {g:Except Int (List By)} {l:List By} (h:gq g l=true):g=.ok l:=by
 cases g with
 | error e=>cases h
 | ok q=>simp only [gq,beq_iff_eq] at h;rw [h]
def Rd (w:World) (n t:By):bO (w.alloc (.cells #[.string (ba n),.string (ba t)] 91)) (.slice (some ⟨w.heap.size,0,none⟩) 1 1) [(n,t)] :=
 bO.of_own ⟨rfl,.inr ⟨w.heap.size,1,#[.string (ba n),.string (ba t)],rfl,Nat.zero_le _,heap_alloc_new w _,Nat.le_refl _,by unfold maxLen;omega,rfl,rfl⟩⟩
def Rz (n t name:By) (w:World) (hG:Gd w) (hn:n.length<=100000) (ht:t.length<=100000) (hm:name.length<=100000) :
 qC 11 #[.slice (some ⟨w.heap.size,0,none⟩) 1 1,.string (ba name)] (w.alloc (.cells #[.string (ba n),.string (ba t)] 91)) fun e W=>kD w.heap.size [(n,t)] name e W/\qW w W:=by
 have hb:qW w (w.alloc (.cells #[.string (ba n),.string (ba t)] 91)):=qB.alloc qN _;refine (xU [(n,t)] name _ _ (hG.kept hb) (Rd w n t) (by simp) (fun i hi=>by simp at hi;subst hi;exact hn) (fun i hi=>by simp at hi;subst hi;exact ht) (by omega)).mono fun e W ⟨h1,h2⟩=>⟨?_,hb.thenG h2⟩
 unfold kD at h1 ⊢
 cases hr:readL [(n,t)] 4 [] name [] with
 | error c=>rw [hr] at h1;exact h1
 | ok qs =>
  rw [hr] at h1;obtain ⟨L,a1,a2,a3,a4⟩:=h1;have hs:=hb.size;refine ⟨L,a1,by omega,?_,a4⟩;obtain ⟨v,k1,gs,k2,k3⟩:=a3;exact ⟨v,k1,gs,qO k2 hs,k3⟩
end Go.Proofs.YtahkcemdbfjilaaGreatDoor.Glob
namespace Go.Proofs.YtahkcemdbfjilaaGreatDoor
open Go.RowKit Go.Maps
def gJ {P:Program} {ops:Array Oper} {rest:List Oper} {o:Oper} {a:Act} {w:World} {Q:Exit->Act->World->Prop} (O6:o.guard=none) (s x:Operand) (t tn:TypeId) (ho:o.op=.call { callee:=.builtin .append,args:=#[s,x],argTypes:=#[t,tn] })
 (u v v':Value) (w':World) (hs:a.eval s=u) (hx:a.eval x=v) (hr:(Builtin.append_ #[t,tn] o.type #[u,v]).run P w=.ok v' w') (h:wpList P ops Q rest (a.put o.dst v') w'):wpList P ops Q (o :: rest) a w :=
 wpList_append_run O6 s x t tn ho ⟨v',w',by rw [hs,hx];exact hr,h⟩
def pE {B:Nat} {w:World} {v:Value} {xs:List By} (h:StrR B w v xs) (h0:0 < xs.length):∃g c,v=.slice (some ⟨g,0,none⟩) xs.length c/\g < w.heap.size/\∀k (hk:k < xs.length),w.cell? ⟨g,k,none⟩=some (kS xs[k]):=Glob.Ar.at_ (B:=B) h h0
def StrR.on {B:Nat} {w w':World} {v:Value} {xs:List By} (h:StrR B w v xs) (hb:qW w w'):StrR B w' v xs:=h.kq (Kq.of_below hb)
def cO.on {B:Nat} {w w':World} {v:Value} {l:Tr} (h:cO B w v l) (hb:qW w w'):cO B w' v l:=h.kq (Kq.of_below hb)
def Hp {B:Nat} {w:World} {v:Value} {xs:List By} (h:StrR B w v xs) (p:By) (hn:xs.length<=100000) (hB:B<=w.heap.size) :
 ∃A c W2,(Builtin.append_ #[34,34] 34 #[v,.slice (some ⟨w.heap.size,0,none⟩) 1 1]).run Tryz.prog (w.alloc (.cells #[kS p] 9))=.ok (.slice A (xs.length+1) c) W2/\StrR B W2 (.slice A (xs.length+1) c) (xs++[p])/\Below B w W2:=by
 have hb:qW w (w.alloc (.cells #[kS p] 9)):=qB.alloc qN _;obtain ⟨v',W2,hr,ho,_,hg,hv⟩:=Glob.cM (B:=B) (w:=w.alloc (.cells #[kS p] 9)) (v:=v) (l:=xs) (s:=p) (g:=w.heap.size) (h.on hb) (Has.fresh _ _ _) hn (by simp;omega) 34;have ny:StrR B W2 v' (xs++[p]):=ho;obtain ⟨A,c,rfl⟩:=ny.form;have e:(xs++[p]).length=xs.length+1:=by simp
 rw [e] at hr ny;exact ⟨A,c,W2,hr,ny,(qB.alloc hB _).grown hg (by simp;omega) (fun g T9=>(World.ownsRow.lt h g T9).1)⟩
def dD (p:By) (k:Nat):List By:=((List.range k).filter fun i=>at8 p i == 47).map fun i=>p.take i
def Kv {p:By} {k:Nat} (h:at8 p k=47):dD p (k+1)=dD p k++[p.take k]:=by
 unfold dD;rw [List.range_succ,List.filter_append,List.map_append];simp [h]
def Ph {p:By} {k:Nat} (h:at8 p k≠47):dD p (k+1)=dD p k:=by
 unfold dD;rw [List.range_succ,List.filter_append,List.map_append];simp [h]
def xB (p:By) (k:Nat):(dD p k).length<=k:=by
 unfold dD;rw [List.length_map];refine Nat.le_trans (List.length_filter_le _ _) ?_;simp
def waysL (p:By):List By:=dD p (min p.length 200)++[p]
def zG (p:By):(waysL p).length<=201:=by
 unfold waysL;have:=xB p (min p.length 200);rw [List.length_append,List.length_singleton];omega
def Lf (w:World) (p:By) (e:Ending) (w':World):Prop:=∃A c,e=.returned (.slice A (waysL p).length c)/\StrR w.heap.size w' (.slice A (waysL p).length c) (waysL p)/\qW w w'
def Uy (p:By) (w:World) (hp:p.length<=140737488355328):qC 36 #[kS p] w fun e w'=>Lf w p e w':=by
 obtain ⟨N,HN⟩:=qX (min p.length 200);have HW:Hid (waysL p=dD p N++[p]):=by show _=_;unfold waysL;rw [HN.o]
 have hs:((ba p).size:Int)=(p.length:Int):=by rw [aD]
 have WF:Hid (∀i,i < p.length->∀w,(Instr.index 9 (kS p) (.int .i64 (i:Int))).run Tryz.prog w=.ok (.int .u8 (b8 (at8 p i))) w):=fun i h w=>by
  have:=Eg (ba p) i (by rw [aD];exact h) w;rw [aQ] at this;exact this
 go_enter Tryz.func36,Tryz.ntmps36
 go_wp2;go_loopw [3,4] (fun v3 v4 wr=>∃(k m c:Nat) (A:Option Addr),v4=.int .i64 (k:Int)/\k<=N/\v3=.slice A m c/\Hid ((dD p k).length=m)/\Hid (StrR w.heap.size wr (.slice A m c) (dD p k))/\Hid (qW w wr))
  (fun _ v4 _=>N - (intOf v4).toNat)
 case atStart=>exact ⟨0,0,0,none,rfl,Nat.zero_le _,rfl,rfl,StrR.nil _ _,Below.refl _ _⟩
 obtain ⟨k,m,c,A,rfl,hk,rfl,HM,J1,J2⟩:=hrel;have zo:m<=k:=by rw [<-HM.o];exact xB p k
 by_cases d8:k < N
 .
  have h1:k < p.length:=by have:=HN.o;omega
  have h2:k < 200:=by have:=HN.o;omega
  have hixk:=WF.o k h1;have w1:IntKind.i64.wrap ((k:Int)+1)=(k:Int)+1:=aM _ (by omega) (by omega);have g1:(k:Int) < (p.length:Int):=by omega
  have g2:(k:Int) < 200:=by omega
  have he:(ba p).extract 0 k=ba (p.take k):=by rw [gU,aQ]
  by_cases zz:at8 p k=47
  .
   have HX:Hid (dD p (k+1)=dD p k++[p.take k]):=Kv zz;obtain ⟨A5,c5,W5,i6,Y0,z6⟩:=Hp J1.o (p.take k) (by rw [HM.o];omega) J2.o.size;rw [HM.o] at i6 Y0;rw [<-HX.o] at Y0;have R5:=hid i6;have S5:=hid Y0;have B5:Hid (qW w W5):=J2.o.trans z6;have e47:b8 (at8 p k)=47:=by rw [zz];rfl
   rw [e47] at hixk;have SU:Hid ((dD p (k+1)).length=m+1):=by show _=_;rw [HX.o,List.length_append,HM.o];rfl
   clear i6 Y0 z6 zz e47;go_wp2_with (refine gJ rfl (.tmp 19) (.tmp 23) 34 34 rfl (.slice A m c) (.slice (some ⟨wr.heap.size,0,none⟩) 1 1) _ _ rfl rfl R5.o ?_)
   go_roundw
   case rel=>exact ⟨k+1,m+1,c5,A5,by go_num,by omega,rfl,SU.o,S5.o,B5.o⟩
   case measure=>simp [intOf];omega
  have HX:Hid (dD p (k+1)=dD p k):=Ph zz;have q47:(b8 (at8 p k) == 47)=false:=by
   rw [beq_eq_false_iff_ne];intro e;apply zz;have:=(at8 p k).toNat_lt;refine UInt8.toNat_inj.1 ?_;unfold b8 at e;show _=47
   omega
  have q47':¬b8 (at8 p k)=47:=by simpa using q47
  clear zz;go_wp2;go_roundw
  case rel=>exact ⟨k+1,m,c,A,by go_num,by omega,rfl,by rw [HX.o];exact HM.o,by rw [HX.o];exact J1.o,J2.o⟩
  case measure=>simp [intOf];omega
 obtain rfl:k=N:=by omega
 obtain ⟨A5,c5,W5,i6,Y0,z6⟩:=Hp J1.o p (by rw [HM.o];have:=HN.o;omega) J2.o.size;rw [HM.o] at i6 Y0;rw [<-HW.o] at Y0;have R5:=hid i6;have S5:=hid Y0;have B5:Hid (qW w W5):=J2.o.trans z6;have SU:Hid ((waysL p).length=m+1):=by show _=_;rw [HW.o,List.length_append,HM.o];rfl
 have HF:Hid (Lf w p (.returned (.slice A5 (m+1) c5)) W5):=⟨A5,c5,by rw [SU.o],by rw [SU.o];exact S5.o,B5.o⟩;clear i6 Y0 z6;by_cases h1:k < p.length
 .
  have h2:¬(k:Int) < 200:=by have:=HN.o;omega
  have g1:(k:Int) < (p.length:Int):=by omega
  go_wp2_with (refine gJ rfl (.tmp 25) (.tmp 27) 34 34 rfl (.slice A m c) (.slice (some ⟨wr.heap.size,0,none⟩) 1 1) _ _ rfl rfl R5.o ?_)
  go_ret;exact HF.o
 have g1:¬(k:Int) < (p.length:Int):=by omega
 go_wp2_with (refine gJ rfl (.tmp 25) (.tmp 27) 34 34 rfl (.slice A m c) (.slice (some ⟨wr.heap.size,0,none⟩) 1 1) _ _ rfl rfl R5.o ?_)
 go_ret;exact HF.o
def isL (ls:List By) (p:By):Nat:=(ls.filter fun q=>decide (q=p)).length
def howL (ls:List By) (p:By):Nat:=(ls.filter fun q=>decide (q=p)||withinB p q).length
def count_one {α:Type} {l:List α} (hn:l.Nodup) {f:α->Bool} {a:α} (ha:a∈l) (hf:f a=true) (hu:∀b∈l,f b=true->b=a):l.countP f=1:=by
 induction l with
 | nil=>cases ha
 | cons c l ih =>
  obtain ⟨h1,h2⟩:=List.nodup_cons.1 hn;rw [List.countP_cons];by_cases hc:f c=true
  .
   have e:=hu c List.mem_cons_self hc;have h0:l.countP f=0:=by
    rw [List.countP_eq_zero];intro b hb k;have:=hu b (List.mem_cons_of_mem _ hb) k;rw [this,<-e] at hb;exact h1 hb
   rw [h0,if_pos hc]
  rw [if_neg hc,Nat.add_zero];refine ih h2 ?_ (fun b hb=>hu b (List.mem_cons_of_mem _ hb));rcases List.mem_cons.1 ha with e | e
  . rw [e] at hf;exact absurd hf hc
  exact e
def sR (ig:By->Bool) (l:Tr) (p:By) (y:Nat):howL ((partF ig l l y).map (·.1)) p=l.countP fun x=>(!bZ ig l x.1&&decide (whyB ig x=y))&&(decide (x.1=p)||withinB p x.1):=by
 unfold howL partF;rw [List.filter_map,List.length_map,List.filter_filter,List.countP_eq_length_filter];congr 2
 funext x
 simp [Bool.and_comm,Function.comp]
def Ub (ig:By->Bool) (l:Tr) (p:By):isL ((partF ig l l 0).map (·.1)) p=l.countP fun x=>(!bZ ig l x.1&&decide (whyB ig x=0))&&decide (x.1=p):=by
 unfold isL partF;rw [List.filter_map,List.length_map,List.filter_filter,List.countP_eq_length_filter];congr 2
 funext x
 simp [Bool.and_comm,Function.comp]
def Nt {α:Type} (l:List α) (a b c d g:α->Bool) (h:∀x,(a x).toNat+(b x).toNat+(c x).toNat+(d x).toNat=(g x).toNat):l.countP a+l.countP b+l.countP c+l.countP d=l.countP g:=by
 induction l with
 | nil=>rfl
 | cons x l ih =>
  simp only [List.countP_cons];have:=h x;have e:∀f:α->Bool,(if f x=true then 1 else 0)=(f x).toNat:=fun f=>by cases f x<;>rfl
  rw [e,e,e,e,e];omega
def Sb (ig:By->Bool) (x:By × Nd):whyB ig x=0∨whyB ig x=1∨whyB ig x=2∨whyB ig x=3:=by
 unfold whyB;split
 . omega
 split
 . omega
 split<;>omega
section
variable {room:Nat} {l:Tr} (hW:WFT room l)
include hW
theorem Hm {x y:By × Nd} (hx:x∈l) (hy:y∈l) (h:x.1=y.1):x=y:=by
 have h1:=dS hW.srt hx;have h2:=dS hW.srt hy;rw [h,h2] at h1;injection h1 with h1;exact Prod.ext h h1.symm
theorem Db:l.Nodup:=hW.srt.imp fun {a b} h=>by rintro rfl;rw [fE] at h;cases h
theorem Xe (ig:By->Bool) (n:Nat):∀p:By,p.length<=n->mayB p=true->bZ ig l p=true->∃q∈l,withinB p q.1=true/\whyB ig q≠0/\bZ ig l q.1=false:=by
 induction n with
 | zero =>
  intro p hp hm;have:p=[]:=List.length_eq_zero_iff.1 (by omega);rw [this,nG] at hm;cases hm
 | succ n ih =>
  intro p hp hm ho;obtain ⟨q,hq,PD⟩:=List.any_eq_true.1 ho;simp only [Bool.and_eq_true,decide_eq_true_eq] at PD;have ym:=mem_may hW hq
  cases hoq:bZ ig l q.1 with
  | false=>exact ⟨q,hq,PD.1,PD.2,hoq⟩
  | true =>
   obtain ⟨r,hr⟩:=dI ym PD.1;have hl:q.1.length<=n:=by rw [hr,List.length_append,List.length_cons] at hp;omega
   obtain ⟨z,hz,k1,k2,k3⟩:=ih q.1 hl ym hoq;exact ⟨z,hz,mY hm (mem_may hW hz) ym PD.1 k1,k2,k3⟩
omit hW in
theorem two_over {p a b:By} (_hp:mayB p=true) (ha:mayB a=true) (hb:mayB b=true) (h1:withinB p a=true) (h2:withinB p b=true):a=b∨withinB b a=true∨withinB a b=true:=by
 obtain ⟨r,hr⟩:=dI ha h1;obtain ⟨s,hs⟩:=dI hb h2;have e:=hr.symm.trans hs;rcases List.append_eq_append_iff.1 e with ⟨t,h3,h4⟩ | ⟨t,h3,h4⟩
 .
  rcases t with _ | ⟨c,t⟩
  . left;rw [h3];simp
  right;left
  have hc:c=47:=by rw [List.cons_append] at h4;injection h4 with h4;exact h4.symm
  exact iY hb ha ⟨t,by rw [h3,hc]⟩
 rcases t with _ | ⟨c,t⟩
 . left;rw [h3];simp
 right;right
 have hc:c=47:=by rw [List.cons_append] at h4;injection h4 with h4;exact h4.symm
 exact iY ha hb ⟨t,by rw [h3,hc]⟩
theorem bn (ig:By->Bool) {x:By × Nd} (hx:x∈l):isL ((fndF ig l l).items.map (·.1)) x.1+howL (fndF ig l l).temps x.1+howL (fndF ig l l).ign x.1+howL (fndF ig l l).bad x.1=1:=by
 unfold fndF;rw [Ub,sR,sR,sR];have yn:=mem_may hW hx;rw [Nt l _ _ _ _ (fun q=>!bZ ig l q.1&&(decide (q.1=x.1)||(decide (whyB ig q≠0)&&withinB x.1 q.1))) (fun q=>by
  have hy:=Sb ig q
  cases bZ ig l q.1 with
  | true=>rfl
  | false =>
   rcases hy with e | e | e | e<;>rw [e]<;>cases decide (q.1=x.1)<;>cases withinB x.1 q.1<;>rfl)]
 cases ho:bZ ig l x.1 with
 | false =>
  refine count_one (Db hW) hx (by simp [ho]) fun b hb hG=>?_
  simp only [Bool.and_eq_true,Bool.or_eq_true,decide_eq_true_eq] at hG;rcases hG.2 with e | e
  . exact Hm hW hb hx e
  have:bZ ig l x.1=true:=List.any_eq_true.2 ⟨b,hb,by simp [e.1,e.2]⟩;rw [ho] at this;cases this
 | true =>
  obtain ⟨q,hq,k1,k2,k3⟩:=Xe hW ig _ x.1 qN yn ho;refine count_one (Db hW) hq (by simp [k1,k2,k3]) fun b hb hG=>?_
  simp only [Bool.and_eq_true,Bool.or_eq_true,decide_eq_true_eq,Bool.not_eq_true'] at hG;rcases hG.2 with e | e
  . rw [e,ho] at hG;cases hG.1
  rcases two_over yn (mem_may hW hb) (mem_may hW hq) e.2 k1 with h | h | h
  . exact Hm hW hb hq h
  . have:bZ ig l q.1=true:=List.any_eq_true.2 ⟨b,hb,by simp [e.1,h]⟩
    rw [k3] at this;cases this
  have:bZ ig l b.1=true:=List.any_eq_true.2 ⟨q,hq,by simp [k2,h]⟩;rw [hG.1] at this;cases this
theorem aq {ig:By->Bool} {p q:By} (hp:mayB p=true) (hq:mayB q=true) (h:withinB p q=true) (ho:bZ ig l q=true):bZ ig l p=true:=by
 obtain ⟨z,hz,k⟩:=List.any_eq_true.1 ho;simp only [Bool.and_eq_true,decide_eq_true_eq] at k;exact List.any_eq_true.2 ⟨z,hz,by simp [mY hp (mem_may hW hz) hq h k.1,k.2]⟩
theorem aw (ig:By->Bool) {pre rest:Tr} {x:By × Nd} (he:(fndF ig l l).items=pre++x :: rest) (h0:aheadL x.1≠[]):∃q∈pre,q.1=aheadL x.1/\q.2.kind=2:=by
 have WM:x∈partF ig l l 0:=by
  have:x∈(fndF ig l l).items:=by rw [he];simp
  exact this
 unfold partF at WM;rw [List.mem_filter] at WM;obtain ⟨hx,WN⟩:=WM;simp only [Bool.and_eq_true,Bool.not_eq_true',decide_eq_true_eq] at WN;have yn:=mem_may hW hx;rcases may_split yn with ⟨k,_⟩ | ⟨_,k1,k2,k3⟩
 . exact absurd k h0
 have xw:=hW.par x.1 (by rw [dS hW.srt hx];rfl);unfold kindP at xw;rw [if_neg h0] at xw
 cases hl:look l (aheadL x.1) with
 | none=>rw [hl] at xw;cases xw
 | some n =>
  rw [hl] at xw;have hq:(aheadL x.1,n)∈l:=look_mem hl;have DR:bZ ig l (aheadL x.1)=false:=by
   cases ho:bZ ig l (aheadL x.1) with
   | false=>rfl
   | true=>have:=aq hW yn k2 k3 ho;rw [WN.1] at this;cases this
  have hw:whyB ig (aheadL x.1,n)=0:=by
   rcases Nat.eq_zero_or_pos (whyB ig (aheadL x.1,n)) with e | e
   . exact e
   have:bZ ig l x.1=true:=List.any_eq_true.2 ⟨_,hq,by simp [k3];omega⟩;rw [WN.1] at this;cases this
  have hqi:(aheadL x.1,n)∈(fndF ig l l).items:=by
   show _∈partF ig l l 0
   unfold partF;rw [List.mem_filter];exact ⟨hq,by simp [DR,hw]⟩
  have hs:cZ (fndF ig l l).items:=hW.srt.filter _;rw [he] at hqi hs;have hc:cmpL (aheadL x.1) x.1 = -1:=by
   obtain ⟨r,hr⟩:=dI k2 k3;have:=uX (aheadL x.1) r;rw [<-hr] at this;exact this
  rcases List.mem_append.1 hqi with e | e
  . exact ⟨_,e,rfl,xw⟩
  exfalso
  rcases List.mem_cons.1 e with e | e
  . have e1:aheadL x.1=x.1:=congrArg Prod.fst e
    have:=congrArg List.length k1;rw [List.length_append,List.length_cons,e1] at this;omega
  have:=(List.pairwise_cons.1 (List.pairwise_append.1 hs).2.1).1 _ e;simp only at this;rw [kG,hc] at this;cases this
end
open Go.RowKit Go.Maps
def fS (l:Tr):By:=l.flatMap (·.1++[32])
def Lz (l:Tr) (x:At):fS (l++[x])=fS l++x.1++[32]:=by simp [fS]
def Nq {l:Tr} {m:Nat} (h:∀x∈l,x.1.length<=m):(fS l).length<=l.length*(m+1):=by
 induction l with
 | nil=>simp [fS]
 | cons x l ih =>
  have e:fS (x :: l)=(x.1++[32])++fS l:=by simp [fS]
  have h1:=h x List.mem_cons_self;have h2:=ih fun y hy=>h y (List.mem_cons_of_mem _ hy)
  have h3:(x.1++[32]++fS l).length=x.1.length+1+(fS l).length:=by simp;omega
  rw [e,h3,List.length_cons,Nat.add_mul];omega
def flat_get {α β:Type} (f:α->List β) (n:Nat) (hf:∀a,(f a).length=n):∀(l:List α) (i:Nat) (hi:i < l.length) (j:Nat),j < n->(l.flatMap f)[i*n+j]? = (f l[i])[j]?
 | x :: l,0,_,j,hj=>by
  rw [List.flatMap_cons,Nat.zero_mul,Nat.zero_add,List.getElem?_append_left (by rw [hf];exact hj)];rfl
 | x :: l,i+1,hi,j,hj=>by
  rw [List.flatMap_cons,List.getElem?_append_right (by rw [hf,Nat.add_mul];omega),hf,show (i+1)*n+j - n=i*n+j by rw [Nat.add_mul];omega];exact flat_get f n hf l i (by simpa using hi) j hj
def jW.at_ {B:Nat} {w:World} {v:Value} {ps:List (At × Value)} (h:jW B w v ps) (h0:0 < ps.length):∃g c,v=.slice (some ⟨g,0,none⟩) ps.length c/\B<=g/\g < w.heap.size /\
 ∀(k:Nat) (hk:k < ps.length) (j:Nat) (u:Value),j < 27->(recN (ps[k]).1.1 (ps[k]).1.2 (ps[k]).2).toList[j]? = some u->w.cell? ⟨g,k*27+j,none⟩=some u:=by
 rcases h.own.2 with ⟨_,h3⟩ | ⟨g,c,cur,h3,hB,h4,h5⟩
 . omega
 refine ⟨g,c,h3,hB,(World.ownsRow.lt h.own g (by rw [h3];rfl)).2,fun k hk j u hj hu=>?_⟩;have:=World.ownsRow.cells (g:=g) h.own (by rw [h3];rfl) (k*27+j) u (by
  unfold nF;rw [flat_get (fun y:At × Value=>(recN y.1.1 y.1.2 y.2).toList) 27 (fun y=>rfl) ps k hk j hj];exact hu)
 rwa [bY,Nat.zero_add] at this
def Pa {B:Nat} {w:World} {v:Value} {l:Tr} (h:cO B w v l) (hn:l.length<=100000) (hq:∀x∈l,x.1.length<=4000) :
 qC 30 #[v] w fun e w'=>e=.returned (kS (fS l))/\w=w':=by
 obtain ⟨ps,za,hP⟩:=h;have IU:ps.length=l.length:=by rw [<-za,List.length_map]
 have hv:=hP.own;have HP:=hid hP;have WO:=hid za;have HQ:=hid hq;obtain ⟨A,c,rfl⟩:∃A c,v=.slice A ps.length c:=by
  rcases hv.2 with ⟨h1,h2⟩ | ⟨g,c,cur,h1,_⟩
  . exact ⟨none,0,by rw [h1,h2]⟩
  exact ⟨some ⟨g,0,none⟩,c,h1⟩
 obtain ⟨n,HN⟩:=qX (ps.length);rw [HN.o] at HP ⊢;rw [<-IU,HN.o] at hn;clear hP za hq hv IU;go_enter Tryz.func30,Tryz.ntmps30
 go_wp2;go_loopw [3,4] (fun s0 i wr=>∃(k:Nat),i=.int .i64 (k:Int)/\s0=.string (ba (fS (l.take k)))/\k<=n/\w=wr)
  (fun _ i _=>n - (intOf i).toNat)
 case atStart=>exact ⟨0,rfl,rfl,Nat.zero_le _,rfl⟩
 obtain ⟨k,rfl,rfl,hk,rfl⟩:=hrel;by_cases d8:k < n
 .
  have LT:k < ps.length:=by rw [HN.o];exact d8
  have o3:k < l.length:=by rw [<-WO.o,List.length_map];exact LT
  obtain ⟨g,cap,vz,_,hg,d9⟩:=HP.o.at_ (by omega);rw [HN.o] at vz;simp only [Value.slice.injEq,true_and] at vz;obtain ⟨rfl,rfl⟩:=vz;have c0:=d9 k LT 0 _ (by omega) rfl;have e0:(ps[k]).1=l[k]:=by
   have:=WO.o;subst this;simp
  rw [e0,Nat.add_zero] at c0;have PC:(k:Int) < (n:Int):=by omega
  have CJ:(0:Int)<=(k:Int):=by omega
  have JH:(fS (l.take k)).length<=500000000:=by
   have:=Nq (l:=l.take k) (m:=4000) (fun s hs=>HQ.o s (List.mem_of_mem_take hs));rw [List.length_take,Nat.min_eq_left (by omega)] at this;have:k*(4000+1)<=100000*4001:=Nat.mul_le_mul_right _ (by omega);omega
  have ql:(l[k]).1.length<=4000:=HQ.o _ (List.getElem_mem o3);have Z0:Hid (fS (l.take (k+1))=fS (l.take k)++((l[k]).1++[32])):=by show _=_;rw [List.take_succ_eq_append_getElem o3,Lz,List.append_assoc]
  generalize (l[k]).1=s at c0 ql Z0;generalize fS (l.take k)=u at JH Z0;have zu:=aD u;have zs:=aD s;have a1:ba u++ba s=ba (u++s):=Glob.Oq u s;have a2:ba (u++s)++(⟨#[32]⟩:ByteArray)=ba (u++s++[32]):=Glob.Oq (u++s) [32];have z2:(ba (u++s)).size=u.length+s.length:=by rw [aD,List.length_append]
  have w1:IntKind.i64.wrap ((k:Int)+1)=(k:Int)+1:=aM _ (by omega) (by omega);clear d9 hg e0;go_wp2;go_roundw
  case rel=>exact ⟨k+1,by go_num,by rw [Z0.o],by omega,trivial⟩
  case measure=>simp [intOf];omega
 obtain rfl:k=n:=by omega
 have HE:Hid (l.take k=l):=by show _=_;rw [List.take_of_length_le (by rw [<-WO.o,List.length_map,HN.o];omega)]
 rw [HE.o];go_wp2;go_ret;exact ⟨rfl,rfl⟩
open Go.RowKit Go.Maps
def dQ (w:World) (room:Nat) (r:Int × Tr) (e:Ending) (w':World):Prop :=
 (r.1=0/\∃o,e=.returned (.tuple #[.pointer (some ⟨o,0,none⟩),.int .i64 0])/\gN w.heap.size w' o r.2 room/\qW w w')∨(r.1≠0/\e=.returned (.tuple #[.pointer none,.int .i64 r.1])/\qW w w')
def dQ.bad {w w':World} {room:Nat} {r:Int × Tr} {c:Int} (hr:r.1=c) (hc:c≠0) (hb:qW w w'):dQ w room r (.returned (.tuple #[.pointer none,.int .i64 c])) w':=by
 subst hr;exact .inr ⟨hc,rfl,hb⟩
def jg (L:Tr):Prop:=∀x∈L,x.1.length<=4000
def WFT.short {room:Nat} {L:Tr} (h:WFT room L):jg L:=fun x hx=>by
 obtain ⟨p,n⟩:=x;have:=(aU (h.may p (by rw [dS h.srt hx];rfl))).1;show p.length<=4000;omega
def dr (s:By) (k:Nat):(ba s).extract k s.length=ba (s.drop k):=by
 have:=aR (ba s) k;rw [aD,aQ] at this;exact this
open Go.RowKit Go.Maps
def oL (d:By) (m:Int) (pk:Bool):By:=if pk&&decide (m < (d.length:Int)) then d.take m.toNat else d
def vG (d:By) (m:Int) (pk:Bool):(oL d m pk).length<=d.length:=by
 unfold oL;split
 . rw [List.length_take];omega
 exact Nat.le_refl _
def vQ {d:By} {m:Int} {pk:Bool} (h:(pk&&decide (m < (d.length:Int)))=true):oL d m pk=d.take m.toNat:=if_pos h
def yM {d:By} {m:Int} {pk:Bool} (h:(pk&&decide (m < (d.length:Int)))=false):oL d m pk=d:=if_neg (by rw [h];decide)
def oI (x:Eff) (m:Int) (pk:Bool):Eff:=if pk then Lb x m.toNat else x
def Ko (p d:By) (t m:Int) (pk:Bool) (hm:0<=m):oI (.write p d t) m pk=.write p (oL d m pk) t:=by
 unfold oI oL
 cases pk with
 | false=>rfl
 | true =>
  rw [if_pos rfl,Bool.true_and];by_cases h:m < (d.length:Int)
  . rw [decide_eq_true h];rfl
  rw [decide_eq_false h];exact Ev _ _ (by show d.length<=_;omega)
def Kn (L:Tr) {p:By} (h:p≠[]):dV L p=if kindP L p=2 then 12 else if kindP L p=3 then 11 else 0:=by
 unfold dV kindP;rw [if_neg h]
 cases look L p with
 | none=>rfl
 | some n=>rfl
def uI {room:Nat} {L:Tr} (hW:WFT room L) {p:By} (h:p≠[]):(look L p).isSome↔kindP L p≠0:=by
 unfold kindP;rw [if_neg h]
 cases hl:look L p with
 | none=>simp
 | some m=>have:=hW.kind p m hl;simp;omega
def tB {room:Nat} {L:Tr} (h:cZ L) (p:By) (n:Nd):cK room L p n=if usedL (bA p n L)<=room then (0,bA p n L) else (7,L):=by
 have:=jV h p n;unfold cK;by_cases k:usedL L+jI n<=room+useP L p
 . rw [if_pos k,if_pos (by omega)]
 rw [if_neg k,if_neg (by omega)]
def yU (s:By) (k:Nat):(ba s).extract 0 k=ba (s.take k):=by
 apply ByteArray.ext;simp [ba,ByteArray.data_extract]
def Fd {w:World} {u:Nat} {L:Tr} {room:Nat} (h:TreeR w u L room) (hW:WFT room L) (hT:TG L) (hr:room<=1048576) (p q d:By) (tm m:Int) (pk:Bool) (hm:0<=m) (hd:d.length<=100000000) (wt:mayB p=true) :
 qC 83 #[.pointer (some ⟨u,0,none⟩),.agg (lZ 1 p q d tm m pk)] w fun e w'=>dQ w room (cR room L (oI (.write p d tm) m pk)) e w':=by
 rw [Ko p d tm m pk hm];have hL:L.length<=16384:=by have h1:=jZ (L:=L);have:=hW.used;omega
 have hU:=hW.used;obtain ⟨D,HD⟩:=qX (oL d m pk);have GM:D.length<=100000000:=by rw [<-HD.o];have:=vG d m pk;omega
 obtain ⟨kk,V4⟩:=qX (kindP L p);obtain ⟨hh,HH⟩:=qX (cI L p);obtain ⟨r,oq⟩:=qX (cR room L (.write p (oL d m pk) tm));rw [oq.o];have yu:Hid (r=if hh=0 then (if kk=2 then (12,L) else if kk=3 then (11,L) else if usedL (bA p ⟨1,D,[],tm⟩ L)<=room then (0,bA p ⟨1,D,[],tm⟩ L) else (7,L)) else (hh,L)):=by
  show _=_
  rw [<-oq.o];simp only [cR,HH.o,HD.o,Kn L (dE wt),V4.o,tB hW.srt];by_cases k2:kk=2
  . simp [k2]
  by_cases k3:kk=3
  . simp [k3]
  simp [k2,k3]
 have ur:qW w (w.alloc (.cells (lZ 1 p q d tm m pk) 99)):=qB.alloc qN _;obtain ⟨b,HB⟩:=qX (w.heap.size);have XB:Hid (Has (w.alloc (.cells (lZ 1 p q d tm m pk) 99)) b 99 #[.int .i64 1,kS p,kS q,kS d,.int .i64 tm,.int .i64 m,.bool pk]):=by rw [<-HB.o];exact Has.fresh _ _ _
 have B0:=hid ur;obtain ⟨w1,qe⟩:=qX (w.alloc (.cells (lZ 1 p q d tm m pk) 99));rw [qe.o] at B0 XB;have r6:=qe.o;have zy:Hid (w1.heap.size=b+1):=by show _=_;rw [<-qe.o,<-HB.o];simp
 have T1:=hid (h.on B0.o);have CK:Hid (qC 112 #[.pointer (some ⟨u,0,none⟩),kS p] w1 fun e w'=>e=.returned (.int .i64 kk)/\w1=w'):=by rw [<-V4.o];exact lW T1.o p (by omega)
 have qf:=hid hW;have HTG:=hid hT;have HR:=hid hr;have ro:=hid hL;have PE:=hid hU;obtain ⟨cc,so⟩:=qX ((pk&&decide (m < (d.length:Int))));have qg:Hid (cc=true->D=d.take m.toNat/\m<=(d.length:Int)):=fun e=>by
  rw [<-HD.o,vQ (by rw [so.o];exact e)];refine ⟨rfl,?_⟩;have h1:=so.o;rw [e,Bool.and_eq_true,decide_eq_true_eq] at h1;omega
 have T8:Hid (cc=false->D=d):=fun e=>by rw [<-HD.o,yM (by rw [so.o];exact e)]
 have x0:=XB.o.at_ 0;have x1:=XB.o.at_ 1;have x2:=XB.o.at_ 2;have x3:=XB.o.at_ 3;have x4:=XB.o.at_ 4;have x5:=XB.o.at_ 5;have x6:=XB.o.at_ 6;have zd:(ba d).size=d.length:=aD d;have nh:=hid GM;have CH:Hid (qC 132 #[.pointer (some ⟨u,0,none⟩),kS p] w1 fun e w'=>e=.returned (.int .i64 hh)/\qW w1 w'):=by rw [<-HH.o];exact tG T1.o qf.o p wt (by have:=(aU wt).1;omega) (by omega)
 have G5:Hid (p.length<=4000):=by have:=(aU wt).1;show _<=_;omega
 clear h hW hT hr ur hL hU GM hd;go_enter Tryz.func83,Tryz.ntmps83
 have rt:=HB.o;go_wp2_with fail
 refine CK.o.mono ?_;rintro e1 LU ⟨rfl,rfl⟩;clear r6 rt;go_upto_region 3 with fail
 go_cut [27] (fun t w'=>t=.bool cc/\w1=w')
 case first =>
  cases pk with
  | false =>
   have hc:cc=false:=by rw [<-so.o];rfl
   clear qg T8;go_wp2_with fail
   go_meet;exact ⟨by rw [hc],rfl⟩
  | true =>
   have hc:decide (m < (d.length:Int))=cc:=by rw [<-so.o];rfl
   clear qg T8;go_wp2_with fail
   go_meet;exact ⟨rfl,rfl⟩
 obtain ⟨rfl,rfl⟩:=hcut;go_upto_if 27 with fail
 go_cut [7] (fun t w'=>t=kS D/\w1=w')
 case first =>
  cases cc with
  | false =>
   have hc:=T8.o rfl;clear qg T8;go_wp2_with fail
   go_meet;exact ⟨by rw [hc],rfl⟩
  | true =>
   obtain ⟨hc,zo⟩:=qg.o rfl;have e1:(ba d).extract 0 m.toNat=ba D:=by rw [hc];exact yU d _
   clear qg T8 hc;go_wp2_with fail
   go_meet;exact ⟨rfl,rfl⟩
 obtain ⟨rfl,rfl⟩:=hcut;clear qg T8;go_wp2_with fail
 refine CH.o.mono ?_;rintro e2 w2 ⟨rfl,a9⟩;have N9:=hid (XB.o.kept a9 XB.o.inside);have B2:Hid (qW w w2):=B0.o.trans (a9.mono B0.o.size);have T2:=hid (T1.o.on a9);clear x0 x1 x2 x3 x4 x5 x6;clear a9;have x0:=N9.o.at_ 0;have x1:=N9.o.at_ 1;have x2:=N9.o.at_ 2;have x3:=N9.o.at_ 3;have x4:=N9.o.at_ 4;have x5:=N9.o.at_ 5;have x6:=N9.o.at_ 6;by_cases og:hh=0
 .
  have q0:(hh != 0)=false:=by simp [og]
  have DD:=hid (yu.o.trans (if_pos og));clear og;by_cases k2:kk=2
  .
   have q2:(kk == 2)=true:=by simpa using k2
   have HE:Hid (r.1=12):=by show _=_;rw [DD.o,if_pos k2]
   clear k2;go_wp2;go_ret2;exact dQ.bad HE.o (by decide) B2.o
  have q2:(kk == 2)=false:=by simpa using k2
  have J0:=hid (DD.o.trans (if_neg k2));clear k2;by_cases k3:kk=3
  .
   have q3:(kk == 3)=true:=by simpa using k3
   have HE:Hid (r.1=11):=by show _=_;rw [J0.o,if_pos k3]
   clear k3;go_wp2;go_ret2;exact dQ.bad HE.o (by decide) B2.o
  have q3:(kk == 3)=false:=by simpa using k3
  have K9:=hid (J0.o.trans (if_neg k3));clear k3;go_upto_region 26 with fail
  obtain ⟨w3,qw⟩:=qX (w2.alloc (.cells #[.int .i64 1,.string (ba D),.string ⟨#[]⟩,.int .i64 tm] 71));obtain ⟨b2,i9⟩:=qX (w2.heap.size);have XN:Hid (Has w3 b2 71 (dU 1 D [] tm)):=by rw [<-qw.o,<-i9.o];exact Has.fresh _ _ _
  have i7:qW w2 w3:=by rw [<-qw.o];exact qB.alloc qN _
  have Q0:=hid (N9.o.kept i7 N9.o.inside);have B3:Hid (qW w w3):=B2.o.trans (i7.mono B2.o.size);have T3:=hid (T2.o.on i7);rw [qw.o,i9.o];clear i7;clear x0 x1 x2 x3 x4 x5 x6;have x0:=Q0.o.at_ 0;have x1:=Q0.o.at_ 1;have x2:=Q0.o.at_ 2;have x3:=Q0.o.at_ 3;have x4:=Q0.o.at_ 4;have x5:=Q0.o.at_ 5;have x6:=Q0.o.at_ 6;have AZ:=K9;have PF:Hid (qC 133 #[.pointer (some ⟨u,0,none⟩),kS p,.agg (dU 1 D [] tm)] w3 fun e w'=>Mx w3 (bA p ⟨1,D,[],tm⟩ L) room e w'):=tA T3.o p 1 D [] tm G5.o (by have:=ro.o;omega) (qf.o.short);go_wp2_with (first
   | (refine fR rfl (.tmp 10) rfl b2 rfl 1 D [] tm XN.o ?_))
  refine PF.o.mono ?_;rintro e4 w4 ⟨o4,rfl,GN,x8⟩;have T4:=hid (GN.mono B3.o.size);have B4:Hid (qW w w4):=B3.o.trans (x8.mono B3.o.size);have zj:=(T3.o.on x8);have HK:=hid (jV qf.o.srt p ⟨1,D,[],tm⟩);obtain ⟨K,ut⟩:=qX (bA p ⟨1,D,[],tm⟩ L);rw [ut.o] at T4 AZ HK;have IT:Hid (usedL K<=1000000000):=by have h1:=HK.o;have h2:=PE.o;have h3:=HR.o;show _<=_;unfold jI at h1;simp only at h1;have:=nh.o;omega
  have GO:Hid (w4.drew.cell? ⟨u,1,none⟩=some (.int .i64 (room:Int))):=by obtain ⟨A,n,c,hv⟩:=zj.view;exact hv.c1
  have CU:=hid (nX (T4.o.tree.on qB.drew) IT.o);have T5:=hid (T4.o.on qB.drew);have B5:=hid B4.o.drew;clear GN x8 zj x0 x1 x2 x3 x4 x5 x6;go_upto_region 35 with fail
  refine qG (S:=fun W=>W.cell? ⟨u,1,none⟩=some (.int .i64 (room:Int))) (by kernel_rfl) (GO.o) (fun hS=>?_);generalize w4.drew=w5 at *;refine qK 0 rfl (by kernel_rfl) ‹_› (fun w a8=>by go_simp;with_reducible rfl) ?_;simp only [Act.put,aB,aA,aC];refine aG 2 ?_
  iterate 3
   refine qT rfl (by kernel_rfl) ‹_› (fun w a8=>by go_simp;with_reducible rfl) ?_;simp only [Act.put,aB,aA,aC,Nat.reduceAdd]
  refine aE ?_;refine qK 5 rfl (by kernel_rfl) ‹_› (fun w a8=>by have hc:w.cell? ⟨u,1,none⟩=some (.int .i64 (room:Int)):=a8;go_simp;with_reducible rfl) ?_;simp only [Act.put,aB,aA,aC];refine qD 1 rfl (by kernel_rfl) fun K hK=>?_
  go_simp;refine (CU.o).mono ?_;rintro e5 w6 ⟨rfl,rfl⟩;have g8:=GO.o;refine hK.o _ _ g8 (fun hS=>?_);clear hK K hS;refine qK 6 rfl (by kernel_rfl) ‹_› (fun w a8=>by go_simp;with_reducible rfl) ?_;simp only [Act.put,aB,aA,aC];refine qM (by kernel_rfl) ?_;by_cases hu:usedL K<=room
  .
   have hq:¬((room:Int) < ((usedL K:Nat):Int)):=by omega
   have M7:=hid (AZ.o.trans (if_pos hu));clear hu;go_wp2;go_ret2;exact .inl ⟨by rw [M7.o],o4,rfl,by rw [M7.o];exact T5.o,B5.o⟩
  have hq:(room:Int) < ((usedL K:Nat):Int):=by omega
  have HE:Hid (r.1=7):=by show _=_;rw [AZ.o,if_neg hu]
  clear hu;go_wp2;go_ret2;exact dQ.bad HE.o (by decide) B5.o
 have q0:(hh != 0)=true:=by simpa using og
 have HE:Hid (r.1=hh):=by show _=_;rw [yu.o,if_neg og]
 have PG:=hid og;clear og;go_wp2;go_ret2;exact dQ.bad HE.o PG.o B2.o
end Go.Proofs.YtahkcemdbfjilaaGreatDoor
