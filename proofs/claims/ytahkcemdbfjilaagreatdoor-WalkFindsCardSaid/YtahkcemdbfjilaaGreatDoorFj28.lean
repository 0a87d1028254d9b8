/- Texts. Conditions: as said. -/
import Derived.Test.YtahkcemdbfjilaaGreatDoorFj00
import Derived.Sort.Walk0
import Derived.Test.YtahkcemdbfjilaaGreatDoorFj21
import Derived.Deep.Matrix
import Derived.RangeFuncBox
set_option linter.all false
set_option maxRecDepth 100000
set_option maxHeartbeats 32000000
namespace Go.Proofs.YtahkcemdbfjilaaGreatDoor
open Go.RowKit Go.Maps
def nV (p q:By):By:=if p=[] then q else q.drop (p.length+1)
def eG (L:Tr) (p:By):List By:=(L.filter fun x=>decide (aheadL x.1=p)).map fun x=>nV p x.1
def Fu {L:Tr} (p:By) {k:Nat} (hk:k < L.length):eG (L.take (k+1)) p=if aheadL (L.getD k at0).1=p then eG (L.take k) p++[nV p (L.getD k at0).1] else eG (L.take k) p:=by
 rw [rB hk];unfold eG;rw [List.filter_append,List.map_append];generalize L.getD k at0=x;by_cases h:aheadL x.1=p
 . simp [h]
 simp [h]
def ac {l:By} (h:nameB l=true):47∉l:=by
 unfold nameB at h;simp only [Bool.and_eq_true,List.all_eq_true] at h;intro k;have:=h.2 47 k;revert this;decide
def Zt {q:By} (h:mayB q=true):47∉aZ q:=ac (Eu (Ao h) _ (sG q))
def Qj (q p:By) (hq:mayB q=true):((if (fT p).isPrefixOf q then some (q.drop (fT p).length) else none).filter cF)=if decide (aheadL q=p)=true then some (nV p q) else none:=by
 have na:=Zt hq;by_cases hp:p=[]
 .
  subst hp;have e1:fT ([]:By)=[]:=if_pos rfl;rw [e1];have e2:([]:By).isPrefixOf q=true:=by simp
  rw [if_pos e2];have e3:nV [] q=q:=if_pos rfl;rw [e3];show (some q).filter cF=_
  rcases may_split hq with ⟨h1,h2,_⟩ | ⟨h1,h2,_⟩
  . have hf:cF q=true:=(qI q).2 (by rw [h2] at na;exact na)
    rw [decide_eq_true h1];simp [Option.filter,hf]
  have hf:cF q=false:=by
   rw [<-Bool.not_eq_true,qI];intro k;apply k;rw [h2];simp
  rw [decide_eq_false h1];simp [Option.filter,hf]
 have e1:fT p=p++[47]:=if_neg hp;have e3:nV p q=q.drop (p.length+1):=if_neg hp;rw [e1,e3];by_cases p4:(p++[47]).isPrefixOf q=true
 .
  rw [if_pos p4];obtain ⟨r,hr⟩:=List.isPrefixOf_iff_prefix.1 p4;have NL:q=p++47 :: r:=by rw [<-hr];simp
  have e4:q.drop (p++[47]).length=r:=by rw [<-hr];simp
  have e5:q.drop (p.length+1)=r:=by rw [<-e4];simp
  rw [e4,e5];have ha:aheadL q=if 47∈r then p++47 :: aheadL r else p:=by rw [NL];exact fZ p r
  by_cases k:47∈r
  .
   rw [if_pos k] at ha;have hn:¬aheadL q=p:=by
    rw [ha];intro e;have:=congrArg List.length e;simp at this
   have hf:cF r=false:=by rw [<-Bool.not_eq_true,qI];exact fun z=>z k
   rw [decide_eq_false hn];simp [Option.filter,hf]
  rw [if_neg k] at ha;have hf:cF r=true:=(qI r).2 k;rw [decide_eq_true ha];simp [Option.filter,hf]
 rw [if_neg p4];have hn:¬aheadL q=p:=by
  intro e;rcases may_split hq with ⟨h1,_⟩ | ⟨h1,h2,_⟩
  . exact hp (by rw [<-e,h1])
  apply p4;rw [List.isPrefixOf_iff_prefix];exact ⟨aZ q,by rw [<-e];simp;exact h2.symm⟩
 rw [decide_eq_false hn];rfl
def Yf {α β:Type} (f:α->Option β) (q:β->Bool) (g:α->Bool) (h:α->β):∀l:List α,(∀x∈l,(f x).filter q=if g x=true then some (h x) else none)->(l.filterMap f).filter q=(l.filter g).map h
 | [],_=>rfl
 | x :: l,hx=>by
  have ih:=Yf f q g h l (fun y hy=>hx y (List.mem_cons_of_mem _ hy));have h1:=hx x List.mem_cons_self
  cases hf:f x with
  | none =>
   rw [hf] at h1;have hg:g x=false:=by
    cases k:g x with
    | false=>rfl
    | true=>rw [k] at h1;simp [Option.filter] at h1
   rw [List.filterMap_cons_none hf,List.filter_cons_of_neg (by rw [hg];simp)];exact ih
  | some y =>
   rw [hf] at h1;rw [List.filterMap_cons_some hf]
   cases hq:q y with
   | true =>
    have h2:(if g x=true then some (h x) else none)=some y:=by rw [<-h1];simp [Option.filter,hq]
    cases k:g x with
    | false=>rw [k] at h2;simp at h2
    | true =>
     rw [k] at h2;simp at h2;rw [List.filter_cons_of_pos hq,List.filter_cons_of_pos k,List.map_cons,ih,h2]
   | false =>
    have h2:(if g x=true then some (h x) else none)=none:=by rw [<-h1];simp [Option.filter,hq]
    cases k:g x with
    | true=>rw [k] at h2;simp at h2
    | false=>rw [List.filter_cons_of_neg (by rw [hq];simp),List.filter_cons_of_neg (by rw [k];simp),ih]
def Mi {room:Nat} {L:Tr} (hW:WFT room L) {p:By} (hd:kindP L p=2):eG L p=jJ L p:=by
 unfold jJ innerL;rw [if_pos hd];unfold iS eG;refine (Yf _ cF _ _ L (fun x hx=>?_)).symm;exact Qj x.1 p (hW.may x.1 (by rw [dS hW.srt (show (x.1,x.2)∈L from hx)];rfl))
def tQ:∀a b c:By,decide (a<=b)=true->decide (b<=c)=true->decide (a<=c)=true:=fun a b c h1 h2=>by
 simp only [decide_eq_true_eq] at *;exact List.le_trans h1 h2
def Dn:∀a b:By,(decide (a<=b)||decide (b<=a))=true:=fun a b=>by
 simp only [Bool.or_eq_true,decide_eq_true_eq];exact List.le_total a b
def Ti {xs ys:List By} {x:By} {a:Nat} (hy:cE xs=ys) (ha:a<=ys.length) (h1:∀i,i < a->ys.getD i [] < x) (h2:a < ys.length->¬ys.getD a [] < x):cE (xs++[x])=ys.take a++x :: ys.drop a:=by
 have hs:ys.Pairwise fun a b=>decide (a<=b)=true:=by rw [<-hy];exact List.pairwise_mergeSort tQ Dn xs
 have vk:ys.Perm xs:=by rw [<-hy];exact List.mergeSort_perm xs _
 have R8:∀z∈ys.drop a,decide (x<=z)=true:=by
  by_cases k:a < ys.length
  .
   have e:=List.drop_eq_getElem_cons k;have h3:=h2 k;have hsd:(ys.drop a).Pairwise fun a b=>decide (a<=b)=true:=hs.sublist (List.drop_sublist _ _)
   rw [e] at hsd;have h4:decide (x<=ys[a])=true:=by
    rw [List.getD,List.getElem?_eq_getElem k] at h3;simpa using h3
   intro z hz;rw [e] at hz;rcases List.mem_cons.1 hz with e2 | e2
   . rw [e2];exact h4
   exact tQ _ _ _ h4 ((List.pairwise_cons.1 hsd).1 z e2)
  intro z hz;rw [List.drop_eq_nil_of_le (by omega)] at hz;cases hz
 have p5:∀u∈ys.take a,decide (u<=x)=true:=by
  intro u hu;obtain ⟨i,hi,rfl⟩:=List.getElem_of_mem hu;rw [List.length_take] at hi;have h3:=h1 i (by omega);rw [List.getD,List.getElem?_eq_getElem (by omega)] at h3;rw [List.getElem_take];simp only [decide_eq_true_eq];exact List.le_of_lt h3
 have UP:(ys.take a++x :: ys.drop a).Pairwise fun a b=>decide (a<=b)=true:=by
  refine List.pairwise_append.2 ⟨hs.sublist (List.take_sublist _ _),List.pairwise_cons.2 ⟨R8,hs.sublist (List.drop_sublist _ _)⟩,fun u hu v hv=>?_⟩;rcases List.mem_cons.1 hv with e | e
  . rw [e];exact p5 u hu
  exact tQ _ _ _ (p5 u hu) (R8 v e)
 have sf:(ys.take a++x :: ys.drop a).Perm (xs++[x]):=by
  refine (List.perm_middle (l₁:=ys.take a) (l₂:=ys.drop a)).trans ?_;rw [List.take_append_drop];exact (vk.cons x).trans (List.perm_append_singleton x xs).symm
 refine List.Perm.eq_of_pairwise (le:=fun a b:By=>decide (a<=b)=true) (fun a b _ _ k1 k2=>?_) (List.pairwise_mergeSort tQ Dn _) UP ((List.mergeSort_perm _ _).trans sf.symm);simp only [decide_eq_true_eq] at k1 k2;exact List.le_antisymm k1 k2
def Dx:(Tryz.prog.info? 9).map (·.size)=some 1:=by kernel_rfl
def sL {w:World} {B g m c a:Nat} {ys:List By} (h:w.ownsRow B 9 1 (.slice (some ⟨g,0,none⟩) (m+1) c) (m+1) ((ys++[[]]).map kS)) (hm:ys.length=m) (ha:a<=m) (d:Option Addr) (hd:a < m->d=some ⟨g,a+1,none⟩) (ty:TypeId) :
 ∃n w1,(Builtin.copy_ #[34,34] ty #[.slice d (m - a) (c - (a+1)),.slice (some ⟨g,a,none⟩) (m+1 - a) (c - a)]).run Tryz.prog w=.ok (goInt n) w1/\w1.cell? ⟨g,a,none⟩=some (kS ((ys++[[]]).getD a []))/\w1.frozen? ⟨g,a,none⟩=false/\w1.heap.size=w.heap.size /\
  ∀y,(w1.setCell ⟨g,a,none⟩ (kS y)).ownsRow B 9 1 (.slice (some ⟨g,0,none⟩) (m+1) c) (m+1) ((ys.take a++y :: ys.drop a).map kS)/\Below B w (w1.setCell ⟨g,a,none⟩ (kS y)):=by
 rcases h.2 with ⟨k1,_⟩ | ⟨g',c',cur,k1,k2,k3,k4,k5,k6,k7⟩
 . cases k1
 injection k1 with e1 _ e3;injection e1 with e1;injection e1 with e1;subst e1 e3;have s6:cur.toList.length=c:=by simpa using k6
 rw [Nat.mul_one] at k7;have s5:cur.toList=(ys++[[]]).map kS++cur.toList.drop (m+1):=by rw [<-k7,List.take_append_drop]
 have hget:∀j,j < m+1->cur.toList[j]? = some (kS ((ys++[[]]).getD j [])):=fun j hj=>by
  rw [s5,List.getElem?_append_left (by simp;omega),List.getElem?_map,List.getD,List.getElem?_eq_getElem (by simp;omega)];rfl
 have d9:∀j,j < m+1->w.cell? ⟨g,j,none⟩=some (kS ((ys++[[]]).getD j [])):=fun j hj=>by
  rw [cell_of_row w g j cur 9 (0,0) k3,<-Array.getElem?_toList];exact hget j hj
 have p9:g < w.heap.size:=(Array.getElem?_eq_some_iff.1 k3).1;by_cases d8:a < m
 .
  have hd':=hd d8;subst hd';have zv:=run_copy_row (P:=Tryz.prog) w 34 34 ty 9 g (a+1) (m - a) (c - (a+1)) ⟨g,a,none⟩ (m+1 - a) (c - a) cur 9 ((ys.drop a).map kS) Tryz.underlying34 Dx k3 (by rw [List.length_map,List.length_drop,hm];show m - a=min (m+1 - a) (m - a);omega)
   (fun j v hj=>by
     have JH:j < m - a:=by
      have:=(List.getElem?_eq_some_iff.1 hj).1;rw [List.length_map,List.length_drop,hm] at this;exact this
     rw [bY,d9 (a+j) (by omega),<-hj,List.getElem?_map,List.getElem?_drop,List.getD,List.getElem?_append_left (by omega),List.getElem?_eq_getElem (by omega)];rfl)
   (by rw [List.length_map,List.length_drop,hm];rw [<-Array.length_toList,s6];omega) (fun v hv=>by obtain ⟨z,_,rfl⟩:=List.mem_map.1 hv;rfl)
  have DT:∀y,(((cur.toList.take (a+1)++(ys.drop a).map kS++cur.toList.drop (a+1+((ys.drop a).map kS).length)).set a (kS y))).take (m+1)=(ys.take a++y :: ys.drop a).map kS:=by
   intro y;have e1:cur.toList.take (a+1)=(ys.take a).map kS++[kS ((ys++[[]]).getD a [])]:=by
    rw [s5,List.take_append_of_le_length (by simp;omega),<-List.map_take,List.take_append_of_le_length (by omega),List.take_succ_eq_append_getElem (by omega),List.map_append];rw [List.getD,List.getElem?_append_left (by omega),List.getElem?_eq_getElem (by omega)];rfl
   rw [e1];have e2:((ys.take a).map kS).length=a:=by rw [List.length_map,List.length_take];omega
   simp only [List.append_assoc,List.singleton_append];rw [List.set_append_right _ _ (by rw [e2];exact Nat.le_refl _),e2,Nat.sub_self];simp only [List.cons_append,List.nil_append,List.set_cons_zero];rw [List.map_append,List.map_cons];rw [<-List.cons_append,<-List.append_assoc];rw [List.take_append_of_le_length (by simp;omega)];exact List.take_of_length_le (by simp;omega)
  refine ⟨_,_,zv,?_,?_,?_,fun y=>?_⟩
  . rw [cell_of_row _ g a _ 9 (0,0) (setRow_heap w g cur _ 9 (0,0) k3)]
    rw [<-Array.getElem?_toList];show (cur.toList.take (a+1)++(ys.drop a).map kS++_)[a]? = _
    rw [List.append_assoc,List.getElem?_append_left (by rw [List.length_take,s6];omega),List.getElem?_take,if_pos (by omega)];exact hget a (by omega)
  . simp [World.frozen?,setRow_heap w g cur _ 9 (0,0) k3]
  . simp [World.setRow]
  rw [setCell_eq_setRow _ g a _ 9 (0,0) _ (setRow_heap w g cur _ 9 (0,0) k3),setRow_setRow];refine ⟨⟨by simp;omega,.inr ⟨g,c,_,rfl,k2,setRow_heap w g cur _ 9 (0,0) k3,k4,k5,?_,?_⟩⟩,below_setRow qB k2 _⟩
  . simp only [Array.size_setIfInBounds,List.size_toArray,List.length_append,List.length_take,List.length_map,List.length_drop,Array.length_toList]
    omega
  rw [Nat.mul_one,Array.toList_setIfInBounds];exact DT y
 have hae:a=m:=by omega
 subst hae;have zv:=run_copy_none (P:=Tryz.prog) w 34 34 ty 9 d (some ⟨g,a,none⟩) (a - a) (c - (a+1)) (a+1 - a) (c - a) Tryz.underlying34 Dx (by show min (a+1 - a) (a - a)=0;omega);refine ⟨0,w,zv,d9 a (by omega),by simp [World.frozen?,k3],rfl,fun y=>?_⟩;rw [setCell_eq_setRow _ g a _ 9 (0,0) _ k3];refine ⟨⟨by simp;omega,.inr ⟨g,c,_,rfl,k2,setRow_heap w g cur _ 9 (0,0) k3,k4,k5,by simp [k6],?_⟩⟩,below_setRow qB k2 _⟩;rw [Nat.mul_one,Array.toList_setIfInBounds,s5];rw [List.map_append,List.append_assoc,List.set_append_right _ _ (by simp [hm]),List.length_map,hm,Nat.sub_self];simp only [List.map_cons,List.map_nil,List.cons_append,List.nil_append,List.set_cons_zero];rw [List.take_of_length_le (Nat.le_of_eq hm),List.drop_eq_nil_of_le (Nat.le_of_eq hm)];rw [<-List.singleton_append,<-List.append_assoc,List.take_append_of_le_length (by simp [hm])];rw [List.take_of_length_le (by simp [hm])];simp
def Ms {room:Nat} {L:Tr} (hW:WFT room L) {s:By} (hm:s=[]∨mayB s=true):dJ L s=if kindP L s=0 then ([],5) else if kindP L s=2 then (cE (eG L s),0) else ([],12):=by
 have hc:¬(!decide (s=[])&&!mayB s)=true:=by rcases hm with k | k<;>simp [k]
 unfold dJ;rw [if_neg hc];unfold dW;by_cases k2:kindP L s=2
 . rw [if_pos k2,if_pos rfl,if_neg (by rw [k2];decide),if_pos k2,Mi hW k2]
 have hs:s≠[]:=fun e=>k2 (by unfold kindP;rw [if_pos e])
 rw [if_neg k2,if_neg k2];have hk:kindP L s=match look L s with | some n=>n.kind | none=>0:=by unfold kindP;rw [if_neg hs];cases look L s<;>rfl
 cases hl:look L s with
 | none =>
  have CJ:kindP L s=0:=by rw [hk,hl]
  simp [CJ]
 | some n =>
  have PC:kindP L s=n.kind:=by rw [hk,hl]
  have:=hW.kind s n hl;have h0:¬kindP L s=0:=by rw [PC];omega
  simp [h0]
def Xm {z y:By} (h:z < y):Op.bytesLess (ba z).toList (ba y).toList=true:=by rw [bytesLess_eq,aP,aP,aQ,aQ];simpa using h
def dj {z y:By} (h:¬z < y):Op.bytesLess (ba z).toList (ba y).toList=false:=by rw [bytesLess_eq,aP,aP,aQ,aQ];simpa using h
def Nk {w:World} {B m c:Nat} {A:Option Addr} {ys:List By} (h:w.ownsRow B 9 1 (.slice A m c) m (ys.map kS)) (hm:0 < m):∃g,A=some ⟨g,0,none⟩/\B<=g/\m<=c/\∀i,i < m->w.cell? ⟨g,i,none⟩=some (kS (ys.getD i [])):=by
 have hl:ys.length=m:=by have:=h.1;simpa using this
 rcases h.2 with ⟨_,k⟩ | ⟨g,c',cur,k1,k2,k3,k4,k5,k6,k7⟩
 . omega
 injection k1 with e1 _ e3;refine ⟨g,e1,k2,by omega,fun i hi=>?_⟩;rw [cell_of_row w g i cur 9 (0,0) k3,<-Array.getElem?_toList];have:(cur.toList.take (m*1))[i]? = (ys.map kS)[i]?:=by rw [k7]
 have e9:(ys.map kS)[i]? = some (kS (ys.getD i [])):=by rw [List.getElem?_map,List.getD,List.getElem?_eq_getElem (by omega)];rfl
 rw [List.getElem?_take,if_pos (by omega),e9] at this;exact this
def mF {P:Program} {ops:Array Oper} {o:Oper} {a:Act} {w:World} {K:Act->World->Prop} {Q:Exit->Act->World->Prop} {E:Prop}
 (hw:Region.wanted o (yielded ops a.tmps)=true) (s x:Operand) (t tn:TypeId) (ho:o.op=.call { callee:=.builtin .copy,args:=#[s,x],argTypes:=#[t,tn] })
 (vs vx:Value) (hs:a.eval s=vs) (hx:a.eval x=vx) {v':Value} {w':World} (hr:(Builtin.copy_ #[t,tn] o.type #[vs,vx]).run P w=.ok v' w') (h:K (a.put o.dst v') w') :
 if Region.wanted o (yielded ops a.tmps)=true then Oper.wp P o a w K Q else E:=by
 rw [if_pos hw];unfold Oper.wp execOp;simp only [ho,hs,hx,resolve,invoke,builtin,Sem.run_bind,Sem.run_pure,Result.andThen_ok,List.map_toArray,List.map_cons,List.map_nil,hr];exact h
section
variable {own:Nat->Prop} {w:World} {r:Nat} {M:Mo}
theorem Jp (h:RDk own w r M) (s:By) (hs:s.length<=4000) (he:s≠[]) (hm:mayB s=true):qC 65 #[.pointer (some ⟨r,0,none⟩),kS s] w fun e w'=>mP w (dJ M.now s) e w':=by
 obtain ⟨i0,hi,o7,g8,j5⟩:=info_parts Rf.jC;obtain ⟨tL,ts,sv,es,fused,left,h⟩:=h;have H:=hid h;have tp:=hid h.short;have qf:=hid h.good.good.w1;have QO:Hid (s.length<=4000):=hs;have CK:Hid (∀W,qW w W->qC 112 #[.pointer (some ⟨tL,0,none⟩),kS s] W fun e w'=>e=.returned (.int .i64 (kindP M.now s))/\W=w'):=fun W hb=>lW (h.t1.tree.on hb) s (by have:=h.short;omega)
 obtain ⟨A0,n,c0',hv⟩:=h.t1.tree.view;have HV:=hid hv;have xi:=hid (Ms qf.o (s:=s) (.inr hm));obtain ⟨kk,V4⟩:=qX (kindP M.now s);rw [V4.o] at CK xi;obtain ⟨L,ro⟩:=qX (M.now);rw [ro.o] at qf HV tp xi ⊢;have hn:n<=16384:=by rw [<-HV.o.len];exact tp.o
 have ui:=hid (h.low r h.op);have HRC:Hid (w.cell? ⟨r,0,none⟩=some (.pointer (some ⟨tL,0,none⟩))):=h.has.at_ 0;have B0:Hid (qW w w):=Below.refl _ _;have z1:¬(ba s).toList=[]:=by rw [aP,aQ];exact he
 have z2:(ba s).toList.isEmpty=false:=by simpa using z1
 have HME:Hid (mayB s=true):=hm;have LL:Hid (s≠[]):=he;have C2:Hid (∀W,qC 62 #[kS s] W fun e w'=>e=.returned (.bool true)/\qW W w'):=fun W=>Rf.dN (ba s) true (by show mayB (tl (ba s))=_;rw [aQ];exact hm) W (by rw [aD];exact QO.o)
 clear h hv hs hm he;go_enter Tryz.func65,Tryz.ntmps65
 go_wp2_with fail
 refine (C2.o _).mono ?_;rintro e2 w2 ⟨rfl,a9⟩;have B2:Hid (qW w w2):=a9;clear a9;have c0:w2.cell? ⟨r,0,none⟩=some (.pointer (some ⟨tL,0,none⟩)):=(B2.o.cell (p:=⟨r,0,none⟩) ui.o).trans HRC.o;go_wp2_with fail
 refine (CK.o _ B2.o).mono ?_;rintro e3 w3 ⟨rfl,rfl⟩;by_cases k0:kk=0
 .
  have q0:(kk == 0)=true:=by simpa using k0
  have HE:Hid (dJ L s=([],5)):=by show _=_;rw [xi.o,if_pos k0]
  clear k0;go_wp2;go_ret2;rw [HE.o];exact mP.none _ _ _ B2.o
 have q0:(kk == 0)=false:=by simpa using k0
 by_cases k2:kk=2
 case neg =>
  have q1:(kk != 2)=true:=by simpa using k2
  have HE:Hid (dJ L s=([],12)):=by show _=_;rw [xi.o,if_neg k0,if_neg k2]
  clear k0 k2;go_wp2;go_ret2;rw [HE.o];exact mP.none _ _ _ B2.o
 have q1:(kk != 2)=false:=by simp [k2]
 have HE:Hid (dJ L s=(cE (eG L s),0)):=by show _=_;rw [xi.o,if_neg k0,if_pos k2]
 clear k0 k2 c0;go_wp2;go_loopw [7,8] (fun v7 v8 wr=>∃(k m cc:Nat) (A:Option Addr),v7=.slice A m cc/\v8=.int .i64 (k:Int)/\k<=n/\m<=k/\Hid (wr.ownsRow w.heap.size 9 1 (.slice A m cc) m ((cE (eG (L.take k) s)).map kS))/\Hid ((cE (eG (L.take k) s)).length=m)/\Hid (qW w wr)) (fun _ v8 _=>n - (intOf v8).toNat)
 case atStart =>
  have e0:cE (eG (L.take 0) s)=[]:=by rw [List.take_zero];exact List.mergeSort_nil
  exact ⟨0,0,0,none,rfl,rfl,by omega,by omega,by show World.ownsRow _ _ _ _ _ _ _;rw [e0];exact World.ownsRow_nil _ _ _ _,by show _=_;rw [e0];rfl,B2.o⟩
 obtain ⟨k,m,cc,A,rfl,rfl,hk,NY,J1,J2,J3⟩:=hrel;have c0:wr.cell? ⟨r,0,none⟩=some (.pointer (some ⟨tL,0,none⟩)):=(J3.o.cell (p:=⟨r,0,none⟩) ui.o).trans HRC.o;have YI:=HV.o.on J3.o;have d0:=YI.c0;by_cases d8:k < n
 .
  obtain ⟨g,hA,I9⟩:=YI.row (by omega);subst hA;have o3:k < L.length:=by rw [HV.o.len];exact d8
  have d1:=(I9 k d8).c0;have ob:mayB (L.getD k at0).1=true:=qf.o.may _ (by rw [Yg qf.o.srt o3];rfl);have M6:=hid (Fu s o3);obtain ⟨x,hx⟩:∃x,x=(L.getD k at0).1:=⟨_,rfl⟩;rw [<-hx] at d1 ob M6;have HMX:=hid ob;have IN:x.length<=160:=(aU ob).1;have CP:Hid (qC 113 #[kS x] wr fun e w'=>e=.returned (kS (aheadL x))/\qW wr w'):=by
   have:=sV x (by omega) wr;rw [iT ob] at this;exact this
  obtain ⟨ys,TT⟩:=qX (cE (eG (L.take k) s));rw [TT.o] at J1 J2;have ni:(k:Int) < (n:Int):=by omega
  have h0:(0:Int)<=(k:Int):=by omega
  have w1:IntKind.i64.wrap ((k:Int)+1)=(k:Int)+1:=aM _ (by omega) (by omega);clear I9 ob hx o3 YI;go_wp2_with fail
  refine CP.o.mono ?_;rintro e5 w5 ⟨rfl,z6⟩;have B5:Hid (qW w w5):=J3.o.trans (z6.mono J3.o.size);have R5:Hid (w5.ownsRow w.heap.size 9 1 (.slice A m cc) m (ys.map kS)):=row_of J1.o (fun g hg=>z6.block g (World.ownsRow.lt J1.o g hg).2);clear z6 c0 d0 d1;by_cases KU:aheadL x=s
  .
   have qa:((ba (aheadL x)).toList == (ba s).toList)=true:=by rw [rJ,decide_eq_true KU]
   have RT:=hid KU;have wy:=hid (M6.o.trans (if_pos KU));clear KU;have HXE:Hid (x=s++47 :: aZ x):=by
    show _=_
    rcases may_split HMX.o with ⟨z9,_⟩ | ⟨_,z9,_⟩
    . exact absurd (RT.o.symm.trans z9) LL.o
    rw [RT.o] at z9;exact z9
   have JW:s.length+1<=x.length:=by rw [HXE.o];simp
   have zx:(ba x).size=x.length:=aD x;have zs:(ba s).size=s.length:=aD s;have zw:IntKind.i64.wrap ((s.length:Int)+1)=(s.length:Int)+1:=aM _ (by have:=QO.o;omega) (by have:=QO.o;omega);have zn:((s.length:Int)+1).toNat=s.length+1:=by omega
   have zl:(s.length:Int)+1<=(x.length:Int):=by omega
   have zp:(0:Int)<=(s.length:Int)+1:=by omega
   have hcut:(ba x).extract (s.length+1) x.length=ba (nV s x):=by rw [dr];unfold nV;rw [if_neg LL.o]
   obtain ⟨y,HY⟩:=qX (nV s x);rw [HY.o] at wy;have DY:=hid (fun (a:Nat) (z0:a<=ys.length) (z1:∀i,i < a->ys.getD i [] < y) (z2:a < ys.length->¬ys.getD a [] < y)=>Ti (xs:=eG (L.take k) s) (x:=y) TT.o z0 z1 z2);rw [<-wy.o] at DY;have N2:Hid (m+1<=maxLen):=by show _<=_;unfold maxLen;omega
   have N3:Hid ((m+1)*16<=140737488355328):=by show _<=_;omega
   have N4:Hid (∀o,w.heap.size<=(w5.alloc o).heap.size):=by intro o;have:=B5.o.size;simp;omega
   rw [HY.o] at hcut;go_wp2;go_loopw [10] (fun DO wr2=>∃a:Nat,DO=.int .i64 (a:Int)/\a<=m/\Hid (∀i,i < a->ys.getD i [] < y)/\w5=wr2) (fun DO _=>m - (intOf DO).toNat)
   case atStart=>exact ⟨0,rfl,by omega,fun i hi=>absurd hi (by omega),rfl⟩
   obtain ⟨a,rfl,ha,K1,rfl⟩:=hrel;have LO:(0:Int)<=(a:Int):=by omega
   have w2:IntKind.i64.wrap ((a:Int)+1)=(a:Int)+1:=aM _ (by omega) (by omega);by_cases h1:a < m
   .
    obtain ⟨g2,hA2,mn,hmc,d9⟩:=Nk R5.o (by omega);subst hA2;have e1:=d9 a h1;have h1':(a:Int) < (m:Int):=by omega
    by_cases hz:ys.getD a [] < y
    .
     have qb:=Xm hz;have K2:Hid (∀i,i < a+1->ys.getD i [] < y):=fun i hi'=>by
      by_cases k9:i=a
      . rw [k9];exact hz
      exact K1.o i (by omega)
     clear d9 hz;generalize ys.getD a []=z at e1 qb;go_wp2;go_roundw
     case rel=>exact ⟨a+1,by go_num,by omega,K2.o,trivial⟩
     case measure=>simp [intOf];omega
    have qb:=dj hz;have C6:Hid (cE (eG (L.take (k+1)) s)=ys.take a++y :: ys.drop a):=DY.o a (by have:=J2.o;omega) K1.o (fun _=>hz);clear d9 hz;generalize ys.getD a []=z at e1 qb;go_wp2_with (at_builtin;refine wpList_append_own _ rfl _ _ 34 rfl w.heap.size 9 i0 (.string ⟨#[]⟩) 1 16 Tryz.underlying34 hi o7 g8 j5 rfl (by omega) _ _ _ rfl (R5.o.alloc _) ⟨w5.heap.size,0,none⟩ 1 1 [Value.string ⟨#[]⟩] rfl rfl (cell_one_new _ _ _) (Rf.xQ _) N2.o N3.o (N4.o _) ?_;intro v7 w7 tf hgrow7 _)
    have MX:Hid (w7.drew.ownsRow w.heap.size 9 1 v7 (m+1) ((ys++[[]]).map kS)):=by
     rw [List.map_append];exact row_of tf (fun _ _=>rfl)
    have B7:Hid (qW w w7.drew) :=
     ((B5.o.alloc B5.o.size _).grown hgrow7 (N4.o _) (fun g hg=>(World.ownsRow.lt R5.o g hg).1)).drew
    obtain ⟨g7,c7,rfl,yc,LQ⟩:∃g7 c7,v7=.slice (some ⟨g7,0,none⟩) (m+1) c7/\w.heap.size<=g7/\m+1<=c7:=by
     rcases MX.o.2 with ⟨_,z⟩ | ⟨g',c',cur,k1,k2,k3,k4,_⟩
     . omega
     exact ⟨g',c',k1,k2,k4⟩
    have YA:=hid yc;clear tf hgrow7 yc;have t1:((a:Int)+1).toNat=a+1:=by omega
    have t2:(a:Int)+1<=(((m+1:Nat):Int):Int):=by omega
    have t3:(0:Int)<=(a:Int)+1:=by omega
    have t4:(a:Int)<=(((m+1:Nat):Int):Int):=by omega
    have t5:(a:Int) < (((m+1:Nat):Int):Int):=by omega
    have t6:a<=m+1:=by omega
    have t7:(a:Int)<=(m:Int)+1:=by omega
    have t8:(a:Int) < (m:Int)+1:=by omega
    have t9:(a:Int)+1<=(m:Int)+1:=by omega
    have n1:¬c7=a+1:=by omega
    have n2:¬c7=a:=by omega
    obtain ⟨n9,w9,DI,hc9,hf9,QP,IA⟩:=sL MX.o J2.o ha (some ⟨g7,a+1,none⟩) (fun _=>rfl) 3;have QQ:=hid DI;have QR:=hid IA;clear DI IA QP;go_wp2;refine qG (S:=fun _=>True) (by kernel_rfl) (trivial) (fun hS=>?_);generalize w7.drew=w8 at *;refine aG 0 ?_
    iterate 7
     refine qT rfl (by kernel_rfl) ‹_› (fun w a8=>by go_simp;with_reducible rfl) ?_;simp only [Act.put,aB,aA,aC,Nat.reduceAdd]
    refine aE ?_;refine qD 7 rfl (by kernel_rfl) fun K hK=>?_
    refine mF (by rfl) (.tmp 84) (.tmp 87) 34 34 rfl (.slice (some ⟨g7,a+1,none⟩) (m - a) (c7 - (a+1))) (.slice (some ⟨g7,a,none⟩) (m+1 - a) (c7 - a)) rfl rfl QQ.o ?_;refine hK.o _ _ trivial (fun hS=>?_);clear hK K hS;refine qM (by kernel_rfl) ?_;go_wp2;go_roundw
    case rel =>
     obtain ⟨z1,z2⟩:=QR.o y;refine ⟨k+1,m+1,_,some ⟨g7,0,none⟩,rfl,by go_num,by omega,by omega,?_,?_,B7.o.trans z2⟩
     . show World.ownsRow _ _ _ _ _ _ _;rw [C6.o];exact z1
     show _=_;rw [C6.o,List.length_append,List.length_cons,List.length_take,List.length_drop];have:=J2.o;omega
    case measure=>simp [intOf];omega
   obtain rfl:a=m:=by omega
   have h1':¬(a:Int) < (a:Int):=by omega
   have C6:Hid (cE (eG (L.take (k+1)) s)=ys.take a++y :: ys.drop a):=DY.o a (by have:=J2.o;omega) K1.o (fun z9=>absurd z9 (by have:=J2.o;omega));go_wp2_with (at_builtin;refine wpList_append_own _ rfl _ _ 34 rfl w.heap.size 9 i0 (.string ⟨#[]⟩) 1 16 Tryz.underlying34 hi o7 g8 j5 rfl (by omega) _ _ _ rfl (R5.o.alloc _) ⟨w5.heap.size,0,none⟩ 1 1 [Value.string ⟨#[]⟩] rfl rfl (cell_one_new _ _ _) (Rf.xQ _) N2.o N3.o (N4.o _) ?_;intro v7 w7 tf hgrow7 _)
   have MX:Hid (w7.drew.ownsRow w.heap.size 9 1 v7 (a+1) ((ys++[[]]).map kS)):=by
      rw [List.map_append];exact row_of tf (fun _ _=>rfl)
   have B7:Hid (qW w w7.drew) :=
      ((B5.o.alloc B5.o.size _).grown hgrow7 (N4.o _) (fun g hg=>(World.ownsRow.lt R5.o g hg).1)).drew
   obtain ⟨g7,c7,rfl,yc,LQ⟩:∃g7 c7,v7=.slice (some ⟨g7,0,none⟩) (a+1) c7/\w.heap.size<=g7/\a+1<=c7:=by
      rcases MX.o.2 with ⟨_,z⟩ | ⟨g',c',cur,k1,k2,k3,k4,_⟩
      . omega
      exact ⟨g',c',k1,k2,k4⟩
   have YA:=hid yc;clear tf hgrow7 yc;have t1:((a:Int)+1).toNat=a+1:=by omega
   have t2:(a:Int)+1<=(((a+1:Nat):Int):Int):=by omega
   have t3:(0:Int)<=(a:Int)+1:=by omega
   have t4:(a:Int)<=(((a+1:Nat):Int):Int):=by omega
   have t5:(a:Int) < (((a+1:Nat):Int):Int):=by omega
   have t6:a<=a+1:=by omega
   have t7:(a:Int)<=(a:Int)+1:=by omega
   have t8:(a:Int) < (a:Int)+1:=by omega
   have t9:(a:Int)+1<=(a:Int)+1:=by omega
   have n2:¬c7=a:=by omega
   by_cases n1:c7=a+1
   .
    subst n1;obtain ⟨n9,w9,DI,hc9,hf9,QP,IA⟩:=sL MX.o J2.o ha (some ⟨g7,0,none⟩) (fun z=>absurd z (by omega)) 3;simp only [Nat.sub_self,Nat.add_sub_cancel_left] at DI;have QQ:=hid DI;have QR:=hid IA;clear DI IA QP;go_wp2;refine qG (S:=fun _=>True) (by kernel_rfl) (trivial) (fun hS=>?_);generalize w7.drew=w8 at *;refine aG 0 ?_
    iterate 7
     refine qT rfl (by kernel_rfl) ‹_› (fun w a8=>by go_simp;with_reducible rfl) ?_;simp only [Act.put,aB,aA,aC,Nat.reduceAdd]
    refine aE ?_;refine qD 7 rfl (by kernel_rfl) fun K hK=>?_
    refine mF (by rfl) (.tmp 84) (.tmp 87) 34 34 rfl (.slice (some ⟨g7,0,none⟩) 0 0) (.slice (some ⟨g7,a,none⟩) 1 1) rfl rfl QQ.o ?_;refine hK.o _ _ trivial (fun hS=>?_);clear hK K hS;refine qM (by kernel_rfl) ?_;go_wp2;go_roundw
    case rel =>
     obtain ⟨z1,z2⟩:=QR.o y;refine ⟨k+1,a+1,_,some ⟨g7,0,none⟩,rfl,by go_num,by omega,by omega,?_,?_,B7.o.trans z2⟩
     . show World.ownsRow _ _ _ _ _ _ _;rw [C6.o];exact z1
     show _=_;rw [C6.o,List.length_append,List.length_cons,List.length_take,List.length_drop];have:=J2.o;omega
    case measure=>simp [intOf];omega
   obtain ⟨n9,w9,DI,hc9,hf9,QP,IA⟩:=sL MX.o J2.o ha (some ⟨g7,a+1,none⟩) (fun z=>absurd z (by omega)) 3;simp only [Nat.sub_self,Nat.add_sub_cancel_left] at DI;have QQ:=hid DI;have QR:=hid IA;clear DI IA QP;go_wp2;refine qG (S:=fun _=>True) (by kernel_rfl) (trivial) (fun hS=>?_);generalize w7.drew=w8 at *;refine aG 0 ?_
   iterate 7
    refine qT rfl (by kernel_rfl) ‹_› (fun w a8=>by go_simp;with_reducible rfl) ?_;simp only [Act.put,aB,aA,aC,Nat.reduceAdd]
   refine aE ?_;refine qD 7 rfl (by kernel_rfl) fun K hK=>?_
   refine mF (by rfl) (.tmp 84) (.tmp 87) 34 34 rfl (.slice (some ⟨g7,a+1,none⟩) 0 (c7 - (a+1))) (.slice (some ⟨g7,a,none⟩) 1 (c7 - a)) rfl rfl QQ.o ?_;refine hK.o _ _ trivial (fun hS=>?_);clear hK K hS;refine qM (by kernel_rfl) ?_;go_wp2;go_roundw
   case rel =>
    obtain ⟨z1,z2⟩:=QR.o y;refine ⟨k+1,a+1,_,some ⟨g7,0,none⟩,rfl,by go_num,by omega,by omega,?_,?_,B7.o.trans z2⟩
    . show World.ownsRow _ _ _ _ _ _ _;rw [C6.o];exact z1
    show _=_;rw [C6.o,List.length_append,List.length_cons,List.length_take,List.length_drop];have:=J2.o;omega
   case measure=>simp [intOf];omega
  have qa:((ba (aheadL x)).toList == (ba s).toList)=false:=by rw [rJ,decide_eq_false KU]
  have wy:=hid (M6.o.trans (if_neg KU));clear KU;go_wp2;go_roundw
  case rel=>exact ⟨k+1,m,cc,A,rfl,by go_num,by omega,by omega,by show World.ownsRow _ _ _ _ _ _ _;rw [wy.o,TT.o];exact R5.o,by show _=_;rw [wy.o,TT.o];exact J2.o,B5.o⟩
  case measure=>simp [intOf];omega
 have ni:¬(k:Int) < (n:Int):=by omega
 have HT:Hid (L.take k=L):=by show _=_;exact List.take_of_length_le (by rw [HV.o.len];omega)
 go_wp2;go_ret2;rw [HE.o];have j1:=J1.o;have j2:=J2.o;rw [HT.o] at j1 j2;rw [<-j2] at j1;obtain ⟨A9,c9,g9,e9,hn9⟩:=fW j1;injection e9 with e9 _ e9c;subst e9 e9c;exact ⟨_,_,g9,(by rw [<-j2];rfl),hn9,J3.o⟩
end
open Go.RowKit Go.Maps
def Sp {own:Nat->Prop} {w:World} {r:Nat} {M:Mo} (h:RDk own w r M) (root:By) (hr:root.length<=4000):qC 23 #[.pointer (some ⟨r,0,none⟩),kS root] w fun e w'=>e=.returned (.int .i64 (fI M.now root))/\qW w w':=by
 have C:Hid (qC 62 #[kS root] w fun e w'=>e=.returned (.bool (mayB root))/\qW w w'):=by
  have:=Rf.vC (ba root) w (by rw [aD];exact hr);rw [aQ] at this;exact this
 unfold fI
 cases hm:mayB root with
 | false =>
  rw [hm] at C;clear h hm;go_enter Tryz.func23,Tryz.ntmps23
  go_wp2_with fail
  refine C.o.mono ?_;rintro e1 w1 ⟨rfl,c8⟩;go_wp2;go_ret;exact ⟨rfl,c8⟩
 | true =>
  rw [hm] at C;obtain ⟨c,HC⟩:=qX (dW M.now root);have CD:Hid (∀W,qW w W->qC 65 #[.pointer (some ⟨r,0,none⟩),kS root] W fun e w'=>∃A c' n,e=.returned (.tuple #[.slice A n c',.int .i64 c])/\qW W w'):=fun W hb=>by
   refine (Jp (h.on hb) root hr (dE hm) hm).mono ?_;rintro e w' ⟨A,c',g,rfl,_,WG⟩;refine ⟨A,c',(dJ M.now root).1.length,?_,WG⟩;have e2:(dJ M.now root).2=c:=by
    unfold dJ;rw [hm];simp only [Bool.not_true,Bool.and_false,Bool.false_eq_true,if_false];rw [<-HC.o];split
    . rename_i k;rw [k]
    rfl
   rw [e2]
  rw [HC.o];clear h hm;go_enter Tryz.func23,Tryz.ntmps23
  go_wp2_with fail
  refine C.o.mono ?_;rintro e1 w1 ⟨rfl,c8⟩;go_wp2_with fail
  refine (CD.o _ c8).mono ?_;rintro e2 w2 ⟨A,c',n,rfl,a9⟩;go_wp2;go_ret;exact ⟨rfl,c8.trans (a9.mono c8.size)⟩
open Go.RowKit Go.Maps
def Is {p d:By} (hp:mayB p=true) (hd:mayB d=true):withinB p d=(d++[47]).isPrefixOf p:=by
 have h0:d≠[]:=by rintro rfl;rw [nG] at hd;cases hd
 rw [withinB,if_neg h0,hp,hd];rfl
def Ai (L:Tr) (x:At) (root:By):inL (L++[x]) root=if (root++[47]).isPrefixOf x.1 then inL L root++[(x.1.drop (root.length+1),x.2)] else inL L root:=by
 unfold inL;rw [List.filterMap_append,List.filterMap_cons,List.filterMap_nil];by_cases h:(root++[47]).isPrefixOf x.1=true
 . simp only [h,if_true]
 simp only [h];simp
def Mg {own:Nat->Prop} {w:World} {r:Nat} {M:Mo} (h:RDk own w r M) (root:By) (hm:mayB root=true):qC 24 #[.pointer (some ⟨r,0,none⟩),kS root] w fun e w'=>∃v,e=.returned v/\dR w.heap.size w' v (inL M.now root)/\qW w w':=by
 obtain ⟨tl,ts,sv,es,fused,left,h⟩:=h;obtain ⟨v,ht,o8,_⟩:=h.t1.ex;obtain ⟨A,c,rfl⟩:=o8.form;have HW:=hid h.good.good.w1;obtain ⟨L,HL⟩:=qX (M.now);rw [HL.o] at o8 HW ht ⊢;have hn:L.length<=100000:=by have:=h.short;rw [HL.o] at this;exact Nat.le_trans this (by omega)
 obtain ⟨n,HN⟩:=qX (L.length);rw [HN.o] at o8 ht hn;have FR:Hid (Has w r 51 (cH tl ts sv fused left)):=h.has;have FT:=hid ht;have QS:=hid o8;have un:root.length<=160:=(aU hm).1;have HM:=hid hm;have hni:(n:Int)<=100000:=by omega
 have zr:(ba root).size=root.length:=aD root;clear h ht o8 hm;go_enter Tryz.func24,Tryz.ntmps24
 go_wp2;go_loopw [5,6] (fun v5 v6 wr=>∃(k m c':Nat) (A':Option Addr),v6=.int .i64 (k:Int)/\v5=.slice A' m c'/\k<=n/\m<=k/\Hid ((inL (L.take k) root).length=m)/\Hid (dR w.heap.size wr (.slice A' m c') (inL (L.take k) root))/\Hid (qW w wr)) (fun _ v6 _=>n - (intOf v6).toNat)
 case atStart=>exact ⟨0,0,0,none,rfl,rfl,by omega,by omega,rfl,dR.nil _ _,Below.refl _ _⟩
 obtain ⟨k,m,c',A',rfl,rfl,hk,NY,HK,HO,HB⟩:=hrel;have f0:wr.cell? ⟨r,0,none⟩=some (.pointer (some ⟨tl,0,none⟩)):=(FR.o.kept HB.o FR.o.inside).at_ 0;have f1:wr.cell? ⟨tl,0,none⟩=some (.slice A n c):=(FT.o.kept HB.o FT.o.inside).at_ 0;by_cases d8:k < n
 .
  have o3:k < L.length:=by rw [HN.o];exact d8
  obtain ⟨g,c2,e,_,I9⟩:=(QS.o.on HB.o).at_ k o3;injection e with e e2 e3;clear e2 e3;subst e;rw [getD_at o3] at I9;have HX:Hid (L.take (k+1)=L.take k++[L[k]]):=List.take_succ_eq_append_getElem o3;have xr:=mem_may HW.o (List.getElem_mem o3);generalize L[k]=x at I9 HX xr;obtain ⟨p,⟨kd,dt,tg,tm⟩⟩:=x;dsimp only at xr;have y7:p.length<=160:=(aU xr).1;have vr:=hid I9;have zp:(ba p).size=p.length:=aD p;obtain ⟨w2,x9⟩:=qY (wr.alloc (.cells #[kS p,.int .i64 kd,kS dt,kS tg,.int .i64 tm] 73));have b2:qW wr w2:=x9▸qB.alloc qN _;have X2:Hid (Has w2 wr.heap.size 73 #[kS p,.int .i64 kd,kS dt,kS tg,.int .i64 tm]):=by rw [<-x9];exact Has.fresh _ _ _
  have x0:=X2.o.at_ 0;have i9:Hid (qW w w2):=HB.o.trans (b2.mono HB.o.size);have rn:=hid (HO.o.on b2);have CW:Hid (qC 55 #[kS p,kS root] w2 fun e w'=>e=.returned (.bool ((root++[47]).isPrefixOf p))/\qW w2 w'):=by
   have:=Rf.cV (ba p) (ba root) w2 (by rw [aD];omega) (by rw [aD];omega);rw [aQ,aQ,Is xr HM.o] at this;exact this
  have klt:(k:Int) < (n:Int):=by omega
  have k0:(0:Int)<=(k:Int):=by omega
  have w1:IntKind.i64.wrap ((k:Int)+1)=(k:Int)+1:=aM _ (by omega) (by omega);clear I9 o3 xr b2
  cases p4:(root++[47]).isPrefixOf p with
  | false =>
   rw [p4] at CW;have ye:Hid (inL (L.take (k+1)) root=inL (L.take k) root):=by show _=_;rw [HX.o,Ai];simp [p4]
   clear p4;go_wp2_with (first
    | (refine aT (by rfl) 73 (.tmp 28) rfl g (k*5) rfl #[kS p,.int .i64 kd,kS dt,kS tg,.int .i64 tm] vr.o.load ?_))
   refine CW.o.mono ?_;rintro e3 w3 ⟨rfl,i7⟩;go_wp2;go_roundw
   case rel=>exact ⟨k+1,m,c',A',by go_num,rfl,by omega,by omega,(by show _=_;rw [ye.o,HK.o]),(by rw [ye.o];exact rn.o.on i7),i9.o.trans (i7.mono i9.o.size)⟩
   case measure=>simp [intOf];omega
  | true =>
   rw [p4] at CW;have ye:Hid (inL (L.take (k+1)) root=inL (L.take k) root++[(p.drop (root.length+1),⟨kd,dt,tg,tm⟩)]):=by show _=_;rw [HX.o,Ai];simp [p4]
   have HPRE:=hid p4;clear p4;go_wp2_with (first
    | (refine aT (by rfl) 73 (.tmp 28) rfl g (k*5) rfl #[kS p,.int .i64 kd,kS dt,kS tg,.int .i64 tm] vr.o.load ?_))
   refine CW.o.mono ?_;rintro e3 w3 ⟨rfl,i7⟩;obtain ⟨wf,N0⟩:=qY (w3.drew);have bf:qW w3 wf:=N0▸qB.drew;have B2f:qW w2 wf:=i7.trans (bf.mono i7.size);have XF:Hid (Has wf wr.heap.size 73 #[kS p,.int .i64 kd,kS dt,kS tg,.int .i64 tm]):=X2.o.kept B2f X2.o.inside;have TU:Hid (qW w wf):=i9.o.trans (B2f.mono i9.o.size);have HOF:=hid (rn.o.on B2f);have ws:IntKind.i64.wrap ((root.length:Int)+1)=(root.length:Int)+1:=aM _ (by omega) (by omega);have hpl2:root.length+1<=p.length:=by
    have:=List.IsPrefix.length_le (List.isPrefixOf_iff_prefix.1 HPRE.o);simpa using this
   have he:(ba p).extract (root.length+1) (ba p).size=ba (p.drop (root.length+1)):=by rw [aR,aQ]
   have ql:∀V,(Instr.slice 9 (kS p) (some (.int .i64 ((root.length:Int)+1))) none none).run Tryz.prog V=.ok (kS (p.drop (root.length+1))) V:=fun V=>by
    have hz:((root.length:Int)+1).toNat=root.length+1:=by omega
    have:=run_slice_string_l (P:=Tryz.prog) V 9 (ba p) (by kernel_rfl) .i64 ((root.length:Int)+1) (by omega) (by rw [zp];omega);rw [hz,he] at this;exact this
   have J7:Hid ((inL (L.take k) root).length<=100000):=by show _<=_;rw [HK.o];omega
   obtain ⟨y,hy⟩:∃y:At,y=(p.drop (root.length+1),⟨kd,dt,tg,tm⟩):=⟨_,rfl⟩;have bfa:qW wf (wf.alloc (.cells (atCells y) 73)):=qB.alloc qN _;obtain ⟨v5,W5,i6,px,r8⟩:=zY (wf.alloc (.cells (atCells y) 73)) w.heap.size (.slice A' m c') (inL (L.take k) root) (HOF.o.on bfa) y wf.heap.size (Has.fresh _ _ _) J7.o (by have:=TU.o.size;simp;omega) 64;rw [hy,<-ye.o] at px;obtain ⟨A5,c5,rfl⟩:=px.form;have DV:Hid ((inL (L.take (k+1)) root).length=m+1):=by show _=_;rw [ye.o,List.length_append,HK.o];rfl
   rw [DV.o] at i6 px;have R5:=hid i6;have O5:=hid px;have B5:Hid (qW w W5):=(TU.o.trans (bfa.mono TU.o.size)).grown r8 (by have:=TU.o.size;simp;omega) (fun g9 h9=>(World.ownsRow.lt (HOF.o.on bfa) g9 h9).1);have X5F:Hid (Has W5 wr.heap.size 73 #[kS p,.int .i64 kd,kS dt,kS tg,.int .i64 tm]):=by
    refine (r8.block wr.heap.size (by have:=XF.o.inside;simp;omega) (fun e=>?_)).trans (XF.o.more (.cells (atCells y) 73));have:=(World.ownsRow.lt HO.o wr.heap.size e.symm).2;omega
   clear i7 bf B2f he i6 px r8 bfa;go_wp2;refine qG (S:=fun V=>Has V wr.heap.size 73 #[kS p,.int .i64 kd,kS dt,kS tg,.int .i64 tm]) (by kernel_rfl) (by rw [N0];exact XF.o) (fun hS=>?_);clear hS;rw [N0];have WY:=XF.o;refine aG 0 ?_
   iterate 6
    refine qT rfl (by kernel_rfl) ‹_› (fun w a8=>by have c1:=a8.at_ 0;go_simp;with_reducible rfl) ?_;simp only [Act.put,aB,aA,aC,Nat.reduceAdd]
   refine aE ?_;refine' wpAnyH_take (i:=6) (v:=kS (p.drop (root.length+1))) (by simp only [fD,fC,fP];rfl) (by kernel_rfl) (by kernel_rfl) (by kernel_rfl) (fun _ _ _ h=>h) (Or.inl ⟨by rfl,fun V _=>?_⟩) (by assumption) ?_
   . have WE:=ql V
     go_simp
   simp only [Act.put,aB,aA,aC];refine qK 7 rfl (by kernel_rfl) ‹_› (fun w a8=>by have c1:=a8.at_ 0;go_simp;with_reducible rfl) ?_;simp only [Act.put,aB,aA,aC];refine' qL 8 rfl (by kernel_rfl) (aY (by rfl) 71 (.tmp 41) rfl wr.heap.size 1 rfl #[.int .i64 kd,kS dt,kS tg,.int .i64 tm] (fun X qr=>(show AtAt X wr.heap.size 0 (p,⟨kd,dt,tg,tm⟩) from ⟨qr.at_ 0,qr.at_ 1,qr.at_ 2,qr.at_ 3,qr.at_ 4⟩).node)) ‹_› ?_;simp only [Act.put,aB,aA,aC];refine qK 9 rfl (by kernel_rfl) ‹_› (fun w a8=>by go_simp;with_reducible rfl) ?_;simp only [Act.put,aB,aA,aC];clear WY;refine qD 10 rfl (by kernel_rfl) fun K hK=>?_
   refine bF (by rfl) (.tmp 43) rfl y (by rw [hy];rfl) ?_;refine hK.o _ _ (XF.o.more _) (fun hS=>?_);clear hK K hS;refine qD 11 rfl (by kernel_rfl) fun K hK=>?_
   refine aH (by rfl) (.tmp 34) (.tmp 44) 64 64 rfl (.slice A' m c') (.slice (some ⟨wf.heap.size,0,none⟩) 1 1) rfl rfl R5.o ?_;have X5:Has W5 wr.heap.size 73 #[kS p,.int .i64 kd,kS dt,kS tg,.int .i64 tm]:=X5F.o;refine hK.o _ _ X5 (fun hS=>?_);clear hK K;refine qK 12 rfl (by kernel_rfl) ‹_› (fun w a8=>by go_simp;with_reducible rfl) ?_;simp only [Act.put,aB,aA,aC];clear X5 hS;refine qM (by kernel_rfl) ?_;go_wp2;go_roundw
   case rel=>exact ⟨k+1,m+1,c5,A5,by go_num,rfl,by omega,by omega,DV.o,O5.o,B5.o⟩
   case measure=>simp [intOf];omega
 have kge:¬(k:Int) < (n:Int):=by omega
 have PC:k=n:=by omega
 have HT:Hid (L.take k=L):=List.take_of_length_le (by rw [HN.o];omega);rw [HT.o] at HO;go_wp2;go_ret;exact ⟨_,rfl,HO.o,HB.o⟩
end Go.Proofs.YtahkcemdbfjilaaGreatDoor
namespace Go.Proofs.YtahkcemdbfjilaaGreatDoor.Sha
open Go.RowKit
def gG (l:List (BitVec 32)) (t:Nat):BitVec 32 :=
 if _h:t < 16 then at32 l t else gG l (t - 16)+yQ (gG l (t - 15))+gG l (t - 7)+yX (gG l (t - 2))
termination_by t
def Ht (l:List (BitVec 32)) (t:Nat) (h:t < 16):gG l t=at32 l t:=by rw [gG,dif_pos h]
def Ew (l:List (BitVec 32)) (t:Nat) (h:16<=t):gG l t=gG l (t - 16)+yQ (gG l (t - 15))+gG l (t - 7)+yX (gG l (t - 2)):=by
 rw [gG,dif_neg (by omega)]
def Bh (l:List (BitVec 32)) (i:Nat) (x:BitVec 32) (h:i < l.length):at32 (l.set i x) i=x:=by
 simp [at32,List.getD,List.getElem?_set_self h]
def yO (l:List (BitVec 32)) (i j:Nat) (x:BitVec 32) (h:i≠j):at32 (l.set i x) j=at32 l j:=by
 simp [at32,List.getD,List.getElem?_set_ne h]
def Tz (l:List (BitVec 32)) (hl:l.length=16):∀k t,(t < 16∨t < k)->k<=t+16->at32 (sched l k) (t % 16)=gG l t:=by
 intro k;induction k with
 | zero =>
  intro t h1 h2;have h:t < 16:=by omega
  rw [Ht _ _ h,Nat.mod_eq_of_lt h];rfl
 | succ k ih =>
  intro t h1 h2;by_cases hk:16<=k
  .
   rw [wI _ _ hk];by_cases ht:t=k
   .
    subst ht;rw [Bh _ _ _ (by rw [oC l hl];omega),qR,Ew _ _ hk];have e1:=ih (t - 16) (by omega) (by omega);have e2:=ih (t - 15) (by omega) (by omega);have e3:=ih (t - 7) (by omega) (by omega);have e4:=ih (t - 2) (by omega) (by omega);rw [<-e1,<-e2,<-e3,<-e4];have m1:(t - 16) % 16=t % 16:=by omega
    have m2:(t - 15) % 16=(t+1) % 16:=by omega
    have m3:(t - 7) % 16=(t+9) % 16:=by omega
    have m4:(t - 2) % 16=(t+14) % 16:=by omega
    rw [m1,m2,m3,m4]
   rw [yO _ _ _ _ (by omega)];exact ih t (by omega) (by omega)
  rw [zD _ _ (by omega)];exact ih t (by omega) (by omega)
def Lq (l:List (BitVec 32)) (hl:l.length=16) (k:Nat):at32 (sched l (k+1)) (k % 16)=gG l k :=
 Tz l hl (k+1) k (by omega) (by omega)
def Sq (l:List (BitVec 32)) (hl:l.length=16) (s:S8) (k:Nat):aV l s (k+1)=xG (aV l s k) (at32 dK k) (gG l k):=by
 rw [aV,Lq l hl]
structure Bytes (w:World) (v:Value) (xs:List UInt8) (A:Option Addr) (cap bb off:Nat):Prop where
 form:v=.slice A xs.length cap
 le:xs.length<=cap
 zero:A=none->cap=0
 at_:∀a,A=some a->∀j,j < xs.length->w.cell? (a.add j)=some (V8 (at8 xs j))
 blk:bb < w.heap.size
 src:0 < xs.length->A=some ⟨bb,off,none⟩
def Bytes.cells {w:World} {v:Value} {xs:List UInt8} {A:Option Addr} {cap bb off:Nat} (h:Bytes w v xs A cap bb off) (j:Nat) (hj:j < xs.length):w.cell? ⟨bb,off+j,none⟩=some (V8 (at8 xs j)):=by
 have e:=h.at_ _ (h.src (by omega)) j hj;have:(⟨bb,off,none⟩:Addr).add j=⟨bb,off+j,none⟩:=by unfold Addr.add;split<;>simp_all
 rwa [this] at e
def Bytes.kept {w w':World} {B:Nat} {v:Value} {xs:List UInt8} {A:Option Addr} {cap bb off:Nat} (h:Bytes w v xs A cap bb off) (hb:Below B w w') (hB:w.heap.size<=B):Bytes w' v xs A cap bb off :=
 ⟨h.form,h.le,h.zero,fun a ha j hj=>by
  have e:=h.at_ a ha j hj;exact (hb.cell (Nat.lt_of_lt_of_le (block_lt_of_cell e) hB)).trans e,Nat.lt_of_lt_of_le h.blk hb.size,h.src⟩
def xO (xs:List UInt8):∀u∈xs.map V8,u.oneCell'=true:=by
 intro u hu;obtain ⟨x,_,rfl⟩:=List.mem_map.1 hu;rfl
def tY {xs:List UInt8} {j:Nat} {u:Value} (h:(xs.map V8)[j]? = some u):j < xs.length/\u=V8 (at8 xs j):=by
 have hj:j < xs.length:=by
  have:=(List.getElem?_eq_some_iff.1 h).1;simpa using this
 refine ⟨hj,?_⟩;rw [List.getElem?_map,List.getElem?_eq_getElem hj] at h;simp at h;rw [<-h,at8,List.getD,List.getElem?_eq_getElem hj];rfl
def kR (w:World) (B:Nat) (v:Value) (n:Nat) (xs:List Value) (f9:w.ownsRow B 5 1 v n xs) {src:Value} {ys:List UInt8} {A:Option Addr} {cap bb off:Nat} (hs:Bytes w src ys A cap bb off)
 (hn:n+ys.length<=1000000) (hB:B<=w.heap.size) :
 ∃v' w',(Builtin.append_ #[79,79] 79 #[v,src]).run Tryz.prog w=.ok v' w'/\w'.ownsRow B 5 1 v' (n+ys.length) (xs++ys.map V8)/\w.grownBy w' v.ownBlock /\
  (v'=.slice none 0 0↔v=.slice none 0 0/\ys.length=0)/\(v'.ownBlock=v.ownBlock∨v'.ownBlock=some w.heap.size):=by
 obtain ⟨i0,hi,o7,g8,j5⟩:=info_parts xA
 cases A with
 | none =>
  have hc:=hs.zero rfl;have hl:=hs.le;have h0:ys.length=0:=by omega
  have hy:ys=[]:=List.eq_nil_of_length_eq_zero h0;have e:=hs.form;rw [hc,h0] at e;rw [e];refine ⟨v,w,run_append_owned_none (P:=Tryz.prog) w B 79 79 5 i0 1 Tryz.underlying79 hi v n xs f9,?_,⟨rfl,rfl,rfl,Nat.le_refl _,fun _ _ _=>rfl⟩,by simp [h0],.inl rfl⟩;rw [h0,hy];simpa using f9
 | some a =>
  rw [hs.form];exact run_append_own_at (P:=Tryz.prog) w B 79 79 5 i0 (.int .u8 0) 1 1 Tryz.underlying79 hi o7 g8 j5 rfl (by omega) v n xs f9 a ys.length cap (ys.map V8) (by simp)
   (fun j u hj=>by obtain ⟨h1,rfl⟩:=tY hj;exact hs.at_ a rfl j h1) (xO ys) (by unfold maxLen;omega) (by omega) hB
def wpList_append_run {P:Program} {ops:Array Oper} {rest:List Oper} {o:Oper} {a:Act} {w:World} {Q:Exit->Act->World->Prop} (O6:o.guard=none) (s x:Operand) (t:TypeId)
 (ho:o.op=.call { callee:=.builtin .append,args:=#[s,x],argTypes:=#[t,t] })
 (h:∃v' w',(Builtin.append_ #[t,t] o.type #[a.eval s,a.eval x]).run P w=.ok v' w'/\wpList P ops Q rest (a.put o.dst v') w'):wpList P ops Q (o :: rest) a w :=
 wpList_plain O6 fun _ hK=>by
  obtain ⟨v',w',hr,h⟩:=h;unfold Oper.wp execOp;simp only [ho,resolve,invoke,builtin,Sem.run_bind,Sem.run_pure,Result.andThen_ok,List.map_toArray,List.map_cons,List.map_nil,hr];exact hK _ _ h
def Cu (z:Int):∀u∈[Value.int .u8 z],u.oneCell'=true:=by
 intro u hu;rw [List.mem_singleton] at hu;subst hu;rfl
def vN {w w1 wr:World} {o:Obj} {v:Value} {n:Nat} {xs:List Value} (HB:qW w wr) (HO:wr.ownsRow w.heap.size 5 1 v n xs) (hg:(wr.alloc o).grownBy w1 v.ownBlock):qW w w1 :=
 (HB.alloc HB.size _).grown hg (by have:=HB.size;simp;omega) (fun g hk=>(HO.lt g hk).1)
def Me (ys:List UInt8) (A:Option Addr) (cap bb off:Nat) (w:World) (n:Nat) (hn:ys.length=n) (AG:n<=100000) (hs:Bytes w (.slice A n cap) ys A cap bb off) :
 qC 200 #[.slice A n cap] w fun e w'=>∃v,e=.returned v/\w'.ownsRow w.heap.size 5 1 v (ys++padL n).length ((ys++padL n).map V8)/\qW w w':=by
 obtain ⟨i0,hi,o7,g8,j5⟩:=info_parts xA;obtain ⟨K,HK⟩:∃K,Hid ((119 - n % 64) % 64=K/\K < 64):=⟨_,rfl,by omega⟩;obtain ⟨v1,w1,BU,AX,T9,_,_⟩:=kR w w.heap.size (.slice none 0 0) 0 [] (World.ownsRow_nil _ _ _ _) hs (by omega) qN;rw [Nat.zero_add,List.nil_append,hn] at AX;have YJ:=hid AX;have ub:Hid (qW w w1):=qB.grown T9 qN (fun g hk=>by cases hk);have HR:=hid BU;have HN:=hid hn;clear BU AX T9 hs hn;have N2:Hid (n+1<=maxLen):=by show _<=_;unfold maxLen;omega
 have N3:Hid ((n+1)*1<=140737488355328):=by show _<=_;omega
 have N4:Hid (∀o,w.heap.size<=(w1.alloc o).heap.size):=by intro o;have:=ub.o.size;simp;omega
 go_enter Tryz.func200,Tryz.ntmps200
 go_wp2_with (first
  | (refine wpList_append_run rfl (.tmp 6) (.tmp 7) 79 rfl ?_
     refine ⟨v1,w1,HR.o,?_⟩)
  | (at_builtin;refine wpList_append_own _ rfl _ _ 79 rfl w.heap.size 5 i0 (.int .u8 0) 1 1 Tryz.underlying79 hi o7 g8 j5 rfl (by omega) _ _ _ rfl (YJ.o.alloc _) ⟨w1.heap.size,0,none⟩ 1 1 [Value.int .u8 128] rfl rfl (cell_one_new _ _ _) (Cu 128) N2.o N3.o (N4.o _) ?_
     intro v2 w2 f9 i8 _;have i9:Hid (qW w w2):=vN ub.o YJ.o i8;obtain ⟨g2,c2,rfl⟩:=ownsRow_succ f9;have rn:Hid (w2.ownsRow w.heap.size 5 1 (.slice (some ⟨g2,0,none⟩) (n+1) c2) (n+1) ((ys++128 :: List.replicate 0 0).map V8)):=by
      rw [List.map_append];exact f9
     clear f9 i8))
 clear HR YJ ub N4;go_loopw [3] (fun v wr=>∃(L j:Nat) (B:Option Addr) (c:Nat),v=.slice B L c/\Hid (L=n+1+j)/\j<=K/\L<=200000/\Hid (wr.ownsRow w.heap.size 5 1 (.slice B L c) L ((ys++128 :: List.replicate j 0).map V8))/\Hid (qW w wr))
  (fun v _=>match v with | .slice _ L _=>n+1+K - L | _=>0)
 case atStart=>exact ⟨n+1,0,_,_,rfl,rfl,by omega,by omega,rn,i9⟩
 obtain ⟨L,j,B,c,rfl,HL,hj,hL,HO,HB⟩:=hrel;obtain ⟨r,Hr⟩:=qX (L % 64);have t1:(L:Int) % 64=(r:Int):=by rw [<-Hr.o];rfl
 have t2:(L:Int).tmod 64=(r:Int):=by rw [Int.tmod_eq_emod_of_nonneg (by omega)];exact t1
 by_cases d8:j < K
 .
  have t3:((r:Int) != 56)=true:=by
   have h1:=HK.o;have h2:=HL.o;have h3:=Hr.o;rw [bne_iff_ne];omega
  have t4:((r:Int) == 56)=false:=by simpa [bne] using t3
  have N2:Hid (L+1<=maxLen):=by show _<=_;unfold maxLen;omega
  have N3:Hid ((L+1)*1<=140737488355328):=by show _<=_;omega
  have N4:Hid (∀o,w.heap.size<=(wr.alloc o).heap.size):=by intro o;have:=HB.o.size;simp;omega
  go_wp2_with (at_builtin;refine wpList_append_own _ rfl _ _ 79 rfl w.heap.size 5 i0 (.int .u8 0) 1 1 Tryz.underlying79 hi o7 g8 j5 rfl (by omega) _ _ _ rfl (HO.o.alloc _) ⟨wr.heap.size,0,none⟩ 1 1 [Value.int .u8 0] rfl rfl (cell_one_new _ _ _) (Cu 0) N2.o N3.o (N4.o _) ?_;intro v3 w3 f9 i8 _)
  have B8:Hid (qW w w3):=vN HB.o HO.o i8;obtain ⟨g3,c3,rfl⟩:=ownsRow_succ f9;have ug:Hid (w3.ownsRow w.heap.size 5 1 (.slice (some ⟨g3,0,none⟩) (L+1) c3) (L+1) ((ys++128 :: List.replicate (j+1) 0).map V8)):=by
   rw [List.replicate_succ',<-List.cons_append,<-List.append_assoc,List.map_append];exact f9
  clear f9 i8;go_wp2;go_roundw
  case rel=>exact ⟨L+1,j+1,_,_,rfl,by show _=_;have:=HL.o;omega,by omega,by have:=HL.o;have:=HK.o;omega,ug,B8⟩
  case measure=>have:=HL.o;simp;omega
 obtain rfl:K=j:=by omega
 have t3:((r:Int) != 56)=false:=by
  have h1:=HK.o;have h2:=HL.o;have h3:=Hr.o;have:(r:Int)=56:=by omega
  rw [this];rfl
 have HO4:Hid (wr.ownsRow w.heap.size 5 1 (.slice B L c) (L+0) ((ys++cQ n++bW n 0).map V8)):=by
  show World.ownsRow _ _ _ _ _ _ _
  rw [cQ,HK.o.1];have:bW n 0=[]:=rfl;rw [this,List.append_nil];exact HO.o
 obtain ⟨z,HZ⟩:=qX (n*8);have w8:IntKind.u64.wrap ((n:Int)*8)=(z:Int):=by
  rw [<-HZ.o];simp [IntKind.wrap,IntKind.signed,IntKind.bits];omega
 clear HO;obtain ⟨wo,rfl⟩:∃wo,wo=wr:=⟨_,rfl⟩;go_wp2;go_loopw [3,5] (fun v i wr=>∃(j L:Nat) (q:Int) (B:Option Addr) (c:Nat),j<=8/\v=.slice B L c/\i=.int .i64 q/\Hid (q=7 - (j:Int))/\Hid (L=n+1+K+j)/\Hid (wr.ownsRow w.heap.size 5 1 (.slice B L c) L ((ys++cQ n++bW n j).map V8))/\Hid (qW w wr))
  (fun _ i _=>(intOf i+1).toNat)
 case atStart=>exact ⟨0,L,7,B,c,by omega,rfl,rfl,rfl,HL,HO4,HB⟩
 obtain ⟨j,L2,q,B2,cc,hj8,rfl,rfl,HQ,FM,KV,H8⟩:=hrel;by_cases hlt8:j < 8
 .
  obtain ⟨sh,rfl⟩:∃sh:Nat,q=(sh:Int):=⟨7 - j,by have:=HQ.o;omega⟩;have FU:(0:Int)<=(sh:Int):=by omega
  have hsh2:(sh:Int)<=7:=by have:=HQ.o;omega
  have M1:Hid (∀u∈[Value.int .u8 ((z:Int) / 2 ^ (8*sh) % 256)],u.oneCell'=true):=Cu _;have hb:L2<=200000:=by have:=FM.o;have:=HK.o;omega
  have M2:Hid (L2+1<=maxLen):=by show _<=_;unfold maxLen;omega
  have M3:Hid ((L2+1)*1<=140737488355328):=by show _<=_;omega
  have M4:Hid (∀o,w.heap.size<=(wr.alloc o).heap.size):=by intro o;have:=H8.o.size;simp;omega
  have M5:Hid (Value.int .u8 ((z:Int) / 2 ^ (8*sh) % 256)=V8 (mT n j)):=by
   have e:8*sh=56 - 8*j:=by have:=HQ.o;omega
   show Value.int _ _=Value.int _ _
   rw [mT,vA,e,<-HZ.o];norm_cast
  go_wp2_with (at_builtin;refine wpList_append_own _ rfl _ _ 79 rfl w.heap.size 5 i0 (.int .u8 0) 1 1 Tryz.underlying79 hi o7 g8 j5 rfl (by omega) _ _ _ rfl (KV.o.alloc _) ⟨wr.heap.size,0,none⟩ 1 1 [Value.int .u8 ((z:Int) / 2 ^ (8*sh) % 256)] rfl rfl (cell_one_new _ _ _) M1.o M2.o M3.o (M4.o _) ?_;intro v6 w6 f9 i8 _)
  have sk:Hid (qW w w6):=vN H8.o KV.o i8;obtain ⟨g6,c6,rfl⟩:=ownsRow_succ f9;have HO6:Hid (w6.ownsRow w.heap.size 5 1 (.slice (some ⟨g6,0,none⟩) (L2+1) c6) (L2+1) ((ys++cQ n++bW n (j+1)).map V8)):=by
   rw [rO,<-List.append_assoc,List.map_append,List.map_cons,<-M5.o];exact f9
  clear f9 i8;go_wp2;go_roundw
  case rel=>exact ⟨j+1,L2+1,(sh:Int) - 1,_,_,by omega,rfl,rfl,by show _=_;have:=HQ.o;omega,by show _=_;have:=FM.o;omega,HO6,sk⟩
  case measure=>simp [intOf]
 obtain rfl:j=8:=by omega
 have hq:q < 0:=by have:=HQ.o;omega
 go_wp2;go_ret;refine ⟨_,rfl,?_,H8.o⟩;have e:(ys++padL n).length=L2:=by
  have h1:=HK.o;have h2:=FM.o;have h3:=HN.o;simp [padL,cQ,bW];omega
 have e2:ys++padL n=ys++cQ n++bW n 8:=by rw [padL,List.append_assoc]
 rw [e,e2];exact KV.o
def kP (x:BitVec 32) (n:Nat) (h1:1<=n) (h2:n<=31) (w:World) :
 qC 202 #[.int .u32 (u x),.int .i64 (n:Int)] w fun e w'=>e=.returned (.int .u32 (u (cD x n)))/\w=w':=by
 obtain ⟨m,HM⟩:=qX (32 - n);have w1:(32:Int) - (n:Int)=(m:Int):=by have:=HM.o;omega
 have hm0:(0:Int)<=(m:Int):=by omega
 have hm:(m:Int)<=31:=by have:=HM.o;omega
 have hn:(n:Int)<=31:=by omega
 go_enter Tryz.func202,Tryz.ntmps202
 go_wp2;go_ret;refine ⟨?_,rfl⟩;show Ending.returned (.int .u32 (bits .or .u32 (u x / 2 ^ n) (u x*2 ^ m % 4294967296)))=_
 rw [yC,uA,Ve,<-Yi x n h2,HM.o,BitVec.or_comm]
def iu:(256:BitVec 32).toNat=256:=by decide
def lh:(0:BitVec 32).toNat=0:=by decide
def hx (p:List UInt8) (t:Nat):Nat->BitVec 32
 | 0=>0
 | k+1=>256*hx p t k+wd (at8 p (4*t+k))
def em (p:List UInt8) (t k:Nat):(256*u (hx p t k) % 4294967296+u (wd (at8 p (4*t+k)))) % 4294967296=u (hx p t (k+1)):=by
 have e:(256*u (hx p t k)) % 4294967296=u (256*hx p t k):=by
  unfold u;rw [BitVec.toNat_mul,iu];omega
 rw [e,eL];rfl
def Br (x:UInt8):(wd x).toNat < 256:=by
 have h1:=gH x;have h2:=gu x;unfold u at h2;omega
def Er (h i r:Nat) (hr:r < 2 ^ i):h*2 ^ i ||| r=h*2 ^ i+r:=by
 rw [<-Nat.shiftLeft_eq];exact (Nat.shiftLeft_add_eq_or_of_lt hr h).symm
def Xf (a b c d:Nat) (hb:b < 256) (hc:c < 256) (hd:d < 256) :
 ((a*2 ^ 24 ||| b*2 ^ 16) ||| c*2 ^ 8) ||| d=a*2 ^ 24+b*2 ^ 16+c*2 ^ 8+d:=by
 have e1:a*2 ^ 24+b*2 ^ 16=(a*2 ^ 8+b)*2 ^ 16:=by omega
 have e2:a*2 ^ 24+b*2 ^ 16+c*2 ^ 8=(a*2 ^ 16+b*2 ^ 8+c)*2 ^ 8:=by
  have q1:(2:Nat) ^ 24=2 ^ 16*2 ^ 8:=rfl;have q2:(2:Nat) ^ 16=2 ^ 8*2 ^ 8:=rfl;rw [Nat.add_mul,Nat.add_mul,Nat.mul_assoc,Nat.mul_assoc,<-q1,<-q2]
 have f1:=Er a 24 (b*2 ^ 16) (by omega);have f2:=Er (a*2 ^ 8+b) 16 (c*2 ^ 8) (by omega);have f3:=Er (a*2 ^ 16+b*2 ^ 8+c) 8 d (by omega);rw [<-e1] at f2;rw [<-e2] at f3;rw [f1,f2,f3]
def dh (a b c d:BitVec 32) (ha:a.toNat < 256) (hb:b.toNat < 256) (hc:c.toNat < 256) (hd:d.toNat < 256) :
 256*(256*(256*(256*0+a)+b)+c)+d=oX a 24 ||| oX b 16 ||| oX c 8 ||| d:=by
 apply BitVec.eq_of_toNat_eq;have e1:(oX a 24 ||| oX b 16 ||| oX c 8 ||| d).toNat=((a.toNat*2 ^ 24 ||| b.toNat*2 ^ 16) ||| c.toNat*2 ^ 8) ||| d.toNat:=by
  simp only [oX,BitVec.toNat_or,BitVec.toNat_shiftLeft,Nat.shiftLeft_eq];rw [Nat.mod_eq_of_lt (by omega),Nat.mod_eq_of_lt (by omega),Nat.mod_eq_of_lt (by omega)]
 rw [e1,Xf _ _ _ _ hb hc hd];simp only [BitVec.toNat_add,BitVec.toNat_mul,iu,lh];omega
def af (p:List UInt8) (t:Nat):hx p t 4=Qw p t:=by
 have e:=dh (wd (at8 p (4*t))) (wd (at8 p (4*t+1))) (wd (at8 p (4*t+2))) (wd (at8 p (4*t+3))) (Br _) (Br _) (Br _) (Br _);exact e
def Jk (p:List UInt8) (t:Nat) (h:t < 16):at32 (words p 16) t=hx p t 4:=by
 rw [af];simp [at32,words,List.getD,h]
end Go.Proofs.YtahkcemdbfjilaaGreatDoor.Sha
