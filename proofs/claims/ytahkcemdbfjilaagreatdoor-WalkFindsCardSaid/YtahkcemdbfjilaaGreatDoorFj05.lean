/- Texts. Conditions: as said. -/
import Derived.Test.YtahkcemdbfjilaaGreatDoorFj00
import Derived.Lib.OwnBridge
import Derived.Test.YtahkcemdbfjilaaGreatDoorFj04
import Derived.ChangeKeysEq
import Derived.Lib.AppendZeros
import Derived.Lib.ConvBytes
import Derived.Laws.IdiomStrings
import Derived.LoopN
import Derived.BigRegion
import Derived.StillTailTactics
set_option linter.all false
set_option maxRecDepth 100000
set_option maxHeartbeats 32000000
namespace Go.Proofs.YtahkcemdbfjilaaGreatDoor
open Go.RowKit Go.Maps Go.Lib Go.Sort
abbrev Sh:={x:By // x.length<=4000}
instance:Inhabited Sh:=⟨⟨[],by simp⟩⟩
def qV (x:Sh):Value:=kS x.1
def kN (x y:Sh):Int:=cmpL x.1 y.1
def Yk (x y:Sh):ltOf kN x y=true↔cmpL x.1 y.1 = -1:=by
 unfold ltOf kN;have:=cmpL_vals x.1 y.1;simp only [decide_eq_true_eq];omega
def jY (x y:Sh):ltOf kN x y=false↔cmpL x.1 y.1≠-1:=by
 rw [<-Bool.not_eq_true,Yk]
def cmpL_le {a b:By} (h:cmpL b a≠-1):cmpL a b = -1∨a=b:=by
 rcases cmpL_vals a b with k | k | k
 . exact .inl k
 . exact .inr ((rT a b).1 k)
 exact absurd (by rw [kG a b,k]) h
def Sf:SWO (ltOf kN) where
 irrefl x:=by rw [jY,fE];omega
 trans x y z h1 h2:=by rw [Yk] at *;exact pU _ _ _ h1 h2
 ntrans x y z h1 h2:=by
  rw [jY] at *;intro h3;rcases cmpL_le h1 with k | k
  . exact h2 (pU _ _ _ k h3)
  rw [<-k] at h3;exact h2 h3
def fq:OneCell qV:=fun _=>rfl
def Uz {xs:List By} (h:∀x∈xs,x.length<=4000):∃zs:List Sh,zs.map (·.1)=xs:=by
 induction xs with
 | nil=>exact ⟨[],rfl⟩
 | cons x xs ih =>
  obtain ⟨zs,hz⟩:=ih fun y hy=>h y (List.mem_cons_of_mem _ hy)
  exact ⟨⟨x,h x List.mem_cons_self⟩ :: zs,by rw [List.map_cons,hz]⟩
def vT (xs:List By):Tr:=xs.map fun x=>(x,n0)
def Ci (xs:List By) (p:By):look (vT xs) p=if p∈xs then some n0 else none:=by
 induction xs with
 | nil=>rfl
 | cons x xs ih =>
  show (if x=p then some n0 else look (vT xs) p)=_
  rw [ih];by_cases h:x=p
  . simp [h]
  have h':¬p=x:=fun e=>h e.symm
  simp [h,h']
def Pg {xs ys:List By} (hx:xs.Pairwise fun a b=>cmpL a b = -1) (hy:ys.Pairwise fun a b=>cmpL a b = -1) (h:∀p,p∈xs↔p∈ys):xs=ys:=by
 have s1:cZ (vT xs):=by unfold cZ vT;rw [List.pairwise_map];exact hx
 have s2:cZ (vT ys):=by unfold cZ vT;rw [List.pairwise_map];exact hy
 have:=Vv s1 s2 fun p=>by rw [Ci,Ci];simp only [h p]
 have e:=congrArg (List.map (·.1)) this;simpa [vT,List.map_map,Function.comp_def] using e
def pathsL (L:Tr):List By:=L.map (·.1)
def Ac {L:Tr} (h:cZ L):(pathsL L).Pairwise fun a b=>cmpL a b = -1:=by unfold pathsL;rw [List.pairwise_map];exact h
def Cn {L:Tr} (h:cZ L) (zs:List Sh) (hp:(zs.map (·.1)).Perm (pathsL L)):(zs.mergeSort fun x y=>!(ltOf kN) y x).map (·.1)=pathsL L:=by
 have vk:=List.mergeSort_perm zs fun x y=>!(ltOf kN) y x
 have UP:(zs.mergeSort fun x y=>!(ltOf kN) y x).Pairwise fun x y=>(!(ltOf kN) y x)=true:=by
  apply List.pairwise_mergeSort
  . intro a b c h1 h2
    simp only [Bool.not_eq_true'] at *;exact Sf.ntrans _ _ _ h2 h1
  intro a b;simp only [Bool.or_eq_true,Bool.not_eq_true'];rcases cmpL_vals b.1 a.1 with k | k | k
  . exact .inr ((jY _ _).2 (by rw [kG,k];omega))
  . exact .inl ((jY _ _).2 (by rw [k];omega))
  exact .inl ((jY _ _).2 (by rw [k];omega))
 have LM:((zs.mergeSort fun x y=>!(ltOf kN) y x).map (·.1)).Nodup:=by
  refine ((vk.map _).trans hp).nodup_iff.2 ?_;exact (Ac h).imp fun k=>kJ k
 refine Pg ?_ (Ac h) fun p=>((vk.map _).trans hp).mem_iff
 have h2:((zs.mergeSort fun x y=>!(ltOf kN) y x).map (·.1)).Pairwise fun a b=>cmpL b a≠-1:=by
  rw [List.pairwise_map];exact UP.imp fun {a b} k=>(jY b a).1 (by simpa using k)
 exact (h2.and LM).imp fun {a b} k=>(cmpL_le k.1).resolve_right k.2
structure Names (w:World) (A:Option Addr) (g:Nat) (xs:List By):Prop where
 ad:0 < xs.length->A=some ⟨g,0,none⟩
 cell:∀i (h:i < xs.length),w.cell? ⟨g,i,none⟩=some (kS xs[i])
 low:0 < xs.length->g < w.heap.size
def Names.on {w w':World} {A:Option Addr} {g:Nat} {xs:List By} (h:Names w A g xs) (hb:qW w w'):Names w' A g xs :=
 ⟨h.ad,fun i hi=>(hb.cell (h.low (by omega))).trans (h.cell i hi),fun k=>Nat.lt_of_lt_of_le (h.low k) hb.size⟩
def ja (w:World) (xs:List By) (e:Ending) (w':World):Prop:=∃A c g,e=.returned (.slice A (xs.length:Nat) c)/\Names w' A g xs/\qW w w'
def fW {w w0:World} {e:TypeId} {v:Value} {xs:List By} (h:w.ownsRow w0.heap.size e 1 v xs.length (xs.map kS)):∃A c g,v=.slice A (xs.length:Nat) c/\Names w A g xs:=by
 rcases h.2 with ⟨k1,k2⟩ | ⟨g,c,cur,k1,k2,k3,k4,k5,k6,k7⟩
 . have:xs=[]:=by simpa using k2
   subst this;exact ⟨none,0,0,k1,fun k=>absurd k (by simp),fun i hi=>absurd hi (by simp),fun k=>absurd k (by simp)⟩
 refine ⟨_,c,g,k1,fun _=>rfl,fun i hi=>?_,fun _=>Has.inside k3⟩;have e1:=congrArg (fun l=>l[i]?) k7;simp only [List.getElem?_take,Nat.mul_one,if_pos hi,Array.getElem?_toList,List.getElem?_map,List.getElem?_eq_getElem hi,Option.map_some] at e1;exact (Has.at_ k3 i).trans e1
def sQ {α:Type} [Inhabited α] {enc:α->Value} {B:Nat} {w0 w:World} {g q:Nat} {d:Array α} {os:Array Obj} (h:Below B w0 w) (hg:B<=g) (hB:B<=w.heap.size):Below B w0 (sortWorld enc w g 0 q d os):=by
 have:=below_putRow (enc:=enc) (q:=q) (d:=d) h hg;refine this.trans ⟨rfl,rfl,rfl,?_,fun k hk=>?_⟩
 . show _<=((putRow enc (Sort.ahead w q) g 0 d).heap++os).size
   simp
 show ((putRow enc (Sort.ahead w q) g 0 d).heap++os)[k]? = _
 have:=this.size;rw [Array.getElem?_append_left];have e:(putRow enc (Sort.ahead w q) g 0 d).heap.size=w.heap.size:=by simp [putRow,mapBlock,Sort.ahead]
 omega
def Bo {L:Tr} (hs:cZ L) {w0 w:World} {v:Value} {xs:List By} (hb:qW w0 w) (h:w.ownsRow w0.heap.size 9 1 v xs.length (xs.map kS)) (hp:xs.Perm (pathsL L)) (hl:∀x∈xs,x.length<=4000) (hn:xs.length<=100000) :
 qC 167 #[v,.func (.func 168) #[] #[]] w fun e w'=>e=.returned (.tuple #[])/\w'.ownsRow w0.heap.size 9 1 v (pathsL L).length ((pathsL L).map kS)/\qW w0 w':=by
 obtain ⟨zs,hz⟩:=Uz hl;have f8:xs.length=(pathsL L).length:=hp.length_eq;have hzx:xs.map kS=zs.map qV:=by rw [<-hz,List.map_map];rfl
 by_cases hv:v=.slice none 0 0
 .
  subst hv;have h0:xs.length=0:=by
   rcases h.2 with ⟨_,k2⟩ | ⟨g,c,cur,k1,_⟩
   . have:xs=[]:=by simpa using k2
     rw [this];rfl
   cases k1
  have e0:xs=[]:=List.length_eq_zero_iff.1 h0;have e1:pathsL L=[]:=List.length_eq_zero_iff.1 (by omega);refine (Tryz.slices_SortFunc_none (α:=Sh) none 0 _ w).mono ?_;rintro e w' ⟨rfl,rfl⟩;rw [e1];rw [e0] at h;exact ⟨rfl,h,hb⟩
 rw [hzx] at h;obtain ⟨g,cap,rfl,g1,g2,g3,g4,g5,hH⟩:=holds_of_ownsRow h hv;have hlz:zs.toArray.size=xs.length:=by simp [g5]
 have:=Tryz.slices_SortFunc_total qV fq kN Sf 168 #[] g 0 cap zs.toArray w (enters_of Tryz.func168 (by kernel_rfl) rfl) (fun m os dk hdk x y=>by
  have hx:=x.2;have hy:=y.2;refine (Ze (ba x.1) (ba y.1) _ (by rw [aD];omega) (by rw [aD];omega)).mono ?_;rintro e w' ⟨rfl,n,rfl⟩;exact ⟨rfl,n,#[],(grow_empty _).symm⟩) hH g2 (by rw [hlz];omega) (fun x y h1 h2=>by
   rw [jY] at h1 h2;rcases cmpL_le h2 with k | k
   . exact absurd k h1
   exact Subtype.ext k)
 rw [hlz] at this;refine this.mono ?_;rintro e w' ⟨rfl,n,os,rfl⟩;refine ⟨rfl,?_,sQ hb g1 hb.size⟩;have vm:=Cn hs zs (by rw [hz];exact hp);have zo:(zs.mergeSort fun x y=>!(ltOf kN) y x).length=xs.length:=by rw [List.length_mergeSort,g5]
 have o8:=ownsRow_putRow (enc:=qV) (q:=n) (k:=xs.length) (ys:=zs.mergeSort fun x y=>!(ltOf kN) y x) h zo qN;rw [List.take_of_length_le (Nat.le_of_eq zo),show List.map qV (zs.mergeSort fun x y=>!(ltOf kN) y x)=(pathsL L).map kS by rw [<-vm,List.map_map];rfl,f8] at o8;rw [f8];refine row_of o8 fun g' vn=>?_
 have eg:g=g':=by injection vn
 subst eg;show ((putRow qV (Sort.ahead w n) g 0 _).heap++os)[g]? = _
 rw [Array.getElem?_append_left];have e:∀d:Array Sh,(putRow qV (Sort.ahead w n) g 0 d).heap.size=w.heap.size:=fun d=>by simp [putRow,mapBlock,Sort.ahead]
 rw [e];exact g2
def Qb (L:Tr):innerL L []=pathsL L:=by
 have:kindP L []=2:=rfl;rw [innerL,if_pos this,show fT []=[] from rfl];unfold iS pathsL;induction L with
 | nil=>rfl
 | cons x L ih=>simp
section
variable {own:Nat->Prop} {w:World} {p:Nat} {M:Mo}
theorem Lo (h:Dsk own w p M):qC 114 #[.pointer (some ⟨p,0,none⟩)] w fun e w'=>ja w (pathsL M.now) e w':=by
 obtain ⟨m1,m2,sv,vs,h⟩:=h;have C1:=hid (iP (m1:=m1) (h.has.at_ 0));have hW:=h.good.w1;have xd:∀q,(look M.now q).isSome->q.length<=4000:=fun q hq=>by have:=(aU (hW.may q hq)).1;omega
 have C2:Hid (qC 154 #[.pointer (some ⟨p,0,none⟩),kS []] w fun e w'=>Cr w (pathsL M.now) e w'):=by
  have:=uO h.tr1 xd [] (by simp);rw [Qb] at this;exact this
 have HS:=hid hW.srt;have HN:Hid ((pathsL M.now).length<=100000):=by
  show _<=_
  unfold pathsL;rw [List.length_map];exact h.tr1.len
 have HL:Hid (∀x∈pathsL M.now,x.length<=4000):=fun x hx=>by
  unfold pathsL at hx;obtain ⟨y,hy,rfl⟩:=List.mem_map.1 hx;obtain ⟨q,n⟩:=y;exact xd q (by rw [dS hW.srt hy];rfl)
 clear h hW xd;go_enter Tryz.func114,Tryz.ntmps114
 go_wp2_with fail
 refine C1.o.mono ?_;rintro e1 w1 ⟨rfl,rfl⟩;go_wp2_with fail
 refine C2.o.mono ?_;rintro e2 w2 ⟨v,xs,rfl,hp,o8,hb⟩;have HP:=hid hp;have HR:=hid o8;have HB:=hid hb;clear hp o8 hb;go_wp2_with fail
 refine (Bo HS.o HB.o HR.o HP.o (fun x hx=>HL.o x (HP.o.mem_iff.1 hx)) (by rw [HP.o.length_eq];exact HN.o)).mono ?_;rintro e3 w3 ⟨rfl,hrow3,i7⟩;have K9:=hid hrow3;have B8:=hid i7;clear hrow3 i7;go_wp2;go_ret;obtain ⟨A,c,g,rfl,hn⟩:=fW K9.o;exact ⟨A,c,g,rfl,hn,B8.o⟩
end
open Go.RowKit Go.Maps
instance:DecidableEq Nd:=fun a b =>
 if h:a.kind=b.kind/\a.data=b.data/\a.target=b.target/\a.time=b.time then .isTrue (by cases a;cases b;simp only at h;obtain ⟨h1,h2,h3,h4⟩:=h;subst h1 h2 h3 h4;rfl) else .isFalse (fun e=>h (by subst e;exact ⟨rfl,rfl,rfl,rfl⟩))
def eV {P:Program} {ops:Array Oper} {Q:Exit->Act->World->Prop} {a:Act} {w:World} {rest:List Oper} {o:Oper} (hw:Region.wanted o (yielded ops a.tmps)=true)
 (h:∀K:Act->World->Prop,(∀a w,wpList P ops Q rest a w->K a w)->o.wp P a w K Q):wpList P ops Q (o :: rest) a w :=
 wpList_step fun K hK=>by rw [if_pos hw];exact h K hK
def aT {P:Program} {ops:Array Oper} {rest:List Oper} {o:Oper} {a:Act} {w:World} {Q:Exit->Act->World->Prop} (hw:Region.wanted o (yielded ops a.tmps)=true) (ty:TypeId) (x:Operand) (ho:o.op=.load ty x)
 (g off:Nat) (hx:a.eval x=.pointer (some ⟨g,off,none⟩)) (cs:Array Value) (hl:(loadVar ty ⟨g,off,none⟩).run P w=.ok (.agg cs) w)
 (h:wpList P ops Q rest (a.put o.dst (.agg cs)) w):wpList P ops Q (o :: rest) a w :=
 eV hw fun _ hK=>by
  unfold Oper.wp execOp;simp only [ho,hx,Instr.loadAt,Instr.sureAddr,Sem.run_bind,Sem.run_pure,Result.andThen_ok,hl];exact hK _ _ h
abbrev dU (k:Int) (d x:By) (t:Int):Array Value:=#[.int .i64 k,kS d,kS x,.int .i64 t]
section
variable {ops:Array Oper} {Q:Exit->Act->World->Prop} {a:Act} {w:World} {rest:List Oper} {o:Oper}
theorem eB {w:World} {g:Nat} {k:Int} {d x:By} {t:Int} (hg:Has w g 71 (dU k d x t)):(loadVar 71 ⟨g,0,none⟩).run Tryz.prog w=.ok (.agg (dU k d x t)) w :=
 run_loadVar_row (P:=Tryz.prog) w g 71 71 _ (0,0) _ hg Tryz.underlying71 rfl Ym
theorem fR (hw:Region.wanted o (yielded ops a.tmps)=true) (x:Operand) (ho:o.op=.load 71 x) (g:Nat) (hx:a.eval x=.pointer (some ⟨g,0,none⟩)) (k:Int) (d y:By) (t:Int) (hg:Has w g 71 (dU k d y t))
 (h:wpList Tryz.prog ops Q rest (a.put o.dst (.agg (dU k d y t))) w):wpList Tryz.prog ops Q (o :: rest) a w :=
 eV hw fun _ hK=>by
  unfold Oper.wp execOp;simp only [ho,hx,Instr.loadAt,Instr.sureAddr,Sem.run_bind,Sem.run_pure,Result.andThen_ok,eB hg];exact hK _ _ h
end
open Go.RowKit Go.Maps
def V8 (x:UInt8):Value:=.int .u8 (b8 x)
structure Bytes (w:World) (v:Value) (xs:List UInt8) (A:Option Addr) (cap bb off:Nat):Prop where
 form:v=.slice A xs.length cap
 le:xs.length<=cap
 zero:A=none->cap=0
 at_:∀a,A=some a->∀j,j < xs.length->w.cell? (a.add j)=some (V8 (at8 xs j))
 blk:bb < w.heap.size
 src:0 < xs.length->A=some ⟨bb,off,none⟩
section
variable {w w':World} {v:Value} {xs:List UInt8} {A:Option Addr} {cap bb off:Nat}
theorem bY (bb off j:Nat):(⟨bb,off,none⟩:Addr).add j=⟨bb,off+j,none⟩:=by unfold Addr.add;split<;>simp_all
theorem Bytes.nil (w:World) (h:0 < w.heap.size):Bytes w (.slice none 0 0) [] none 0 0 0:=⟨rfl,Nat.le_refl _,fun _=>rfl,(fun _ e=>by cases e),h,(fun e=>by simp at e)⟩
theorem Bytes.kept {B:Nat} (h:Bytes w v xs A cap bb off) (hb:Below B w w') (hB:w.heap.size<=B):Bytes w' v xs A cap bb off :=
 ⟨h.form,h.le,h.zero,fun a ha j hj=>by
  have e:=h.at_ a ha j hj;exact (hb.cell (Nat.lt_of_lt_of_le (block_lt_of_cell e) hB)).trans e,Nat.lt_of_lt_of_le h.blk hb.size,h.src⟩
end
def xO (xs:List UInt8):∀u∈xs.map V8,u.oneCell'=true:=by
 intro u hu;obtain ⟨x,_,rfl⟩:=List.mem_map.1 hu;rfl
def tY {xs:List UInt8} {j:Nat} {u:Value} (h:(xs.map V8)[j]? = some u):j < xs.length/\u=V8 (at8 xs j):=by
 have hj:j < xs.length:=by
  have:=(List.getElem?_eq_some_iff.1 h).1;simpa using this
 refine ⟨hj,?_⟩;rw [List.getElem?_map,List.getElem?_eq_getElem hj] at h;simp at h;rw [<-h,at8,List.getD,List.getElem?_eq_getElem hj];rfl
def yR {xs:List UInt8} {j:Nat} (h:j < xs.length):(xs.map V8)[j]? = some (V8 (at8 xs j)):=by
 rw [List.getElem?_map,List.getElem?_eq_getElem h];simp [at8,List.getD,List.getElem?_eq_getElem h]
def xA:(Tryz.prog.info? 5).map (fun i=>(i.zero,i.size,i.bytes))=some (some (.int .u8 0),1,1):=by kernel_rfl
def Ad {w:World} {B:Nat} {v:Value} {ys:List UInt8} {n:Nat} (hn:ys.length=n) (hw:0 < w.heap.size) (h:w.ownsRow B 5 1 v n (ys.map V8)):∃A cap bb,Bytes w v ys A cap bb 0/\(0 < ys.length->B<=bb)/\(v.ownBlock=some bb∨v.ownBlock=none/\bb=0):=by
 subst hn;rcases h.2 with ⟨rfl,h2⟩ | ⟨g,c,cur,rfl,K8,hgg,h4,_⟩
 . obtain rfl:ys=[]:=List.eq_nil_of_length_eq_zero (by omega)
   exact ⟨none,0,0,Bytes.nil w hw,fun h=>by simp at h,.inr ⟨rfl,rfl⟩⟩
 have hc:=h.cells (g:=g) rfl;have hl:=(h.lt g rfl).2;refine ⟨some ⟨g,0,none⟩,c,g,⟨rfl,h4,(fun h=>by cases h),fun a ha j hj=>?_,hl,fun _=>rfl⟩,fun _=>K8,.inl rfl⟩
 cases ha
 exact hc j _ (yR hj)
def kR (w:World) (B:Nat) (v:Value) (n:Nat) (xs:List Value) (f9:w.ownsRow B 5 1 v n xs) {src:Value} {ys:List UInt8} {A:Option Addr} {cap bb off:Nat} (hs:Bytes w src ys A cap bb off)
 (hn:n+ys.length<=1000000) (hB:B<=w.heap.size) :
 ∃v' w',(Builtin.append_ #[79,79] 79 #[v,src]).run Tryz.prog w=.ok v' w'/\w'.ownsRow B 5 1 v' (n+ys.length) (xs++ys.map V8)/\w.grownBy w' v.ownBlock /\
  (v'=.slice none 0 0↔v=.slice none 0 0/\ys.length=0)/\(v'.ownBlock=v.ownBlock∨v'.ownBlock=some w.heap.size):=by
 obtain ⟨i0,hi,o7,g8,j5⟩:=info_parts xA
 cases A with
 | none =>
  have hc:=hs.zero rfl;have hl:=hs.le;have h0:ys.length=0:=by omega
  have hy:ys=[]:=List.eq_nil_of_length_eq_zero h0;have e:=hs.form;rw [hc,h0] at e;rw [e];refine ⟨v,w,run_append_owned_none (P:=Tryz.prog) w B 79 79 5 i0 1 Tryz.underlying79 hi v n xs f9,?_,⟨rfl,rfl,rfl,Nat.le_refl _,fun _ _ _=>rfl⟩,by simp [h0],.inl rfl⟩;rw [h0,hy];simpa using f9
 | some a =>
  rw [hs.form];exact run_append_own_at (P:=Tryz.prog) w B 79 79 5 i0 (.int .u8 0) 1 1 Tryz.underlying79 hi o7 g8 j5 rfl (by omega) v n xs f9 a ys.length cap (ys.map V8) (by simp)
   (fun j u hj=>by obtain ⟨h1,rfl⟩:=tY hj;exact hs.at_ a rfl j h1) (xO ys) (by unfold maxLen;omega) (by omega) hB
def wpList_append_run {P:Program} {ops:Array Oper} {rest:List Oper} {o:Oper} {a:Act} {w:World} {Q:Exit->Act->World->Prop} (O6:o.guard=none) (s x:Operand) (t tn:TypeId)
 (ho:o.op=.call { callee:=.builtin .append,args:=#[s,x],argTypes:=#[t,tn] })
 (h:∃v' w',(Builtin.append_ #[t,tn] o.type #[a.eval s,a.eval x]).run P w=.ok v' w'/\wpList P ops Q rest (a.put o.dst v') w'):wpList P ops Q (o :: rest) a w :=
 wpList_plain O6 fun _ hK=>by
  obtain ⟨v',w',hr,h⟩:=h;unfold Oper.wp execOp;simp only [ho,resolve,invoke,builtin,Sem.run_bind,Sem.run_pure,Result.andThen_ok,List.map_toArray,List.map_cons,List.map_nil,hr];exact hK _ _ h
def Xc (w:World):(convert 79 9 (.slice none 0 0)).run Tryz.prog w=.ok (.string ⟨#[]⟩) w:=by kernel_rfl
def Sc {w:World} {v:Value} {ys:List UInt8} {A:Option Addr} {cap bb off:Nat} (h:Bytes w v ys A cap bb off):(convert 79 9 v).run Tryz.prog w=.ok (.string (ba ys)) w:=by
 have e:=h.form
 cases A with
 | none =>
  have hc:=h.zero rfl;have hl:=h.le;have h0:ys=[]:=List.eq_nil_of_length_eq_zero (by omega);subst h0;rw [e,hc];exact Xc w
 | some a =>
  rw [e];have:=run_convert_bytes_back (P:=Tryz.prog) w 79 9 5 a cap ys Tryz.underlying79 Tryz.underlying5 Tryz.underlying9 (fun j hj=>by
   rw [h.at_ a rfl j hj,V8,b8,at8,List.getD,List.getElem?_eq_getElem hj];rfl)
  exact this
def Fresh (B:Nat) (w':World) (v:Value) (xs:List UInt8):Prop:=w'.ownsRow B 5 1 v xs.length (xs.map V8)
def Fresh.bytes {B:Nat} {w:World} {v:Value} {xs:List UInt8} (h:Fresh B w v xs) (hw:0 < w.heap.size):∃A cap bb,Bytes w v xs A cap bb 0/\(0 < xs.length->B<=bb)/\(v.ownBlock=some bb∨v.ownBlock=none/\bb=0):=Ad rfl hw h
def oG (B:Nat) (w:World):Fresh B w (.slice none 0 0) []:=World.ownsRow_nil _ _ _ _
def zB {B:Nat} {w:World} {v:Value} {xs:List UInt8} (h:Fresh B w v xs) {src:Value} {ys:List UInt8} {A:Option Addr} {cap bb off:Nat} (hs:Bytes w src ys A cap bb off) (hn:xs.length+ys.length<=1000000) (hB:B<=w.heap.size) :
 ∃v' w',(Builtin.append_ #[79,79] 79 #[v,src]).run Tryz.prog w=.ok v' w'/\Fresh B w' v' (xs++ys)/\w.grownBy w' v.ownBlock:=by
 obtain ⟨v',w',hr,ho,hg,_,_⟩:=kR w B v xs.length (xs.map V8) h hs hn hB;refine ⟨v',w',hr,?_,hg⟩;unfold Fresh;rw [List.length_append,List.map_append];exact ho
def mN {B:Nat} {w w':World} {v:Value} {xs:List UInt8} (h:Fresh B w v xs) (hb:qW w w'):Fresh B w' v xs:=row_of h (fun g hg=>hb.block g (World.ownsRow.lt h g hg).2)
def Eg (s:ByteArray) (i:Nat) (h:i < s.size) (w:World):(Instr.index 9 (.string s) (.int .i64 (i:Int))).run Tryz.prog w=.ok (.int .u8 (b8 (at8 (tl s) i))) w:=by
 have hi:i < s.data.toList.length:=by simpa using h
 rw [run_index_string (P:=Tryz.prog) w 9 s .i64 (i:Int) Tryz.underlying9,dif_pos ⟨by omega,by omega⟩];have e:s[(i:Int).toNat]'(by simpa using h)=at8 (tl s) i:=by
  rw [at8,List.getD,List.getElem?_eq_getElem hi];rfl
 rw [e];rfl
def Tc (w:World) (z:UInt8) (fr:Nat × Nat):Bytes (w.alloc (.cells #[.int .u8 (b8 z)] 5 fr)) (.slice (some ⟨w.heap.size,0,none⟩) 1 1) [z] (some ⟨w.heap.size,0,none⟩) 1 w.heap.size 0:=by
 refine ⟨rfl,Nat.le_refl _,(fun h=>by cases h),fun a ha j hj=>?_,by simp,fun _=>rfl⟩
 cases ha
 rw [bY,Nat.zero_add,cell_of_row _ w.heap.size j _ 5 fr (heap_alloc_new w _)];have hj:j < 1:=hj;rcases j with _ | j
 . rfl
 omega
def Fb (wr:World) (B:Nat) (v:Value) (xs:By) (h:Fresh B wr v xs) (hl:xs.length<=100000) (hB:B<=wr.heap.size) (z:UInt8) :
 ∃v' w',(Builtin.append_ #[79,79] 79 #[v,.slice (some ⟨wr.heap.size,0,none⟩) 1 1]).run Tryz.prog (wr.alloc (.cells #[.int .u8 (b8 z)] 5))=.ok v' w'/\Fresh B w' v' (xs++[z])/\Below B wr w':=by
 have hb:qW wr (wr.alloc (.cells #[.int .u8 (b8 z)] 5)):=qB.alloc qN _;obtain ⟨v',w',hr,hf,hg⟩:=zB (mN h hb) (Tc wr z (0,0)) (by simp;omega) (by simp;omega);refine ⟨v',w',hr,hf,?_⟩;have h2:Below B wr (wr.alloc (.cells #[.int .u8 (b8 z)] 5)):=qB.alloc hB _;exact h2.grown hg (by simp;omega) (fun g hg=>(World.ownsRow.lt h g hg).1)
open Go.RowKit
section
variable {w w':World} {v:Value} {xs:List UInt8} {A:Option Addr} {cap bb off:Nat}
theorem Bytes.cells (h:Bytes w v xs A cap bb off) (j:Nat) (hj:j < xs.length):w.cell? ⟨bb,off+j,none⟩=some (V8 (at8 xs j)):=by
 have e:=h.at_ _ (h.src (by omega)) j hj;rwa [bY] at e
end
open Go.RowKit
def szL (n:Nat):Nat:=if n<=512 then 16 else if n<=1024 then 32 else if n<=2048 then 64 else 128
def sizeI (n:Int):Nat:=if n < 0∨4096 < n then 0 else szL n.toNat
def gA (n:Nat):Nat:=(n+szL n - 1) / szL n
def cntI (n:Int):Nat:=if n < 0∨4096 < n then 0 else gA n.toNat
def fJ (n:Nat):szL n=16∨szL n=32∨szL n=64∨szL n=128:=by
 unfold szL;split<;>(try split)<;>(try split)<;>simp
def Hw (n:Nat):0 < szL n:=by have:=fJ n;omega
def lU (n:Nat) (h:n<=4096):sizeI (n:Int)=szL n:=by unfold sizeI;rw [if_neg (by omega)];rfl
def lN (n:Int) (h:n < 0∨4096 < n):sizeI n=0:=by unfold sizeI;rw [if_pos h]
def pH (n:Nat) (h:n<=4096):cntI (n:Int)=gA n:=by unfold cntI;rw [if_neg (by omega)];rfl
def Ik (n:Int) (h:n < 0∨4096 < n):cntI n=0:=by unfold cntI;rw [if_pos h]
def Zh {s m:Nat} (h:s*32 < m) (hm:m<=4096) (hc:s=16∨s=32∨s=64∨s=128):s*2<=szL m:=by
 have h1:szL m=if m<=512 then 16 else if m<=1024 then 32 else if m<=2048 then 64 else 128:=rfl
 by_cases a:m<=512
 . omega
 by_cases b:m<=1024
 . rw [if_neg a,if_pos b] at h1;omega
 by_cases c:m<=2048
 . rw [if_neg a,if_neg b,if_pos c] at h1;omega
 rw [if_neg a,if_neg b,if_neg c] at h1;omega
def Zy {s m:Nat} (h:¬s*32 < m) (h2:s<=szL m) (hc:s=16∨s=32∨s=64∨s=128):s=szL m:=by
 have h1:szL m=if m<=512 then 16 else if m<=1024 then 32 else if m<=2048 then 64 else 128:=rfl
 by_cases a:m<=512
 . rw [if_pos a] at h1;omega
 by_cases b:m<=1024
 . rw [if_neg a,if_pos b] at h1;omega
 by_cases c:m<=2048
 . rw [if_neg a,if_neg b,if_pos c] at h1;omega
 rw [if_neg a,if_neg b,if_neg c] at h1;omega
def oA {a b:Int} (h:a=b):Ending.returned (.int .i64 a)=.returned (.int .i64 b):=by rw [h]
def pG (n:Int) (w:World):qC 101 #[.int .i64 n] w fun e w'=>e=.returned (.int .i64 (sizeI n:Int))/\w=w':=by
 by_cases h1:n < 0
 .
  have HV:Hid ((sizeI n:Int)=0):=by show _=_;rw [lN n (.inl h1)];rfl
  go_enter Tryz.func101,Tryz.ntmps101
  go_wp2;go_ret;exact ⟨oA HV.o.symm,rfl⟩
 by_cases h2:4096 < n
 .
  have HV:Hid ((sizeI n:Int)=0):=by show _=_;rw [lN n (.inr h2)];rfl
  go_enter Tryz.func101,Tryz.ntmps101
  go_wp2;go_ret;exact ⟨oA HV.o.symm,rfl⟩
 obtain ⟨m,rfl⟩:=Int.eq_ofNat_of_zero_le (a:=n) (by omega);have h3:¬4096 < m:=by omega
 have HV:Hid ((sizeI (m:Int):Int)=(szL m:Int)):=by show _=_;rw [lU m (by omega)]
 go_enter Tryz.func101,Tryz.ntmps101
 go_wp2;go_loopw [3] (fun v wr=>∃s:Nat,v=.int .i64 (s:Int)/\s<=128/\Hid (s<=szL m/\(s=16∨s=32∨s=64∨s=128))/\w=wr) (fun v _=>200 - (intOf v).toNat)
 case atStart=>exact ⟨16,rfl,by omega,(⟨by have:=fJ m;omega,.inl rfl⟩:16<=szL m/\(16=16∨16=32∨16=64∨16=128)),rfl⟩
 obtain ⟨s,rfl,hs,H,rfl⟩:=hrel;have w1:IntKind.i64.wrap ((s:Int)*32)=(s:Int)*32:=aM _ (by omega) (by omega);have w2:IntKind.i64.wrap ((s:Int)*2)=(s:Int)*2:=aM _ (by omega) (by omega);by_cases d8:(s:Int)*32 < (m:Int)
 .
  go_wp2;go_roundw
  case rel =>
   have:=H.o;have h5:s*2<=szL m:=Zh (by omega) (by omega) this.2;have h6:=fJ m;exact ⟨s*2,by rw [Int.natCast_mul];rfl,by omega,(⟨h5,by omega⟩:s*2<=szL m/\_),trivial⟩
  case measure=>have:=H.o;simp [intOf];omega
 have HE:Hid (s=szL m):=Zy (by omega) H.o.1 H.o.2;go_wp2;go_ret;exact ⟨oA (by rw [HV.o,HE.o]),rfl⟩
def zS (n:Int) (w:World):qC 68 #[.int .i64 n] w fun e w'=>e=.returned (.int .i64 (cntI n:Int))/\w=w':=by
 by_cases h:n < 0∨4096 < n
 .
  have HV:Hid ((cntI n:Int)=0):=by show _=_;rw [Ik n h];rfl
  have C:=hid (pG n);rw [lN n h] at C;clear h;go_enter Tryz.func68,Tryz.ntmps68
  go_wp2_with (go_at_call 101;refine (C.o _).mono ?_;rintro e1 w1 ⟨rfl,rfl⟩)
  go_ret;exact ⟨oA HV.o.symm,rfl⟩
 obtain ⟨m,rfl⟩:=Int.eq_ofNat_of_zero_le (a:=n) (by omega);have C:=hid (pG (m:Int));rw [lU m (by omega)] at C;have hb:=fJ m;obtain ⟨s,HS⟩:=qX (szL m);rw [HS.o] at C hb;have HV:Hid ((cntI (m:Int):Int)=(((m+s - 1) / s:Nat):Int)):=by show _=_;rw [pH m (by omega),gA,HS.o]
 have ru:((s:Int) == 0)=false:=by simp;omega
 have O8:¬(s:Int)=0:=by omega
 have w1:IntKind.i64.wrap ((m:Int)+(s:Int))=(m:Int)+s:=aM _ (by omega) (by omega);have w2:IntKind.i64.wrap ((m:Int)+(s:Int) - 1)=((m+s - 1:Nat):Int):=by rw [aM _ (by omega) (by omega)];omega
 have w3:wrap64 (((m+s - 1:Nat):Int) / (s:Int))=(((m+s - 1) / s:Nat):Int):=by
  rw [<-Int.natCast_ediv];have:=Nat.div_le_self (m+s - 1) s;generalize (m+s - 1) / s=q at this ⊢;simp only [wrap64];omega
 clear hb h;go_enter Tryz.func68,Tryz.ntmps68
 go_wp2_with (go_at_call 101;refine (C.o _).mono ?_;rintro e1 w1 ⟨rfl,rfl⟩)
 go_ret;refine ⟨oA ?_,rfl⟩;rw [HV.o];exact w3
open Go.RowKit
def Pw (v:Value) (xs:List UInt8) (A:Option Addr) (cap bb off:Nat) (hn:xs.length<=100000) (w:World) (h:Bytes w v xs A cap bb off) :
 qC 118 #[v] w fun e w'=>∃v',e=.returned v'/\Fresh w.heap.size w' v' xs/\qW w w':=by
 have e0:=h.form;have q22:∀(w:World) (a:Option Addr) (n c n' c':Nat),(binOp .eql 79 (.slice a n c) (.slice none n' c')).run Tryz.prog w=.ok (.bool a.isNone) w:=fun w a n c n' c'=>Lib.run_eql_slice_nil w _ _ a n c n' c' Tryz.underlying79
 cases A with
 | none =>
  have hc:=h.zero rfl;have hl:=h.le;obtain rfl:xs=[]:=List.eq_nil_of_length_eq_zero (by omega);rw [e0,hc];clear e0 h hn;go_enter Tryz.func118,Tryz.ntmps118
  go_wp2;go_ret;exact ⟨_,rfl,World.ownsRow_nil _ _ _ _,Below.refl _ _⟩
 | some a =>
  rw [e0];have P5:qW w (w.alloc (.cells #[] 5)):=qB.alloc qN _;have h0:(w.alloc (.cells #[] 5)).ownsRow w.heap.size 5 1 (.slice (some ⟨w.heap.size,0,none⟩) 0 0) 0 []:=World.ownsRow_made w #[] 0 qN (by unfold maxLen;omega) rfl;have h1:=h.kept P5 qN;rw [e0] at h1;obtain ⟨v',w',hr,ho,hg,_,_⟩:=kR _ _ _ _ _ h0 h1 (by omega) (by simp);have oq:=hid hr;have HO:Hid (Fresh w.heap.size w' v' xs):=by
   rw [Nat.zero_add,List.nil_append] at ho;exact ho
  have HB:Hid (qW w w'):=P5.grown hg (by simp) (fun k hk=>by simp [Value.ownBlock] at hk;omega);clear hr ho hg P5 h0 h1 h hn e0;go_enter Tryz.func118,Tryz.ntmps118
  go_wp2_with (refine wpList_append_run rfl (.tmp 5) (.tmp 6) 79 79 rfl ⟨v',w',oq.o,?_⟩)
  go_ret;exact ⟨_,rfl,HO.o,HB.o⟩
def uU (s:ByteArray) (w:World):(convert 9 79 (.string s)).run Tryz.prog w=.ok (.slice (some ⟨w.heap.size,0,none⟩) s.size (grownCap w s.size 0 5)) (Lib.bytesWorld w 5 s) :=
 Lib.run_convert_string_bytes w 9 79 5 s Tryz.underlying9 Tryz.underlying79 Tryz.underlying5
def wW (s:ByteArray) (w:World):qW w (Lib.bytesWorld w 5 s) :=
 ⟨rfl,rfl,rfl,by rw [Lib.bytesWorld_size];omega,fun j hj=>Lib.bytesWorld_at_old w 5 s j hj⟩
def xX (s:ByteArray) (w:World):Bytes (Lib.bytesWorld w 5 s) (.slice (some ⟨w.heap.size,0,none⟩) s.size (grownCap w s.size 0 5)) (tl s) (some ⟨w.heap.size,0,none⟩) (grownCap w s.size 0 5) w.heap.size 0:=by
 refine ⟨by rw [aI],by rw [aI];exact grownCap_ge _ _ _ _,(fun h=>by cases h),fun a ha j hj=>?_,by rw [Lib.bytesWorld_size];omega,fun _=>rfl⟩
 cases ha
 rw [aI] at hj;rw [bY,Nat.zero_add,Lib.bytesWorld_cell w 5 s j hj];rfl
def Bytes.mid {w:World} {v:Value} {xs:List UInt8} {A:Option Addr} {cap bb off:Nat} (h:Bytes w v xs A cap bb off) (m k:Nat) (hm:m+k<=xs.length) (h0:0 < k) :
 (∀w:World,(Instr.slice 79 v (some (.int .i64 (m:Int))) (some (.int .i64 ((m+k:Nat):Int))) none).run Tryz.prog w=.ok (.slice (some ⟨bb,off+m,none⟩) k (cap - m)) w) /\
   Bytes w (.slice (some ⟨bb,off+m,none⟩) k (cap - m)) ((xs.drop m).take k) (some ⟨bb,off+m,none⟩) (cap - m) bb (off+m):=by
 have he:Tryz.prog.elem 79=5:=by kernel_rfl
 have hs:∀w,(sizeOf (Tryz.prog.elem 79)).run Tryz.prog w=.ok 1 w:=by intro w;rw [he];kernel_rfl
 have p5:=h.le;have V5:=h.src (by omega);have hl:((xs.drop m).take k).length=k:=by rw [List.length_take,List.length_drop];omega
 refine ⟨?_,?_⟩
 .
  intro w;rw [h.form,V5,run_slice_lh (P:=Tryz.prog) w 79 (some ⟨bb,off,none⟩) xs.length cap (by kernel_rfl) .i64 .i64 (m:Int) ((m+k:Nat):Int) (by omega) (by omega) (by omega),hs];simp only [Result.andThen,sliced,Int.toNat_natCast,Nat.mul_one];rw [if_neg (by omega),show m+k - m=k by omega];simp only [Option.map_some,bY]
 refine ⟨by rw [hl],by rw [hl];omega,(fun e=>by cases e),fun a ha j hj=>?_,h.blk,fun _=>rfl⟩
 cases ha
 rw [hl] at hj;rw [bY,Nat.add_assoc,h.cells (m+j) (by omega)];congr 2
 simp [at8,List.getD,List.getElem?_drop,hj]
def dY (xs:List UInt8) (k:Nat):List UInt8:=(xs.drop (k*szL xs.length)).take (szL xs.length)
def kY (xs:List UInt8) (i:Int):List UInt8:=if i < 0∨(cntI xs.length:Int)<=i then [] else dY xs i.toNat
def cnt_lt {n k:Nat} (h:k < gA n):k*szL n < n:=by
 unfold gA at h;have hp:=Hw n;have h1:(k+1)*szL n<=n+szL n - 1:=(Nat.le_div_iff_mul_le hp).1 h;rw [Nat.add_mul] at h1;omega
def tX (n:Nat) (h:n<=4096):gA n<=32:=by
 unfold gA;have h1:szL n=if n<=512 then 16 else if n<=1024 then 32 else if n<=2048 then 64 else 128:=rfl
 by_cases a:n<=512
 . rw [if_pos a] at h1;rw [h1];omega
 by_cases b:n<=1024
 . rw [if_neg a,if_pos b] at h1;rw [h1];omega
 by_cases c:n<=2048
 . rw [if_neg a,if_neg b,if_pos c] at h1;rw [h1];omega
 rw [if_neg a,if_neg b,if_neg c] at h1;rw [h1];omega
def Yc (v:Value) (xs:List UInt8) (A:Option Addr) (cap bb off:Nat) (i:Int) (w:World) (h:Bytes w v xs A cap bb off) :
 qC 70 #[v,.int .i64 i] w fun e w'=>∃v',e=.returned v'/\Fresh w.heap.size w' v' (kY xs i)/\qW w w':=by
 obtain ⟨n,HN⟩:=qX (xs.length);by_cases h1:i < 0
 .
  have HV:Hid (kY xs i=[]):=by show _=_;rw [kY,if_pos (.inl h1)]
  have e0:=h.form;rw [HN.o] at e0;rw [e0];clear h e0;go_enter Tryz.func70,Tryz.ntmps70
  go_wp2;go_ret;exact ⟨_,rfl,by rw [HV.o];exact oG _ _,Below.refl _ _⟩
 obtain ⟨k,rfl⟩:=Int.eq_ofNat_of_zero_le (a:=i) (by omega);have C1:=hid (zS (n:Int));obtain ⟨c,HC⟩:=qX (cntI (n:Int));rw [HC.o] at C1;by_cases h2:(c:Int)<=(k:Int)
 .
  have HV:Hid (kY xs (k:Int)=[]):=by show _=_;rw [kY,if_pos (.inr (by rw [HN.o,HC.o];exact h2))]
  have e0:=h.form;rw [HN.o] at e0;rw [e0];clear h e0;go_enter Tryz.func70,Tryz.ntmps70
  go_wp2_with (go_at_call 68;refine (C1.o _).mono ?_;rintro e1 w1 ⟨rfl,rfl⟩)
  go_ret;exact ⟨_,rfl,by rw [HV.o];exact oG _ _,Below.refl _ _⟩
 have hn:n<=4096:=by
  rcases Nat.lt_or_ge 4096 n with hx | hx
  . have:=HC.o;rw [Ik _ (.inr (by omega))] at this;omega
  exact hx
 have hc:gA n=c:=by rw [<-HC.o,pH n hn]
 have hk:=cnt_lt (n:=n) (k:=k) (by omega);have uj:=tX n hn;have hs:=fJ n;have C2:=hid (pG (n:Int));rw [lU n hn] at C2;obtain ⟨s,HS⟩:=qX (szL n);rw [HS.o] at C2 hk hs;obtain ⟨m,HM⟩:=qX (k*s);obtain ⟨q,HQ⟩:=qX ((k+1)*s);have hq:q=m+s:=by rw [<-HQ.o,<-HM.o,Nat.add_mul];omega
 rw [HM.o] at hk;obtain ⟨p,HP⟩:=qX (min s (n - m));have hp:=HP.o;have r6:IntKind.i64.wrap ((k:Int)*(s:Int))=(m:Int):=by rw [<-HM.o,Int.natCast_mul];refine aM _ ?_ ?_<;>rw [<-Int.natCast_mul,HM.o]<;>omega
 have x9:IntKind.i64.wrap ((k:Int)+1)=(k:Int)+1:=aM _ (by omega) (by omega);have rh:IntKind.i64.wrap (((k:Int)+1)*(s:Int))=(q:Int):=by
  have e:((k:Int)+1)*(s:Int)=(q:Int):=by rw [<-HQ.o,Int.natCast_mul];rfl
  rw [e];exact aM _ (by omega) (by omega)
 have V5:=h.src (by rw [HN.o];omega);subst V5;have RJ:¬cap=m:=by have:=h.le;rw [HN.o] at this;omega
 have hmn:(m:Int)<=(n:Int):=by omega
 have hncap:(n:Int)<=(cap:Int):=by have:=h.le;rw [HN.o] at this;omega
 have hmp:m+p=min q n:=by omega
 have rz:=(h.mid m p (by rw [HN.o];omega) (by omega)).2;have IL:Hid ((xs.drop m).take p=kY xs (k:Int)):=by
  show _=_
  rw [kY,if_neg (by rw [HN.o,HC.o];omega),dY,HN.o,HS.o,Int.toNat_natCast,HM.o,<-HP.o];have hl:(xs.drop m).length=n - m:=by rw [List.length_drop,HN.o]
  rw [Nat.min_comm,<-hl,<-List.take_take];exact List.take_of_length_le (by rw [List.length_take];omega)
 have HL:(kY xs (k:Int)).length<=100000:=by rw [<-IL.o,List.length_take];omega
 rw [IL.o] at rz;have e0:=h.form;rw [HN.o] at e0;rw [e0];have xe:=hid (Pw _ _ _ _ _ _ HL _ rz);have h3:¬(k:Int) < 0:=h1;have h4:¬(c:Int)<=(k:Int):=h2;rcases Nat.lt_or_ge n q with NT | NT
 .
  have sf:p=n - m:=by omega
  have h5:(n:Int) < (q:Int):=by omega
  have h6:¬(q:Int)<=(n:Int):=by omega
  have h8:min (q:Int) (n:Int)=(n:Int):=by omega
  rw [sf] at xe;clear IL HL h e0 rz hk hc uj hs hq hp hn hmp sf HP;go_enter Tryz.func70,Tryz.ntmps70
  go_wp2_with (first
   | (go_at_call 68;refine (C1.o _).mono ?_;rintro e1 w1 ⟨rfl,rfl⟩)
   | (go_at_call 101;refine (C2.o _).mono ?_;rintro e2 w2 ⟨rfl,rfl⟩)
   | (go_at_call 118;refine xe.o.mono ?_;rintro e3 w3 ⟨v3,rfl,rm,i7⟩))
  go_ret;exact ⟨_,rfl,rm,i7⟩
 have sf:p=q - m:=by omega
 have h5:(q:Int)<=(n:Int):=by omega
 have h6:(m:Int)<=(q:Int):=by omega
 have h7:(q:Int)<=(cap:Int):=by omega
 have h8:min (q:Int) (n:Int)=(q:Int):=by omega
 rw [sf] at xe;clear IL HL h e0 rz hk hc uj hs hq hp hn hmp sf HP;go_enter Tryz.func70,Tryz.ntmps70
 go_wp2_with (first
  | (go_at_call 68;refine (C1.o _).mono ?_;rintro e1 w1 ⟨rfl,rfl⟩)
  | (go_at_call 101;refine (C2.o _).mono ?_;rintro e2 w2 ⟨rfl,rfl⟩)
  | (go_at_call 118;refine xe.o.mono ?_;rintro e3 w3 ⟨v3,rfl,rm,i7⟩))
 go_ret;exact ⟨_,rfl,rm,i7⟩
end Go.Proofs.YtahkcemdbfjilaaGreatDoor
namespace Go.Proofs.YtahkcemdbfjilaaGreatDoor.Sha
open Go.RowKit
def hid {p:Prop} (h:p):Hid p:=h
def u (x:BitVec 32):Int:=(x.toNat:Int)
def cD (x:BitVec 32) (n:Nat):BitVec 32:=x.rotateRight n
def uK (x:BitVec 32) (n:Nat):BitVec 32:=x >>> n
def wrap32 (x:Int):IntKind.u32.wrap x=x % 4294967296:=by
 simp [IntKind.wrap,IntKind.signed,IntKind.bits]
def Jw (v:BitVec 32):((v.toNat:Int) % 4294967296)=v.toNat:=by have:=v.isLt;omega
def mS (x y:BitVec 32):bits .xor .u32 (u x) (u y)=u (x ^^^ y):=by
 unfold bits u;rw [wrap32];simp only [BitVec.ofInt_natCast,BitVec.ofNat_toNat,IntKind.bits,BitVec.setWidth_eq];exact Jw _
def Iw (x y:BitVec 32):bits .and .u32 (u x) (u y)=u (x &&& y):=by
 unfold bits u;rw [wrap32];simp only [BitVec.ofInt_natCast,BitVec.ofNat_toNat,IntKind.bits,BitVec.setWidth_eq];exact Jw _
def Ve (x y:BitVec 32):bits .or .u32 (u x) (u y)=u (x ||| y):=by
 unfold bits u;rw [wrap32];simp only [BitVec.ofInt_natCast,BitVec.ofNat_toNat,IntKind.bits,BitVec.setWidth_eq];exact Jw _
def eL (x y:BitVec 32):(u x+u y) % 4294967296=u (x+y):=by
 unfold u;rw [BitVec.toNat_add];omega
def yC (x:BitVec 32) (n:Nat):u x*2 ^ n % 4294967296=u (x <<< n):=by
 simp [u,BitVec.toNat_shiftLeft,Nat.shiftLeft_eq]
def uA (x:BitVec 32) (n:Nat):u x / 2 ^ n=u (uK x n):=by
 simp [u,uK,BitVec.toNat_ushiftRight,Nat.shiftRight_eq_div_pow]
def Yi (x:BitVec 32) (n:Nat) (h:n<=31):x <<< (32 - n) ||| uK x n=cD x n:=by
 unfold cD uK;rw [BitVec.rotateRight_def,Nat.mod_eq_of_lt (by omega),BitVec.or_comm]
def jy (x:BitVec 32):bits .xor .u32 4294967295 (u x)=u (~~~x):=by
 have h:(4294967295:Int)=u (BitVec.allOnes 32):=rfl;rw [h,mS,BitVec.allOnes_xor]
def ag (x:BitVec 32) (n:Nat) (h1:1<=n) (h2:n<=31) (w:World) :
 qC 247 #[.int .u32 (u x),.int .i64 (-(n:Int))] w fun e w'=>e=.returned (.int .u32 (u (cD x n)))/\w=w':=by
 have hb:bits BinOp.and IntKind.u64 (IntKind.u64.wrap (-(n:Int))) 31=((32 - n:Nat):Int):=by
  have:∀n:Fin 32,1<=n.val->bits BinOp.and IntKind.u64 (IntKind.u64.wrap (-(n.val:Int))) 31=((32 - n.val:Nat):Int):=by decide
  exact this ⟨n,by omega⟩ h1
 have hc:IntKind.u64.wrap (32 - ((32 - n:Nat):Int))=(n:Int):=by
  have:∀n:Fin 32,1<=n.val->IntKind.u64.wrap (32 - ((32 - n.val:Nat):Int))=(n.val:Int):=by decide
  exact this ⟨n,by omega⟩ h1
 go_enter Tryz.func247,Tryz.ntmps247
 go_wp2;go_ret;exact ⟨by rw [yC,uA,Ve,Yi _ _ h2];rfl,rfl⟩
def Ps (x:BitVec 32) (n:Nat) (h1:1<=n) (h2:n<=31) (w:World) :
 qC 208 #[.int .u32 (u x),.int .i64 (n:Int)] w fun e w'=>e=.returned (.int .u32 (u (cD x n)))/\w=w':=by
 go_enter Tryz.func208,Tryz.ntmps208
 go_wp2_with (go_at_call 247;refine (ag _ _ h1 h2 _).mono ?_;rintro e w' ⟨rfl,rfl⟩)
 go_ret;exact ⟨rfl,rfl⟩
def tR (x:BitVec 32) (c:Int) (h:1<=c/\c<=31) (w:World) :
 qC 208 #[.int .u32 (u x),.int .i64 c] w fun e w'=>e=.returned (.int .u32 (u (cD x c.toNat)))/\w=w':=by
 obtain ⟨n,rfl⟩:=Int.eq_ofNat_of_zero_le (a:=c) (by omega);exact Ps x n (by omega) (by omega) w
def Hq (x:BitVec 32) (c:Int) (h:1<=c/\c<=31) (w:World) :
 qC 208 #[.int .u32 (u x),.int .i64 c] w fun e w'=>e=.returned (.int .u32 (u (cD x c.toNat)))/\w'=w :=
 (tR x c h w).mono fun _ _ ⟨h1,h2⟩=>⟨h1,h2.symm⟩
def Has (w:World) (g:Nat) (t:TypeId) (cs:Array Value):Prop:=w.heap[g]? = some (.cells cs t (0,0))
section
variable {w w':World} {g:Nat} {t:TypeId} {cs:Array Value}
theorem Has.inside (h:Has w g t cs):g < w.heap.size:=by
 unfold Has at h;exact (Array.getElem?_eq_some_iff.1 h).1
theorem Has.at_ (h:Has w g t cs) (i:Nat):w.cell? ⟨g,i,none⟩=cs[i]?:=cell_of_row w g i cs t (0,0) h
theorem Has.free (h:Has w g t cs) (i:Nat):w.frozen? ⟨g,i,none⟩=false:=by
 unfold Has at h;simp [World.frozen?,h]
theorem Has.fresh (w:World) (t:TypeId) (cs:Array Value):Has (w.alloc (.cells cs t)) w.heap.size t cs:=heap_alloc_new w _
theorem Has.fresh' (w:World) (t:TypeId) (cs:Array Value) {g:Nat} (hg:g=w.heap.size):Has (w.alloc (.cells cs t)) g t cs:=by subst hg;exact Has.fresh w t cs
theorem Has.drawn (h:Has w g t cs) (n:Nat):Has (w.drewN n) g t cs:=h
theorem Has.more (h:Has w g t cs) (o:Obj):Has (w.alloc o) g t cs:=(Below.heap_alloc w o g h.inside).trans h
theorem Has.put (h:Has w g t cs) (i:Nat) (v:Value):Has (w.setCell ⟨g,i,none⟩ v) g t (cs.setIfInBounds i v):=by
 unfold Has at h ⊢;simp [World.setCell,Array.getElem?_modify,h]
theorem Has.other (h:Has w g t cs) {p:Addr} (hp:g≠p.block) (v:Value):Has (w.setCell p v) g t cs:=(Below.heap_setCell w p v g hp).trans h
theorem Has.kept {B:Nat} (h:Has w g t cs) (hb:Below B w w') (hg:g < B):Has w' g t cs:=(hb.block g hg).trans h
end
def at32 (l:List (BitVec 32)) (i:Nat):BitVec 32:=l.getD i 0
def vec (l:List (BitVec 32)):Array Value:=(l.map fun x=>Value.int .u32 (u x)).toArray
def fM (l:List (BitVec 32)):(vec l).size=l.length:=by simp [vec]
def eU (l:List (BitVec 32)) (i:Nat) (h:i < l.length):(vec l)[i]? = some (Value.int .u32 (u (at32 l i))):=by
 simp [vec,at32,List.getElem?_eq_getElem h,List.getD]
def yG (l:List (BitVec 32)) (i:Nat) (x:BitVec 32):(vec l).setIfInBounds i (.int .u32 (u x))=vec (l.set i x):=by
 simp [vec,List.map_set]
def tU (l:List (BitVec 32)):(vec l).all (·.oneCell')=true:=by simp [vec,Value.oneCell']
def b8 (x:UInt8):Int:=(x.toNat:Int)
def cJ (x:UInt8):0<=b8 x:=by unfold b8;omega
def gH (x:UInt8):b8 x < 256:=by have:=x.toNat_lt;unfold b8;omega
def at8 (l:List UInt8) (i:Nat):UInt8:=l.getD i 0
def bvec (l:List UInt8):Array Value:=(l.map fun x=>Value.int .u8 (b8 x)).toArray
def kK (l:List UInt8):(bvec l).size=l.length:=by simp [bvec]
def fL (l:List UInt8) (i:Nat) (h:i < l.length):(bvec l)[i]? = some (Value.int .u8 (b8 (at8 l i))):=by
 simp [bvec,at8,List.getElem?_eq_getElem h,List.getD]
def lO (l:List UInt8) (i:Nat) (x:UInt8):(bvec l).setIfInBounds i (.int .u8 (b8 x))=bvec (l.set i x):=by
 simp [bvec,List.map_set]
def pS (l:List UInt8):(bvec l).all (·.oneCell')=true:=by simp [bvec,Value.oneCell']
def ip:(Tryz.prog.info? 54).map (·.size)=some 16:=by kernel_rfl
def Qh:(Tryz.prog.info? 232).map (·.size)=some 8:=by kernel_rfl
def ki:(Tryz.prog.info? 234).map (·.size)=some 64:=by kernel_rfl
def er:(Tryz.prog.info? 81).map (·.size)=some 32:=by kernel_rfl
def lu:(Tryz.prog.info? 236).map (·.size)=some 74:=by kernel_rfl
def Has.row {w:World} {g:Nat} {t:TypeId} {cs cs':Array Value} (h:Has w g t cs):Has (w.setRow g cs') g t cs':=setRow_heap w g cs cs' t (0,0) h
def Has.rowOther {w:World} {g g':Nat} {t:TypeId} {cs cs':Array Value} (h:Has w g t cs) (hg:g≠g'):Has (w.setRow g' cs') g t cs:=(setRow_other w g' g cs' hg).trans h
def wd (x:UInt8):BitVec 32:=BitVec.ofNat 32 x.toNat
def oX (x:BitVec 32) (n:Nat):BitVec 32:=x <<< n
def gu (x:UInt8):b8 x=u (wd x):=by
 have:=x.toNat_lt;simp only [b8,u,wd,BitVec.toNat_ofNat];omega
def aM (x:Int) (h0:0<=x) (h:x < 9223372036854775808):IntKind.i64.wrap x=x:=by
 simp [IntKind.wrap,IntKind.signed,IntKind.bits];omega
def jq {x y:BitVec 32} (h:x=y):Ending.returned (.int .u32 (u x))=.returned (.int .u32 (u y)):=by rw [h]
open Go.RowKit
def yQ (x:BitVec 32):BitVec 32:=cD x 7 ^^^ cD x 18 ^^^ uK x 3
def yX (x:BitVec 32):BitVec 32:=cD x 17 ^^^ cD x 19 ^^^ uK x 10
def qR (l:List (BitVec 32)) (t:Nat):BitVec 32 :=
 at32 l (t % 16)+yQ (at32 l ((t+1) % 16))+at32 l ((t+9) % 16)+yX (at32 l ((t+14) % 16))
def Xt (t:Nat):∃j:Nat,(t:Int) % 16=(j:Int)/\j < 16/\Hid (t % 16=j):=⟨t % 16,by omega,by omega,rfl⟩
def Jj (t k:Nat):∃j:Nat,((t:Int)+(k:Int)) % 16=(j:Int)/\j < 16/\Hid ((t+k) % 16=j):=⟨(t+k) % 16,by omega,by omega,rfl⟩
def Yb (l:List (BitVec 32)) (hl:l.length=16) (t:Nat) (ht:t < 64) (w:World) :
 qC 207 #[.agg (vec l),.int .i64 (t:Int)] w fun e w'=>e=.returned (.int .u32 (u (qR l t)))/\qW w w':=by
 have w1:IntKind.i64.wrap ((t:Int)+1)=(t:Int)+1:=aM _ (by omega) (by omega);have RK:IntKind.i64.wrap ((t:Int)+14)=(t:Int)+14:=aM _ (by omega) (by omega);have w9:IntKind.i64.wrap ((t:Int)+9)=(t:Int)+9:=aM _ (by omega) (by omega);obtain ⟨j0,m0,b0,H0⟩:=Xt t;obtain ⟨j1,m1,b1,H1⟩:∃j:Nat,((t:Int)+1) % 16=(j:Int)/\j < 16/\Hid ((t+1) % 16=j):=Jj t 1;obtain ⟨j9,m9,b9,H9⟩:∃j:Nat,((t:Int)+9) % 16=(j:Int)/\j < 16/\Hid ((t+9) % 16=j):=Jj t 9;obtain ⟨j14,m14,b14,H14⟩:∃j:Nat,((t:Int)+14) % 16=(j:Int)/\j < 16/\Hid ((t+14) % 16=j):=Jj t 14;have c0:=eU l j0 (by omega);have c1:=eU l j1 (by omega);have c9:=eU l j9 (by omega);have c14:=eU l j14 (by omega);have hs:=fM l;have HL:=hid hl;clear hl;have X:=mS;have A32:=eL;have R3:∀x,u x / 8=u (uK x 3):=fun x=>uA x 3
 have R10:∀x,u x / 1024=u (uK x 10):=fun x=>uA x 10
 have HN:Hid (qR l t=at32 l j0+yQ (at32 l j1)+at32 l j9+yX (at32 l j14)):=by
  unfold qR;rw [H0.o,H1.o,H9.o,H14.o];rfl
 go_enter Tryz.func207,Tryz.ntmps207
 go_wp2;go_quiet (fail)
 go_wp2_with (go_at_call 208;refine (tR _ _ (by decide) _).mono ?_;rintro e w' ⟨rfl,rfl⟩)
 go_quiet (fail)
 go_wp2;go_ret;refine ⟨jq HN.o.symm,?_⟩;exact ((qB.alloc qN _).drewN' _).drewN' _
open Go.RowKit
def Qw (l:List UInt8) (k:Nat):BitVec 32 :=
 oX (wd (at8 l (4*k))) 24 ||| oX (wd (at8 l (4*k+1))) 16 ||| oX (wd (at8 l (4*k+2))) 8 ||| wd (at8 l (4*k+3))
def kr (x:UInt8):b8 x % 4294967296=u (wd x):=by
 rw [<-gu];have:=cJ x;have:=gH x;omega
def je (x:BitVec 32):u x*16777216 % 4294967296=u (oX x 24):=yC x 24
def js (x:BitVec 32):u x*65536 % 4294967296=u (oX x 16):=yC x 16
def lj (x:BitVec 32):u x*256 % 4294967296=u (oX x 8):=yC x 8
def words (l:List UInt8) (k:Nat):List (BitVec 32):=(List.range 16).map fun i=>if i < k then Qw l i else 0
def iQ (l:List UInt8) (k:Nat):(words l k).length=16:=by simp [words]
def Pn (l:List UInt8) (k:Nat):(words l k).set k (Qw l k)=words l (k+1):=by
 apply List.ext_getElem
 . simp [words]
 intro i h1 h2;simp only [words,List.getElem_set,List.getElem_map,List.getElem_range];by_cases h:k=i
 . subst h;simp
 rw [if_neg h];by_cases h3:i < k
 . rw [if_pos h3,if_pos (by omega)]
 rw [if_neg h3,if_neg (by omega)]
def Gt (l:List UInt8) (hl:l.length=64) (w:World) :
 qC 206 #[.agg (bvec l)] w fun e w'=>e=.returned (.agg (vec (words l 16)))/\qW w w':=by
 go_enter Tryz.func206,Tryz.ntmps206
 go_wp2;go_loopw [6] (fun i wr=>∃k:Nat,k<=16/\i=.int .i64 (k:Int)/\Has wr w.heap.size 234 (bvec l)/\Has wr (w.heap.size+1) 54 (vec (List.replicate 16 0))/\Has wr (w.heap.size+1+1) 54 (vec (words l k))/\qW w wr)
  (fun i _=>16 - (intOf i).toNat)
 case atStart =>
  refine ⟨0,by omega,rfl,?_,?_,?_,?_⟩
  . exact ((Has.fresh _ _ _).more _).more _
  . exact (Has.fresh' _ 54 (vec (List.replicate 16 0)) (by simp)).more _
  . exact Has.fresh' _ 54 (vec (words l 0)) (by simp)
  exact ((qB.alloc (by simp) _).alloc (by simp) _).alloc (by simp;omega) _
 obtain ⟨k,hk,rfl,h1,h2,h3,hb⟩:=hrel;by_cases d8:k < 16
 .
  obtain ⟨q0,e0,E0⟩:∃q:Nat,4*(k:Int)=(q:Int)/\Hid (4*k=q):=⟨4*k,by omega,rfl⟩;obtain ⟨q1,e1,E1⟩:∃q:Nat,(q0:Int)+1=(q:Int)/\Hid (q0+1=q):=⟨q0+1,by omega,rfl⟩;obtain ⟨q2,e2,E2⟩:∃q:Nat,(q0:Int)+2=(q:Int)/\Hid (q0+2=q):=⟨q0+2,by omega,rfl⟩;obtain ⟨q3,e3,E3⟩:∃q:Nat,(q0:Int)+3=(q:Int)/\Hid (q0+3=q):=⟨q0+3,by omega,rfl⟩;have HB:=hid hb;have H1:=hid h1;have H2:=hid h2;have H3:=hid h3;have d0:=(h1.at_ q0).trans (fL l q0 (by omega));have d1:=(h1.at_ q1).trans (fL l q1 (by omega));have d2:=(h1.at_ q2).trans (fL l q2 (by omega));have d3:=(h1.at_ q3).trans (fL l q3 (by omega));have f3:=h3.free k;have c3:=(h3.at_ k).trans (eU _ k (by rw [iQ];omega));have g0:(q0:Int) < 64:=by omega
  have g1:(q1:Int) < 64:=by omega
  have g2:(q2:Int) < 64:=by omega
  have g3:(q3:Int) < 64:=by omega
  have n0:(0:Int)<=(q0:Int):=by omega
  clear hb h1 h2 h3;go_wp2;go_region
  go_wp2;go_roundw
  case rel =>
   have e:∀z:Int,z=u (Qw l k)->Has (wr.setCell ⟨w.heap.size+1+1,k,none⟩ (.int .u32 z)) (w.heap.size+1+1) 54 (vec (words l (k+1))):=by
    intro z hz;rw [hz,<-Pn,<-yG];exact H3.o.put k _
   refine ⟨k+1,by omega,by go_num,H1.o.other (p:=⟨w.heap.size+1+1,k,none⟩) (by show w.heap.size≠w.heap.size+1+1;omega) _,H2.o.other (p:=⟨w.heap.size+1+1,k,none⟩) (by simp) _,e _ ?_,?_⟩
   . simp only [kr,je,js,lj,Ve,Qw,<-E1.o,<-E2.o,<-E3.o,<-E0.o]
   exact (HB.o.setCell (p:=⟨w.heap.size+1+1,k,none⟩) (by simp;omega) _).drew
  case measure=>simp [intOf];omega
 obtain rfl:k=16:=by omega
 have HB:=hid hb;have H3:=hid h3;have H2:=hid h2;have S1:Hid ((Tryz.prog.info? 54).map (·.size)=some (vec (words l 16)).size):=by rw [fM,iQ];exact ip
 have S2:Hid ((vec (List.replicate 16 0)).size=(vec (words l 16)).size):=by rw [fM,fM,iQ];rfl
 clear hb h1 h2 h3;go_wp2_with (first
  | (refine wpList_load_row rfl 54 _ rfl (w.heap.size+1+1) rfl 54 _ (0,0) _ H3.o Tryz.underlying54 rfl S1.o ?_)
  | (refine wpList_store_row rfl 54 _ _ rfl (w.heap.size+1) _ rfl rfl 54 _ H2.o S1.o S2.o (tU _) ?_))
 refine bodyPost_ret (results_cell_row rfl _ _ (w.heap.size+1) 54 (vec (words l 16)) (0,0) _ rfl H2.o.row Tryz.underlying54 rfl S1.o) rfl ⟨rfl,?_⟩;exact HB.o.rowK (by omega) _
open Go.RowKit
def dK:List (BitVec 32):=[0x428a2f98,0x71374491,0xb5c0fbcf,0xe9b5dba5,0x3956c25b,0x59f111f1,0x923f82a4,0xab1c5ed5,
 0xd807aa98,0x12835b01,0x243185be,0x550c7dc3,0x72be5d74,0x80deb1fe,0x9bdc06a7,0xc19bf174,
 0xe49b69c1,0xefbe4786,0x0fc19dc6,0x240ca1cc,0x2de92c6f,0x4a7484aa,0x5cb0a9dc,0x76f988da,
 0x983e5152,0xa831c66d,0xb00327c8,0xbf597fc7,0xc6e00bf3,0xd5a79147,0x06ca6351,0x14292967,
 0x27b70a85,0x2e1b2138,0x4d2c6dfc,0x53380d13,0x650a7354,0x766a0abb,0x81c2c92e,0x92722c85,
 0xa2bfe8a1,0xa81a664b,0xc24b8b70,0xc76c51a3,0xd192e819,0xd6990624,0xf40e3585,0x106aa070,
 0x19a4c116,0x1e376c08,0x2748774c,0x34b0bcb5,0x391c0cb3,0x4ed8aa4a,0x5b9cca4f,0x682e6ff3,
 0x748f82ee,0x78a5636f,0x84c87814,0x8cc70208,0x90befffa,0xa4506ceb,0xbef9a3f7,0xc67178f2]
def Tab (w:World):Prop:=∀i,i < 64->w.cell? ⟨0,i,none⟩=some (.int .u32 (u (at32 dK i)))
def Tab.pos {w:World} (h:Tab w):0 < w.heap.size:=block_lt_of_cell (h 0 (by omega))
def Tab.kept {w w':World} {B:Nat} (h:Tab w) (hb:Below B w w') (hB:0 < B):Tab w':=fun i hi=>(hb.cell (p:=⟨0,i,none⟩) hB).trans (h i hi)
structure S8 where
 a:BitVec 32
 b:BitVec 32
 c:BitVec 32
 d:BitVec 32
 e:BitVec 32
 f:BitVec 32
 g:BitVec 32
 h:BitVec 32
def sx (s:S8) (kk ww:BitVec 32):BitVec 32:=s.h+(cD s.e 6 ^^^ cD s.e 11 ^^^ cD s.e 25)+((s.e &&& s.f) ^^^ (~~~s.e &&& s.g))+kk+ww
def sy (s:S8):BitVec 32:=(cD s.a 2 ^^^ cD s.a 13 ^^^ cD s.a 22)+((s.a &&& s.b) ^^^ (s.a &&& s.c) ^^^ (s.b &&& s.c))
def xG (s:S8) (kk ww:BitVec 32):S8:=⟨sx s kk ww+sy s,s.a,s.b,s.c,s.d+sx s kk ww,s.e,s.f,s.g⟩
def sched (l:List (BitVec 32)):Nat->List (BitVec 32)
 | 0=>l
 | k+1=>if 16<=k then (sched l k).set (k % 16) (qR (sched l k) k) else sched l k
def aV (l:List (BitVec 32)) (s:S8):Nat->S8
 | 0=>s
 | k+1=>xG (aV l s k) (at32 dK k) (at32 (sched l (k+1)) (k % 16))
def zD (l:List (BitVec 32)) (k:Nat) (h:k < 16):sched l (k+1)=sched l k:=by rw [sched,if_neg (by omega)]
def wI (l:List (BitVec 32)) (k:Nat) (h:16<=k):sched l (k+1)=(sched l k).set (k % 16) (qR (sched l k) k):=by rw [sched,if_pos h]
def oC (l:List (BitVec 32)) (hl:l.length=16) (k:Nat):(sched l k).length=16:=by
 induction k with
 | zero=>exact hl
 | succ k ih=>unfold sched;split<;>simp [ih]
def gn (a b c:BitVec 32):(u a+u b+u c) % 4294967296=u (a+b+c):=by rw [<-Int.emod_add_emod,eL,eL]
def lm (a b c d e:BitVec 32):(u a+u b+u c+u d+u e) % 4294967296=u (a+b+c+d+e):=by
 rw [<-Int.emod_add_emod,<-Int.emod_add_emod (u a+u b+u c),gn,eL,eL]
def gj:(if IntKind.u32.signed=true then (-1:Int) else IntKind.u32.max)=4294967295:=by decide
def wH (s:S8) (kk ww:BitVec 32) :
 (u s.h+bits BinOp.xor IntKind.u32 (bits BinOp.xor IntKind.u32 (u (cD s.e 6)) (u (cD s.e 11))) (u (cD s.e 25)) +
   bits BinOp.xor IntKind.u32 (bits BinOp.and IntKind.u32 (u s.e) (u s.f)) (bits BinOp.and IntKind.u32 (bits BinOp.xor IntKind.u32 (if IntKind.u32.signed=true then -1 else IntKind.u32.max) (u s.e)) (u s.g)) +
   u kk+u ww) % 4294967296=u (sx s kk ww):=by
 rw [gj];simp only [mS,Iw,jy,lm];rfl
def Ek (s:S8) :
 (bits BinOp.xor IntKind.u32 (bits BinOp.xor IntKind.u32 (u (cD s.a 2)) (u (cD s.a 13))) (u (cD s.a 22)) +
   bits BinOp.xor IntKind.u32 (bits BinOp.xor IntKind.u32 (bits BinOp.and IntKind.u32 (u s.a) (u s.b)) (bits BinOp.and IntKind.u32 (u s.a) (u s.c))) (bits BinOp.and IntKind.u32 (u s.b) (u s.c))) % 4294967296=u (sy s):=by
 simp only [mS,Iw,eL];rfl
def Bt {x y:Int} (h:x=y):Value.int .u32 x=Value.int .u32 y:=by rw [h]
def An (l:List (BitVec 32)) (s:S8) (k j:Nat) (W:List (BitVec 32)) (hj:Hid (k % 16=j)) (hW:Hid (sched l (k+1)=W)) :
 aV l s (k+1)=xG (aV l s k) (at32 dK k) (at32 W j):=by rw [aV,hW.o,hj.o]
def vL (l:List (BitVec 32)) (R:S8):List (BitVec 32) :=
 [at32 l 0+R.a,at32 l 1+R.b,at32 l 2+R.c,at32 l 3+R.d,at32 l 4+R.e,at32 l 5+R.f,at32 l 6+R.g,at32 l 7+R.h]
def jN (l:List (BitVec 32)) (p:List UInt8):List (BitVec 32) :=
 vL l (aV (words p 16) ⟨at32 l 0,at32 l 1,at32 l 2,at32 l 3,at32 l 4,at32 l 5,at32 l 6,at32 l 7⟩ 64)
def Vr (a b c d e f g h:BitVec 32) (p:List UInt8) (hp:p.length=64) (w:World) (hT:Tab w) :
 qC 170 #[.agg (vec [a,b,c,d,e,f,g,h]),.agg (bvec p)] w fun e' w'=>e'=.returned (.agg (vec (jN [a,b,c,d,e,f,g,h] p)))/\qW w w':=by
 have Z2:Hid ((Tryz.prog.info? 234).map (·.size)=some (bvec p).size):=by rw [kK,hp];exact ki
 have Z3:Hid ((Tryz.prog.info? 54).map (·.size)=some (vec (words p 16)).size):=by rw [fM,iQ];exact ip
 have Z4:Hid (16=(vec (words p 16)).size):=by rw [fM,iQ];rfl
 have V3:=hT.pos;have HT:=hid hT;clear hT;go_enter Tryz.func170,Tryz.ntmps170
 go_wp2_with (first
  | (refine wpList_load_row rfl 234 _ rfl (w.heap.size+1) rfl 234 _ (0,0) _ (Has.more (Has.fresh' _ 234 (bvec p) (by simp)) _) Tryz.underlying234 rfl Z2.o ?_)
  | (go_at_call 206;refine (Gt p hp _).mono ?_;rintro e1 w1 ⟨rfl,c8⟩)
  | (refine wpList_store_row rfl 54 _ _ rfl w1.heap.size _ rfl rfl 54 _ (Has.fresh w1 54 _) Z3.o Z4.o (tU _) ?_
     generalize hG:World.setRow _ _ _=W2))
 have P5:qW w w1 :=
  (((qB.alloc qN _).alloc (by simp) _).alloc (by simp;omega) _).trans (c8.mono (by simp;omega))
 have ru:w.heap.size+3<=w1.heap.size:=by have:=c8.size;simp at this;omega
 have K2:Hid (Has W2 w.heap.size 232 (vec [a,b,c,d,e,f,g,h])):=by
  rw [<-hG];exact ((((((Has.fresh w 232 (vec [a,b,c,d,e,f,g,h])).more _).more _).kept c8 (by simp;omega))).more _).rowOther (by omega)
 have K4:Hid (∃z,Has W2 (w.heap.size+1+1) 232 (vec z)/\z.length=8):=by
  rw [<-hG];exact ⟨List.replicate 8 0,(((Has.fresh' _ 232 (vec (List.replicate 8 0)) (by simp)).kept c8 (by simp)).more _).rowOther (by omega),rfl⟩
 have K5:Hid (Has W2 w1.heap.size 54 (vec (words p 16))):=by
  rw [<-hG];exact (Has.fresh w1 54 _).row
 have KB:Hid (qW w W2):=by
  rw [<-hG];exact ((P5.alloc P5.size _).rowK (by omega) _)
 clear hG c8 P5;have x9:=K2.o.at_;have LN:W2.cell? ⟨w.heap.size,0,none⟩=some (.int .u32 (u a)):=x9 0;have r6:W2.cell? ⟨w.heap.size,1,none⟩=some (.int .u32 (u b)):=x9 1;have rh:W2.cell? ⟨w.heap.size,2,none⟩=some (.int .u32 (u c)):=x9 2;have N7:W2.cell? ⟨w.heap.size,3,none⟩=some (.int .u32 (u d)):=x9 3;have si:W2.cell? ⟨w.heap.size,4,none⟩=some (.int .u32 (u e)):=x9 4;have uk:W2.cell? ⟨w.heap.size,5,none⟩=some (.int .u32 (u f)):=x9 5;have yj:W2.cell? ⟨w.heap.size,6,none⟩=some (.int .u32 (u g)):=x9 6;have ul:W2.cell? ⟨w.heap.size,7,none⟩=some (.int .u32 (u h)):=x9 7;clear x9;go_quiet (fail)
 go_wp2;go_quiet (fail)
 go_wp2;clear LN r6 rh N7 si uk yj ul;generalize uf:words p 16=l0 at K5 Z3 Z4;have HL0:Hid (words p 16=l0):=uf;have J7:Hid (l0.length=16):=by rw [<-uf];exact iQ _ _
 clear uf;obtain ⟨s0,yl⟩:∃s0:S8,Hid (s0=⟨a,b,c,d,e,f,g,h⟩):=⟨_,rfl⟩;obtain ⟨N,HN⟩:∃N,Hid (N=w1.heap.size):=⟨_,rfl⟩;have K5':Hid (Has W2 N 54 (vec l0)):=by rw [HN.o];exact K5
 have hsN:w.heap.size+3<=N:=by rw [HN.o];exact ru
 rw [<-HN.o];clear K5 ru;go_loopw [6,7,8,9,10,11,12,13,35] (fun v6 v7 v8 v9 DO IM xf NU i wr=>∃k:Nat,k<=64/\i=.int .i64 (k:Int) /\
  v6=.int .u32 (u (aV l0 s0 k).a)/\v7=.int .u32 (u (aV l0 s0 k).b)/\v8=.int .u32 (u (aV l0 s0 k).c)/\v9=.int .u32 (u (aV l0 s0 k).d) /\
  DO=.int .u32 (u (aV l0 s0 k).e)/\IM=.int .u32 (u (aV l0 s0 k).f)/\xf=.int .u32 (u (aV l0 s0 k).g)/\NU=.int .u32 (u (aV l0 s0 k).h) /\
  Hid (Has wr w.heap.size 232 (vec [a,b,c,d,e,f,g,h]))/\Hid (∃z,Has wr (w.heap.size+1+1) 232 (vec z)/\z.length=8)/\Hid (Has wr N 54 (vec (sched l0 k)))/\Hid (qW w wr))
  (fun _ _ _ _ _ _ _ _ i _=>64 - (intOf i).toNat)
 case atStart =>
  rw [yl.o];exact ⟨0,by omega,rfl,rfl,rfl,rfl,rfl,rfl,rfl,rfl,rfl,hid K2.o,K4,hid K5'.o,hid ((KB.o.drewN' _).drewN' _)⟩
 obtain ⟨k,hk,rfl,rfl,rfl,rfl,rfl,rfl,rfl,rfl,rfl,J2,J4,J5,JB⟩:=hrel;by_cases d8:k < 64
 .
  by_cases h16:16<=k
  .
   obtain ⟨j0,m0,b0,H0⟩:=Xt k;have RL:Hid (sched l0 (k+1)=(sched l0 k).set j0 (qR (sched l0 k) k)):=by rw [wI _ _ h16,H0.o];rfl
   have SL:Hid ((sched l0 k).length=16):=oC l0 J7.o k;have S1:Hid ((Tryz.prog.info? 54).map (·.size)=some (vec (sched l0 k)).size):=by rw [fM,SL.o];exact ip
   go_wp2_with (first
    | (refine wpList_load_row rfl 54 _ rfl N rfl 54 _ (0,0) _ J5.o Tryz.underlying54 rfl S1.o ?_)
    | (go_at_call 207;refine (Yb (sched l0 k) SL.o k d8 _).mono ?_;rintro e2 w2 ⟨rfl,a9⟩
       have Q5:Hid (Has w2 N 54 (vec (sched l0 k))):=J5.o.kept a9 J5.o.inside;have fj:=Q5.o.free j0;have cj:=(Q5.o.at_ j0).trans (eU _ j0 (by rw [SL.o];exact b0))))
   generalize hG:World.setCell w2 _ _=W3;have R5:Hid (Has W3 N 54 (vec (sched l0 (k+1)))):=by
    rw [<-hG,RL.o,<-yG];exact Q5.o.put j0 _
   have R2:Hid (Has W3 w.heap.size 232 (vec [a,b,c,d,e,f,g,h])):=by
    rw [<-hG];exact (J2.o.kept a9 J2.o.inside).other (p:=⟨N,j0,none⟩) (by show w.heap.size≠N;omega) _
   have R4:Hid (∃z,Has W3 (w.heap.size+1+1) 232 (vec z)/\z.length=8):=by
    obtain ⟨z,Ja,Jb⟩:=J4.o;rw [<-hG];exact ⟨z,(Ja.kept a9 Ja.inside).other (p:=⟨N,j0,none⟩) (by show w.heap.size+1+1≠N;omega) _,Jb⟩
   have RB:Hid (qW w W3):=by
    rw [<-hG];exact (JB.o.trans (a9.mono JB.o.size)).setCell (p:=⟨N,j0,none⟩) (by show w.heap.size<=N;omega) _
   clear hG a9 fj cj;have ct:W3.cell? ⟨0,k,none⟩=some (.int .u32 (u (at32 dK k))):=(HT.o.kept RB.o V3) k d8;have cw:W3.cell? ⟨N,j0,none⟩=some (.int .u32 (u (at32 (sched l0 (k+1)) j0))) :=
    (R5.o.at_ j0).trans (eU _ j0 (by rw [oC l0 J7.o];exact b0))
   go_quiet ((go_at_call 208;exact Calls.quiet_of_same (Hq _ _ (by decide) _)))
   go_wp2_with (go_at_call 208;refine (tR _ _ (by decide) _).mono ?_;rintro e w' ⟨rfl,rfl⟩)
   go_roundw
   case rel =>
    have hn:=An l0 s0 k j0 _ H0 (hid rfl);refine ⟨k+1,by omega,by go_num,?_,?_,?_,?_,?_,?_,?_,?_,hid (R2.o.drawn _),R4,hid (R5.o.drawn _),hid (RB.o.drewN' _)⟩
    . rw [hn];exact Bt (by rw [wH,Ek,eL];rfl)
    . rw [hn];rfl
    . rw [hn];rfl
    . rw [hn];rfl
    . rw [hn];exact Bt (by rw [wH,eL];rfl)
    . rw [hn];rfl
    . rw [hn];rfl
    rw [hn];rfl
   case measure=>simp [intOf];omega
  obtain ⟨j0,m0,b0,H0⟩:=Xt k;have RL:Hid (sched l0 (k+1)=sched l0 k):=zD _ _ (by omega);have ct:wr.cell? ⟨0,k,none⟩=some (.int .u32 (u (at32 dK k))):=(HT.o.kept JB.o V3) k d8;have cw:wr.cell? ⟨N,j0,none⟩=some (.int .u32 (u (at32 (sched l0 k) j0))) :=
   (J5.o.at_ j0).trans (eU _ j0 (by rw [oC l0 J7.o];exact b0))
  go_wp2;go_quiet ((go_at_call 208;exact Calls.quiet_of_same (Hq _ _ (by decide) _)))
  go_wp2_with (go_at_call 208;refine (tR _ _ (by decide) _).mono ?_;rintro e w' ⟨rfl,rfl⟩)
  go_roundw
  case rel =>
   have hn:=An l0 s0 k j0 _ H0 RL;refine ⟨k+1,by omega,by go_num,?_,?_,?_,?_,?_,?_,?_,?_,hid (J2.o.drawn _),J4,?_,hid (JB.o.drewN' _)⟩
   . rw [hn];exact Bt (by rw [wH,Ek,eL];rfl)
   . rw [hn];rfl
   . rw [hn];rfl
   . rw [hn];rfl
   . rw [hn];exact Bt (by rw [wH,eL];rfl)
   . rw [hn];rfl
   . rw [hn];rfl
   . rw [hn];rfl
   rw [RL.o];exact hid (J5.o.drawn _)
  case measure=>simp [intOf];omega
 obtain rfl:k=64:=by omega
 obtain ⟨z,J4a,J4b⟩:=J4.o;clear J4;have Y1:Hid ((Tryz.prog.info? 232).map (·.size)=some 8):=Qh;have x9:=J2.o.at_;have LN:wr.cell? ⟨w.heap.size,0,none⟩=some (.int .u32 (u a)):=x9 0;have r6:wr.cell? ⟨w.heap.size,1,none⟩=some (.int .u32 (u b)):=x9 1;have rh:wr.cell? ⟨w.heap.size,2,none⟩=some (.int .u32 (u c)):=x9 2;have N7:wr.cell? ⟨w.heap.size,3,none⟩=some (.int .u32 (u d)):=x9 3;have si:wr.cell? ⟨w.heap.size,4,none⟩=some (.int .u32 (u e)):=x9 4;have uk:wr.cell? ⟨w.heap.size,5,none⟩=some (.int .u32 (u f)):=x9 5;have yj:wr.cell? ⟨w.heap.size,6,none⟩=some (.int .u32 (u g)):=x9 6;have ul:wr.cell? ⟨w.heap.size,7,none⟩=some (.int .u32 (u h)):=x9 7;clear x9;have Y2:Hid (Has wr (w.heap.size+1+1) 232 (vec z)):=J4a;have Y3:Hid (z.length=8):=J4b;have Y4:Hid ((vec z).size=8):=by rw [fM,J4b];rfl
 clear J4a J4b;have Y5:Hid (vec (vL [a,b,c,d,e,f,g,h] (aV l0 s0 64))=#[.int .u32 ((u a+u (aV l0 s0 64).a) % 4294967296),.int .u32 ((u b+u (aV l0 s0 64).b) % 4294967296),.int .u32 ((u c+u (aV l0 s0 64).c) % 4294967296),.int .u32 ((u d+u (aV l0 s0 64).d) % 4294967296),.int .u32 ((u e+u (aV l0 s0 64).e) % 4294967296),.int .u32 ((u f+u (aV l0 s0 64).f) % 4294967296),.int .u32 ((u g+u (aV l0 s0 64).g) % 4294967296),.int .u32 ((u h+u (aV l0 s0 64).h) % 4294967296)]):=by
  simp only [vec,vL,List.map_cons,List.map_nil,eL];rfl
 have Y6:Hid (Array.all (α:=Value) #[.int .u32 ((u a+u (aV l0 s0 64).a) % 4294967296),.int .u32 ((u b+u (aV l0 s0 64).b) % 4294967296),.int .u32 ((u c+u (aV l0 s0 64).c) % 4294967296),.int .u32 ((u d+u (aV l0 s0 64).d) % 4294967296),.int .u32 ((u e+u (aV l0 s0 64).e) % 4294967296),.int .u32 ((u f+u (aV l0 s0 64).f) % 4294967296),.int .u32 ((u g+u (aV l0 s0 64).g) % 4294967296),.int .u32 ((u h+u (aV l0 s0 64).h) % 4294967296)] (·.oneCell')=true):=by rw [<-Y5.o];exact tU _
 go_wp2_with (refine wpList_store_row rfl 232 (.tmp 4) (.tmp 139) rfl (w.heap.size+1+1) #[.int .u32 ((u a+u (aV l0 s0 64).a) % 4294967296),.int .u32 ((u b+u (aV l0 s0 64).b) % 4294967296),.int .u32 ((u c+u (aV l0 s0 64).c) % 4294967296),.int .u32 ((u d+u (aV l0 s0 64).d) % 4294967296),.int .u32 ((u e+u (aV l0 s0 64).e) % 4294967296),.int .u32 ((u f+u (aV l0 s0 64).f) % 4294967296),.int .u32 ((u g+u (aV l0 s0 64).g) % 4294967296),.int .u32 ((u h+u (aV l0 s0 64).h) % 4294967296)] rfl rfl 232 (vec z) Y2.o Y1.o Y4.o Y6.o ?_)
 refine bodyPost_ret (results_cell_row rfl _ _ (w.heap.size+1+1) 232 #[.int .u32 ((u a+u (aV l0 s0 64).a) % 4294967296),.int .u32 ((u b+u (aV l0 s0 64).b) % 4294967296),.int .u32 ((u c+u (aV l0 s0 64).c) % 4294967296),.int .u32 ((u d+u (aV l0 s0 64).d) % 4294967296),.int .u32 ((u e+u (aV l0 s0 64).e) % 4294967296),.int .u32 ((u f+u (aV l0 s0 64).f) % 4294967296),.int .u32 ((u g+u (aV l0 s0 64).g) % 4294967296),.int .u32 ((u h+u (aV l0 s0 64).h) % 4294967296)] (0,0) _ rfl Y2.o.row Tryz.underlying232 rfl Y1.o) rfl ⟨?_,JB.o.rowK (by omega) _⟩;rw [<-Y5.o,jN,HL0.o];rw [yl.o];rfl
end Go.Proofs.YtahkcemdbfjilaaGreatDoor.Sha
