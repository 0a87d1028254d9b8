/- Texts. Conditions: as said. -/
import Derived.Test.YtahkcemdbfjilaaGreatDoorFj00
import Derived.Test.YtahkcemdbfjilaaGreatDoorFj23
import Derived.Test.YtahkcemdbfjilaaGreatDoorFj22
set_option linter.all false
set_option maxRecDepth 100000
set_option maxHeartbeats 32000000
namespace Go.Proofs.YtahkcemdbfjilaaGreatDoor.Glob
open Go.RowKit
structure RF where
 a:Int
 b:Int
 c:Bool
 A:Option Addr
 n:Nat
 k:Nat
def RF.cells (f:RF):List Value:=[.int .i64 f.a,.int .u8 f.b,.bool f.c,.slice f.A f.n f.k]
def cH (fs:List RF):List Value:=fs.flatMap RF.cells
def Oy (fs:List RF) (k:Nat) (f:RF) (h:fs[k]? = some f):(cH fs)[k*4]? = some (.int .i64 f.a)/\(cH fs)[k*4+1]? = some (.int .u8 f.b)/\(cH fs)[k*4+2]? = some (.bool f.c)/\(cH fs)[k*4+3]? = some (.slice f.A f.n f.k):=by
 induction fs generalizing k with
 | nil=>simp at h
 | cons r rs ih =>
  have e:cH (r :: rs)=r.cells++cH rs:=by simp [cH]
  rw [e]
  cases k with
  | zero=>simp at h;subst h;simp [RF.cells]
  | succ k =>
   have:=ih k (by simpa using h);rw [show (k+1)*4=k*4+4 by omega,show k*4+4+1=(k*4+1)+4 by omega,show k*4+4+2=(k*4+2)+4 by omega,show k*4+4+3=(k*4+3)+4 by omega];simpa [RF.cells] using this
def iL (B:Nat) (w:World) (v:Value) (els:List El):Prop :=
 ∃fs:List RF,w.ownsRow B 218 4 v els.length (cH fs)/\fs.length=els.length/\∀(k:Nat) f el,fs[k]? = some f->els[k]? = some el->oZ w el f.a f.b f.c f.A f.n f.k
def oZ.map {w w':World} {el:El} {a b:Int} {c:Bool} {A:Option Addr} {n k:Nat} (h:oZ w el a b c A n k) (hr:∀v rs,Rgs 0 w v rs->Rgs 0 w' v rs):oZ w' el a b c A n k:=by
 cases el with
 | all=>exact h
 | part=>exact h
 | one=>exact h
 | byt x=>exact h
 | set neg rs=>obtain ⟨h1,h2,h3,h4,h5⟩:=h;exact ⟨h1,h2,h3,h4,hr _ _ h5⟩
def oZ.stays {w w':World} {el:El} {a b:Int} {c:Bool} {A:Option Addr} {n k:Nat} (h:oZ w el a b c A n k) (hb:qW w w'):oZ w' el a b c A n k:=h.map fun _ _ hr=>hr.stays hb
def iL.nil (B:Nat) (w:World):iL B w (.slice none 0 0) []:=⟨[],World.ownsRow_nil _ _ _ _,rfl,fun k p h hp=>by simp at hp⟩
def iL.mono {B B':Nat} {w:World} {v:Value} {els:List El} (h:iL B w v els) (hb:B'<=B):iL B' w v els:=by
 obtain ⟨ps,ho,h2⟩:=h;refine ⟨ps,⟨ho.1,?_⟩,h2⟩;rcases ho.2 with h1 | ⟨g,c,cur,h1,h2,h3⟩
 . exact .inl h1
 exact .inr ⟨g,c,cur,h1,by omega,h3⟩
def iL.form {B:Nat} {w:World} {v:Value} {els:List El} (h:iL B w v els):∃A c,v=.slice A els.length c:=by
 obtain ⟨ps,ho,_⟩:=h;rcases ho.2 with ⟨h1,h2⟩ | ⟨g,c,cur,h1,_⟩
 . exact ⟨none,0,by rw [h1,h2]⟩
 exact ⟨some ⟨g,0,none⟩,c,h1⟩
def iL.stays {B:Nat} {w w':World} {v:Value} {els:List El} (h:iL B w v els) (hb:qW w w'):iL B w' v els:=by
 obtain ⟨ps,ho,hl,hf⟩:=h;refine ⟨ps,⟨ho.1,?_⟩,hl,fun k p x hp hx=>(hf k p x hp hx).stays hb⟩;rcases ho.2 with h1 | ⟨g,c,cur,h1,hB,h3,h4⟩
 . exact .inl h1
 exact .inr ⟨g,c,cur,h1,hB,(hb.block g (Array.getElem?_eq_some_iff.1 h3).1).trans h3,h4⟩
def iL.other {B:Nat} {w w':World} {v:Value} {els:List El} (h:iL B w v els) (hk:∀g t cs,t≠175->Has w g t cs->Has w' g t cs):iL B w' v els:=by
 obtain ⟨ps,ho,hl,hf⟩:=h;refine ⟨ps,⟨ho.1,?_⟩,hl,fun k p x hp hx=>(hf k p x hp hx).map fun v rs hr=>⟨hr.1,?_⟩⟩
 . rcases ho.2 with h1 | ⟨g,c,cur,h1,hB,h3,h4⟩
   . exact .inl h1
   exact .inr ⟨g,c,cur,h1,hB,hk g 218 cur (by decide) h3,h4⟩
 rcases hr.2 with h1 | ⟨g,c,cur,h1,hB,h3,h4⟩
 . exact .inl h1
 exact .inr ⟨g,c,cur,h1,hB,hk g 283 cur (by decide) h3,h4⟩
def Vu {w:World} {g:Nat} {t:TypeId} {cs:Array Value} (hg:Has w g t cs) (i:Nat) (u:Value):∀g' t' cs',t'≠t->Has w g' t' cs'->Has (w.setCell ⟨g,i,none⟩ u) g' t' cs':=fun g' t' cs' ht h =>
 h.other (p:=⟨g,i,none⟩) (fun e=>by
  subst e;have:=Option.some.inj (h.symm.trans hg);simp only [Obj.cells.injEq] at this;exact ht this.2.1) u
def Vy {w:World} {g:Nat} {t:TypeId} {cs:Array Value} (hg:Has w g t cs) (cs0:Array Value):∀g' t' cs',t'≠t->Has w g' t' cs'->Has (w.setRow g cs0) g' t' cs':=fun g' t' cs' ht h =>
 h.rowOther (fun e=>by
  subst e;have:=Option.some.inj (h.symm.trans hg);simp only [Obj.cells.injEq] at this;exact ht this.2.1)
def ia:(Tryz.prog.info? 218).map (fun i=>(i.zero,i.size,i.bytes))=some (some (.agg #[.int .i64 0,.int .u8 0,.bool false,.slice none 0 0]),4,40):=by kernel_rfl
def Rs (w:World) (B:Nat) (v:Value) (els:List El) (h:iL B w v els) (el:El) (f:RF) (hf:oZ w el f.a f.b f.c f.A f.n f.k) (a:Addr) (h0:∀j u,f.cells[j]? = some u->w.cell? (a.add j)=some u) (hn:els.length<=1000) (hB:B<=w.heap.size) (ty:TypeId) :
 ∃v' w',(Builtin.append_ #[173,173] ty #[v,.slice (some a) 1 1]).run Tryz.prog w=.ok v' w'/\iL B w' v' (els++[el])/\(∀a0 B0,B0<=B->Below B0 a0 w->Below B0 a0 w')/\∀g t cs,t≠218->Has w g t cs->Has w' g t cs:=by
 obtain ⟨ps,ho,hl,hfs⟩:=h;obtain ⟨i0,hi,o7,g8,j5⟩:=info_parts ia;obtain ⟨v',w',hr,ny,hg,_,_⟩:=run_append_own_at (P:=Tryz.prog) w B 173 ty 218 i0 (.agg #[.int .i64 0,.int .u8 0,.bool false,.slice none 0 0]) 4 40 Tryz.underlying173 hi o7 g8 j5 rfl (by omega) v els.length (cH ps) ho a 1 1 f.cells rfl h0 (fun y hy=>by
  simp only [RF.cells,List.mem_cons,List.not_mem_nil,or_false] at hy;rcases hy with rfl | rfl | rfl | rfl<;>rfl) (by unfold maxLen;omega) (by omega) hB
 have hk:∀g t cs,t≠218->Has w g t cs->Has w' g t cs:=fun g t cs ht hh=>Has.grown ho hg hh ht
 have ri:∀v rs,Rgs 0 w v rs->Rgs 0 w' v rs:=fun v rs hr=>⟨hr.1,by
  rcases hr.2 with h1 | ⟨g,c,cur,h1,hB,h3,h4⟩
  . exact .inl h1
  exact .inr ⟨g,c,cur,h1,hB,hk g 283 cur (by decide) h3,h4⟩⟩
 refine ⟨v',w',hr,⟨ps++[f],?_,by simp [hl],fun k p y hp hy=>?_⟩,fun a0 B0 hb ha=>Below.grown ha hg (by omega) (fun k hk=>by have:=pJ ho k hk;omega),hk⟩
 . have:cH (ps++[f])=cH ps++f.cells:=by simp [cH]
   rw [this,List.length_append];exact ny
 by_cases hk:k < ps.length
 . rw [List.getElem?_append_left hk] at hp
   rw [List.getElem?_append_left (by omega)] at hy;exact (hfs k p y hp hy).map ri
 have Q9:k=ps.length:=by have:=(List.getElem?_eq_some_iff.1 hp).1;simp at this;omega
 subst Q9;simp at hp;rw [hl] at hy;simp at hy;subst hp;subst hy;exact hf.map ri
def Sy:(Tryz.prog.info? 175).map (·.size)=some 5:=by kernel_rfl
abbrev jU:Array Value:=#[.bool false,.bool false,.bool false,.bool false,.slice none 0 0]
abbrev lr (n f d r:Bool) (A:Option Addr) (l c:Nat):Array Value:=#[.bool n,.bool f,.bool d,.bool r,.slice A l c]
def kh (n f d r:Bool) (A:Option Addr) (l c:Nat):(#[.bool n,.bool f,.bool d,.bool r,.slice A l c]:Array Value).all (·.oneCell')=true:=by simp [Value.oneCell']
def jA {w:World} {g:Nat} {a b c d e:Value} (k:Has w g 175 #[a,b,c,d,e]):(loadVar 175 ⟨g,0,none⟩).run Tryz.prog w=.ok (.agg #[a,b,c,d,e]) w :=
 run_loadVar_row (P:=Tryz.prog) w g 175 175 #[a,b,c,d,e] (0,0) _ k Tryz.underlying175 rfl Sy
def gP {fn:Func} {p t:Tmp} {ty:TypeId} (h:fn.results=#[.cell p ty,.tmp t]) (tmps:Array Value) (P:Program) (w:World) (g:Nat) (cs:Array Value) (b:Value)
 (hl:(loadVar ty ⟨g,0,none⟩).run P w=.ok (.agg cs) w) (hp:tmps.getD p undef=.pointer (some ⟨g,0,none⟩)) (hb:tmps.getD t undef=b) :
 (results fn tmps).run P w=.ok (.tuple #[.agg cs,b]) w:=by
 subst hb;simp only [Array.getD_eq_getD_getElem?] at hp ⊢;simp [results,h,hp,asAddr,hl]
def ed (w:World) (p:Pt) (n f d r:Bool) (A:Option Addr) (l c:Nat):Prop :=
 n=(p.m &&& 1 != 0)/\f=(p.m &&& 2 != 0)/\d=(p.m &&& 4 != 0)/\r=p.rooted/\l=p.els.length/\iL 0 w (.slice A l c) p.els
def vU (s:By) (e:Ending) (w':World):Prop :=
 ∃n f d r A l c,e=.returned (.tuple #[.agg (lr n f d r A l c),.int .i64 (perr s)])/\∀p,perr s=0->parseL s=some p->ed w' p n f d r A l c
def dx:∀m:Fin 8,((m.val ||| 1) &&& 1 != 0)=true/\((m.val ||| 1) &&& 2 != 0)=(m.val &&& 2 != 0)/\((m.val ||| 1) &&& 4 != 0)=(m.val &&& 4 != 0)
 /\ ((m.val ||| 2) &&& 1 != 0)=(m.val &&& 1 != 0)/\((m.val ||| 2) &&& 2 != 0)=true/\((m.val ||| 2) &&& 4 != 0)=(m.val &&& 4 != 0)
 /\ ((m.val ||| 4) &&& 1 != 0)=(m.val &&& 1 != 0)/\((m.val ||| 4) &&& 2 != 0)=(m.val &&& 2 != 0)/\((m.val ||| 4) &&& 4 != 0)=true:=by decide +kernel
def Gu (s:By) (w:World) (hl:128 < s.length):qC 97 #[.string (ba s)] w fun e w'=>vU s e w'/\qW w w':=by
 have z:=aD s;have HP:Hid (perr s=3):=by show _=_;unfold perr;rw [if_pos hl]
 have hi:(128:Int) < (s.length:Int):=by omega
 have HR:=hid (Has.fresh w 175 jU);have k0:=HR.o.at_ 0;have k1:=HR.o.at_ 1;have k2:=HR.o.at_ 2;have k3:=HR.o.at_ 3;have k4:=HR.o.at_ 4;clear hl;go_enter Tryz.func97,Tryz.ntmps97
 go_wp2;refine bodyPost_ret (gP rfl _ _ _ w.heap.size _ _ (jA HR.o) rfl rfl) rfl ⟨⟨false,false,false,false,none,0,0,by rw [HP.o];rfl,fun p h0=>by rw [HP.o] at h0;cases h0⟩,qB.alloc qN _⟩
def bY (g j:Nat):(⟨g,0,none⟩:Addr).add j=⟨g,j,none⟩:=by unfold Addr.add;split<;>simp_all
def Cb (s:By) (w:World) (hl:¬128 < s.length):qC 97 #[.string (ba s)] w fun e w'=>vU s e w'/\qW w w':=by
 have z:=aD s;have hi:¬((128:Int) < (s.length:Int)):=by omega
 have DA:Hid (perr s=match parseL s with | none=>4 | some _=>0):=by show _=_;unfold perr;rw [if_neg hl];rfl
 go_enter Tryz.func97,Tryz.ntmps97
 go_wp2;obtain ⟨W2,r7⟩:=qY ((w.alloc (.cells #[.bool false,.bool false,.bool false,.bool false,.slice none 0 0] 175)).alloc (.cells #[.bool false,.bool false,.bool false,.bool false,.slice none 0 0] 175));rw [r7];have J0:Hid (Has W2 w.heap.size 175 jU):=r7▸(Has.fresh w 175 jU).more _;have HP2:Hid (Has W2 (w.heap.size+1) 175 jU):=r7▸Has.fresh' _ 175 jU (by simp);have i9:Hid (qW w W2):=r7▸((Below.refl w.heap.size w).alloc qN _).alloc (by simp) _;clear r7;go_loopw [0,5] (fun s0 _ wr=>∃(t:By) (m:Nat),s0=.string (ba t)/\t.length<=128/\m < 8/\Hid (marks 0 s=marks m t)/\Hid (Has wr w.heap.size 175 jU)/\Hid (Has wr (w.heap.size+1) 175 #[.bool (m &&& 1 != 0),.bool (m &&& 2 != 0),.bool (m &&& 4 != 0),.bool false,.slice none 0 0])/\Hid (qW w wr))
  (fun s0 _ _=>match s0 with | .string x=>x.size | _=>0)
 case atStart=>exact ⟨s,0,rfl,by omega,by omega,rfl,J0,HP2,i9⟩
 obtain ⟨t,m,rfl,htl,hm,HT,HR,HX,HB⟩:=hrel;clear J0 HP2 i9 hi hl z;have z:=aD t;have c1:∀W,qC 148 #[.string (ba t),.string ⟨#[33]⟩] W fun e w'=>e=.returned (.bool (pre [33] t))/\W=w':=fun W=>cX t [33] W
 have c2:∀W,qC 148 #[.string (ba t),.string ⟨#[40,63,105,41]⟩] W fun e w'=>e=.returned (.bool (pre [40,63,105,41] t))/\W=w':=fun W=>cX t [40,63,105,41] W
 have c3:∀W,qC 148 #[.string (ba t),.string ⟨#[40,63,100,41]⟩] W fun e w'=>e=.returned (.bool (pre [40,63,100,41] t))/\W=w':=fun W=>cX t [40,63,100,41] W
 have HC:Hid (cutM t=if pre [33] t then (1,t.drop 1) else if pre [40,63,105,41] t then (2,t.drop 4) else if pre [40,63,100,41] t then (4,t.drop 4) else (0,t)):=rfl;have l1:=bU (p:=[33]) (s:=t);have l2:=bU (p:=[40,63,105,41]) (s:=t);have l3:=bU (p:=[40,63,100,41]) (s:=t);have HE:Hid (marks 0 s=if (cutM t).1=0 then some (m,t) else if m &&& (cutM t).1≠0 then none else marks (m ||| (cutM t).1) (cutM t).2):=by show _=_;rw [HT.o,Bu]
 have zd:=aR t 1;have VI:=aR t 4;have d1:(t.drop 1).length<=t.length:=by simp
 have d4:(t.drop 4).length<=t.length:=by simp
 have e1:1<=t.length->(t.drop 1).length < t.length:=fun h=>by rw [List.length_drop];omega
 have e4:4<=t.length->(t.drop 4).length < t.length:=fun h=>by rw [List.length_drop];omega
 generalize t.drop 1=u1 at *;generalize t.drop 4=u4 at *;have k0:=HR.o.at_ 0;have k1:=HR.o.at_ 1;have k2:=HR.o.at_ 2;have k3:=HR.o.at_ 3;have k4:=HR.o.at_ 4;have f0:=HR.o.free 0;have f1:=HR.o.free 1;have f2:=HR.o.free 2;have f3:=HR.o.free 3;have f4:=HR.o.free 4;clear HT;generalize pre [33] t=b1 at c1 HC l1;generalize pre [40,63,105,41] t=b2 at c2 HC l2;generalize pre [40,63,100,41] t=b3 at c3 HC l3
 cases b1 with
 | true =>
  have d8:=l1 rfl;have f8:1<=t.length:=by simpa using d8
  have DH:(1:Int)<=(t.length:Int):=by omega
  have uw:=e1 f8;have ow:Hid (marks 0 s=if m &&& 1≠0 then none else marks (m ||| 1) u1):=by show _=_;rw [HE.o,HC.o];rfl
  have hk:=(Ia m 1 hm (by omega)).2;have MK:=hid (dx ⟨m,hm⟩);have x0:=HX.o.at_ 0;have y0:=HX.o.free 0;obtain ⟨tw,ta⟩:=qY ((m &&& 1 != 0));have x1:wr.cell? ⟨w.heap.size+1,0,none⟩=some (.bool tw):=by rw [x0,<-ta];rfl
  clear HE HC l1 l2 l3 x0
  cases tw with
  | true =>
   have HP:Hid (perr s=4):=by
    show _=_;rw [DA.o,lS (by rw [ow.o,if_pos (by simpa using ta)])]
   clear ow ta;go_wp2_with (fail)
   refine (c1 _).mono ?_;rintro e1 w1 ⟨rfl,rfl⟩;go_wp2_with (fail)
   refine (c1 _).mono ?_;rintro e1 w1 ⟨rfl,rfl⟩;go_wp2;have QA:Has (wr.setCell ⟨w.heap.size+1,0,none⟩ (.bool true)) w.heap.size 175 jU:=HR.o.other (by simp) _;have HF:=hid (((((QA.put 0 (.bool false)).put 1 (.bool false)).put 2 (.bool false)).put 3 (.bool false)).put 4 (.slice none 0 0));refine bodyPost_ret (gP rfl _ _ _ w.heap.size _ _ (jA HF.o) rfl rfl) rfl ⟨⟨false,false,false,false,none,0,0,by rw [HP.o];rfl,fun p h0=>by rw [HP.o] at h0;cases h0⟩,(((((HB.o.setCell (by simp) _).setCell qN _).setCell qN _).setCell qN _).setCell qN _).setCell qN _⟩
  | false =>
   have j7:Hid (marks 0 s=marks (m ||| 1) u1):=by show _=_;rw [ow.o,if_neg (by simpa using ta)]
   clear ow ta;go_wp2_with (fail)
   refine (c1 _).mono ?_;rintro e1 w1 ⟨rfl,rfl⟩;go_wp2_with (fail)
   refine (c1 _).mono ?_;rintro e1 w1 ⟨rfl,rfl⟩;go_wp2;refine ⟨⟨u1,m ||| 1,rfl,by omega,hk,j7.o,HR.o.other (by simp) _,?_,HB.o.setCell (by simp) _⟩,by simp [aD];exact uw⟩;have:=HX.o.put 0 (.bool true);obtain ⟨q1,q2,q3,q4,q5,q6,q7,q8,q9⟩:=MK.o;try simp only at q1 q2 q3 q4 q5 q6 q7 q8 q9
   rw [q1,q2,q3];exact this
 | false =>
  cases b2 with
  | true =>
   have d8:=l2 rfl;have f8:4<=t.length:=by simpa using d8
   have DH:(4:Int)<=(t.length:Int):=by omega
   have uw:=e4 f8;have ow:Hid (marks 0 s=if m &&& 2≠0 then none else marks (m ||| 2) u4):=by show _=_;rw [HE.o,HC.o];rfl
   have hk:=(Ia m 2 hm (by omega)).2;have MK:=hid (dx ⟨m,hm⟩);have x0:=HX.o.at_ 1;have y0:=HX.o.free 1;obtain ⟨tw,ta⟩:=qY ((m &&& 2 != 0));have x1:wr.cell? ⟨w.heap.size+1,1,none⟩=some (.bool tw):=by rw [x0,<-ta];rfl
   clear HE HC l1 l2 l3 x0
   cases tw with
   | true =>
    have HP:Hid (perr s=4):=by
     show _=_;rw [DA.o,lS (by rw [ow.o,if_pos (by simpa using ta)])]
    clear ow ta;go_wp2_with (fail)
    refine (c1 _).mono ?_;rintro e1 w1 ⟨rfl,rfl⟩;go_wp2_with (fail)
    refine (c2 _).mono ?_;rintro e1 w1 ⟨rfl,rfl⟩;go_wp2_with (fail)
    refine (c1 _).mono ?_;rintro e1 w1 ⟨rfl,rfl⟩;go_wp2_with (fail)
    refine (c2 _).mono ?_;rintro e1 w1 ⟨rfl,rfl⟩;go_wp2;have QA:Has (wr.setCell ⟨w.heap.size+1,1,none⟩ (.bool true)) w.heap.size 175 jU:=HR.o.other (by simp) _;have HF:=hid (((((QA.put 0 (.bool false)).put 1 (.bool false)).put 2 (.bool false)).put 3 (.bool false)).put 4 (.slice none 0 0));refine bodyPost_ret (gP rfl _ _ _ w.heap.size _ _ (jA HF.o) rfl rfl) rfl ⟨⟨false,false,false,false,none,0,0,by rw [HP.o];rfl,fun p h0=>by rw [HP.o] at h0;cases h0⟩,(((((HB.o.setCell (by simp) _).setCell qN _).setCell qN _).setCell qN _).setCell qN _).setCell qN _⟩
   | false =>
    have j7:Hid (marks 0 s=marks (m ||| 2) u4):=by show _=_;rw [ow.o,if_neg (by simpa using ta)]
    clear ow ta;go_wp2_with (fail)
    refine (c1 _).mono ?_;rintro e1 w1 ⟨rfl,rfl⟩;go_wp2_with (fail)
    refine (c2 _).mono ?_;rintro e1 w1 ⟨rfl,rfl⟩;go_wp2_with (fail)
    refine (c1 _).mono ?_;rintro e1 w1 ⟨rfl,rfl⟩;go_wp2_with (fail)
    refine (c2 _).mono ?_;rintro e1 w1 ⟨rfl,rfl⟩;go_wp2;refine ⟨⟨u4,m ||| 2,rfl,by omega,hk,j7.o,HR.o.other (by simp) _,?_,HB.o.setCell (by simp) _⟩,by simp [aD];exact uw⟩;have:=HX.o.put 1 (.bool true);obtain ⟨q1,q2,q3,q4,q5,q6,q7,q8,q9⟩:=MK.o;try simp only at q1 q2 q3 q4 q5 q6 q7 q8 q9
    rw [q4,q5,q6];exact this
  | false =>
   cases b3 with
   | true =>
    have d8:=l3 rfl;have f8:4<=t.length:=by simpa using d8
    have DH:(4:Int)<=(t.length:Int):=by omega
    have uw:=e4 f8;have ow:Hid (marks 0 s=if m &&& 4≠0 then none else marks (m ||| 4) u4):=by show _=_;rw [HE.o,HC.o];rfl
    have hk:=(Ia m 4 hm (by omega)).2;have MK:=hid (dx ⟨m,hm⟩);have x0:=HX.o.at_ 2;have y0:=HX.o.free 2;obtain ⟨tw,ta⟩:=qY ((m &&& 4 != 0));have x1:wr.cell? ⟨w.heap.size+1,2,none⟩=some (.bool tw):=by rw [x0,<-ta];rfl
    clear HE HC l1 l2 l3 x0
    cases tw with
    | true =>
     have HP:Hid (perr s=4):=by
      show _=_;rw [DA.o,lS (by rw [ow.o,if_pos (by simpa using ta)])]
     clear ow ta;go_wp2_with (fail)
     refine (c1 _).mono ?_;rintro e1 w1 ⟨rfl,rfl⟩;go_wp2_with (fail)
     refine (c2 _).mono ?_;rintro e1 w1 ⟨rfl,rfl⟩;go_wp2_with (fail)
     refine (c3 _).mono ?_;rintro e1 w1 ⟨rfl,rfl⟩;go_wp2_with (fail)
     refine (c1 _).mono ?_;rintro e1 w1 ⟨rfl,rfl⟩;go_wp2_with (fail)
     refine (c2 _).mono ?_;rintro e1 w1 ⟨rfl,rfl⟩;go_wp2;have QA:Has (wr.setCell ⟨w.heap.size+1,2,none⟩ (.bool true)) w.heap.size 175 jU:=HR.o.other (by simp) _;have HF:=hid (((((QA.put 0 (.bool false)).put 1 (.bool false)).put 2 (.bool false)).put 3 (.bool false)).put 4 (.slice none 0 0));refine bodyPost_ret (gP rfl _ _ _ w.heap.size _ _ (jA HF.o) rfl rfl) rfl ⟨⟨false,false,false,false,none,0,0,by rw [HP.o];rfl,fun p h0=>by rw [HP.o] at h0;cases h0⟩,(((((HB.o.setCell (by simp) _).setCell qN _).setCell qN _).setCell qN _).setCell qN _).setCell qN _⟩
    | false =>
     have j7:Hid (marks 0 s=marks (m ||| 4) u4):=by show _=_;rw [ow.o,if_neg (by simpa using ta)]
     clear ow ta;go_wp2_with (fail)
     refine (c1 _).mono ?_;rintro e1 w1 ⟨rfl,rfl⟩;go_wp2_with (fail)
     refine (c2 _).mono ?_;rintro e1 w1 ⟨rfl,rfl⟩;go_wp2_with (fail)
     refine (c3 _).mono ?_;rintro e1 w1 ⟨rfl,rfl⟩;go_wp2_with (fail)
     refine (c1 _).mono ?_;rintro e1 w1 ⟨rfl,rfl⟩;go_wp2_with (fail)
     refine (c2 _).mono ?_;rintro e1 w1 ⟨rfl,rfl⟩;go_wp2;refine ⟨⟨u4,m ||| 4,rfl,by omega,hk,j7.o,HR.o.other (by simp) _,?_,HB.o.setCell (by simp) _⟩,by simp [aD];exact uw⟩;have:=HX.o.put 2 (.bool true);obtain ⟨q1,q2,q3,q4,q5,q6,q7,q8,q9⟩:=MK.o;try simp only at q1 q2 q3 q4 q5 q6 q7 q8 q9
     rw [q7,q8,q9];exact this
   | false =>
    have HM:Hid (marks 0 s=some (m,t)):=by show _=_;rw [HE.o,HC.o];rfl
    clear HE HC l1 l2 l3 d1 d4 e1 e4 k0 k1 k2 k3 k4 f0 f1 f2 f3 f4 zd VI;go_wp2_with (fail)
    refine (c1 _).mono ?_;rintro e1 w1 ⟨rfl,rfl⟩;go_wp2_with (fail)
    refine (c2 _).mono ?_;rintro e1 w1 ⟨rfl,rfl⟩;go_wp2_with (fail)
    refine (c3 _).mono ?_;rintro e1 w1 ⟨rfl,rfl⟩;have BL:=hid (xK HM.o);obtain ⟨bs,rt⟩:=qY (pre [47] t);have c4:∀W,qC 148 #[.string (ba t),.string ⟨#[47]⟩] W fun e w'=>e=.returned (.bool bs)/\W=w':=fun W=>by have:=cX t [47] W;rw [rt] at this;exact this
    have HU:Hid (cA [47] t=if bs then t.drop 1 else t):=by show _=_;unfold cA;rw [rt];rfl
    have c8:bs=true->(1:Int)<=(t.length:Int):=fun h=>by have:=bU (rt.trans h);simp at this;omega
    have uw:(cA [47] t).length<=128:=by have:=pV [47] t;omega
    have zd:=aR t 1;rw [rt] at BL;clear HM rt htl;obtain ⟨u,hu⟩:=qY (cA [47] t);rw [hu] at BL HU uw;clear hu;go_upto_if 45 with (go_at_call 148;refine (c4 _).mono ?_;rintro e1 w1 ⟨rfl,rfl⟩)
    go_cut [0] (fun s0 w'=>s0=.string (ba u)/\Hid (Has w' w.heap.size 175 jU)/\Hid (Has w' (w.heap.size+1) 175 #[.bool (m &&& 1 != 0),.bool (m &&& 2 != 0),.bool (m &&& 4 != 0),.bool bs,.slice none 0 0])/\Hid (qW w w'))
    case first=>as_aux_lemma =>
     have x3:=HX.o.at_ 3;have y3:=HX.o.free 3
     cases bs with
     | false =>
      have ht:u=t:=HU.o;subst ht;clear BL c4 c8 zd;go_wp2;go_meet
      case rel=>exact ⟨rfl,HR,HX,HB⟩
     | true =>
      have ht:u=t.drop 1:=HU.o;rw [<-ht] at zd;have hb:=c8 rfl;clear BL c4 c8 ht HU;go_wp2;go_meet
      case rel=>exact ⟨rfl,HR.o.other (by simp) _,HX.o.put 3 _,HB.o.setCell (by simp) _⟩
    obtain ⟨rfl,K9,GX,B8⟩:=hcut;clear HU c8 zd z c1 c2 c3 c4 HR HX HB;have z:=aD u;by_cases QB:u.length=0
    .
     have hui:((u.length:Int) == 0)=true:=by simp [QB]
     have HP:Hid (perr s=4):=by
      show _=_;rw [DA.o,BL.o,vY,if_pos QB];rfl
     have k0:=K9.o.at_ 0;have k1:=K9.o.at_ 1;have k2:=K9.o.at_ 2;have k3:=K9.o.at_ 3;have k4:=K9.o.at_ 4;have f0:=K9.o.free 0;have f1:=K9.o.free 1;have f2:=K9.o.free 2;have f3:=K9.o.free 3;have f4:=K9.o.free 4;clear QB BL;go_wp2;have HF:=hid (((((K9.o.put 0 (.bool false)).put 1 (.bool false)).put 2 (.bool false)).put 3 (.bool false)).put 4 (.slice none 0 0));refine bodyPost_ret (gP rfl _ _ _ w.heap.size _ _ (jA HF.o) rfl rfl) rfl ⟨⟨false,false,false,false,none,0,0,by rw [HP.o];rfl,fun p h0=>by rw [HP.o] at h0;cases h0⟩,((((B8.o.setCell qN _).setCell qN _).setCell qN _).setCell qN _).setCell qN _⟩
    have hui:((u.length:Int) == 0)=false:=by simp;intro h;exact QB (by rw [h];rfl)
    have hu0':0 < u.length:=by omega
    clear QB;go_wp2;go_loopw [0,6,7,8] (fun s0 _ _ _ wr=>∃(v:By) (es:List El) (A:Option Addr) (cap:Nat),s0=.string (ba v)/\v.length<=128/\es.length+v.length<=128/\0 < es.length+v.length/\Hid (dH u []=dH v es)/\Hid (Has wr w.heap.size 175 jU)/\Hid (Has wr (w.heap.size+1) 175 #[.bool (m &&& 1 != 0),.bool (m &&& 2 != 0),.bool (m &&& 4 != 0),.bool bs,.slice A es.length cap])/\Hid (iL (w.heap.size+2) wr (.slice A es.length cap) es)/\Hid (qW w wr))
     (fun s0 _ _ _ _=>match s0 with | .string x=>x.size | _=>0)
    case atStart=>exact ⟨u,[],none,0,rfl,uw,by simp;exact uw,by simp;exact hu0',rfl,K9,GX,iL.nil _ _,B8⟩
    obtain ⟨v,es,A,cap,rfl,FL,hev,h0,HT,HR,HX,HS,HB⟩:=hrel;clear K9 GX B8 z uw;have z:=aD v;have HE:Hid (dH u []=if v.length=0 then (if es.length=0 then none else some es) else match elemL v with | none=>none | some (e,r)=>dH r (es++[e])):=by show _=_;rw [HT.o,vY];rfl
    clear HT;by_cases FX:v.length=0
    .
     have hvi:¬((0:Int) < (v.length:Int)):=by omega
     have G5:Hid (parseL s=some ⟨m,bs,es⟩):=by
      show _=_;rw [BL.o,HE.o,if_pos FX,if_neg (by omega)]
     have HP:Hid (perr s=0):=by show _=_;rw [DA.o,G5.o]
     clear FX HE h0 BL;obtain ⟨nn,TI⟩:=qY (es.length);obtain ⟨m1,IK⟩:=qY ((m &&& 1 != 0));obtain ⟨m2,tq⟩:=qY ((m &&& 2 != 0));obtain ⟨m4,AQ⟩:=qY ((m &&& 4 != 0));have HM:=hid (And.intro IK.symm (And.intro tq.symm (And.intro AQ.symm TI.symm)));rw [IK,tq,AQ,TI] at HX;rw [TI] at HS;clear IK tq AQ TI;go_wp2_with (first
      | (refine wpList_load_row rfl 175 _ rfl (w.heap.size+1) rfl 175 #[.bool m1,.bool m2,.bool m4,.bool bs,.slice A nn cap] (0,0) _ HX.o Tryz.underlying175 rfl Sy ?_)
      | (refine wpList_store_row rfl 175 (.tmp 2) (.tmp 72) rfl w.heap.size #[.bool m1,.bool m2,.bool m4,.bool bs,.slice A nn cap] rfl rfl 175 jU HR.o Sy rfl (kh _ _ _ _ _ _ _) ?_))
     have HF:=hid (Has.row (cs':=#[.bool m1,.bool m2,.bool m4,.bool bs,.slice A nn cap]) HR.o);refine bodyPost_ret (gP rfl _ _ _ w.heap.size _ _ (jA HF.o) rfl rfl) rfl ⟨⟨m1,m2,m4,bs,A,nn,cap,by rw [HP.o];rfl,fun p _ hp=>?_⟩,HB.o.rowG qN _⟩;rw [G5.o] at hp;obtain rfl:=Option.some.inj hp;exact ⟨HM.o.1,HM.o.2.1,HM.o.2.2.1,rfl,HM.o.2.2.2,(HS.o.mono (Nat.zero_le _)).other (Vy HR.o _)⟩
    have hvi:(0:Int) < (v.length:Int):=by omega
    have CE:=hid (Rt v wr (by omega) FL);have ow:Hid (dH u []=match elemL v with | none=>none | some (e,r)=>dH r (es++[e])):=HE.o.trans (if_neg FX);have d8:∀e r,elemL v=some (e,r)->r.length < v.length:=fun e r h=>kH (fun e0=>FX (by rw [e0];rfl)) h
    clear FX HE h0;go_wp2_with (fail)
    refine CE.o.mono ?_;rintro e2 w2 ⟨⟨a,b,c,A2,n2,MR,r,ok,rfl,TJ⟩,a9⟩;have J0:=hid (HR.o.stays a9);have ye:=hid (HX.o.stays a9);have C6:=hid (HS.o.stays a9);have i9:=hid (HB.o.thenG a9);obtain ⟨W3,C8⟩:=qY (w2.alloc (.cells #[.int .i64 a,.int .u8 b,.bool c,.slice A2 n2 MR] 218));have B3:qW w2 W3:=C8▸qB.alloc qN _;have K9:=hid (J0.o.stays B3);have GX:=hid (ye.o.stays B3);have B8:=hid (i9.o.thenG B3)
    cases ok with
    | false =>
     have hn:elemL v=none:=by
               rcases TJ with ⟨h,_⟩ | ⟨el,_,h,_⟩
               . exact h
               cases h
     have HP:Hid (perr s=4):=by
               show _=_;rw [DA.o,BL.o,ow.o,hn]
     have k0:=K9.o.at_ 0;have k1:=K9.o.at_ 1;have k2:=K9.o.at_ 2;have k3:=K9.o.at_ 3;have k4:=K9.o.at_ 4;have f0:=K9.o.free 0;have f1:=K9.o.free 1;have f2:=K9.o.free 2;have f3:=K9.o.free 3;have f4:=K9.o.free 4;clear TJ hn ow BL d8 B3 a9;go_wp2;have HF:=hid (((((K9.o.put 0 (.bool false)).put 1 (.bool false)).put 2 (.bool false)).put 3 (.bool false)).put 4 (.slice none 0 0));refine bodyPost_ret (gP rfl _ _ _ w.heap.size _ _ (jA HF.o) rfl rfl) rfl ⟨⟨false,false,false,false,none,0,0,by rw [HP.o];rfl,fun p h0=>by rw [HP.o] at h0;cases h0⟩,((((B8.o.setCell qN _).setCell qN _).setCell qN _).setCell qN _).setCell qN _⟩
    | true =>
     obtain ⟨el,tz,hrel⟩:∃el,elemL v=some (el,r)/\oZ w2 el a b c A2 n2 MR:=by
               rcases TJ with ⟨_,h⟩ | ⟨el,h1,_,h2⟩
               . cases h
               exact ⟨el,h1,h2⟩
     have un:=d8 el r tz;have j7:Hid (dH u []=dH r (es++[el])):=by show _=_;rw [ow.o,tz]
     have s3:W3.heap.size=w2.heap.size+1:=by rw [<-C8];simp
     have QC:Has W3 w2.heap.size 218 #[.int .i64 a,.int .u8 b,.bool c,.slice A2 n2 MR]:=C8▸Has.fresh _ _ _;obtain ⟨W4,GA⟩:=qY (W3.alloc (.cells #[.int .i64 a,.int .u8 b,.bool c,.slice A2 n2 MR] 218));have B4:qW W3 W4:=GA▸qB.alloc qN _;have hE4:Has W4 W3.heap.size 218 #[.int .i64 a,.int .u8 b,.bool c,.slice A2 n2 MR]:=GA▸Has.fresh _ _ _;have HR4:=K9.o.stays B4;have XM:=GX.o.stays B4;have vu:=B8.o.thenG B4;obtain ⟨v7,w7,M8,hrl7,hbl7,ol⟩:=Rs W4 (w.heap.size+2) _ es ((C6.o.stays B3).stays B4) el ⟨a,b,c,A2,n2,MR⟩ ((hrel.stays B3).stays B4) ⟨W3.heap.size,0,none⟩ (fun j y hy=>by rw [bY,hE4.at_];simpa [RF.cells] using hy) (by omega) (by have:=XM.inside;omega) 173;rw [s3] at M8;have mx:=hid M8;have KH:=hid (ol _ _ _ (by decide) HR4);have wu:=hid (ol _ _ _ (by decide) XM);have DL:=hid (hbl7 w w.heap.size (by omega) vu);have GU:=hid hrl7;obtain ⟨A7,PZ,uv⟩:=GU.o.form;obtain ⟨n7,GV⟩:=qY ((es++[el]).length);rw [GV] at uv;subst uv;have e0:=QC.at_ 0;have e1:=QC.at_ 1;have e2:=QC.at_ 2;have e3:=QC.at_ 3;have x4:=GX.o.at_ 4;have k47:=wu.o.at_ 4;have f47:=wu.o.free 4;clear TJ tz hrel ow BL d8 B3 a9 QC hE4 HR4 XM vu B4 M8 hrl7 hbl7 ol;go_wp2_with (at_builtin;refine wpList_append_run rfl (.tmp 66) (.tmp 68) 173 173 rfl ⟨_,w7,mx.o,?_⟩)
     subst GV;refine ⟨⟨r,es++[el],A7,PZ,rfl,by omega,by rw [List.length_append,List.length_singleton];omega,by simp;omega,j7.o,KH.o.other (by simp) _,wu.o.put 4 _,GU.o.other (Vu wu.o 4 _),DL.o.setCell (by simp) _⟩,?_⟩;simp [aD];omega
def xD (s:By) (w:World):qC 97 #[.string (ba s)] w fun e w'=>vU s e w'/\qW w w':=by
 by_cases hl:128 < s.length
 . exact Gu s w hl
 exact Cb s w hl
open Go.RowKit Go.Maps
def oR {a b c:World} {r r':Option Nat} (h:a.grownBy b r) (k:b.grownBy c r') (hr:∀j,j < a.heap.size->some j=r'->some j=r):a.grownBy c r :=
 ⟨k.os.trans h.os,k.tape.trans h.tape,k.output.trans h.output,Nat.le_trans h.size k.size,fun j hj hn=>(k.block j (Nat.lt_of_lt_of_le hj h.size) (fun e=>hn (hr j hj e))).trans (h.block j hj hn)⟩
def below_grown {a b:World} {r:Option Nat} (h:qW a b):a.grownBy b r:=⟨h.os,h.tape,h.output,h.size,fun j hj _=>h.block j hj⟩
def wK {a b c:World} {r:Option Nat} (h:a.grownBy b r) (k:qW b c):a.grownBy c r:=oR h (below_grown (r:=r) k) (fun _ _ h=>h)
def Ar.grown {B:Nat} {w W:World} {v:Value} {l:List By} {r:Option Nat} (h:Ar B w v l) (hg:w.grownBy W r) (j3:∀k,v.ownBlock=some k->some k≠r):Ar B W v l :=
 kL h fun k hk=>hg.block k (aS h k hk).2 (j3 k hk)
def cY (b0:Nat) (w:World) (v:Value) (fs:Fl):Prop:=b0<=w.heap.size/\∃(A:Option Addr) (c bb off:Nat),v=.slice A fs.length c/\(0 < fs.length->A=some ⟨bb,off,none⟩/\bb < b0) /\
 ∀k (hk:k < fs.length),w.cell? ⟨bb,off+k*2,none⟩=some (.string (ba fs[k].1))/\w.cell? ⟨bb,off+k*2+1,none⟩=some (.string (ba fs[k].2))
def cY.is {b0:Nat} {w:World} {v:Value} {fs:Fl} (h:cY b0 w v fs):bO w v fs:=by
 obtain ⟨h0,A,c,bb,off,h1,h2,h3⟩:=h;exact ⟨A,c,bb,off,h1,fun k=>⟨(h2 k).1,Nat.lt_of_lt_of_le (h2 k).2 h0⟩,h3⟩
def cY.of_is {w:World} {v:Value} {fs:Fl} (h:bO w v fs):cY w.heap.size w v fs:=by
 obtain ⟨A,c,bb,off,h1,h2,h3⟩:=h;exact ⟨Nat.le_refl _,A,c,bb,off,h1,h2,h3⟩
def cY.of_blocks {b0:Nat} {w W:World} {v:Value} {fs:Fl} (h:cY b0 w v fs) (hs:w.heap.size<=W.heap.size) (hb:∀g,g < b0->W.heap[g]? = w.heap[g]?):cY b0 W v fs:=by
 obtain ⟨h0,A,c,bb,off,h1,h2,h3⟩:=h;refine ⟨Nat.le_trans h0 hs,A,c,bb,off,h1,h2,fun k hk=>?_⟩;have um:=(h2 (by omega)).2;have e:=hb bb um;have hc:∀o,W.cell? ⟨bb,o,none⟩=w.cell? ⟨bb,o,none⟩:=fun o=>by simp only [World.cell?,e]
 exact ⟨(hc _).trans (h3 k hk).1,(hc _).trans (h3 k hk).2⟩
def cY.stays {b0:Nat} {w W:World} {v:Value} {fs:Fl} (h:cY b0 w v fs) (hb:qW w W):cY b0 W v fs :=
 h.of_blocks hb.size fun g hg=>hb.block g (Nat.lt_of_lt_of_le hg h.1)
def cY.grown {w W:World} {v lv:Value} {fs:Fl} {b0:Nat} {ps:List By} (h:cY b0 w v fs) (hl:Ar b0 w lv ps) (hg:w.grownBy W lv.ownBlock):cY b0 W v fs :=
 h.of_blocks hg.size fun g hk=>hg.block g (Nat.lt_of_lt_of_le hk h.1) (fun e=>by have:=(aS hl g e.symm).1;omega)
def Xp {B:Nat} {w:World} {v:Value} {l:List By} (h:Ar B w v l) (hn:l.length<=1000) (ty:TypeId) :
 ∃v' w',(Builtin.append_ #[34,34] ty #[.slice none 0 0,v]).run Tryz.prog w=.ok v' w'/\Ar w.heap.size w' v' l/\qW w w':=by
 obtain ⟨i0,hi,o7,g8,j5⟩:=info_parts jC;rcases h.2 with ⟨rfl,h0⟩ | ⟨g,c,cur,rfl,hB,h3,h4⟩
 . obtain rfl:=List.eq_nil_of_length_eq_zero h0
   exact ⟨_,w,run_append_owned_none (P:=Tryz.prog) w w.heap.size 34 ty 9 i0 1 Tryz.underlying34 hi (.slice none 0 0) 0 [] (World.ownsRow_nil _ _ _ _),World.ownsRow_nil _ _ _ _,Below.refl _ _⟩
 obtain ⟨v',w',hr,h1,_,h5,_⟩:=xF (w:=w) (B:=w.heap.size) (t:=34) (ty:=ty) Tryz.underlying34 hi o7 g8 j5 rfl (by omega) (World.ownsRow_nil w w.heap.size 9 1) (a:=⟨g,0,none⟩) (m:=l.length) (c:=c) (news:=l.map sD) (by simp) (fun j u hj=>h.cells (g:=g) rfl j u hj) (fun u hu=>by obtain ⟨x,_,rfl⟩:=List.mem_map.1 hu;rfl) (by omega) (by omega) qN;rw [Nat.zero_add,List.nil_append] at h1;exact ⟨v',w',hr,h1,⟨h5.os,h5.tape,h5.output,h5.size,fun j hj=>h5.block j hj (fun e=>nomatch e)⟩⟩
def jH (n:Nat):∀l:By,l.length<=n->(rowsN l).length<=l.length+1:=by
 induction n with
 | zero=>intro l h;obtain rfl:=List.length_eq_zero_iff.1 (Nat.le_zero.1 h);simp [rowsN]
 | succ n ih =>
  intro l h;rw [bB];have h1:=bE l;split
  . rename_i hc
    have:=h1.2.2 hc;have:=ih _ (show (cutN l).2.1.length<=n by omega);simp only [List.length_cons];omega
  simp
def cP (g:Except Int (List By)) (e:Ending) (Y:Value->List By->Prop):Prop :=
 match g with
 | .error c=>(∃A n k,e=.returned (.tuple #[.slice A n k,.int .i64 c]))/\c≠0
 | .ok qs=>∃r,e=.returned (.tuple #[r,.int .i64 0])/\Y r qs
def cP.err {g:Except Int (List By)} {c:Int} {A:Option Addr} {n k:Nat} (h:g=.error c) {e:Ending} {Y:Value->List By->Prop} (h1:e=.returned (.tuple #[.slice A n k,.int .i64 c])) (h2:c≠0):cP g e Y:=by subst h;exact ⟨⟨_,_,_,h1⟩,h2⟩
def cP.ok {g:Except Int (List By)} {qs:List By} {r:Value} (h:g=.ok qs) {e:Ending} {Y:Value->List By->Prop} (h1:e=.returned (.tuple #[r,.int .i64 0])) (h2:Y r qs):cP g e Y:=by subst h;exact ⟨_,h1,h2⟩
def cP.of_err {c:Int} {e:Ending} {Y:Value->List By->Prop} (h:cP (.error c) e Y):(∃A n k,e=.returned (.tuple #[.slice A n k,.int .i64 c]))/\c≠0:=h
def cP.of_ok {qs:List By} {e:Ending} {Y:Value->List By->Prop} (h:cP (.ok qs) e Y):∃r,e=.returned (.tuple #[r,.int .i64 0])/\Y r qs:=h
def xW (w:World) (lv r:Value):Prop:=r.ownBlock=lv.ownBlock∨∃j,r.ownBlock=some j/\w.heap.size<=j
def ReadR (fs:Fl) (k:Nat):Prop :=
 ∀(within:List By) (name:By) (ps:List By) (fv v lv:Value) (w:World) (b0:Nat),within.length+k=4->cY b0 w fv fs->Ar 0 w v within->Ar b0 w lv ps->ps.length<=64 ->
  qC 49 #[fv,.string (ba name),v,lv] w fun e W=>cP (readL fs k within name ps) e (fun r qs=>Ar b0 W r qs/\xW w lv r)/\w.grownBy W lv.ownBlock
def Rb {l:List By} {j:Nat} (hj:j < l.length):(l.drop j).filter (fun s=>!idle s)=(if idle l[j] then [] else [l[j]])++(l.drop (j+1)).filter (fun s=>!idle s):=by
 rw [List.drop_eq_getElem_cons hj,List.filter_cons]
 cases idle l[j]<;>simp
def wD (fs:Fl) (oz:fs.length<=1000) (py:∀i (hi:i < fs.length),fs[i].2.length<=100000) (k:Nat) (ih:∀k',k=k'+1->ReadR fs k'):ReadR fs k:=by
 intro within name ps fv v lv w b0 hk EY hv xq D7;have yt:=EY.is;have HF:=hid EY;have HV:=hid hv;have XQ:=hid xq;have H64:=hid D7;have HIH:=hid ih;have V4:=hid hk;have yz:=hid (sI fv fs name w yt oz);obtain ⟨goal,ER⟩:=qX (readL fs k within name ps);rw [ER.o];have KI:Hid (w.grownBy w lv.ownBlock):=below_grown qB;obtain ⟨Af,cf,LV⟩:=yt.form;obtain ⟨Av,cv,vz⟩:=aO hv;obtain ⟨Al,cl,p5⟩:=aO xq;obtain ⟨nf,GI⟩:=qY (fs.length);obtain ⟨nv,od⟩:=qY (within.length);obtain ⟨nl,ES⟩:=qY (ps.length);rw [GI] at LV;rw [od] at vz;rw [ES] at p5;subst LV vz p5;have AO:=hid od;have zn:(ba name).toList=name:=bH name;have hnvb:nv<=4:=by omega
 cases EZ:bQ fs name with
 | none =>
  have HE:Hid (goal=.error 5):=by show _=_;rw [<-ER.o];cases k<;>(unfold readL;rw [EZ])
  rw [EZ] at yz;unfold Eh at yz;simp only at yz;clear yt EY hv xq D7 ih hk GI od ES EZ;go_enter Tryz.func49,Tryz.ntmps49
  go_wp2_with (go_at_call 94;refine yz.o.mono ?_;rintro e1 w1 ⟨rfl,rfl⟩)
  go_ret2;exact ⟨cP.err HE.o rfl (by decide),KI.o⟩
 | some t =>
  rw [EZ] at yz;unfold Eh at yz;simp only at yz;have qy:Hid (t.length<=100000):=by show _<=_;obtain ⟨_,i,hi,rfl⟩:=nU EZ;exact py i hi
  have HER:Hid (name∈within->goal=.error 22):=fun hm=>by rw [<-ER.o];cases k<;>(unfold readL;rw [EZ];simp only;rw [if_pos hm])
  have TK:Hid (name∉within->k=0->goal=.error 3):=fun hm h0=>by rw [<-ER.o,h0];unfold readL;rw [EZ];simp only;rw [if_neg hm]
  have HEK:Hid (∀k',name∉within->k=k'+1->goal=stepL (readL fs k' (within++[name])) (((rowsN t).map trimB).filter fun s=>!idle s) ps):=fun k' hm h0=>by
   rw [<-ER.o,h0];conv=>lhs;unfold readL
   rw [EZ];simp only;rw [if_neg hm];rfl
  clear yt EY hv xq D7 ih hk GI od ES EZ;go_enter Tryz.func49,Tryz.ntmps49
  go_wp2_with (go_at_call 94;refine yz.o.mono ?_;rintro e1 w1 ⟨rfl,rfl⟩)
  go_loopw [12] (fun i wr=>∃j:Nat,i=.int .i64 (j:Int)/\j<=nv/\Hid (name∉within.take j)/\w=wr)
   (fun i _=>nv - (intOf i).toNat)
  case atStart=>exact ⟨0,rfl,Nat.zero_le _,by show name∉List.take 0 within;simp,rfl⟩
  obtain ⟨j,rfl,hj,EA,rfl⟩:=hrel;by_cases d8:j < nv
  .
   have j4:j < within.length:=by rw [AO.o];exact d8
   obtain ⟨g,cap,R8,hg,d9⟩:=HV.o.at_ (by omega);rw [AO.o] at R8;simp only [Value.slice.injEq,true_and] at R8;obtain ⟨rfl,rfl⟩:=R8;have c0:=d9 j j4;have XU:(j:Int) < (nv:Int):=by omega
   have zx:(ba within[j]).toList=within[j]:=bH _;by_cases hx:within[j]=name
   .
    have HE:Hid (goal=.error 22):=HER.o (hx▸List.getElem_mem j4);generalize within[j]=x at c0 zx hx;subst hx;clear d8 d9;go_wp2;go_ret2;exact ⟨cP.err HE.o rfl (by decide),KI.o⟩
   have HNO2:Hid (name∉within.take (j+1)):=by
    show name∉_
    rw [List.take_succ_eq_append_getElem j4,List.mem_append,not_or];exact ⟨EA.o,by simp;exact fun e=>hx e.symm⟩
   have hbf:(within[j] == name)=false:=by simpa using hx
   generalize within[j]=x at c0 zx hx hbf;clear d8 d9;go_wp2;exact ⟨⟨j+1,by go_num,by omega,HNO2.o,trivial⟩,by simp [intOf];omega⟩
  have XU:¬((j:Int) < (nv:Int)):=by omega
  have SK:Hid (name∉within):=by
   have:=EA.o;rw [List.take_of_length_le (by have:=AO.o;omega)] at this;exact this
  clear d8
  cases k with
  | zero =>
   have OU:(4:Int) < (nv:Int)+1:=by have:=AO.o;have:=V4.o;omega
   have HE:Hid (goal=.error 3):=TK.o SK.o rfl;go_wp2;go_ret2;exact ⟨cP.err HE.o rfl (by decide),KI.o⟩
  | succ k' =>
   have OU:¬((4:Int) < (nv:Int)+1):=by have:=AO.o;have:=V4.o;omega
   have HEG:=hid (HEK.o k' SK.o rfl);have oq:=hid (HIH.o k' rfl);obtain ⟨v1,w1,BU,LY,c8⟩:=Xp HV.o (by have:=V4.o;omega) 34;obtain ⟨Wb,Q8⟩:=qY (w1.alloc (.cells #[.string (ba name)] 9));have bb:qW w1 Wb:=Q8▸qB.alloc qN _;have G7:Has Wb w1.heap.size 9 #[.string (ba name)]:=Q8▸Has.fresh _ _ _;obtain ⟨v5,w5,i6,A8,_,r8,_⟩:=cM (own_below LY bb) G7 (by have:=V4.o;omega) (Nat.le_trans c8.size bb.size) 34;have z6:qW w w5:=bM r8 (c8.thenG bb) (fun j hj=>(aS LY j hj).1) (Nat.le_trans c8.size bb.size);have DD:=hid BU;have M7:=hid i6;have sw:=hid A8;have H8:=hid z6;have J7:=hid (Lk t w5 qy.o);obtain ⟨A1,c1,xu⟩:=aO LY;rw [AO.o] at xu;obtain ⟨A5,c5,I6⟩:=aO A8;rw [List.length_append,List.length_singleton,AO.o] at I6;subst xu I6;clear BU LY c8 bb G7 i6 A8 r8 z6;go_wp2_with (first
    | (at_builtin;refine wpList_append_run rfl (.tmp 48) (.tmp 49) 34 34 rfl ⟨_,w1,DD.o,?_⟩)
    | (at_builtin;refine wpList_append_run rfl (.tmp 51) (.tmp 53) 34 34 rfl ⟨_,w5,M7.o,?_⟩)
    | (go_at_call 95;refine J7.o.mono ?_;rintro e6 w6 ⟨⟨vl,rfl,FL⟩,S7⟩
       have QD:=hid FL;have sk:Hid (qW w w6):=H8.o.thenG S7;have HA6:Hid (Ar w.heap.size w6 (.slice A5 (nv+1) c5) (within++[name])):=own_below sw.o S7;have HS56:=hid H8.o.size;obtain ⟨A6,c6,XV⟩:=aO FL;clear FL S7;generalize XW:(rowsN t).map trimB=rows at QD HEG XV;have MS:Hid (∀s∈rows,s.length<=100000):=fun s hs=>by
        rw [<-XW] at hs;obtain ⟨p,hp,rfl⟩:=List.mem_map.1 hs;exact Nat.le_trans (As p) (Nat.le_trans (eJ _ t qN p hp) qy.o)
       obtain ⟨nr,NV⟩:=qY (rows.length);have hnrb:nr<=100001:=by
        have h1:=jH _ t qN;have h2:=qy.o;rw [<-NV,<-XW,List.length_map];omega
       have XX:=hid NV;rw [NV] at XV;subst XV;clear XW NV))
   go_loopw [3,15] (fun l i wr=>∃(j:Nat) (A:Option Addr) (m c:Nat) (qs:List By),i=.int .i64 (j:Int)/\l=.slice A m c/\j<=nr/\m<=64/\Hid (qs.length=m)/\Hid (goal=stepL (readL fs k' (within++[name])) ((rows.drop j).filter fun s=>!idle s) qs)/\Hid (Ar b0 wr (.slice A m c) qs)/\Hid (xW w (.slice Al nl cl) (.slice A m c))/\Hid (w.grownBy wr (Value.slice Al nl cl).ownBlock)/\Hid (Ar 0 wr (.slice A5 (nv+1) c5) (within++[name]))/\Hid (Ar 0 wr (.slice A6 nr c6) rows)/\Hid (∀k,(Value.slice A m c).ownBlock=some k->(Value.slice A5 (nv+1) c5).ownBlock≠some k/\(Value.slice A6 nr c6).ownBlock≠some k)/\Hid (cY b0 wr (.slice Af nf cf) fs))
    (fun _ i _=>nr - (intOf i).toNat)
   case atStart =>
    have f8:ps.length=nl:=by
     have:=aO XQ.o;obtain ⟨_,_,h⟩:=this;simp only [Value.slice.injEq] at h;exact h.2.1.symm
    refine ⟨0,Al,nl,cl,ps,rfl,rfl,Nat.zero_le _,by have:=H64.o;omega,f8,by show goal=_;rw [HEG.o];rfl,own_below XQ.o (sk.o),.inl rfl,below_grown sk.o,qO HA6.o (Nat.zero_le _),qO QD.o (Nat.zero_le _),fun k hk=>?_,HF.o.stays sk.o⟩;have h1:=(aS XQ.o k hk).2;exact ⟨fun e=>by have:=(aS HA6.o k e).1;omega,fun e=>by have:=(aS QD.o k e).1;have:=HS56.o;omega⟩
   obtain ⟨j2,A,m,c,qs,rfl,rfl,EB,hm64,xo,GR,KJ,KK,FA,ED,mx,GY,EQ⟩:=hrel;by_cases p8:j2 < nr
   .
    have tc:j2 < rows.length:=by rw [XX.o];exact p8
    have EX:(j2:Int) < (nr:Int):=by omega
    obtain ⟨g,cap,R8,hg,d9⟩:=mx.o.at_ (by omega);rw [XX.o] at R8;simp only [Value.slice.injEq,true_and] at R8;obtain ⟨rfl,rfl⟩:=R8;have c0:=d9 j2 tc;have xt:=Rb tc;have wn:Hid (rows[j2].length<=100000):=MS.o _ (List.getElem_mem tc);generalize rows[j2]=s at c0 xt wn;have i9:=hid (fun W=>uJ s [47,47] W)
    cases I8:idle s with
    | true =>
     have uh:Hid (goal=stepL (readL fs k' (within++[name])) ((rows.drop (j2+1)).filter fun s=>!idle s) qs):=by
      show _=_;rw [GR.o,xt,I8];rfl
     rcases idle_yes I8 with rfl | ⟨x,u',rfl,p4⟩
     . have zt:(ba ([]:By)).toList=[]:=bH _
       generalize ba ([]:By)=X at zt c0 i9;clear I8 xt p8 tc d9 hg;go_wp2;exact ⟨⟨j2+1,A,m,c,qs,by go_num,rfl,by omega,hm64,xo.o,uh.o,KJ.o,KK.o,FA.o,ED.o,mx.o,GY.o,EQ.o⟩,by simp [intOf];omega⟩
     rw [p4] at i9;have zt:(ba (x :: u')).toList=x :: u':=bH _;generalize ba (x :: u')=X at zt c0 i9;clear I8 xt p8 tc d9 hg p4;go_wp2_with (go_at_call 96;refine (i9.o _).mono ?_;rintro e7 w7 ⟨rfl,rfl⟩)
     exact ⟨⟨j2+1,A,m,c,qs,by go_num,rfl,by omega,hm64,xo.o,uh.o,KJ.o,KK.o,FA.o,ED.o,mx.o,GY.o,EQ.o⟩,by simp [intOf];omega⟩
    | false =>
     obtain ⟨x,u',hu,p4⟩:=Iq I8;rw [p4] at i9;have zt:(ba s).toList=x :: u':=by rw [bH,hu]
     have uh:Hid (goal=stepL (readL fs k' (within++[name])) (s :: (rows.drop (j2+1)).filter fun s=>!idle s) qs):=by
      show _=_;rw [GR.o,xt,I8];rfl
     have pz:=hid (fun W=>uJ s incM W);have zl:=aD s
     cases yo:pre incM s with
     | true =>
      rw [yo] at pz;have h9:(9:Int)<=(s.length:Int):=by have:=bU yo;simp [incM] at this;omega
      have zd:=aR s 9;have AK:=hid (oq.o (within++[name]) (s.drop 9) qs (.slice Af nf cf) (.slice A5 (nv+1) c5) (.slice A m c) wr b0 (by rw [List.length_append,List.length_singleton];have:=V4.o;omega) EQ.o ED.o KJ.o (by have:=xo.o;omega));have MT:Hid (goal=match readL fs k' (within++[name]) (s.drop 9) qs with | .error e=>.error e | .ok rs=>stepL (readL fs k' (within++[name])) ((rows.drop (j2+1)).filter fun s=>!idle s) rs):=by
               show _=_;rw [uh.o];conv=>lhs;unfold stepL
               rw [if_pos yo]
               cases readL fs k' (within++[name]) (s.drop 9) qs<;>rfl
      obtain ⟨r0,ui⟩:=qX (readL fs k' (within++[name]) (s.drop 9) qs);rw [ui.o] at AK MT;generalize s.drop 9=u at zd AK ui;generalize s.length=ns at h9 zd zl;generalize ba s=X at zt c0 i9 pz zd zl;clear I8 xt p8 tc d9 hg p4 hu yo;go_wp2_with (fail)
      refine (i9.o _).mono ?_;rintro e7 w7 ⟨rfl,rfl⟩;go_wp2_with (fail)
      refine (pz.o _).mono ?_;rintro e8 w8 ⟨rfl,rfl⟩;go_wp2_with (fail)
      refine AK.o.mono ?_;intro e9 w9 h9;obtain ⟨h9,KL⟩:=h9;have HG9:Hid (w.grownBy w9 (Value.slice Al nl cl).ownBlock):=oR FA.o KL (fun i hi e=>by
               rcases KK.o with h | ⟨j,h,hj⟩
               . exact e.trans h
               rw [h] at e;injection e with e;omega)
      have HAD9:Hid (Ar 0 w9 (.slice A5 (nv+1) c5) (within++[name])):=ED.o.grown KL (fun k hk e=>(GY.o k e.symm).1 hk);have HAR9:Hid (Ar 0 w9 (.slice (some ⟨g,0,none⟩) nr c6) rows):=mx.o.grown KL (fun k hk e=>(GY.o k e.symm).2 hk);have HFW9:Hid (cY b0 w9 (.slice Af nf cf) fs):=EQ.o.grown KJ.o KL;have hsz9:=KL.size
      cases r0 with
      | error ce =>
               obtain ⟨⟨Ae,ne,ke,rfl⟩,xk⟩:=h9.of_err;have MA:(ce == 0)=false:=by simp [xk]
               have T8:(ce != 0)=true:=by simp [xk]
               have qp:=hid xk;clear h9 KL xk hsz9;go_wp2;go_ret2;exact ⟨cP.err MT.o rfl qp.o,HG9.o⟩
      | ok rs =>
               obtain ⟨r,rfl,M8,GG⟩:=h9.of_ok;have HAR2:=hid M8;have HRS:Hid (rs.length<=64):=pL _ _ _ _ _ _ ui.o (by have:=xo.o;omega);have HDJ9:Hid (∀k,r.ownBlock=some k->(Value.slice A5 (nv+1) c5).ownBlock≠some k/\(Value.slice (some ⟨g,0,none⟩) nr c6).ownBlock≠some k):=fun k hk=>by
                rcases GG with h | ⟨j,h,hj⟩
                . exact GY.o k (h▸hk)
                . rw [h] at hk
                  injection hk with hk;exact ⟨fun e=>by have:=(aS ED.o k e).2;omega,fun e=>by have:=(aS mx.o k e).2;omega⟩
               have HFR9:Hid (xW w (.slice Al nl cl) r):=by
                rcases GG with h | ⟨j,h,hj⟩
                . rcases KK.o with h2 | ⟨j2,h2,EB⟩
                  . exact .inl (h.trans h2)
                  exact .inr ⟨j2,h.trans h2,EB⟩
                . exact .inr ⟨j,h,Nat.le_trans FA.o.size hj⟩
               obtain ⟨Ar2,cr2,td⟩:=aO M8;obtain ⟨m2,tq⟩:=qY (rs.length);rw [tq] at td;subst td;have xm:=hid tq;clear h9 KL M8 GG hsz9 tq;go_wp2;exact ⟨⟨j2+1,Ar2,m2,cr2,rs,by go_num,rfl,by omega,by have:=HRS.o;have:=xm.o;omega,xm.o,MT.o,HAR2.o,HFR9.o,HG9.o,HAD9.o,HAR9.o,HDJ9.o,HFW9.o⟩,by simp [intOf];omega⟩
     | false =>
      rw [yo] at pz;have MT:Hid (goal=if qs.length=64 then .error 3 else if perr s≠0 then .error (perr s) else stepL (readL fs k' (within++[name])) ((rows.drop (j2+1)).filter fun s=>!idle s) (qs++[s])):=by
               show _=_;rw [uh.o];conv=>lhs;unfold stepL
               rw [if_neg (by rw [yo];decide)]
      by_cases D7:m=64
      .
       have hmi:(m:Int)=64:=by omega
       have HE:Hid (goal=.error 3):=by show _=_;rw [MT.o,if_pos (by rw [xo.o];exact D7)]
       generalize ba s=X at zt c0 i9 pz zl;clear I8 xt p8 tc d9 hg p4 hu yo D7;go_wp2_with (fail)
       refine (i9.o _).mono ?_;rintro e7 w7 ⟨rfl,rfl⟩;go_wp2_with (fail)
       refine (pz.o _).mono ?_;rintro e8 w8 ⟨rfl,rfl⟩;go_wp2;go_ret2;exact ⟨cP.err HE.o rfl (by decide),FA.o⟩
      have hmi:¬((m:Int)=64):=by omega
      have HMM:Hid (m < 64):=by show _ < _;omega
      have mt:Hid (goal=if perr s≠0 then .error (perr s) else stepL (readL fs k' (within++[name])) ((rows.drop (j2+1)).filter fun s=>!idle s) (qs++[s])):=by
            show _=_;rw [MT.o,if_neg (by rw [xo.o];exact D7)]
      have vc:=hid (xD s wr);obtain ⟨X,hX⟩:=qY (ba s);have HX:=hid hX;rw [hX] at zt c0 i9 pz vc;clear I8 xt p8 tc d9 hg p4 hu yo D7 zl hX;go_wp2_with (fail)
      refine (i9.o _).mono ?_;rintro e7 w7 ⟨rfl,rfl⟩;go_wp2_with (fail)
      refine (pz.o _).mono ?_;rintro e8 w8 ⟨rfl,rfl⟩;go_wp2_with (fail)
      refine vc.o.mono ?_;rintro e9 w9 ⟨⟨pn,pf,pd,pr,pA,pl,pc,rfl,_⟩,x7⟩;obtain ⟨W9,hW9⟩:=qY (w9.alloc (.cells #[.bool pn,.bool pf,.bool pd,.bool pr,.slice pA pl pc] 175));have TL:qW wr W9:=x7.thenG (hW9▸qB.alloc qN _);obtain ⟨pe,DA⟩:=qX (perr s);have wj:=DA.o;rw [wj];rw [wj] at mt;by_cases V3:pe=0
      .
       have AV:Hid (goal=stepL (readL fs k' (within++[name])) ((rows.drop (j2+1)).filter fun s=>!idle s) (qs++[s])):=by show _=_;rw [mt.o,if_neg (by rw [V3];decide)]
       subst V3;obtain ⟨Wc,hWc⟩:=qY (W9.alloc (.cells #[.string X] 9));have yx:qW wr Wc:=TL.thenG (hWc▸qB.alloc qN _);have FJ:Has Wc W9.heap.size 9 #[.string (ba s)]:=by rw [HX.o];exact hWc▸Has.fresh _ _ _
       obtain ⟨v7,w7,FY,XY,_,yc,XZ⟩:=cM (own_below KJ.o yx) FJ (by have:=xo.o;omega) (Nat.le_trans EQ.o.1 yx.size) 34;have KH:=hid FY;have HA7:=hid XY;have YA:Hid (w.grownBy w7 (Value.slice Al nl cl).ownBlock):=oR (wK FA.o yx) yc (fun i hi e=>by
        rcases KK.o with h | ⟨j,h,hj⟩
        . exact e.trans h
        rw [h] at e;injection e with e;omega)
       have HAD7:Hid (Ar 0 w7 (.slice A5 (nv+1) c5) (within++[name])):=Ar.grown (own_below ED.o yx) yc (fun k hk e=>(GY.o k e.symm).1 hk);have HAR7:Hid (Ar 0 w7 (.slice (some ⟨g,0,none⟩) nr c6) rows):=Ar.grown (own_below mx.o yx) yc (fun k hk e=>(GY.o k e.symm).2 hk);have HFW7:Hid (cY b0 w7 (.slice Af nf cf) fs):=cY.grown (EQ.o.stays yx) (own_below KJ.o yx) yc;have HDJ7:Hid (∀k,v7.ownBlock=some k->(Value.slice A5 (nv+1) c5).ownBlock≠some k/\(Value.slice (some ⟨g,0,none⟩) nr c6).ownBlock≠some k):=fun k hk=>by
        rcases XZ with h | h
        . exact GY.o k (h▸hk)
        rw [h] at hk;injection hk with hk;have:=yx.size;exact ⟨fun e=>by have:=(aS ED.o k e).2;omega,fun e=>by have:=(aS mx.o k e).2;omega⟩
       have HFR7:Hid (xW w (.slice Al nl cl) v7):=by
        rcases XZ with h | h
        . rcases KK.o with h2 | ⟨j2,h2,EB⟩
          . exact .inl (h.trans h2)
          exact .inr ⟨j2,h.trans h2,EB⟩
        exact .inr ⟨_,h,Nat.le_trans FA.o.size yx.size⟩
       obtain ⟨A7,c7,uv⟩:=aO XY;rw [List.length_append,List.length_singleton,xo.o] at uv;subst uv;have HQ7:Hid ((qs++[s]).length=m+1):=by show _=_;rw [List.length_append,List.length_singleton,xo.o]
       clear x7 TL yx FJ FY XY yc XZ wj;go_wp2_with (at_builtin;refine wpList_append_run rfl (.tmp 102) (.tmp 104) 34 34 rfl ⟨_,w7,KH.o,?_⟩)
       exact ⟨⟨j2+1,A7,m+1,c7,qs++[s],by go_num,rfl,by omega,by have:=HMM.o;omega,HQ7.o,AV.o,HA7.o,HFR7.o,YA.o,HAD7.o,HAR7.o,HDJ7.o,HFW7.o⟩,by simp [intOf];omega⟩
      have HE:Hid (goal=.error pe):=by show _=_;rw [mt.o,if_pos V3]
      have MA:(pe == 0)=false:=by simp [V3]
      have T8:(pe != 0)=true:=by simp [V3]
      have NO:=hid V3;have SR:Hid (w.grownBy W9 (Value.slice Al nl cl).ownBlock):=wK FA.o TL;clear x7 TL wj V3;go_wp2;go_ret2;exact ⟨cP.err HE.o rfl NO.o,SR.o⟩
   have EX:¬((j2:Int) < (nr:Int)):=by omega
   have HE:Hid (goal=.ok qs):=by show _=_;rw [GR.o,List.drop_eq_nil_of_le (by have:=XX.o;omega)];rfl
   clear p8;go_wp2;go_ret2;exact ⟨cP.ok HE.o rfl ⟨KJ.o,KK.o⟩,FA.o⟩
def Ws (fs:Fl) (oz:fs.length<=1000) (py:∀i (hi:i < fs.length),fs[i].2.length<=100000):∀k,ReadR fs k:=by
 intro k;induction k with
 | zero=>exact wD fs oz py 0 (fun k' h=>by omega)
 | succ k ih=>exact wD fs oz py (k+1) (fun k' h=>by have e:k=k':=(by omega);exact e▸ih)
def nZ (fs:Fl) (name:By) (e:Ending) (W:World):Prop :=
 match readL fs 4 [] name [] with
 | .error c=>e=.returned (.tuple #[.slice none 0 0,.int .i64 c])/\c≠0
 | .ok qs=>∃r,e=.returned (.tuple #[r,.int .i64 0])/\Ar 0 W r qs
def Gp (fs:Fl) (name:By) (v:Value) (w:World) (hf:bO w v fs) (oz:fs.length<=1000) (py:∀i (hi:i < fs.length),fs[i].2.length<=100000) :
 qC 12 #[v,.string (ba name)] w fun e W=>nZ fs name e W/\qW w W:=by
 have HC:=hid (Ws fs oz py 4 [] name [] v (.slice none 0 0) (.slice none 0 0) w w.heap.size rfl (cY.of_is hf) (World.ownsRow_nil _ _ _ _) (World.ownsRow_nil _ _ _ _) (by simp));obtain ⟨g,HG⟩:=qX (readL fs 4 [] name []);rw [HG.o] at HC;obtain ⟨A,cp,hv⟩:=hf.form;obtain ⟨nf,GI⟩:=qY (fs.length);rw [GI] at hv;subst hv;clear hf oz py GI;go_enter Tryz.func12,Tryz.ntmps12
 go_wp2_with (fail)
 refine HC.o.mono ?_;intro e1 w1 h1;obtain ⟨h1,T9⟩:=h1;have HB:Hid (qW w w1):=⟨T9.os,T9.tape,T9.output,T9.size,fun j hj=>T9.block j hj (fun e=>nomatch e)⟩;clear T9
 cases g with
 | error c =>
  obtain ⟨⟨Ae,ne,ke,rfl⟩,hc⟩:=h1.of_err;have MA:(c == 0)=false:=by simp [hc]
  have T8:(c != 0)=true:=by simp [hc]
  have qp:=hid hc;clear h1 hc;go_wp2;go_ret2;refine ⟨?_,HB.o⟩;unfold nZ;rw [HG.o];exact ⟨rfl,qp.o⟩
 | ok qs =>
  obtain ⟨r,rfl,M8,_⟩:=h1.of_ok;have mx:=hid M8;obtain ⟨Ar2,cr2,td⟩:=aO M8;obtain ⟨m2,tq⟩:=qY (qs.length);rw [tq] at td;subst td;clear h1 M8 tq;go_wp2;go_ret2;refine ⟨?_,HB.o⟩;unfold nZ;rw [HG.o];exact ⟨_,rfl,qO mx.o (Nat.zero_le _)⟩
end Go.Proofs.YtahkcemdbfjilaaGreatDoor.Glob
